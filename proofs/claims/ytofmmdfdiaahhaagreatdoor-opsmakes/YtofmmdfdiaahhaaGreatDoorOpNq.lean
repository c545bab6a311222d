/- ops: a field's number by its name; a kind among others. -/
import Derived.Test.YtofmmdfdiaahhaaGreatDoorBxCq
import Derived.Test.YtofmmdfdiaahhaaGreatDoorWdXq
import Derived.Deep.Cut
import Derived.Deep.QuietTactic
import Derived.BigQuiet
namespace Go.Proofs.YtofmmdfdiaahhaaGreatDoor
open Go.RowKit
set_option linter.unusedVariables false

theorem ret_i {a b : Int} (h : a = b) : Ending.returned (.int .i64 a) = .returned (.int .i64 b) := by rw [h]
theorem ret_b {a b : Bool} (h : a = b) : Ending.returned (.bool a) = .returned (.bool b) := by rw [h]
theorem ret_ib {a b : Int} {c d : Bool} (h : a = b) (g : c = d) : Ending.returned (.tuple #[.int .i64 a, .bool c]) = .returned (.tuple #[.int .i64 b, .bool d]) := by rw [h, g]
/-- row of numbers in a block. -/
def inL (l : List Int) : List Value := l.map fun x => .int .i64 x
def idx (k : Int) : List Int → Int → Int
  | [], _ => -1
  | x :: l, i => if k = x then i else idx k l (i + 1)
theorem idx_drop (k : Int) {l : List Int} {j : Nat} {x : Int} (h : l[j]? = some x) : idx k (l.drop j) j = if k = x then (j : Int) else idx k (l.drop (j + 1)) ((j + 1 : Nat) : Int) := by
  have hj := (List.getElem?_eq_some_iff.1 h).1
  have hx := (List.getElem?_eq_some_iff.1 h).2
  rw [List.drop_eq_getElem_cons hj, idx, hx]
  push_cast
  rfl
theorem idx_nn (k : Int) : ∀ (l : List Int) (i : Int), 0 ≤ i → (0 ≤ idx k l i ↔ k ∈ l)
  | [], i, h => by simp [idx]
  | x :: l, i, h => by
    rw [idx]
    split
    · rename_i e; subst e; simp [h]
    · rename_i e; rw [idx_nn k l (i + 1) (by omega)]; simp [e]

set_option maxRecDepth 100000 in
set_option maxHeartbeats 4000000 in
theorem index_any (k : Int) (l : List Int) (b : Nat) (hl : l.length ≤ 100) (n : Nat) (hn : l.length = n) (w : World) (X : Hid (Bx w b (inL l))) :
    Calls Tryz.prog 94 #[.slice (some ⟨b, 0, none⟩) n n, .int .i64 k] w fun e w' => e = .returned (.int .i64 (idx k l 0)) ∧ w' = w := by
  obtain ⟨G, hG⟩ : ∃ G, idx k l 0 = G := ⟨_, rfl⟩
  have HG : Hid (idx k (l.drop 0) ((0 : Nat) : Int) = G) := hG
  rw [hG]
  clear hG
  rw [hn] at hl
  have hn' : Hid (l.length = n) := hn
  clear hn
  go_enter Tryz.func94, Tryz.ntmps94
  go_wp2_with fail
  go_loopw [8] (fun iv wr => ∃ j : Nat, iv = .int .i64 (j : Int) ∧ j ≤ n ∧ wr = w ∧ Hid (idx k (l.drop j) (j : Int) = G)) (fun iv _ => n - (intOf iv).toNat)
  case atStart => exact ⟨0, rfl, Nat.zero_le _, rfl, HG⟩
  case round =>
    obtain ⟨j, rfl, hj, hw, HJ⟩ := hrel
    obtain rfl := hw.symm
    clear hw
    by_cases hlt : j < n
    · have hlt' : (j : Int) < (n : Int) := by omega
      have j0 : (0 : Int) ≤ (j : Int) := by omega
      obtain ⟨x, hx⟩ : ∃ x, l[j]? = some x := ⟨_, List.getElem?_eq_getElem (by rw [hn'.out]; exact hlt)⟩
      have hc : w.cell? ⟨b, j, none⟩ = some (.int .i64 x) := X.out.c j (by simp [inL, hx])
      have hc2 : w.cell? ((⟨b, 0, none⟩ : Addr).add j) = some (.int .i64 x) := by
        unfold Addr.add
        split
        · rename_i h; subst h; exact hc
        · simpa using hc
      have HE : Hid ((if k = x then (j : Int) else idx k (l.drop (j + 1)) ((j + 1 : Nat) : Int)) = G) := by show _ = _; rw [← HJ.out, idx_drop k hx]
      clear HJ hx HG
      by_cases hkx : k = x
      · subst hkx
        have HE2 : Hid ((j : Int) = G) := by have := HE.out; rw [if_pos rfl] at this; exact this
        clear HE
        go_wp2_with fail
        go_ret
        exact ⟨ret_i HE2.out, rfl⟩
      · have HE2 := HE.out
        rw [if_neg hkx] at HE2
        have HE3 : Hid (idx k (l.drop (j + 1)) ((j + 1 : Nat) : Int) = G) := HE2
        have hkx' : (k == x) = false := by simpa using hkx
        clear HE HE2 hkx
        go_wp2_with fail
        go_roundw
        case rel => exact ⟨j + 1, by go_num, by omega, by simp, HE3⟩
        case measure => simp [intOf]; omega
    · have hlt' : ¬ (j : Int) < (n : Int) := by omega
      have HE : Hid (-1 = G) := by have := HJ.out; rw [List.drop_eq_nil_of_le (by rw [hn'.out]; omega), idx] at this; exact this
      clear HJ HG
      go_wp2_with fail
      go_ret
      exact ⟨ret_i HE.out, rfl⟩

set_option maxRecDepth 100000 in
set_option maxHeartbeats 4000000 in
theorem contains_any (k : Int) (l : List Int) (b : Nat) (hl : l.length ≤ 100) (n : Nat) (hn : l.length = n) (c : Bool) (hc : c = decide (k ∈ l)) (w : World) (X : Hid (Bx w b (inL l))) :
    Calls Tryz.prog 61 #[.slice (some ⟨b, 0, none⟩) n n, .int .i64 k] w fun e w' => e = .returned (.bool c) ∧ w' = w := by
  have R := index_any k l b hl n hn w X
  obtain ⟨G, hG⟩ : ∃ G, idx k l 0 = G := ⟨_, rfl⟩
  rw [hG] at R
  have HR : Hid (Calls Tryz.prog 94 #[.slice (some ⟨b, 0, none⟩) n n, .int .i64 k] w fun e w' => e = .returned (.int .i64 G) ∧ w' = w) := R
  have e : decide (0 ≤ G) = c := by rw [hc, ← hG]; rw [decide_eq_decide]; exact idx_nn k l 0 (by decide)
  have E : Hid (decide (0 ≤ G) = c) := e
  clear R e hG hc X hn
  go_enter Tryz.func61, Tryz.ntmps61
  go_wp2_with fail
  refine HR.out.mono ?_
  rintro e W ⟨rfl, hw⟩
  rw [hw]
  clear hw W
  go_wp2_with fail
  go_ret
  exact ⟨ret_b E.out, rfl⟩

set_option maxRecDepth 100000 in
set_option maxHeartbeats 4000000 in
theorem isOf_any (k : Int) (l : List Int) (b : Nat) (hl : l.length ≤ 100) (n : Nat) (hn : l.length = n) (c : Bool) (hc : c = decide (k ∈ l)) (w : World) (X : Hid (Bx w b (inL l))) :
    Calls Tryz.prog 38 #[.int .i64 k, .slice (some ⟨b, 0, none⟩) n n] w fun e w' => e = .returned (.bool c) ∧ w' = w := by
  have R := contains_any k l b hl n hn c hc w X
  have HR : Hid (Calls Tryz.prog 61 #[.slice (some ⟨b, 0, none⟩) n n, .int .i64 k] w fun e w' => e = .returned (.bool c) ∧ w' = w) := R
  clear R hc X hn
  go_enter Tryz.func38, Tryz.ntmps38
  go_wp2_with fail
  refine HR.out.mono ?_
  rintro e W ⟨rfl, hw⟩
  rw [hw]
  clear hw W
  go_wp2_with fail
  go_ret
  exact ⟨rfl, rfl⟩

/-- the fields' names. -/
def fieldsL : List ByteArray := [⟨#[109, 105, 99, 114, 111, 115, 101, 99, 111, 110, 100, 115]⟩, ⟨#[109, 105, 108, 108, 105, 115, 101, 99, 111, 110, 100, 115]⟩, ⟨#[115, 101, 99, 111, 110, 100]⟩, ⟨#[109, 105, 110, 117, 116, 101]⟩, ⟨#[104, 111, 117, 114]⟩, ⟨#[100, 97, 121]⟩, ⟨#[119, 101, 101, 107]⟩, ⟨#[109, 111, 110, 116, 104]⟩, ⟨#[113, 117, 97, 114, 116, 101, 114]⟩, ⟨#[121, 101, 97, 114]⟩, ⟨#[100, 101, 99, 97, 100, 101]⟩, ⟨#[99, 101, 110, 116, 117, 114, 121]⟩, ⟨#[109, 105, 108, 108, 101, 110, 110, 105, 117, 109]⟩, ⟨#[100, 111, 119]⟩, ⟨#[105, 115, 111, 100, 111, 119]⟩, ⟨#[100, 111, 121]⟩, ⟨#[105, 115, 111, 121, 101, 97, 114]⟩, ⟨#[101, 112, 111, 99, 104]⟩, ⟨#[116, 105, 109, 101, 122, 111, 110, 101]⟩]
theorem fields_small (n : Nat) : ∀ (j : Nat) (t : ByteArray), (fieldsL.take n)[j]? = some t → t.size ≤ maxLen := by
  intro j t h
  have : ∀ t ∈ fieldsL, t.size ≤ 20 := by decide
  have := this t (List.mem_of_mem_take (List.mem_of_getElem? h))
  unfold maxLen; omega
theorem fields_at (w : World) (n : Nat) (t : TypeId) : Wrd.TxtA (w.alloc (.cells (fieldsL.map Value.string).toArray t)) ⟨w.heap.size, 0, none⟩ (fieldsL.take n) := by
  refine ⟨trivial, fun j x hx => ?_⟩
  have hj : fieldsL[j]? = some x := by
    have h1 := (List.getElem?_eq_some_iff.1 hx).1
    rw [List.length_take] at h1
    rw [List.getElem?_take_of_lt (by omega)] at hx
    exact hx
  have := (Bx.new w (fieldsL.map Value.string) t).c j (v := .string x) (by simp [hj])
  unfold Addr.add
  split
  · rename_i h; subst h; exact this
  · simpa using this
/-- a field's number: -1: there is none. -/
def fldN (s : ByteArray) (n : Nat) : Int := Wrd.knownB s (fieldsL.take n)

set_option maxRecDepth 100000 in
set_option maxHeartbeats 4000000 in
theorem named_13 (s : ByteArray) (hs : s.size ≤ maxLen) (k : Int) (hk : fldN s 13 = k) (f : Int) (b : Bool) (hf : f = max k 0) (hb : b = decide (0 ≤ k)) (w : World) :
    Calls Tryz.prog 24 #[.string s, .int .i64 12] w fun e w' => e = .returned (.tuple #[.int .i64 f, .bool b]) ∧ Below w.heap.size w w' := by
  have HC : Hid (∀ (a : Addr) (w : World), Wrd.TxtA w a (fieldsL.take 13) → Calls Tryz.prog 46 #[.string s, .slice (some a) 13 13] w fun e w' => e = .returned (.int .i64 k) ∧ Below w.heap.size w w') := fun a w h => by
    have R := Wrd.knownA_any s (fieldsL.take 13) a 13 w hs (fields_small 13) (by decide) (by decide) h
    rw [show Wrd.knownB s (fieldsL.take 13) = k from hk] at R
    exact R
  have HT : Hid (Wrd.TxtA (w.alloc (.cells (fieldsL.map Value.string).toArray 9)) ⟨w.heap.size, 0, none⟩ (fieldsL.take 13)) := fields_at w 13 9
  have HB : Hid (Below w.heap.size w (w.alloc (.cells (fieldsL.map Value.string).toArray 9))) := (Below.refl _ _).alloc (Nat.le_refl _) _
  have HF : Hid (f = max k 0) := hf
  have HBB : Hid (b = decide (0 ≤ k)) := hb
  clear hk hf hb
  go_enter Tryz.func24, Tryz.ntmps24
  go_wp2_with fail
  refine (HC.out _ _ HT.out).mono ?_
  rintro e w1 ⟨rfl, b1⟩
  have HB1 : Hid (Below w.heap.size w w1) := HB.out.trans (b1.mono HB.out.size)
  clear b1 HB HC HT
  go_wp2
  go_ret2
  exact ⟨ret_ib HF.out.symm HBB.out.symm, HB1.out⟩

set_option maxRecDepth 100000 in
set_option maxHeartbeats 4000000 in
theorem named_19 (s : ByteArray) (hs : s.size ≤ maxLen) (k : Int) (hk : fldN s 19 = k) (f : Int) (b : Bool) (hf : f = max k 0) (hb : b = decide (0 ≤ k)) (w : World) :
    Calls Tryz.prog 24 #[.string s, .int .i64 18] w fun e w' => e = .returned (.tuple #[.int .i64 f, .bool b]) ∧ Below w.heap.size w w' := by
  have HC : Hid (∀ (a : Addr) (w : World), Wrd.TxtA w a (fieldsL.take 19) → Calls Tryz.prog 46 #[.string s, .slice (some a) 19 19] w fun e w' => e = .returned (.int .i64 k) ∧ Below w.heap.size w w') := fun a w h => by
    have R := Wrd.knownA_any s (fieldsL.take 19) a 19 w hs (fields_small 19) (by decide) (by decide) h
    rw [show Wrd.knownB s (fieldsL.take 19) = k from hk] at R
    exact R
  have HT : Hid (Wrd.TxtA (w.alloc (.cells (fieldsL.map Value.string).toArray 9)) ⟨w.heap.size, 0, none⟩ (fieldsL.take 19)) := fields_at w 19 9
  have HB : Hid (Below w.heap.size w (w.alloc (.cells (fieldsL.map Value.string).toArray 9))) := (Below.refl _ _).alloc (Nat.le_refl _) _
  have HF : Hid (f = max k 0) := hf
  have HBB : Hid (b = decide (0 ≤ k)) := hb
  clear hk hf hb
  go_enter Tryz.func24, Tryz.ntmps24
  go_wp2_with fail
  refine (HC.out _ _ HT.out).mono ?_
  rintro e w1 ⟨rfl, b1⟩
  have HB1 : Hid (Below w.heap.size w w1) := HB.out.trans (b1.mono HB.out.size)
  clear b1 HB HC HT
  go_wp2
  go_ret2
  exact ⟨ret_ib HF.out.symm HBB.out.symm, HB1.out⟩

set_option maxRecDepth 100000 in
set_option maxHeartbeats 4000000 in
theorem gw_all (f k : Int) (h1 : f ≠ 18) (h2 : f ≠ 13) (h3 : f ≠ 14) (h4 : f ≠ 15) (h5 : f ≠ 16) (h6 : f ≠ 6) (w : World) :
    Calls Tryz.prog 39 #[.int .i64 f, .int .i64 k] w fun e w' => e = .returned (.bool (decide (k ∈ ([5, 6, 7, 8] : List Int)))) ∧ Below w.heap.size w w' := by
  have X : Hid (Bx (w.alloc (.cells (inL [5, 6, 7, 8]).toArray 3)) w.heap.size (inL [5, 6, 7, 8])) := Bx.new w (inL [5, 6, 7, 8]) 3
  have HB : Hid (Below w.heap.size w (w.alloc (.cells (inL [5, 6, 7, 8]).toArray 3))) := (Below.refl _ _).alloc (Nat.le_refl _) _
  obtain ⟨c, hc⟩ : ∃ c, c = decide (k ∈ ([5, 6, 7, 8] : List Int)) := ⟨_, rfl⟩
  have R : Hid (Calls Tryz.prog 38 #[.int .i64 k, .slice (some ⟨w.heap.size, 0, none⟩) 4 4] _ fun e w' => e = .returned (.bool c) ∧ w' = _) := isOf_any k [5, 6, 7, 8] w.heap.size (by decide) 4 rfl c hc _ X
  rw [← hc]
  clear hc X
  have q1 : (f == 18) = false := by simpa using h1
  have q2 : (f == 13) = false := by simpa using h2
  have q3 : (f == 14) = false := by simpa using h3
  have q4 : (f == 15) = false := by simpa using h4
  have q5 : (f == 16) = false := by simpa using h5
  have q6 : (f == 6) = false := by simpa using h6
  clear h1 h2 h3 h4 h5 h6
  go_enter Tryz.func39, Tryz.ntmps39
  go_wp2_with fail
  refine R.out.mono ?_
  rintro e W ⟨rfl, hw⟩
  rw [hw]
  clear hw W R
  go_wp2_with fail
  go_ret
  exact ⟨rfl, HB.out⟩

end Go.Proofs.YtofmmdfdiaahhaaGreatDoor
