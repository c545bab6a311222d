/- What the law's fixed calls come to, and the walk of LineSplits. -/
import Derived.Test.YtebjicnjbiiioaaDoorLnJ
namespace Go.Proofs.YtebjicnjbiiioaaDoor
open Go.RowKit
set_option linter.unusedVariables false

set_option maxRecDepth 1000000 in
set_option maxHeartbeats 2000000 in
theorem esame_zero (a1 a2 : Option Addr) (c1 c2 : Nat) (nb : Bool) (w : World) :
    Calls Tryd.prog 19 #[.slice a1 0 c1, .slice a2 0 c2, .bool nb] w fun e w' => e = .returned (.bool true) ∧ Below w.heap.size w w' := by
  go_enter Tryd.func19, Tryd.ntmps19
  go_wp2_with fail
  go_loopw [7] (fun i W => i = .int .i64 0 ∧ W = w) (fun _ _ => 0)
  case atStart => exact ⟨rfl, rfl⟩
  case round =>
    obtain ⟨rfl, rfl⟩ := hrel
    go_wp2_with fail
    go_ret
    exact ⟨rfl, Below.refl _ _⟩
theorem esame_yes (l1 l2 : List LnV) (v1 v2 : Value) (b1 b2 : Nat) (nb : Bool) (w : World) (hl : l1.length ≤ 400) (h1 : OwnL w b1 79 v1 l1) (h2 : OwnL w b2 79 v2 l2)
    (hF : l1.map (fun p => p.2.2) = l2.map (fun p => p.2.2)) (hN : nb = true → l1.map (fun p => p.1) = l2.map (fun p => p.1)) :
    Calls Tryd.prog 19 #[v1, v2, .bool nb] w fun e w' => e = .returned (.bool true) ∧ Below w.heap.size w w' := by
  have hlen : l2.length = l1.length := by have := congrArg List.length hF; simpa using this.symm
  obtain ⟨n, hn⟩ : ∃ n, l1.length = n := ⟨_, rfl⟩
  have o1 : w.ownsRow b1 79 2 v1 n (flatL l1) := by have := h1.1; rw [hn] at this; exact this
  have o2 : w.ownsRow b2 79 2 v2 n (flatL l2) := by have := h2.1; rw [hlen, hn] at this; exact this
  by_cases h0 : n = 0
  · subst h0
    obtain ⟨a1, c1, rfl⟩ := row_form o1
    obtain ⟨a2, c2, rfl⟩ := row_form o2
    exact esame_zero a1 a2 c1 c2 nb w
  · obtain ⟨g1, c1, rfl, q1, q2, _⟩ := row_some o1 (by omega)
    obtain ⟨g2, c2, rfl, q3, q4, _⟩ := row_some o2 (by omega)
    exact esame_some l1 l2 n g1 c1 g2 c2 b1 b2 nb w (by omega) q1 q2 q3 q4 ⟨h1, hn⟩ ⟨h2, by omega⟩ hF hN

theorem lnsF_le : ∀ (ts : List (List UInt8)) (n : Nat) (acc L : List Lne), acc.length ≤ 400 → lnsF ts n acc = .inr L → L.length ≤ 400
  | [], n, acc, L, h, e => by
    have : acc = L := by simpa [lnsF] using e
    rw [← this]; exact h
  | t :: ts, n, acc, L, h, e => by
    cases ho : oneL t with
    | none => rw [lnsF_none ho] at e; exact absurd e (by simp)
    | some F =>
      rw [lnsF_some ho] at e
      by_cases h1 : F.length = 0
      · rw [if_pos h1] at e; exact lnsF_le ts _ _ _ h e
      · rw [if_neg h1] at e
        by_cases h2 : 16 < F.length ∨ acc.length = 400
        · rw [if_pos h2] at e; exact absurd e (by simp)
        · rw [if_neg h2] at e
          exact lnsF_le ts _ _ _ (by rw [List.length_append]; show _ + 1 ≤ _; omega) e
theorem lnsS_le {s : ByteArray} {L : List Lne} (h : lnsS s = .inr L) : L.length ≤ 400 := by
  unfold lnsS at h
  split at h
  · exact absurd h (by simp)
  · exact lnsF_le _ _ _ _ (Nat.zero_le _) h
/-- lines, number and error of an answer. -/
def gL : Sum (Int × Int) (List Lne) → List Lne
  | .inl _ => []
  | .inr L => L
def gN : Sum (Int × Int) (List Lne) → Int
  | .inl r => r.1
  | .inr _ => 0
def gE : Sum (Int × Int) (List Lne) → Int
  | .inl r => r.2
  | .inr _ => 0
theorem split_all {w w' : World} {ty : TypeId} {e : Ending} {G : Sum (Int × Int) (List Lne)} (h : SplitIs w ty e w' G) : ∃ v l, e = .returned (.tuple #[v, .int .i64 (gN G), .int .i64 (gE G)]) ∧ OwnL w' w.heap.size ty v l ∧ saidL l = gL G := by
  cases G with
  | inl r => exact ⟨_, [], h, OwnL.nil _ _ _, rfl⟩
  | inr L =>
    obtain ⟨v, l, h1, h2, h3⟩ := h
    exact ⟨v, l, h1, h2, h3⟩
theorem gL_le (s : ByteArray) : (gL (lnsS s)).length ≤ 400 := by
  cases h : lnsS s with
  | inl r => exact Nat.zero_le _
  | inr L => exact lnsS_le h
theorem said_len {l : List LnV} {L : List Lne} (h : saidL l = L) : l.length = L.length := by rw [← h]; unfold saidL; simp
theorem said_keys {l k : List LnV} (h : saidL l = saidL k) : l.map (fun p => p.2.2) = k.map (fun p => p.2.2) ∧ l.map (fun p => p.1) = k.map (fun p => p.1) := by
  have e1 : ∀ x : List LnV, x.map (fun p => p.2.2) = (saidL x).map (fun p => p.2) := fun x => by unfold saidL; simp
  have e2 : ∀ x : List LnV, x.map (fun p => p.1) = (saidL x).map (fun p => p.1) := fun x => by unfold saidL; simp
  rw [e1, e1, e2, e2, h]; exact ⟨rfl, rfl⟩
def txK : ByteArray := ⟨#[82, 117, 108, 101, 32, 32, 65, 32, 34, 120, 32, 121, 34, 32, 35, 32, 110, 111, 10, 10, 98]⟩
def lnK : List Lne := [(1, [⟨#[82, 117, 108, 101]⟩, ⟨#[65]⟩, ⟨#[120, 32, 121]⟩]), (3, [⟨#[98]⟩])]
theorem tx_is : lnsS txK = .inr lnK := by rfl
theorem fine_k : Fine lnK := by
  refine ⟨by decide, fun p hp => ?_⟩
  have asc : ∀ f : ByteArray, f.size ≤ 8192 → f.data.toList.all (fun b => decide (b.toNat < 128)) = true → Asc f := fun f h1 h2 => ⟨h1, fun j b hb => of_decide_eq_true (List.all_eq_true.1 h2 b (List.mem_of_getElem? hb))⟩
  have : p = (1, [⟨#[82, 117, 108, 101]⟩, ⟨#[65]⟩, ⟨#[120, 32, 121]⟩]) ∨ p = (3, [⟨#[98]⟩]) := by
    unfold lnK at hp
    simpa using hp
  rcases this with rfl | rfl
  · refine ⟨by decide, fun f hf => ?_⟩
    have : f = ⟨#[82, 117, 108, 101]⟩ ∨ f = ⟨#[65]⟩ ∨ f = ⟨#[120, 32, 121]⟩ := by simpa using hf
    rcases this with rfl | rfl | rfl <;> exact asc _ (by decide) (by decide)
  · refine ⟨by decide, fun f hf => ?_⟩
    have : f = ⟨#[98]⟩ := by simpa using hf
    subst this
    exact asc _ (by decide) (by decide)
theorem join_k : joinB lnK = ⟨#[82, 117, 108, 101, 32, 65, 32, 34, 120, 32, 121, 34, 10, 98, 10]⟩ := by decide +kernel

/-- the lines that must come, in memory. -/
abbrev kW (w : World) : World := ((w.alloc (.cells #[.string ⟨#[82, 117, 108, 101]⟩, .string ⟨#[65]⟩, .string ⟨#[120, 32, 121]⟩] 9)).alloc (.cells #[.string ⟨#[98]⟩] 9)).alloc (.cells #[.int .i64 1, .slice (some ⟨w.heap.size, 0, none⟩) 3 3, .int .i64 3, .slice (some ⟨w.heap.size + 1, 0, none⟩) 1 1] 79)
def kL (w : World) : List LnV := [(1, .slice (some ⟨w.heap.size, 0, none⟩) 3 3, [⟨#[82, 117, 108, 101]⟩, ⟨#[65]⟩, ⟨#[120, 32, 121]⟩]), (3, .slice (some ⟨w.heap.size + 1, 0, none⟩) 1 1, [⟨#[98]⟩])]
theorem kL_said (w : World) : saidL (kL w) = lnK := rfl
theorem kW_below (w : World) : Below w.heap.size w (kW w) := (by repeat' (first | assumption | exact Below.refl _ _ | exact Nat.le_refl _ | refine Below.alloc ?_ ?_ _ | (simp; done) | (simp; omega) | omega))
theorem row_here {w : World} {base : Nat} (hb : base ≤ w.heap.size) (cur : Array Value) (e : TypeId) (size n : Nat) (xs : List Value) (hn : n ≤ 9) (h1 : cur.size = n * size) (h2 : cur.toList = xs) (h3 : xs.length = n * size) : (w.alloc (.cells cur e)).ownsRow base e size (.slice (some ⟨w.heap.size, 0, none⟩) n n) n xs :=
  ⟨h3, .inr ⟨w.heap.size, n, cur, rfl, hb, heap_alloc_new w _, Nat.le_refl _, by unfold maxLen; omega, h1, by rw [h2, ← h3]; exact List.take_length⟩⟩
theorem kL_own (w : World) (base : Nat) (hb : base ≤ w.heap.size) : OwnL (kW w) base 79 (.slice (some ⟨w.heap.size + 1 + 1, 0, none⟩) 2 2) (kL w) := by
  refine ⟨?_, fun p hp => ?_⟩
  · have := row_here (w := (w.alloc (.cells #[.string ⟨#[82, 117, 108, 101]⟩, .string ⟨#[65]⟩, .string ⟨#[120, 32, 121]⟩] 9)).alloc (.cells #[.string ⟨#[98]⟩] 9)) (base := base) (by simp; omega) #[.int .i64 1, .slice (some ⟨w.heap.size, 0, none⟩) 3 3, .int .i64 3, .slice (some ⟨w.heap.size + 1, 0, none⟩) 1 1] 79 2 2 (flatL (kL w)) (by decide) rfl rfl rfl
    simp at this
    exact this
  · have hp' : p = (1, .slice (some ⟨w.heap.size, 0, none⟩) 3 3, [⟨#[82, 117, 108, 101]⟩, ⟨#[65]⟩, ⟨#[120, 32, 121]⟩]) ∨ p = (3, .slice (some ⟨w.heap.size + 1, 0, none⟩) 1 1, [⟨#[98]⟩]) := by
      unfold kL at hp
      simpa using hp
    rcases hp' with rfl | rfl
    · exact ((row_here hb #[.string ⟨#[82, 117, 108, 101]⟩, .string ⟨#[65]⟩, .string ⟨#[120, 32, 121]⟩] 9 1 3 _ (by decide) rfl rfl rfl).alloc _).alloc _
    · have := (row_here (w := w.alloc (.cells #[.string ⟨#[82, 117, 108, 101]⟩, .string ⟨#[65]⟩, .string ⟨#[120, 32, 121]⟩] 9)) (base := base) (by simp; omega) #[.string ⟨#[98]⟩] 9 1 1 [.string ⟨#[98]⟩] (by decide) rfl rfl rfl).alloc (.cells #[.int .i64 1, .slice (some ⟨w.heap.size, 0, none⟩) 3 3, .int .i64 3, .slice (some ⟨w.heap.size + 1, 0, none⟩) 1 1] 79)
      simp at this
      exact this

set_option maxRecDepth 1000000 in
set_option maxHeartbeats 4000000 in
theorem lknown_any (w : World) (hM : Mx w) : Calls Tryd.prog 21 #[] w fun e w' => e = .returned (.bool true) ∧ Below w.heap.size w w' := by
  have H1 : Hid (∀ w : World, Mx w → Calls Tryd.prog 17 #[.string ⟨#[82, 117, 108, 101, 32, 32, 65, 32, 34, 120, 32, 121, 34, 32, 35, 32, 110, 111, 10, 10, 98]⟩] w fun e w' => Below w.heap.size w w' ∧ ∃ v l, e = .returned (.tuple #[v, .int .i64 0, .int .i64 0]) ∧ OwnL w' w.heap.size 78 v l ∧ saidL l = lnK) := fun w h => by
    have := lSplit_any txK w h (by decide)
    rw [tx_is] at this
    exact this
  go_enter Tryd.func21, Tryd.ntmps21
  go_wp2_with fail
  refine (H1.out _ hM).mono ?_
  rintro e w1 ⟨hb1, v, l, rfl, hO, hsaid⟩
  clear H1 hM
  have hlen : l.length = 2 := said_len hsaid
  have HO : Hid (OwnL (kW w1) w.heap.size 78 v l) := hO.below (kW_below w1)
  have HK : Hid (OwnL (kW w1) w.heap.size 79 (.slice (some ⟨w1.heap.size + 1 + 1, 0, none⟩) 2 2) (kL w1)) := kL_own w1 _ hb1.size
  have HB : Hid (Below w.heap.size w (kW w1)) := hb1.trans ((kW_below w1).mono hb1.size)
  have HT : Hid (∀ W : World, OwnL W w.heap.size 78 v l → w.heap.size ≤ W.heap.size → Calls Tryd.prog 20 #[v] W fun e w' => Below W.heap.size W w' ∧ ∃ v', e = .returned v' ∧ OwnL w' w.heap.size 79 v' l) := fun W h1 h2 => ltaken_any l v w.heap.size W (by omega) h2 h1
  have HS : Hid (∀ (W : World) (v1 v2 : Value), OwnL W w.heap.size 79 v1 l → OwnL W w.heap.size 79 v2 (kL w1) → Calls Tryd.prog 19 #[v1, v2, .bool true] W fun e w' => e = .returned (.bool true) ∧ Below W.heap.size W w') := fun W v1 v2 h1 h2 => by
    obtain ⟨k1, k2⟩ := said_keys (hsaid.trans (kL_said w1).symm)
    exact esame_yes l (kL w1) v1 v2 _ _ true W (by omega) h1 h2 k1 (fun _ => k2)
  have HJ : Hid (∀ W : World, OwnL W w.heap.size 78 v l → Calls Tryd.prog 23 #[v] W fun e w' => e = .returned (.string ⟨#[82, 117, 108, 101, 32, 65, 32, 34, 120, 32, 121, 34, 10, 98, 10]⟩) ∧ Below W.heap.size W w') := fun W h => by
    have := join_any l v w.heap.size W h (by rw [hsaid]; exact fine_k)
    rw [hsaid, join_k] at this
    exact this
  clear hO hsaid hb1 hlen
  go_wp2_with fail
  refine (HT.out _ HO.out HB.out.size).mono ?_
  rintro e w2 ⟨hb2, v', rfl, hO2⟩
  have HO2 : Hid (OwnL w2 w.heap.size 78 v l) := HO.out.below hb2
  have HK2 : Hid (OwnL w2 w.heap.size 79 (.slice (some ⟨w1.heap.size + 1 + 1, 0, none⟩) 2 2) (kL w1)) := HK.out.below hb2
  have HB2 : Hid (Below w.heap.size w w2) := HB.out.trans (hb2.mono HB.out.size)
  have HV2 : Hid (OwnL w2 w.heap.size 79 v' l) := hO2
  clear HO HK HB HT hb2 hO2
  go_wp2_with fail
  refine (HS.out _ _ _ HV2.out HK2.out).mono ?_
  rintro e w3 ⟨rfl, hb3⟩
  have HO3 : Hid (OwnL w3 w.heap.size 78 v l) := HO2.out.below hb3
  have HB3 : Hid (Below w.heap.size w w3) := HB2.out.trans (hb3.mono HB2.out.size)
  clear HO2 HK2 HB2 HV2 HS hb3
  go_wp2_with fail
  refine (HJ.out _ HO3.out).mono ?_
  rintro e w4 ⟨rfl, hb4⟩
  have HB4 : Hid (Below w.heap.size w w4) := HB3.out.trans (hb4.mono HB3.out.size)
  clear HO3 HB3 HJ hb4
  go_wp2_with fail
  go_ret
  exact ⟨rfl, HB4.out⟩

set_option maxRecDepth 1000000 in
set_option maxHeartbeats 4000000 in
theorem core_LineSplits (s : ByteArray) (hs9 : s.size ≤ 140737488351232) (w : World) (hM : Mx w) :
    Calls Tryd.prog 4 #[.string s] w fun e w' => e = .returned (.bool true) ∧ Below w.heap.size w w' := by
  have hle := gL_le s
  have H1 : Hid (∀ w : World, Mx w → Calls Tryd.prog 17 #[.string s] w fun e w' => Below w.heap.size w w' ∧ SplitIs w 78 e w' (lnsS s)) := fun w h => lSplit_any s w h hs9
  have H2 : Hid (∀ w : World, Calls Tryd.prog 18 #[.string s] w fun e w' => Below w.heap.size w w' ∧ SplitIs w 79 e w' (lnsS s)) := fun w => eSplit_any s w
  generalize lnsS s = G at *
  go_enter Tryd.func4, Tryd.ntmps4
  go_wp2_with fail
  refine (H1.out _ hM).mono ?_
  rintro e w1 ⟨hb1, hS⟩
  obtain ⟨v, l, rfl, hO, hsaid⟩ := split_all hS
  have HB1 : Hid (Below w.heap.size w w1) := hb1
  have M1 : Hid (Mx w1) := hM.below hb1
  have HO1 : Hid (OwnL w1 w.heap.size 78 v l) := hO
  clear H1 hM hS hb1 hO
  go_wp2_with fail
  refine (H2.out _).mono ?_
  rintro e w2 ⟨hb2, hS⟩
  obtain ⟨u, k, rfl, hO, hsaid2⟩ := split_all hS
  have HB2 : Hid (Below w.heap.size w w2) := HB1.out.trans (hb2.mono HB1.out.size)
  have M2 : Hid (Mx w2) := M1.out.below hb2
  have HO2 : Hid (OwnL w2 w.heap.size 78 v l) := HO1.out.below hb2
  have HK2 : Hid (OwnL w2 w.heap.size 79 u k) := hO.lower HB1.out.size
  have hll : l.length ≤ 400 := by rw [said_len hsaid]; exact hle
  have HT : Hid (∀ W : World, OwnL W w.heap.size 78 v l → w.heap.size ≤ W.heap.size → Calls Tryd.prog 20 #[v] W fun e w' => Below W.heap.size W w' ∧ ∃ v', e = .returned v' ∧ OwnL w' w.heap.size 79 v' l) := fun W h1 h2 => ltaken_any l v w.heap.size W hll h2 h1
  have HS : Hid (∀ (W : World) (v1 v2 : Value), OwnL W w.heap.size 79 v1 l → OwnL W w.heap.size 79 v2 k → Calls Tryd.prog 19 #[v1, v2, .bool true] W fun e w' => e = .returned (.bool true) ∧ Below W.heap.size W w') := fun W v1 v2 h1 h2 => by
    obtain ⟨k1, k2⟩ := said_keys (hsaid.trans hsaid2.symm)
    exact esame_yes l k v1 v2 _ _ true W hll h1 h2 k1 (fun _ => k2)
  clear H2 hS hb2 hO HB1 M1 HO1 hsaid hsaid2 hll hle
  generalize gN G = a at *
  generalize gE G = b at *
  go_wp2_with fail
  refine (HT.out _ HO2.out HB2.out.size).mono ?_
  rintro e w3 ⟨hb3, v', rfl, hO3⟩
  have HB3 : Hid (Below w.heap.size w w3) := HB2.out.trans (hb3.mono HB2.out.size)
  have M3 : Hid (Mx w3) := M2.out.below hb3
  have HV3 : Hid (OwnL w3 w.heap.size 79 v' l) := hO3
  have HK3 : Hid (OwnL w3 w.heap.size 79 u k) := HK2.out.below hb3
  clear HB2 M2 HO2 HK2 hb3 hO3 HT
  go_wp2_with fail
  refine (HS.out _ _ _ HV3.out HK3.out).mono ?_
  rintro e w4 ⟨rfl, hb4⟩
  have HB4 : Hid (Below w.heap.size w w4) := HB3.out.trans (hb4.mono HB3.out.size)
  have M4 : Hid (Mx w4) := M3.out.below hb4
  clear HB3 M3 HV3 HK3 hb4 HS
  go_wp2_with fail
  refine (lknown_any _ M4.out).mono ?_
  rintro e w5 ⟨rfl, hb5⟩
  have HB5 : Hid (Below w.heap.size w w5) := HB4.out.trans (hb5.mono HB4.out.size)
  clear HB4 M4 hb5
  go_wp2_with fail
  go_ret
  exact ⟨rfl, HB5.out⟩

end Go.Proofs.YtebjicnjbiiioaaDoor
