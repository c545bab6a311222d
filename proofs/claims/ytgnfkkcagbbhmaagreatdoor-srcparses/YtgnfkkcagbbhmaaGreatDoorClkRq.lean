/- DigB, DigC, DigD, DigE, DigF, ScnA, ScnB, ScnC, ScnD, RunMath, as one text. -/
import Derived.Test.YtgnfkkcagbbhmaaGreatDoorDigAq
import Derived.Test.YtgnfkkcagbbhmaaGreatDoorClkEq
import Derived.Test.YtgnfkkcagbbhmaaGreatDoorClkKq
/- Contracts of the reference's Two, Text and Long, over its Fraction. -/
namespace Go.Proofs.YtgnfkkcagbbhmaaGreatDoor.Clk
open Go.RowKit
set_option linter.unusedVariables false

end Go.Proofs.YtgnfkkcagbbhmaaGreatDoor.Clk

/- Contract of the reference's Fraction: microseconds behind a point. -/
namespace Go.Proofs.YtgnfkkcagbbhmaaGreatDoor.Clk
open Go.RowKit
set_option linter.unusedVariables false

end Go.Proofs.YtgnfkkcagbbhmaaGreatDoor.Clk

/- Contracts of the reference's Text and Long. -/
namespace Go.Proofs.YtgnfkkcagbbhmaaGreatDoor.Clk
open Go.RowKit
set_option linter.unusedVariables false

end Go.Proofs.YtgnfkkcagbbhmaaGreatDoor.Clk

/- Contracts: the reference's Long whole; clock.micros; clock.Read of four runs. -/
namespace Go.Proofs.YtgnfkkcagbbhmaaGreatDoor.Clk
open Go.RowKit
set_option linter.unusedVariables false

set_option maxRecDepth 100000 in
set_option maxHeartbeats 1000000 in
theorem micros_any (m : Int) (d : Nat) (n : Int) (hd : d ≤ 6) (h0 : 0 ≤ n) (hn : n < 10 ^ d) (w : World) :
    Calls Tryz.prog 201 #[.agg #[.int .i32 m, .int .i64 (d : Int), .int .i64 n]] w fun e w' => e = .returned (.int .i64 (n * 10 ^ (6 - d))) ∧ Below w.heap.size w w' := by
  obtain ⟨q, hq⟩ : ∃ q : Nat, q = 6 - d := ⟨_, rfl⟩
  have hqd : (6 : Int) - (d : Int) = (q : Int) := by omega
  have HN : Hid (∀ k : Nat, k ≤ q → 0 ≤ n * 10 ^ k ∧ n * 10 ^ k ≤ 999999) := fun k hk => by
    have p : (0 : Int) < 10 ^ k := Int.pow_pos (by decide)
    have a : 0 ≤ n * 10 ^ k := Int.mul_nonneg h0 (Int.le_of_lt p)
    have b : (n + 1) * 10 ^ k ≤ 10 ^ d * 10 ^ k := Int.mul_le_mul_of_nonneg_right (by omega) (Int.le_of_lt p)
    rw [← Int.pow_add, Int.add_mul, Int.one_mul] at b
    have c : (10 : Int) ^ (d + k) ≤ 10 ^ 6 := by
      have : ∀ z : Fin 7, (10 : Int) ^ z.val ≤ 1000000 := by decide
      exact this ⟨d + k, by omega⟩
    have : (10 : Int) ^ 6 = 1000000 := by decide
    omega
  rw [← hq]
  have hq6 : q ≤ 6 := by omega
  have HB0 : Hid (Below w.heap.size w (w.alloc (.cells #[.int .i32 m, .int .i64 (d : Int), .int .i64 n] 280))) := (Below.refl _ _).alloc (Nat.le_refl _) _
  clear hn h0 hq hd
  go_enter Tryz.func201, Tryz.ntmps201
  go_wp2_with fail
  go_loopw [3, 9] (fun v iv W => ∃ k : Nat, k ≤ q ∧ v = .int .i64 (n * 10 ^ k) ∧ iv = .int .i64 (k : Int) ∧ Below w.heap.size w W) (fun _ iv _ => q - (intOf iv).toNat)
  case atStart => exact ⟨0, Nat.zero_le _, by simp, rfl, HB0.out⟩
  case round =>
    obtain ⟨k, hk, rfl, rfl, hB⟩ := hrel
    have HB : Hid (Below w.heap.size w wr) := hB
    clear hB
    by_cases hkq : k < q
    · obtain ⟨y1, y2⟩ := HN.out k hk
      have HE : Hid (n * 10 ^ (k + 1) = n * 10 ^ k * 10) := by show _ = _; rw [Int.pow_succ, Int.mul_assoc]
      have hkq' : (k : Int) < (q : Int) := by omega
      generalize n * 10 ^ k = y at *
      go_wp2_with fail
      go_roundw
      case rel => exact ⟨k + 1, by omega, by rw [HE.out], rfl, HB.out⟩
      case measure => simp [intOf]; omega
    · obtain rfl : k = q := by omega
      have hkq' : ¬ (k : Int) < (k : Int) := by omega
      go_wp2_with fail
      go_ret
      exact ⟨rfl, HB.out⟩

set_option maxRecDepth 1000000 in
set_option maxHeartbeats 2000000 in
theorem read4 (s : ByteArray) (m0 m1 m2 : Int) (d0 d1 d2 d3 : Nat) (n0 n1 n2 n3 us : Int) (hG : Hid (runsF s s.size 0 [] (0, 0, 0) = some [(m0, d0, n0), (m1, d1, n1), (m2, d2, n2), (46, d3, n3)])) (hd2 : 0 < d3)
    (HU : Hid (∀ w : World, Calls Tryz.prog 201 #[.agg #[.int .i32 46, .int .i64 (d3 : Int), .int .i64 n3]] w fun e w' => e = .returned (.int .i64 us) ∧ Below w.heap.size w w')) (hf : Hid (faceOk [(m0, d0, n0), (m1, d1, n1), (m2, d2, n2)] = true)) (w : World) :
    Calls Tryz.prog 198 #[.string s] w fun e w' => e = .returned (.tuple #[.int .i64 (mkV n0 n1 n2 us), .int .i64 (mkE n0 n1 n2 us)]) ∧ Below w.heap.size w w' := by
  have HM : Hid (∀ w : World, Calls Tryz.prog 202 #[.int .i64 n0, .int .i64 n1, .int .i64 n2, .int .i64 us] w fun e w' => e = .returned (.tuple #[.int .i64 (mkV n0 n1 n2 us), .int .i64 (mkE n0 n1 n2 us)]) ∧ w' = w) := make_any n0 n1 n2 us
  generalize mkV n0 n1 n2 us = V at *
  generalize mkE n0 n1 n2 us = E at *
  go_enter Tryz.func198, Tryz.ntmps198
  go_wp2_with fail
  refine (runs_any s _).mono ?_
  rintro e w1 ⟨hb, hr⟩
  rw [hG.out] at hr
  obtain ⟨v, d, rfl, ho, hdl⟩ := hr
  obtain rfl : d3 = d := by simpa using hdl
  have hdec : decide (0 < d3) = true := decide_eq_true hd2
  rcases ho.2 with ⟨_, h0⟩ | ⟨g, cap, cur, rfl, hg, hblk, hcap, hcap2, hsz, htk⟩
  · simp at h0
  have hglt : g < w1.heap.size := (Array.getElem?_eq_some_iff.1 hblk).1
  have hc : Hid (∀ j u, (flat [(m0, d0, n0), (m1, d1, n1), (m2, d2, n2), (46, d3, n3)])[j]? = some u → w1.cell? ⟨g, j, none⟩ = some u) := fun j u hj => by
    have hlt : j < 12 := by
      have := (List.getElem?_eq_some_iff.1 hj).1
      rw [flat_length] at this
      simpa using this
    exact (ho.cellAt j (by simpa using hlt)).trans hj
  have c48 : Tryz.prog.cellsOf 280 = 3 := by kernel_rfl
  have k0 : w1.cell? ⟨g, 2, none⟩ = some (.int .i64 n0) := hc.out 2 _ rfl
  have k1 : w1.cell? ⟨g, 5, none⟩ = some (.int .i64 n1) := hc.out 5 _ rfl
  have k2 : w1.cell? ⟨g, 8, none⟩ = some (.int .i64 n2) := hc.out 8 _ rfl
  have k3 : w1.cell? ⟨g, 9, none⟩ = some (.int .i32 46) := hc.out 9 _ rfl
  have k4 : w1.cell? ⟨g, 10, none⟩ = some (.int .i64 (d3 : Int)) := hc.out 10 _ rfl
  have k5 : w1.cell? ⟨g, 11, none⟩ = some (.int .i64 n3) := hc.out 11 _ rfl
  have hcap' : 4 ≤ cap := by simpa using hcap
  have hc3 : Hid (∀ j u, (flat [(m0, d0, n0), (m1, d1, n1), (m2, d2, n2)])[j]? = some u → w1.cell? ⟨g, j, none⟩ = some u) := fun j u hj => hc.out j u (by
    have e : flat [(m0, d0, n0), (m1, d1, n1), (m2, d2, n2), (46, d3, n3)] = flat [(m0, d0, n0), (m1, d1, n1), (m2, d2, n2)] ++ flat [(46, d3, n3)] := rfl
    rw [e, List.getElem?_append_left (List.getElem?_eq_some_iff.1 hj).1]
    exact hj)
  have HB : Hid (Below w.heap.size w w1) := hb
  clear hb ho hblk hsz htk hdl
  simp only [List.length_cons, List.length_nil]
  have HF : Hid (Calls Tryz.prog 200 #[.slice (some ⟨g, 0, none⟩) 3 cap] w1 fun e w' => e = .returned (.bool true) ∧ Below w1.heap.size w1 w') := by
    have q := isFace_any [(m0, d0, n0), (m1, d1, n1), (m2, d2, n2)] g cap w1 hglt (by simp) (by simp; omega) hcap2 hc3
    rw [hf.out] at q
    exact q
  clear hcap
  go_wp2_with fail
  refine HF.out.mono ?_
  rintro e w2 ⟨rfl, hb2⟩
  have j0 : w2.cell? ⟨g, 2, none⟩ = some (.int .i64 n0) := (hb2.cell (p := ⟨g, 2, none⟩) hglt).trans k0
  have j1 : w2.cell? ⟨g, 5, none⟩ = some (.int .i64 n1) := (hb2.cell (p := ⟨g, 5, none⟩) hglt).trans k1
  have j2 : w2.cell? ⟨g, 8, none⟩ = some (.int .i64 n2) := (hb2.cell (p := ⟨g, 8, none⟩) hglt).trans k2
  have j3 : w2.cell? ⟨g, 9, none⟩ = some (.int .i32 46) := (hb2.cell (p := ⟨g, 9, none⟩) hglt).trans k3
  have j4 : w2.cell? ⟨g, 10, none⟩ = some (.int .i64 (d3 : Int)) := (hb2.cell (p := ⟨g, 10, none⟩) hglt).trans k4
  have j5 : w2.cell? ⟨g, 11, none⟩ = some (.int .i64 n3) := (hb2.cell (p := ⟨g, 11, none⟩) hglt).trans k5
  have HB2 : Hid (Below w.heap.size w w2) := HB.out.trans (hb2.mono HB.out.size)
  have hg2 : g < w2.heap.size := Nat.lt_of_lt_of_le hglt hb2.size
  clear hb2 k0 k1 k2 k3 k4 k5
  go_wp2_with fail
  refine (HU.out _).mono ?_
  rintro e w3 ⟨rfl, hb3⟩
  have i0 : w3.cell? ⟨g, 2, none⟩ = some (.int .i64 n0) := (hb3.cell (p := ⟨g, 2, none⟩) hg2).trans j0
  have i1 : w3.cell? ⟨g, 5, none⟩ = some (.int .i64 n1) := (hb3.cell (p := ⟨g, 5, none⟩) hg2).trans j1
  have HB3 : Hid (Below w.heap.size w w3) := HB2.out.trans (hb3.mono HB2.out.size)
  clear hb3 j0 j1 j2 j3 j4 j5
  go_wp2_with fail
  go_quiet (first | (go_at_call 202; refine Calls.quiet_of_same (HM.out _)))
  go_wp2
  go_ret2
  exact ⟨rfl, below_drewN HB3.out nq⟩

end Go.Proofs.YtgnfkkcagbbhmaaGreatDoor.Clk

/- A time's text is read again as it was: the runs of the text that clock.Text writes. -/
namespace Go.Proofs.YtgnfkkcagbbhmaaGreatDoor.Clk
open Go.RowKit
set_option linter.unusedVariables false

/-- what digits are, behind others. -/
def valD (n : Int) (ds : List UInt8) : Int := ds.foldl (fun a c => a * 10 + ((c.toNat : Int) - 48)) n
theorem at_of {s : ByteArray} {p q : List UInt8} {c : UInt8} {pos : Nat} (hs : s.data.toList = p ++ c :: q) (hp : p.length = pos) (hc : c.toNat < 128) :
    ∃ h : pos < s.size, Utf8.decode s pos = (c.toNat, 1) := by
  have hz : s.size = p.length + (q.length + 1) := by
    have : s.data.toList.length = p.length + (q.length + 1) := by rw [hs]; simp
    rw [← this]; simp
  have h : pos < s.size := by omega
  have hg : s[pos]'h = c := by
    show s.data[pos]'h = c
    rw [← Array.getElem_toList]
    have : s.data.toList[pos]? = some c := by rw [hs, ← hp]; simp
    exact (List.getElem?_eq_some_iff.1 this).2
  exact ⟨h, by rw [decode_ascii s pos h (by rw [hg]; exact hc), hg]⟩
end Go.Proofs.YtgnfkkcagbbhmaaGreatDoor.Clk

/- Contracts of the reference's scan: a sign that may come, a number of some digits. -/
namespace Go.Proofs.YtgnfkkcagbbhmaaGreatDoor.Clk
open Go.RowKit
set_option linter.unusedVariables false

/-- the scan's block: what is left of the text, and whether something was wrong. -/
def SBox (w : World) (b : Nat) (l : List UInt8) (bad : Bool) : Prop :=
  b < w.heap.size ∧ w.cell? ⟨b, 0, none⟩ = some (.string ⟨l.toArray⟩) ∧ w.cell? ⟨b, 1, none⟩ = some (.bool bad) ∧ w.frozen? ⟨b, 0, none⟩ = false ∧ w.frozen? ⟨b, 1, none⟩ = false
theorem SBox.set1 {w : World} {b : Nat} {l : List UInt8} {bad : Bool} (h : SBox w b l bad) (q : Bool) : SBox (w.setCell ⟨b, 1, none⟩ (.bool q)) b l q := by
  obtain ⟨h1, h2, h3, h4, h5⟩ := h
  exact ⟨by simpa [World.setCell] using h1, (World.cell?_setCell_other _ _ _ _ (addr_ne (by decide))).trans h2, World.cell?_setCell_same _ _ _ h3, by simpa using h4, by simpa using h5⟩
theorem SBox.below {w w1 : World} {b : Nat} {l : List UInt8} {bad : Bool} (h : SBox w b l bad) {B : Nat} (hb : Below B w w1) (hB : b < B) : SBox w1 b l bad :=
  ⟨Nat.lt_of_lt_of_le h.1 hb.size, (hb.cell (p := ⟨b, 0, none⟩) hB).trans h.2.1, (hb.cell (p := ⟨b, 1, none⟩) hB).trans h.2.2.1, (hb.frozen (p := ⟨b, 0, none⟩) hB).trans h.2.2.2.1, (hb.frozen (p := ⟨b, 1, none⟩) hB).trans h.2.2.2.2⟩

theorem ix_of (s : ByteArray) (l : List UInt8) (k : Nat) (x : UInt8) (hs : s = ⟨l.toArray⟩) (hx : l[k]? = some x) (w0 : World) : (Instr.index 9 (.string s) (.int .i64 (k : Int))).run Tryz.prog w0 = .ok (.int .u8 (x.toNat : Int)) w0 := by
  obtain ⟨hl, he⟩ := List.getElem?_eq_some_iff.1 hx
  have hz : s.size = l.length := by rw [hs]; show l.toArray.size = _; simp
  rw [run_index_string w0 9 s .i64 (k : Int) Tryz.underlying9, dif_pos ⟨by omega, by omega⟩]
  subst hs
  show Result.ok (Value.int .u8 ((l.toArray[((k : Nat) : Int).toNat]'_).toNat : Int)) w0 = _
  simp [he]

/-- digits at the beginning, no more than these. -/
def isDg (c : UInt8) : Bool := decide (48 ≤ c.toNat) && decide (c.toNat ≤ 57)
def digs (most : Nat) (l : List UInt8) : List UInt8 := (l.take most).takeWhile isDg
end Go.Proofs.YtgnfkkcagbbhmaaGreatDoor.Clk

/- Contract of the reference's Read: what a scan of the text comes to. -/
namespace Go.Proofs.YtgnfkkcagbbhmaaGreatDoor.Clk
open Go.RowKit
set_option linter.unusedVariables false

/-- the answer, if nothing is wrong and nothing left. -/
def rdV (q : Bool) (r : List UInt8) (v : Int) : Int := if q = false ∧ r = [] then v else 0
def rdE (q : Bool) (r : List UInt8) (e : Int) : Int := if q = false ∧ r = [] then e else 13
theorem SBox.new (w : World) (l : List UInt8) (s : ByteArray) (hs : s = ⟨l.toArray⟩) (t : TypeId) : SBox (w.alloc (.cells #[.string s, .bool false] t)) w.heap.size l false := by
  subst hs
  exact ⟨by simp, by rw [World.cell?_alloc_at _ _ _ _ rfl]; rfl, by rw [World.cell?_alloc_at _ _ _ _ rfl]; rfl, by rw [World.frozen?_alloc_at _ _ _ _ rfl], by rw [World.frozen?_alloc_at _ _ _ _ rfl]⟩
end Go.Proofs.YtgnfkkcagbbhmaaGreatDoor.Clk

/- Contract of the reference's Read where seconds come, and no fraction. -/
namespace Go.Proofs.YtgnfkkcagbbhmaaGreatDoor.Clk
open Go.RowKit
set_option linter.unusedVariables false

end Go.Proofs.YtgnfkkcagbbhmaaGreatDoor.Clk

/- Contract of the reference's Read where seconds and a fraction come. -/
namespace Go.Proofs.YtgnfkkcagbbhmaaGreatDoor.Clk
open Go.RowKit
set_option linter.unusedVariables false

end Go.Proofs.YtgnfkkcagbbhmaaGreatDoor.Clk

/- Mathematics: what clock.runs finds in a text, over its bytes; what a time's text looks like; the scan finds just that. -/
namespace Go.Proofs.YtgnfkkcagbbhmaaGreatDoor.Clk
open Go.RowKit
set_option linter.unusedVariables false

/-- clock.runs over bytes. -/
def runsL : List UInt8 → List Run → Run → Option (List Run)
  | [], l, r => some (l ++ [r])
  | c :: q, l, r =>
    if isDg c = true ∧ r.2.1 < 6 then runsL q l (r.1, r.2.1 + 1, r.2.2 * 10 + ((c.toNat : Int) - 48))
    else if (c = 58 ∨ c = 46) ∧ 0 < r.2.1 ∧ l.length < 3 then runsL q (l ++ [r]) ((c.toNat : Int), 0, 0)
    else none
theorem isDg_iff (c : UInt8) : isDg c = true ↔ 48 ≤ c.toNat ∧ c.toNat ≤ 57 := by
  unfold isDg; rw [Bool.and_eq_true, decide_eq_true_iff, decide_eq_true_iff]
theorem mark_nat (c : UInt8) : (c = 58 ∨ c = 46) ↔ (c.toNat = 58 ∨ c.toNat = 46) := by
  constructor
  · rintro (rfl | rfl) <;> decide
  · rintro (h | h)
    · exact .inl (UInt8.toNat_inj.1 h)
    · exact .inr (UInt8.toNat_inj.1 h)
theorem runsF_L (s : ByteArray) : ∀ (q p : List UInt8) (f : Nat) (l : List Run) (r : Run), s.data.toList = p ++ q → q.length ≤ f → runsF s f p.length l r = runsL q l r
  | [], p, f, l, r, hs, hf => by
    have hz : s.size = p.length := by
      have : s.data.toList.length = p.length := by rw [hs]; simp
      rw [← this]; simp
    rw [runsF_end s f _ l r (by omega)]; rfl
  | c :: q, p, f, l, r, hs, hf => by
    obtain ⟨f', rfl⟩ : ∃ f', f = f' + 1 := ⟨f - 1, by simp at hf; omega⟩
    have hf' : q.length ≤ f' := by simp at hf; omega
    obtain ⟨m, d, n⟩ := r
    have hz : s.size = p.length + (q.length + 1) := by
      have : s.data.toList.length = p.length + (q.length + 1) := by rw [hs]; simp
      rw [← this]; simp
    have ih : ∀ (l : List Run) (r : Run), runsF s f' (p.length + 1) l r = runsL q l r := fun l r => by
      have := runsF_L s q (p ++ [c]) f' l r (by rw [hs]; simp) hf'
      rwa [List.length_append] at this
    by_cases hc : c.toNat < 128
    · obtain ⟨h, e⟩ := at_of hs rfl hc
      have eR : ((Utf8.decode s p.length).1 : Int) = (c.toNat : Int) := by rw [e]
      unfold runsL
      by_cases h1 : isDg c = true ∧ d < 6
      · rw [if_pos h1, runsF_digit h eR (by have := (isDg_iff c).1 h1.1; omega) (by have := (isDg_iff c).1 h1.1; omega) h1.2, e]
        exact ih _ _
      · rw [if_neg h1]
        by_cases h2 : (c = 58 ∨ c = 46) ∧ 0 < d ∧ l.length < 3
        · rw [if_pos h2, runsF_mark h eR (by have := (mark_nat c).1 h2.1; omega) h2.2.1 h2.2.2, e]
          exact ih _ _
        · rw [if_neg h2]
          refine runsF_no h eR (fun k => h1 ⟨(isDg_iff c).2 ⟨by omega, by omega⟩, k.2.2⟩) (fun k => h2 ⟨(mark_nat c).2 (by omega), k.2⟩)
    · have h : p.length < s.size := by omega
      have hg : s[p.length]'h = c := by
        show s.data[p.length]'h = c
        rw [← Array.getElem_toList]
        have : s.data.toList[p.length]? = some c := by rw [hs]; simp
        exact (List.getElem?_eq_some_iff.1 this).2
      have hi := (decode_high s p.length h (by rw [hg]; omega)).1
      unfold runsL
      rw [if_neg (fun k => by have := (isDg_iff c).1 k.1; omega), if_neg (fun k => by have := (mark_nat c).1 k.1; omega)]
      exact runsF_no h rfl (fun k => by omega) (fun k => by omega)

theorem runsL_all (l : List Run) (m : Int) (q : List UInt8) : ∀ (ds : List UInt8) (d : Nat) (n : Int), (∀ c ∈ ds, isDg c = true) → d + ds.length ≤ 6 → runsL (ds ++ q) l (m, d, n) = runsL q l (m, d + ds.length, valD n ds)
  | [], d, n, _, _ => rfl
  | c :: ds, d, n, h, hd => by
    simp only [List.length_cons] at hd
    rw [List.cons_append]
    conv => lhs; unfold runsL
    rw [if_pos ⟨h c (by simp), by show d < 6; omega⟩]
    show runsL (ds ++ q) l (m, d + 1, n * 10 + ((c.toNat : Int) - 48)) = _
    rw [runsL_all l m q ds (d + 1) _ (fun x hx => h x (by simp [hx])) (by omega), List.length_cons, show d + 1 + ds.length = d + (ds.length + 1) by omega]
    rfl
theorem runsL_mark (l : List Run) (m : Int) (d : Nat) (n : Int) (c : UInt8) (q : List UInt8) (hc : c = 58 ∨ c = 46) (hd : 0 < d) (hl : l.length < 3) : runsL (c :: q) l (m, d, n) = runsL q (l ++ [(m, d, n)]) ((c.toNat : Int), 0, 0) := by
  conv => lhs; unfold runsL
  rw [if_neg (fun k => by have := (isDg_iff c).1 k.1; have := (mark_nat c).1 hc; omega), if_pos ⟨hc, hd, hl⟩]
theorem runsL_parse : ∀ (l : List UInt8) (acc : List Run) (m : Int) (d : Nat) (n : Int) (L : List Run), d ≤ 6 → runsL l acc (m, d, n) = some L →
    ∃ ds rest, l = ds ++ rest ∧ (∀ c ∈ ds, isDg c = true) ∧ d + ds.length ≤ 6 ∧ ((rest = [] ∧ L = acc ++ [(m, d + ds.length, valD n ds)]) ∨ ∃ c q, rest = c :: q ∧ (c = 58 ∨ c = 46) ∧ 0 < d + ds.length ∧ acc.length < 3 ∧ runsL q (acc ++ [(m, d + ds.length, valD n ds)]) ((c.toNat : Int), 0, 0) = some L)
  | [], acc, m, d, n, L, hd, h => ⟨[], [], rfl, fun c hc => (nomatch hc), hd, .inl ⟨rfl, (Option.some.inj h).symm⟩⟩
  | c :: q, acc, m, d, n, L, hd, h => by
    unfold runsL at h
    by_cases h1 : isDg c = true ∧ d < 6
    · rw [if_pos h1] at h
      obtain ⟨ds, rest, e, hD, hz, R⟩ := runsL_parse q acc m (d + 1) _ L (by omega) h
      refine ⟨c :: ds, rest, by rw [e]; rfl, fun x hx => ?_, by simp; omega, ?_⟩
      · rcases List.mem_cons.1 hx with rfl | hx
        · exact h1.1
        · exact hD x hx
      · have e2 : d + (c :: ds).length = d + 1 + ds.length := by simp; omega
        rw [e2]
        exact R
    · rw [if_neg h1] at h
      by_cases h2 : (c = 58 ∨ c = 46) ∧ 0 < d ∧ acc.length < 3
      · rw [if_pos h2] at h
        exact ⟨[], c :: q, rfl, fun x hx => (nomatch hx), hd, .inr ⟨c, q, rfl, h2.1, h2.2.1, h2.2.2, h⟩⟩
      · rw [if_neg h2] at h
        cases h

/-- digits, so many at least, at most. -/
def DgL (A : List UInt8) (a b : Nat) : Prop := (∀ c ∈ A, isDg c = true) ∧ a ≤ A.length ∧ A.length ≤ b
/-- the texts of times. -/
def Form (l : List UInt8) (t : Int × Int × Int × Int) : Prop :=
  (∃ A M, DgL A 1 2 ∧ DgL M 2 2 ∧ l = A ++ 58 :: M ∧ t = (valD 0 A, valD 0 M, 0, 0)) ∨
  (∃ A M S, DgL A 1 2 ∧ DgL M 2 2 ∧ DgL S 2 2 ∧ l = A ++ 58 :: (M ++ 58 :: S) ∧ t = (valD 0 A, valD 0 M, valD 0 S, 0)) ∨
  (∃ A M S U, DgL A 1 2 ∧ DgL M 2 2 ∧ DgL S 2 2 ∧ DgL U 1 6 ∧ l = A ++ 58 :: (M ++ 58 :: (S ++ 46 :: U)) ∧ t = (valD 0 A, valD 0 M, valD 0 S, valD 0 U * 10 ^ (6 - U.length)))

/-- what the program makes of the runs. -/
def cgood : List Run → Option (Int × Int × Int × Int)
  | [r0, r1] => if 0 < r1.2.1 ∧ faceOk [r0, r1] = true then some (r0.2.2, r1.2.2, 0, 0) else none
  | [r0, r1, r2] => if 0 < r2.2.1 ∧ faceOk [r0, r1, r2] = true then some (r0.2.2, r1.2.2, r2.2.2, 0) else none
  | [r0, r1, r2, r3] => if 0 < r3.2.1 ∧ faceOk [r0, r1, r2] = true ∧ r3.1 = 46 then some (r0.2.2, r1.2.2, r2.2.2, r3.2.2 * 10 ^ (6 - r3.2.1)) else none
  | _ => none
def cForm (l : List UInt8) : Option (Int × Int × Int × Int) := (runsL l [] (0, 0, 0)).bind cgood

theorem cgood2 (m0 n0 m1 n1 : Int) (d0 d1 : Nat) : cgood [(m0, d0, n0), (m1, d1, n1)] = if 0 < d1 ∧ faceOk [(m0, d0, n0), (m1, d1, n1)] = true then some (n0, n1, 0, 0) else none := rfl
theorem cgood3 (m0 n0 m1 n1 m2 n2 : Int) (d0 d1 d2 : Nat) : cgood [(m0, d0, n0), (m1, d1, n1), (m2, d2, n2)] = if 0 < d2 ∧ faceOk [(m0, d0, n0), (m1, d1, n1), (m2, d2, n2)] = true then some (n0, n1, n2, 0) else none := rfl
theorem cgood4 (m0 n0 m1 n1 m2 n2 m3 n3 : Int) (d0 d1 d2 d3 : Nat) : cgood [(m0, d0, n0), (m1, d1, n1), (m2, d2, n2), (m3, d3, n3)] = if 0 < d3 ∧ faceOk [(m0, d0, n0), (m1, d1, n1), (m2, d2, n2)] = true ∧ m3 = 46 then some (n0, n1, n2, n3 * 10 ^ (6 - d3)) else none := rfl
theorem face2 (d0 d1 : Nat) (n0 n1 m0 m1 : Int) : faceOk [(m0, d0, n0), (m1, d1, n1)] = true ↔ d0 ≤ 2 ∧ d1 = 2 ∧ m1 = 58 := by
  simp [faceOk, faceFrom, badR]
theorem face3 (d0 d1 d2 : Nat) (n0 n1 n2 m0 m1 m2 : Int) : faceOk [(m0, d0, n0), (m1, d1, n1), (m2, d2, n2)] = true ↔ d0 ≤ 2 ∧ (d1 = 2 ∧ m1 = 58) ∧ d2 = 2 ∧ m2 = 58 := by
  simp [faceOk, faceFrom, badR]
theorem runsL_end (A : List UInt8) (l : List Run) (m : Int) (h : ∀ c ∈ A, isDg c = true) (hz : A.length ≤ 6) : runsL A l (m, 0, 0) = some (l ++ [(m, A.length, valD 0 A)]) := by
  have := runsL_all l m [] A 0 0 h (by omega)
  rw [List.append_nil, Nat.zero_add] at this
  exact this
theorem runsL_go (A q : List UInt8) (l : List Run) (m : Int) (c : UInt8) (h : ∀ c ∈ A, isDg c = true) (hz : A.length ≤ 6) (h0 : 0 < A.length) (hc : c = 58 ∨ c = 46) (hl : l.length < 3) : runsL (A ++ c :: q) l (m, 0, 0) = runsL q (l ++ [(m, A.length, valD 0 A)]) ((c.toNat : Int), 0, 0) := by
  rw [runsL_all l m (c :: q) A 0 0 h (by omega), Nat.zero_add, runsL_mark _ _ _ _ _ _ hc h0 hl]

theorem c_of_form {l : List UInt8} {t : Int × Int × Int × Int} (h : Form l t) : cForm l = some t := by
  rcases h with ⟨A, M, ⟨a, a1, a2⟩, ⟨b, b1, b2⟩, rfl, rfl⟩ | ⟨A, M, S, ⟨a, a1, a2⟩, ⟨b, b1, b2⟩, ⟨c, c1, c2⟩, rfl, rfl⟩ | ⟨A, M, S, U, ⟨a, a1, a2⟩, ⟨b, b1, b2⟩, ⟨c, c1, c2⟩, ⟨d, d1, d2⟩, rfl, rfl⟩
  · unfold cForm
    rw [runsL_go A M [] 0 58 a (by omega) (by omega) (.inl rfl) (by decide), runsL_end M _ _ b (by omega)]
    show cgood [(0, A.length, valD 0 A), (58, M.length, valD 0 M)] = _
    rw [cgood2]
    rw [if_pos ⟨by show 0 < M.length; omega, (face2 _ _ _ _ _ _).2 ⟨by omega, by omega, rfl⟩⟩]
  · unfold cForm
    rw [runsL_go A _ [] 0 58 a (by omega) (by omega) (.inl rfl) (by decide), runsL_go M S _ _ 58 b (by omega) (by omega) (.inl rfl) (by simp), runsL_end S _ _ c (by omega)]
    show cgood [(0, A.length, valD 0 A), (58, M.length, valD 0 M), (58, S.length, valD 0 S)] = _
    rw [cgood3]
    rw [if_pos ⟨by show 0 < S.length; omega, (face3 _ _ _ _ _ _ _ _ _).2 ⟨by omega, ⟨by omega, rfl⟩, by omega, rfl⟩⟩]
  · unfold cForm
    rw [runsL_go A _ [] 0 58 a (by omega) (by omega) (.inl rfl) (by decide), runsL_go M _ _ _ 58 b (by omega) (by omega) (.inl rfl) (by simp), runsL_go S U _ _ 46 c (by omega) (by omega) (.inr rfl) (by simp), runsL_end U _ _ d (by omega)]
    show cgood [(0, A.length, valD 0 A), (58, M.length, valD 0 M), (58, S.length, valD 0 S), (46, U.length, valD 0 U)] = _
    rw [cgood4]
    rw [if_pos ⟨by show 0 < U.length; omega, (face3 _ _ _ _ _ _ _ _ _).2 ⟨by omega, ⟨by omega, rfl⟩, by omega, rfl⟩, rfl⟩]

theorem m58 {c : UInt8} (h : (c.toNat : Int) = 58) : c = 58 := UInt8.toNat_inj.1 (by have : (58 : UInt8).toNat = 58 := rfl; omega)
theorem m46 {c : UInt8} (h : (c.toNat : Int) = 46) : c = 46 := UInt8.toNat_inj.1 (by have : (46 : UInt8).toNat = 46 := rfl; omega)
theorem form_of_c {l : List UInt8} {t : Int × Int × Int × Int} (h : cForm l = some t) : Form l t := by
  unfold cForm at h
  obtain ⟨L, hL, hg⟩ := Option.bind_eq_some_iff.1 h
  obtain ⟨A, r0, rfl, a, a6, R⟩ := runsL_parse _ _ _ _ _ _ (by decide) hL
  rw [Nat.zero_add] at R a6
  rcases R with ⟨rfl, rfl⟩ | ⟨c1, q1, rfl, hc1, z1, _, R⟩
  · cases hg
  obtain ⟨M, r1, rfl, b, b6, R⟩ := runsL_parse _ _ _ _ _ _ (by decide) R
  rw [Nat.zero_add] at R b6
  rcases R with ⟨rfl, rfl⟩ | ⟨c2, q2, rfl, hc2, z2, _, R⟩
  · change cgood [(0, A.length, valD 0 A), ((c1.toNat : Int), M.length, valD 0 M)] = _ at hg
    rw [cgood2] at hg
    by_cases k : 0 < M.length ∧ faceOk [(0, A.length, valD 0 A), ((c1.toNat : Int), M.length, valD 0 M)] = true
    · rw [if_pos k] at hg
      obtain ⟨k1, k2, k3⟩ := (face2 _ _ _ _ _ _).1 k.2
      obtain rfl := m58 k3
      exact .inl ⟨A, M, ⟨a, by omega, by omega⟩, ⟨b, by omega, by omega⟩, by simp, (Option.some.inj hg).symm⟩
    · rw [if_neg k] at hg; cases hg
  obtain ⟨S, r2, rfl, c, c6, R⟩ := runsL_parse _ _ _ _ _ _ (by decide) R
  rw [Nat.zero_add] at R c6
  rcases R with ⟨rfl, rfl⟩ | ⟨c3, q3, rfl, hc3, z3, _, R⟩
  · change cgood [(0, A.length, valD 0 A), ((c1.toNat : Int), M.length, valD 0 M), ((c2.toNat : Int), S.length, valD 0 S)] = _ at hg
    rw [cgood3] at hg
    by_cases k : 0 < S.length ∧ faceOk [(0, A.length, valD 0 A), ((c1.toNat : Int), M.length, valD 0 M), ((c2.toNat : Int), S.length, valD 0 S)] = true
    · rw [if_pos k] at hg
      obtain ⟨k1, ⟨k2, k3⟩, k4, k5⟩ := (face3 _ _ _ _ _ _ _ _ _).1 k.2
      obtain rfl := m58 k3
      obtain rfl := m58 k5
      exact .inr (.inl ⟨A, M, S, ⟨a, by omega, by omega⟩, ⟨b, by omega, by omega⟩, ⟨c, by omega, by omega⟩, by simp, (Option.some.inj hg).symm⟩)
    · rw [if_neg k] at hg; cases hg
  obtain ⟨U, r3, rfl, d, d6, R⟩ := runsL_parse _ _ _ _ _ _ (by decide) R
  rw [Nat.zero_add] at R d6
  rcases R with ⟨rfl, rfl⟩ | ⟨c4, q4, rfl, hc4, z4, hz, R⟩
  · change cgood [(0, A.length, valD 0 A), ((c1.toNat : Int), M.length, valD 0 M), ((c2.toNat : Int), S.length, valD 0 S), ((c3.toNat : Int), U.length, valD 0 U)] = _ at hg
    rw [cgood4] at hg
    by_cases k : 0 < U.length ∧ faceOk [(0, A.length, valD 0 A), ((c1.toNat : Int), M.length, valD 0 M), ((c2.toNat : Int), S.length, valD 0 S)] = true ∧ (c3.toNat : Int) = 46
    · rw [if_pos k] at hg
      obtain ⟨k1, ⟨k2, k3⟩, k4, k5⟩ := (face3 _ _ _ _ _ _ _ _ _).1 k.2.1
      obtain rfl := m58 k3
      obtain rfl := m58 k5
      obtain rfl := m46 k.2.2
      exact .inr (.inr ⟨A, M, S, U, ⟨a, by omega, by omega⟩, ⟨b, by omega, by omega⟩, ⟨c, by omega, by omega⟩, ⟨d, by omega, by omega⟩, by simp, (Option.some.inj hg).symm⟩)
    · rw [if_neg k] at hg; cases hg
  · simp at hz

/-- the answer. -/
def ansV : Option (Int × Int × Int × Int) → Int
  | some (h, m, s, u) => mkV h m s u
  | none => 0
def ansE : Option (Int × Int × Int × Int) → Int
  | some (h, m, s, u) => mkE h m s u
  | none => 13

end Go.Proofs.YtgnfkkcagbbhmaaGreatDoor.Clk
