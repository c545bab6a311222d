import Derived.Test.YthhpdjjfbfkgiaaGreatDoorS12
import Derived.Deep.QuietTactic
import Derived.BigQuiet
/- Contract of clock.isFace: one or two digits, and twos of them behind colons. -/
namespace Go.Proofs.YthhpdjjfbfkgiaaGreatDoor.Clk
open Go.RowKit
set_option linter.unusedVariables false

theorem flat_at : ∀ (l : List Run) (i : Nat) (r : Run), l[i]? = some r → (flat l)[i * 3]? = some (.int .i32 r.1) ∧ (flat l)[i * 3 + 1]? = some (.int .i64 (r.2.1 : Int)) ∧ (flat l)[i * 3 + 2]? = some (.int .i64 r.2.2)
  | [], i, r, h => by simp at h
  | x :: l, 0, r, h => by simp at h; subst h; exact ⟨rfl, rfl, rfl⟩
  | x :: l, i + 1, r, h => by
    have q := flat_at l i r (by simpa using h)
    rw [show (i + 1) * 3 = i * 3 + 1 + 1 + 1 by omega]
    exact q

/-- is it not as it must be, at its place? -/
def badR (i : Nat) (r : Run) : Bool := if i = 0 then decide (2 < r.2.1) else (decide (r.2.1 ≠ 2) || decide (r.1 ≠ 58))
def faceFrom : Nat → List Run → Bool
  | _, [] => true
  | i, r :: l => !badR i r && faceFrom (i + 1) l
theorem faceFrom_step {l : List Run} {i : Nat} {r : Run} (h : l[i]? = some r) : faceFrom i (l.drop i) = (!badR i r && faceFrom (i + 1) (l.drop (i + 1))) := by
  obtain ⟨hl, he⟩ := List.getElem?_eq_some_iff.1 h
  rw [List.drop_eq_getElem_cons hl, he]
  rfl

def faceOk (l : List Run) : Bool := faceFrom 0 l && decide ((l.length : Int) ≤ 3)

set_option maxRecDepth 1000000 in
set_option maxHeartbeats 2000000 in
theorem isFace_any (l : List Run) (g cap : Nat) (w : World) (hg : g < w.heap.size) (hl : l.length ≤ 4) (hcap : l.length ≤ cap) (hcap2 : cap ≤ maxLen) (hc : Hid (∀ j u, (flat l)[j]? = some u → w.cell? ⟨g, j, none⟩ = some u)) :
    Calls Tryz.prog 135 #[.slice (some ⟨g, 0, none⟩) l.length cap] w fun e w' => e = .returned (.bool (faceOk l)) ∧ Below w.heap.size w w' := by
  go_enter Tryz.func135, Tryz.ntmps135
  go_wp2_with fail
  go_loopw [7] (fun k wr => ∃ i : Nat, i ≤ l.length ∧ k = .int .i64 (i : Int) ∧ Below w.heap.size w wr ∧ Hid (faceFrom i (l.drop i) = faceFrom 0 l)) (fun k _ => l.length - (intOf k).toNat)
  case atStart => exact ⟨0, by omega, rfl, Below.refl _ _, rfl⟩
  case round =>
    obtain ⟨i, hi, rfl, hB, HS⟩ := hrel
    have HB : Hid (Below w.heap.size w wr) := hB
    by_cases hlt : i < l.length
    · have hlt' : (i : Int) < (l.length : Int) := by omega
      obtain ⟨r, hr⟩ : ∃ r, l[i]? = some r := ⟨l[i]'hlt, List.getElem?_eq_getElem hlt⟩
      obtain ⟨q1, q2, q3⟩ := flat_at l i r hr
      have k1 : wr.cell? ⟨g, i * 3, none⟩ = some (.int .i32 r.1) := (hB.cell (p := ⟨g, i * 3, none⟩) hg).trans (hc.out _ _ q1)
      have k2 : wr.cell? ⟨g, i * 3 + 1, none⟩ = some (.int .i64 (r.2.1 : Int)) := (hB.cell (p := ⟨g, i * 3 + 1, none⟩) hg).trans (hc.out _ _ q2)
      have k3 : wr.cell? ⟨g, i * 3 + 2, none⟩ = some (.int .i64 r.2.2) := (hB.cell (p := ⟨g, i * 3 + 2, none⟩) hg).trans (hc.out _ _ q3)
      have c48 : Tryz.prog.cellsOf 231 = 3 := by kernel_rfl
      have HE := faceFrom_step hr
      obtain ⟨m, d, n⟩ := r
      simp only at k1 k2 k3
      have i0 : (0 : Int) ≤ (i : Int) := by omega
      clear q1 q2 q3 hB hr
      by_cases hbad : badR i (m, d, n) = true
      · have HF : Hid (faceOk l = false) := by show _ = _; unfold faceOk; rw [← HS.out, HE, hbad]; rfl
        clear HE
        unfold badR at hbad
        by_cases iz : i = 0
        · rw [if_pos iz] at hbad
          have h2 : (2 : Int) < (d : Int) := by have := of_decide_eq_true hbad; simp only at this; omega
          subst iz
          clear hbad
          go_wp2
          go_ret
          exact ⟨ret_bool HF.out.symm, HB.out.alloc HB.out.size _⟩
        · rw [if_neg iz] at hbad
          have iz0 : ((i : Int) == 0) = false := by rw [beq_eq_false_iff_ne]; omega
          have iz1 : (0 : Int) < (i : Int) := by omega
          rw [Bool.or_eq_true] at hbad
          by_cases hd : d = 2
          · have hm : (m != 58) = true := by
              rcases hbad with hbad | hbad
              · exact absurd hd (of_decide_eq_true hbad)
              · rw [bne_iff_ne]; exact of_decide_eq_true hbad
            have hd' : ((d : Int) != 2) = false := by rw [hd]; rfl
            clear hbad
            go_wp2
            go_ret
            exact ⟨ret_bool HF.out.symm, HB.out.alloc HB.out.size _⟩
          · have hd' : ((d : Int) != 2) = true := by rw [bne_iff_ne]; omega
            clear hbad
            go_wp2
            go_ret
            exact ⟨ret_bool HF.out.symm, HB.out.alloc HB.out.size _⟩
      · have hbf : badR i (m, d, n) = false := by simpa using hbad
        have HN : Hid (faceFrom (i + 1) (l.drop (i + 1)) = faceFrom 0 l) := by show _ = _; rw [← HS.out, HE, hbf]; simp
        clear HE hbad
        unfold badR at hbf
        by_cases iz : i = 0
        · rw [if_pos iz] at hbf
          have h2 : ¬ (2 : Int) < (d : Int) := by have := of_decide_eq_false hbf; simp only at this; omega
          subst iz
          clear hbf
          go_wp2
          go_roundw
          case rel => exact ⟨1, by omega, rfl, HB.out.alloc HB.out.size _, HN⟩
          case measure => simp [intOf]; omega
        · rw [if_neg iz, Bool.or_eq_false_iff] at hbf
          have iz0 : ((i : Int) == 0) = false := by rw [beq_eq_false_iff_ne]; omega
          have iz1 : (0 : Int) < (i : Int) := by omega
          have hd : d = 2 := by have := of_decide_eq_false hbf.1; simpa using this
          have hm : m = 58 := by have := of_decide_eq_false hbf.2; simpa using this
          subst hd hm
          clear hbf
          go_wp2
          go_roundw
          case rel => exact ⟨i + 1, by omega, by go_num, HB.out.alloc HB.out.size _, HN⟩
          case measure => simp [intOf]; omega
    · have hlt' : ¬ (i : Int) < (l.length : Int) := by omega
      have HF : Hid (faceOk l = decide ((l.length : Int) ≤ 3)) := by
        show _ = _
        unfold faceOk
        rw [← HS.out, List.drop_of_length_le (by omega)]
        rfl
      go_wp2
      go_ret
      exact ⟨ret_bool HF.out.symm, HB.out⟩

end Go.Proofs.YthhpdjjfbfkgiaaGreatDoor.Clk
/- Contract of clock.Read, way by way. -/
namespace Go.Proofs.YthhpdjjfbfkgiaaGreatDoor.Clk
open Go.RowKit
set_option linter.unusedVariables false

set_option maxRecDepth 1000000 in
set_option maxHeartbeats 2000000 in
theorem read3 (s : ByteArray) (m0 m1 m2 : Int) (d0 d1 d2 : Nat) (n0 n1 n2 : Int) (hG : Hid (runsF s s.size 0 [] (0, 0, 0) = some [(m0, d0, n0), (m1, d1, n1), (m2, d2, n2)])) (hd2 : 0 < d2) (hf : Hid (faceOk [(m0, d0, n0), (m1, d1, n1), (m2, d2, n2)] = true)) (w : World) :
    Calls Tryz.prog 133 #[.string s] w fun e w' => e = .returned (.tuple #[.int .i64 (mkV n0 n1 n2 0), .int .i64 (mkE n0 n1 n2 0)]) ∧ Below w.heap.size w w' := by
  have HM : Hid (∀ w : World, Calls Tryz.prog 137 #[.int .i64 n0, .int .i64 n1, .int .i64 n2, .int .i64 0] w fun e w' => e = .returned (.tuple #[.int .i64 (mkV n0 n1 n2 0), .int .i64 (mkE n0 n1 n2 0)]) ∧ w' = w) := make_any n0 n1 n2 0
  generalize mkV n0 n1 n2 0 = V at *
  generalize mkE n0 n1 n2 0 = E at *
  go_enter Tryz.func133, Tryz.ntmps133
  go_wp2_with fail
  refine (runs_any s _).mono ?_
  rintro e w1 ⟨hb, hr⟩
  rw [hG.out] at hr
  obtain ⟨v, d, rfl, ho, hdl⟩ := hr
  obtain rfl : d2 = d := by simpa using hdl
  have hdec : decide (0 < d2) = true := decide_eq_true hd2
  rcases ho.2 with ⟨_, h0⟩ | ⟨g, cap, cur, rfl, hg, hblk, hcap, hcap2, hsz, htk⟩
  · simp at h0
  have hglt : g < w1.heap.size := (Array.getElem?_eq_some_iff.1 hblk).1
  have hc : Hid (∀ j u, (flat [(m0, d0, n0), (m1, d1, n1), (m2, d2, n2)])[j]? = some u → w1.cell? ⟨g, j, none⟩ = some u) := fun j u hj => by
    have hlt : j < 9 := by
      have := (List.getElem?_eq_some_iff.1 hj).1
      rw [flat_length] at this
      simpa using this
    exact (ho.cellAt j (by simpa using hlt)).trans hj
  have c48 : Tryz.prog.cellsOf 231 = 3 := by kernel_rfl
  have k0 : w1.cell? ⟨g, 2, none⟩ = some (.int .i64 n0) := hc.out 2 _ rfl
  have k1 : w1.cell? ⟨g, 5, none⟩ = some (.int .i64 n1) := hc.out 5 _ rfl
  have k2 : w1.cell? ⟨g, 8, none⟩ = some (.int .i64 n2) := hc.out 8 _ rfl
  have hcap' : 3 ≤ cap := by simpa using hcap
  have HB : Hid (Below w.heap.size w w1) := hb
  clear hb ho hblk hsz htk hdl
  simp only [List.length_cons, List.length_nil]
  have HF : Hid (Calls Tryz.prog 135 #[.slice (some ⟨g, 0, none⟩) 3 cap] w1 fun e w' => e = .returned (.bool true) ∧ Below w1.heap.size w1 w') := by
    have q := isFace_any [(m0, d0, n0), (m1, d1, n1), (m2, d2, n2)] g cap w1 hglt (by simp) hcap hcap2 hc
    rw [hf.out] at q
    exact q
  clear hcap
  go_wp2_with fail
  refine HF.out.mono ?_
  rintro e w2 ⟨rfl, hb2⟩
  have j0 : w2.cell? ⟨g, 2, none⟩ = some (.int .i64 n0) := (hb2.cell (p := ⟨g, 2, none⟩) hglt).trans k0
  have j1 : w2.cell? ⟨g, 5, none⟩ = some (.int .i64 n1) := (hb2.cell (p := ⟨g, 5, none⟩) hglt).trans k1
  have j2 : w2.cell? ⟨g, 8, none⟩ = some (.int .i64 n2) := (hb2.cell (p := ⟨g, 8, none⟩) hglt).trans k2
  have HB2 : Hid (Below w.heap.size w w2) := HB.out.trans (hb2.mono HB.out.size)
  clear hb2 k0 k1 k2
  go_wp2_with fail
  go_quiet (first | (go_at_call 137; refine Calls.quiet_of_same (HM.out _)))
  go_wp2
  go_ret2
  exact ⟨rfl, below_drewN HB2.out nq⟩

end Go.Proofs.YthhpdjjfbfkgiaaGreatDoor.Clk
/- What the law's fixed calls come to. -/
namespace Go.Proofs.YthhpdjjfbfkgiaaGreatDoor.Clk
open Go.RowKit
set_option linter.unusedVariables false

end Go.Proofs.YthhpdjjfbfkgiaaGreatDoor.Clk
/- DigB, DigC, DigD, DigE, DigF, ScnA, ScnB, ScnC, ScnD, RunMath, as one text. -/
/- Contracts of the reference's Two, Text and Long, over its Fraction. -/
namespace Go.Proofs.YthhpdjjfbfkgiaaGreatDoor.Clk
open Go.RowKit
set_option linter.unusedVariables false

end Go.Proofs.YthhpdjjfbfkgiaaGreatDoor.Clk

/- Contract of the reference's Fraction: microseconds behind a point. -/
namespace Go.Proofs.YthhpdjjfbfkgiaaGreatDoor.Clk
open Go.RowKit
set_option linter.unusedVariables false

end Go.Proofs.YthhpdjjfbfkgiaaGreatDoor.Clk

/- Contracts of the reference's Text and Long. -/
namespace Go.Proofs.YthhpdjjfbfkgiaaGreatDoor.Clk
open Go.RowKit
set_option linter.unusedVariables false

end Go.Proofs.YthhpdjjfbfkgiaaGreatDoor.Clk

/- Contracts: the reference's Long whole; clock.micros; clock.Read of four runs. -/
namespace Go.Proofs.YthhpdjjfbfkgiaaGreatDoor.Clk
open Go.RowKit
set_option linter.unusedVariables false

set_option maxRecDepth 100000 in
set_option maxHeartbeats 1000000 in
theorem micros_any (m : Int) (d : Nat) (n : Int) (hd : d ≤ 6) (h0 : 0 ≤ n) (hn : n < 10 ^ d) (w : World) :
    Calls Tryz.prog 136 #[.agg #[.int .i32 m, .int .i64 (d : Int), .int .i64 n]] w fun e w' => e = .returned (.int .i64 (n * 10 ^ (6 - d))) ∧ Below w.heap.size w w' := by
  obtain ⟨q, hq⟩ : ∃ q : Nat, q = 6 - d := ⟨_, rfl⟩
  have hqd : (6 : Int) - (d : Int) = (q : Int) := by omega
  have HN : Hid (∀ k : Nat, k ≤ q → 0 ≤ n * 10 ^ k ∧ n * 10 ^ k ≤ 999999) := fun k hk => by
    have p : (0 : Int) < 10 ^ k := Int.pow_pos (by decide)
    have a : 0 ≤ n * 10 ^ k := Int.mul_nonneg h0 (Int.le_of_lt p)
    have b : (n + 1) * 10 ^ k ≤ 10 ^ d * 10 ^ k := Int.mul_le_mul_of_nonneg_right (by omega) (Int.le_of_lt p)
    rw [← Int.pow_add, Int.add_mul, Int.one_mul] at b
    have c : (10 : Int) ^ (d + k) ≤ 10 ^ 6 := by
      have : ∀ z : Fin 7, (10 : Int) ^ z.val ≤ 1000000 := by decide
      exact this ⟨d + k, by omega⟩
    have : (10 : Int) ^ 6 = 1000000 := by decide
    omega
  rw [← hq]
  have hq6 : q ≤ 6 := by omega
  have HB0 : Hid (Below w.heap.size w (w.alloc (.cells #[.int .i32 m, .int .i64 (d : Int), .int .i64 n] 231))) := (Below.refl _ _).alloc (Nat.le_refl _) _
  clear hn h0 hq hd
  go_enter Tryz.func136, Tryz.ntmps136
  go_wp2_with fail
  go_loopw [3, 9] (fun v iv W => ∃ k : Nat, k ≤ q ∧ v = .int .i64 (n * 10 ^ k) ∧ iv = .int .i64 (k : Int) ∧ Below w.heap.size w W) (fun _ iv _ => q - (intOf iv).toNat)
  case atStart => exact ⟨0, Nat.zero_le _, by simp, rfl, HB0.out⟩
  case round =>
    obtain ⟨k, hk, rfl, rfl, hB⟩ := hrel
    have HB : Hid (Below w.heap.size w wr) := hB
    clear hB
    by_cases hkq : k < q
    · obtain ⟨y1, y2⟩ := HN.out k hk
      have HE : Hid (n * 10 ^ (k + 1) = n * 10 ^ k * 10) := by show _ = _; rw [Int.pow_succ, Int.mul_assoc]
      have hkq' : (k : Int) < (q : Int) := by omega
      generalize n * 10 ^ k = y at *
      go_wp2_with fail
      go_roundw
      case rel => exact ⟨k + 1, by omega, by rw [HE.out], rfl, HB.out⟩
      case measure => simp [intOf]; omega
    · obtain rfl : k = q := by omega
      have hkq' : ¬ (k : Int) < (k : Int) := by omega
      go_wp2_with fail
      go_ret
      exact ⟨rfl, HB.out⟩

set_option maxRecDepth 1000000 in
set_option maxHeartbeats 2000000 in
theorem read4 (s : ByteArray) (m0 m1 m2 : Int) (d0 d1 d2 d3 : Nat) (n0 n1 n2 n3 us : Int) (hG : Hid (runsF s s.size 0 [] (0, 0, 0) = some [(m0, d0, n0), (m1, d1, n1), (m2, d2, n2), (46, d3, n3)])) (hd2 : 0 < d3)
    (HU : Hid (∀ w : World, Calls Tryz.prog 136 #[.agg #[.int .i32 46, .int .i64 (d3 : Int), .int .i64 n3]] w fun e w' => e = .returned (.int .i64 us) ∧ Below w.heap.size w w')) (hf : Hid (faceOk [(m0, d0, n0), (m1, d1, n1), (m2, d2, n2)] = true)) (w : World) :
    Calls Tryz.prog 133 #[.string s] w fun e w' => e = .returned (.tuple #[.int .i64 (mkV n0 n1 n2 us), .int .i64 (mkE n0 n1 n2 us)]) ∧ Below w.heap.size w w' := by
  have HM : Hid (∀ w : World, Calls Tryz.prog 137 #[.int .i64 n0, .int .i64 n1, .int .i64 n2, .int .i64 us] w fun e w' => e = .returned (.tuple #[.int .i64 (mkV n0 n1 n2 us), .int .i64 (mkE n0 n1 n2 us)]) ∧ w' = w) := make_any n0 n1 n2 us
  generalize mkV n0 n1 n2 us = V at *
  generalize mkE n0 n1 n2 us = E at *
  go_enter Tryz.func133, Tryz.ntmps133
  go_wp2_with fail
  refine (runs_any s _).mono ?_
  rintro e w1 ⟨hb, hr⟩
  rw [hG.out] at hr
  obtain ⟨v, d, rfl, ho, hdl⟩ := hr
  obtain rfl : d3 = d := by simpa using hdl
  have hdec : decide (0 < d3) = true := decide_eq_true hd2
  rcases ho.2 with ⟨_, h0⟩ | ⟨g, cap, cur, rfl, hg, hblk, hcap, hcap2, hsz, htk⟩
  · simp at h0
  have hglt : g < w1.heap.size := (Array.getElem?_eq_some_iff.1 hblk).1
  have hc : Hid (∀ j u, (flat [(m0, d0, n0), (m1, d1, n1), (m2, d2, n2), (46, d3, n3)])[j]? = some u → w1.cell? ⟨g, j, none⟩ = some u) := fun j u hj => by
    have hlt : j < 12 := by
      have := (List.getElem?_eq_some_iff.1 hj).1
      rw [flat_length] at this
      simpa using this
    exact (ho.cellAt j (by simpa using hlt)).trans hj
  have c48 : Tryz.prog.cellsOf 231 = 3 := by kernel_rfl
  have k0 : w1.cell? ⟨g, 2, none⟩ = some (.int .i64 n0) := hc.out 2 _ rfl
  have k1 : w1.cell? ⟨g, 5, none⟩ = some (.int .i64 n1) := hc.out 5 _ rfl
  have k2 : w1.cell? ⟨g, 8, none⟩ = some (.int .i64 n2) := hc.out 8 _ rfl
  have k3 : w1.cell? ⟨g, 9, none⟩ = some (.int .i32 46) := hc.out 9 _ rfl
  have k4 : w1.cell? ⟨g, 10, none⟩ = some (.int .i64 (d3 : Int)) := hc.out 10 _ rfl
  have k5 : w1.cell? ⟨g, 11, none⟩ = some (.int .i64 n3) := hc.out 11 _ rfl
  have hcap' : 4 ≤ cap := by simpa using hcap
  have hc3 : Hid (∀ j u, (flat [(m0, d0, n0), (m1, d1, n1), (m2, d2, n2)])[j]? = some u → w1.cell? ⟨g, j, none⟩ = some u) := fun j u hj => hc.out j u (by
    have e : flat [(m0, d0, n0), (m1, d1, n1), (m2, d2, n2), (46, d3, n3)] = flat [(m0, d0, n0), (m1, d1, n1), (m2, d2, n2)] ++ flat [(46, d3, n3)] := rfl
    rw [e, List.getElem?_append_left (List.getElem?_eq_some_iff.1 hj).1]
    exact hj)
  have HB : Hid (Below w.heap.size w w1) := hb
  clear hb ho hblk hsz htk hdl
  simp only [List.length_cons, List.length_nil]
  have HF : Hid (Calls Tryz.prog 135 #[.slice (some ⟨g, 0, none⟩) 3 cap] w1 fun e w' => e = .returned (.bool true) ∧ Below w1.heap.size w1 w') := by
    have q := isFace_any [(m0, d0, n0), (m1, d1, n1), (m2, d2, n2)] g cap w1 hglt (by simp) (by simp; omega) hcap2 hc3
    rw [hf.out] at q
    exact q
  clear hcap
  go_wp2_with fail
  refine HF.out.mono ?_
  rintro e w2 ⟨rfl, hb2⟩
  have j0 : w2.cell? ⟨g, 2, none⟩ = some (.int .i64 n0) := (hb2.cell (p := ⟨g, 2, none⟩) hglt).trans k0
  have j1 : w2.cell? ⟨g, 5, none⟩ = some (.int .i64 n1) := (hb2.cell (p := ⟨g, 5, none⟩) hglt).trans k1
  have j2 : w2.cell? ⟨g, 8, none⟩ = some (.int .i64 n2) := (hb2.cell (p := ⟨g, 8, none⟩) hglt).trans k2
  have j3 : w2.cell? ⟨g, 9, none⟩ = some (.int .i32 46) := (hb2.cell (p := ⟨g, 9, none⟩) hglt).trans k3
  have j4 : w2.cell? ⟨g, 10, none⟩ = some (.int .i64 (d3 : Int)) := (hb2.cell (p := ⟨g, 10, none⟩) hglt).trans k4
  have j5 : w2.cell? ⟨g, 11, none⟩ = some (.int .i64 n3) := (hb2.cell (p := ⟨g, 11, none⟩) hglt).trans k5
  have HB2 : Hid (Below w.heap.size w w2) := HB.out.trans (hb2.mono HB.out.size)
  have hg2 : g < w2.heap.size := Nat.lt_of_lt_of_le hglt hb2.size
  clear hb2 k0 k1 k2 k3 k4 k5
  go_wp2_with fail
  refine (HU.out _).mono ?_
  rintro e w3 ⟨rfl, hb3⟩
  have i0 : w3.cell? ⟨g, 2, none⟩ = some (.int .i64 n0) := (hb3.cell (p := ⟨g, 2, none⟩) hg2).trans j0
  have i1 : w3.cell? ⟨g, 5, none⟩ = some (.int .i64 n1) := (hb3.cell (p := ⟨g, 5, none⟩) hg2).trans j1
  have HB3 : Hid (Below w.heap.size w w3) := HB2.out.trans (hb3.mono HB2.out.size)
  clear hb3 j0 j1 j2 j3 j4 j5
  go_wp2_with fail
  go_quiet (first | (go_at_call 137; refine Calls.quiet_of_same (HM.out _)))
  go_wp2
  go_ret2
  exact ⟨rfl, below_drewN HB3.out nq⟩

end Go.Proofs.YthhpdjjfbfkgiaaGreatDoor.Clk

/- A time's text is read again as it was: the runs of the text that clock.Text writes. -/
namespace Go.Proofs.YthhpdjjfbfkgiaaGreatDoor.Clk
open Go.RowKit
set_option linter.unusedVariables false

theorem at_of {s : ByteArray} {p q : List UInt8} {c : UInt8} {pos : Nat} (hs : s.data.toList = p ++ c :: q) (hp : p.length = pos) (hc : c.toNat < 128) :
    ∃ h : pos < s.size, Utf8.decode s pos = (c.toNat, 1) := by
  have hz : s.size = p.length + (q.length + 1) := by
    have : s.data.toList.length = p.length + (q.length + 1) := by rw [hs]; simp
    rw [← this]; simp
  have h : pos < s.size := by omega
  have hg : s[pos]'h = c := by
    show s.data[pos]'h = c
    rw [← Array.getElem_toList]
    have : s.data.toList[pos]? = some c := by rw [hs, ← hp]; simp
    exact (List.getElem?_eq_some_iff.1 this).2
  exact ⟨h, by rw [decode_ascii s pos h (by rw [hg]; exact hc), hg]⟩
end Go.Proofs.YthhpdjjfbfkgiaaGreatDoor.Clk

/- Contracts of the reference's scan: a sign that may come, a number of some digits. -/
namespace Go.Proofs.YthhpdjjfbfkgiaaGreatDoor.Clk
open Go.RowKit
set_option linter.unusedVariables false

/-- the scan's block: what is left of the text, and whether something was wrong. -/
def SBox (w : World) (b : Nat) (l : List UInt8) (bad : Bool) : Prop :=
  b < w.heap.size ∧ w.cell? ⟨b, 0, none⟩ = some (.string ⟨l.toArray⟩) ∧ w.cell? ⟨b, 1, none⟩ = some (.bool bad) ∧ w.frozen? ⟨b, 0, none⟩ = false ∧ w.frozen? ⟨b, 1, none⟩ = false
theorem SBox.set1 {w : World} {b : Nat} {l : List UInt8} {bad : Bool} (h : SBox w b l bad) (q : Bool) : SBox (w.setCell ⟨b, 1, none⟩ (.bool q)) b l q := by
  obtain ⟨h1, h2, h3, h4, h5⟩ := h
  exact ⟨by simpa [World.setCell] using h1, (World.cell?_setCell_other _ _ _ _ (addr_ne (by decide))).trans h2, World.cell?_setCell_same _ _ _ h3, by simpa using h4, by simpa using h5⟩
theorem SBox.below {w w1 : World} {b : Nat} {l : List UInt8} {bad : Bool} (h : SBox w b l bad) {B : Nat} (hb : Below B w w1) (hB : b < B) : SBox w1 b l bad :=
  ⟨Nat.lt_of_lt_of_le h.1 hb.size, (hb.cell (p := ⟨b, 0, none⟩) hB).trans h.2.1, (hb.cell (p := ⟨b, 1, none⟩) hB).trans h.2.2.1, (hb.frozen (p := ⟨b, 0, none⟩) hB).trans h.2.2.2.1, (hb.frozen (p := ⟨b, 1, none⟩) hB).trans h.2.2.2.2⟩

/-- digits at the beginning, no more than these. -/
def isDg (c : UInt8) : Bool := decide (48 ≤ c.toNat) && decide (c.toNat ≤ 57)
end Go.Proofs.YthhpdjjfbfkgiaaGreatDoor.Clk

/- Contract of the reference's Read: what a scan of the text comes to. -/
namespace Go.Proofs.YthhpdjjfbfkgiaaGreatDoor.Clk
open Go.RowKit
set_option linter.unusedVariables false

/-- the answer, if nothing is wrong and nothing left. -/
def rdV (q : Bool) (r : List UInt8) (v : Int) : Int := if q = false ∧ r = [] then v else 0
def rdE (q : Bool) (r : List UInt8) (e : Int) : Int := if q = false ∧ r = [] then e else 13
theorem SBox.new (w : World) (l : List UInt8) (s : ByteArray) (hs : s = ⟨l.toArray⟩) (t : TypeId) : SBox (w.alloc (.cells #[.string s, .bool false] t)) w.heap.size l false := by
  subst hs
  exact ⟨by simp, by rw [World.cell?_alloc_at _ _ _ _ rfl]; rfl, by rw [World.cell?_alloc_at _ _ _ _ rfl]; rfl, by rw [World.frozen?_alloc_at _ _ _ _ rfl], by rw [World.frozen?_alloc_at _ _ _ _ rfl]⟩
end Go.Proofs.YthhpdjjfbfkgiaaGreatDoor.Clk

/- Contract of the reference's Read where seconds come, and no fraction. -/
namespace Go.Proofs.YthhpdjjfbfkgiaaGreatDoor.Clk
open Go.RowKit
set_option linter.unusedVariables false

end Go.Proofs.YthhpdjjfbfkgiaaGreatDoor.Clk

/- Contract of the reference's Read where seconds and a fraction come. -/
namespace Go.Proofs.YthhpdjjfbfkgiaaGreatDoor.Clk
open Go.RowKit
set_option linter.unusedVariables false

end Go.Proofs.YthhpdjjfbfkgiaaGreatDoor.Clk

/- Mathematics: what clock.runs finds in a text, over its bytes; what a time's text looks like; the scan finds just that. -/
namespace Go.Proofs.YthhpdjjfbfkgiaaGreatDoor.Clk
open Go.RowKit
set_option linter.unusedVariables false

/-- clock.runs over bytes. -/
def runsL : List UInt8 → List Run → Run → Option (List Run)
  | [], l, r => some (l ++ [r])
  | c :: q, l, r =>
    if isDg c = true ∧ r.2.1 < 6 then runsL q l (r.1, r.2.1 + 1, r.2.2 * 10 + ((c.toNat : Int) - 48))
    else if (c = 58 ∨ c = 46) ∧ 0 < r.2.1 ∧ l.length < 3 then runsL q (l ++ [r]) ((c.toNat : Int), 0, 0)
    else none
theorem isDg_iff (c : UInt8) : isDg c = true ↔ 48 ≤ c.toNat ∧ c.toNat ≤ 57 := by
  unfold isDg; rw [Bool.and_eq_true, decide_eq_true_iff, decide_eq_true_iff]
theorem mark_nat (c : UInt8) : (c = 58 ∨ c = 46) ↔ (c.toNat = 58 ∨ c.toNat = 46) := by
  constructor
  · rintro (rfl | rfl) <;> decide
  · rintro (h | h)
    · exact .inl (UInt8.toNat_inj.1 h)
    · exact .inr (UInt8.toNat_inj.1 h)
theorem runsF_L (s : ByteArray) : ∀ (q p : List UInt8) (f : Nat) (l : List Run) (r : Run), s.data.toList = p ++ q → q.length ≤ f → runsF s f p.length l r = runsL q l r
  | [], p, f, l, r, hs, hf => by
    have hz : s.size = p.length := by
      have : s.data.toList.length = p.length := by rw [hs]; simp
      rw [← this]; simp
    rw [runsF_end s f _ l r (by omega)]; rfl
  | c :: q, p, f, l, r, hs, hf => by
    obtain ⟨f', rfl⟩ : ∃ f', f = f' + 1 := ⟨f - 1, by simp at hf; omega⟩
    have hf' : q.length ≤ f' := by simp at hf; omega
    obtain ⟨m, d, n⟩ := r
    have hz : s.size = p.length + (q.length + 1) := by
      have : s.data.toList.length = p.length + (q.length + 1) := by rw [hs]; simp
      rw [← this]; simp
    have ih : ∀ (l : List Run) (r : Run), runsF s f' (p.length + 1) l r = runsL q l r := fun l r => by
      have := runsF_L s q (p ++ [c]) f' l r (by rw [hs]; simp) hf'
      rwa [List.length_append] at this
    by_cases hc : c.toNat < 128
    · obtain ⟨h, e⟩ := at_of hs rfl hc
      have eR : ((Utf8.decode s p.length).1 : Int) = (c.toNat : Int) := by rw [e]
      unfold runsL
      by_cases h1 : isDg c = true ∧ d < 6
      · rw [if_pos h1, runsF_digit h eR (by have := (isDg_iff c).1 h1.1; omega) (by have := (isDg_iff c).1 h1.1; omega) h1.2, e]
        exact ih _ _
      · rw [if_neg h1]
        by_cases h2 : (c = 58 ∨ c = 46) ∧ 0 < d ∧ l.length < 3
        · rw [if_pos h2, runsF_mark h eR (by have := (mark_nat c).1 h2.1; omega) h2.2.1 h2.2.2, e]
          exact ih _ _
        · rw [if_neg h2]
          refine runsF_no h eR (fun k => h1 ⟨(isDg_iff c).2 ⟨by omega, by omega⟩, k.2.2⟩) (fun k => h2 ⟨(mark_nat c).2 (by omega), k.2⟩)
    · have h : p.length < s.size := by omega
      have hg : s[p.length]'h = c := by
        show s.data[p.length]'h = c
        rw [← Array.getElem_toList]
        have : s.data.toList[p.length]? = some c := by rw [hs]; simp
        exact (List.getElem?_eq_some_iff.1 this).2
      have hi := (decode_high s p.length h (by rw [hg]; omega)).1
      unfold runsL
      rw [if_neg (fun k => by have := (isDg_iff c).1 k.1; omega), if_neg (fun k => by have := (mark_nat c).1 k.1; omega)]
      exact runsF_no h rfl (fun k => by omega) (fun k => by omega)

/-- what the program makes of the runs. -/
def cgood : List Run → Option (Int × Int × Int × Int)
  | [r0, r1] => if 0 < r1.2.1 ∧ faceOk [r0, r1] = true then some (r0.2.2, r1.2.2, 0, 0) else none
  | [r0, r1, r2] => if 0 < r2.2.1 ∧ faceOk [r0, r1, r2] = true then some (r0.2.2, r1.2.2, r2.2.2, 0) else none
  | [r0, r1, r2, r3] => if 0 < r3.2.1 ∧ faceOk [r0, r1, r2] = true ∧ r3.1 = 46 then some (r0.2.2, r1.2.2, r2.2.2, r3.2.2 * 10 ^ (6 - r3.2.1)) else none
  | _ => none
def cForm (l : List UInt8) : Option (Int × Int × Int × Int) := (runsL l [] (0, 0, 0)).bind cgood

/-- the answer. -/
def ansV : Option (Int × Int × Int × Int) → Int
  | some (h, m, s, u) => mkV h m s u
  | none => 0
def ansE : Option (Int × Int × Int × Int) → Int
  | some (h, m, s, u) => mkE h m s u
  | none => 13

end Go.Proofs.YthhpdjjfbfkgiaaGreatDoor.Clk
