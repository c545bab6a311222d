/- Contracts: the reference's Long whole; clock.micros; clock.Read of four runs. -/
import Derived.Test.YtdkodkkbggdpbaaDoorDigD
import Derived.Test.YtdkodkkbggdpbaaDoorClkK
namespace Go.Proofs.YtdkodkkbggdpbaaDoor
open Go.RowKit
set_option linter.unusedVariables false

set_option maxRecDepth 100000 in
set_option maxHeartbeats 1000000 in
theorem micros_any (m : Int) (d : Nat) (n : Int) (hd : d ≤ 6) (h0 : 0 ≤ n) (hn : n < 10 ^ d) (w : World) :
    Calls Tryd.prog 35 #[.agg #[.int .i32 m, .int .i64 (d : Int), .int .i64 n]] w fun e w' => e = .returned (.int .i64 (n * 10 ^ (6 - d))) ∧ Below w.heap.size w w' := by
  obtain ⟨q, hq⟩ : ∃ q : Nat, q = 6 - d := ⟨_, rfl⟩
  have hqd : (6 : Int) - (d : Int) = (q : Int) := by omega
  have HN : Hid (∀ k : Nat, k ≤ q → 0 ≤ n * 10 ^ k ∧ n * 10 ^ k ≤ 999999) := fun k hk => by
    have p : (0 : Int) < 10 ^ k := Int.pow_pos (by decide)
    have a : 0 ≤ n * 10 ^ k := Int.mul_nonneg h0 (Int.le_of_lt p)
    have b : (n + 1) * 10 ^ k ≤ 10 ^ d * 10 ^ k := Int.mul_le_mul_of_nonneg_right (by omega) (Int.le_of_lt p)
    rw [← Int.pow_add, Int.add_mul, Int.one_mul] at b
    have c : (10 : Int) ^ (d + k) ≤ 10 ^ 6 := by
      have : ∀ z : Fin 7, (10 : Int) ^ z.val ≤ 1000000 := by decide
      exact this ⟨d + k, by omega⟩
    have : (10 : Int) ^ 6 = 1000000 := by decide
    omega
  rw [← hq]
  have hq6 : q ≤ 6 := by omega
  have HB0 : Hid (Below w.heap.size w (w.alloc (.cells #[.int .i32 m, .int .i64 (d : Int), .int .i64 n] 60))) := (Below.refl _ _).alloc (Nat.le_refl _) _
  clear hn h0 hq hd
  go_enter Tryd.func35, Tryd.ntmps35
  go_wp2_with fail
  go_loopw [3, 9] (fun v iv W => ∃ k : Nat, k ≤ q ∧ v = .int .i64 (n * 10 ^ k) ∧ iv = .int .i64 (k : Int) ∧ Below w.heap.size w W) (fun _ iv _ => q - (intOf iv).toNat)
  case atStart => exact ⟨0, Nat.zero_le _, by simp, rfl, HB0.out⟩
  case round =>
    obtain ⟨k, hk, rfl, rfl, hB⟩ := hrel
    have HB : Hid (Below w.heap.size w wr) := hB
    clear hB
    by_cases hkq : k < q
    · obtain ⟨y1, y2⟩ := HN.out k hk
      have HE : Hid (n * 10 ^ (k + 1) = n * 10 ^ k * 10) := by show _ = _; rw [Int.pow_succ, Int.mul_assoc]
      have hkq' : (k : Int) < (q : Int) := by omega
      generalize n * 10 ^ k = y at *
      go_wp2_with fail
      go_roundw
      case rel => exact ⟨k + 1, by omega, by rw [HE.out], rfl, HB.out⟩
      case measure => simp [intOf]; omega
    · obtain rfl : k = q := by omega
      have hkq' : ¬ (k : Int) < (k : Int) := by omega
      go_wp2_with fail
      go_ret
      exact ⟨rfl, HB.out⟩

set_option maxRecDepth 1000000 in
set_option maxHeartbeats 2000000 in
theorem read4 (s : ByteArray) (m0 m1 m2 : Int) (d0 d1 d2 d3 : Nat) (n0 n1 n2 n3 us : Int) (hG : Hid (runsF s s.size 0 [] (0, 0, 0) = some [(m0, d0, n0), (m1, d1, n1), (m2, d2, n2), (46, d3, n3)])) (hd2 : 0 < d3)
    (HU : Hid (∀ w : World, Calls Tryd.prog 35 #[.agg #[.int .i32 46, .int .i64 (d3 : Int), .int .i64 n3]] w fun e w' => e = .returned (.int .i64 us) ∧ Below w.heap.size w w')) (hf : Hid (faceOk [(m0, d0, n0), (m1, d1, n1), (m2, d2, n2)] = true)) (w : World) :
    Calls Tryd.prog 9 #[.string s] w fun e w' => e = .returned (.tuple #[.int .i64 (mkV n0 n1 n2 us), .int .i64 (mkE n0 n1 n2 us)]) ∧ Below w.heap.size w w' := by
  have HM : Hid (∀ w : World, Calls Tryd.prog 36 #[.int .i64 n0, .int .i64 n1, .int .i64 n2, .int .i64 us] w fun e w' => e = .returned (.tuple #[.int .i64 (mkV n0 n1 n2 us), .int .i64 (mkE n0 n1 n2 us)]) ∧ w' = w) := make_any n0 n1 n2 us
  generalize mkV n0 n1 n2 us = V at *
  generalize mkE n0 n1 n2 us = E at *
  go_enter Tryd.func9, Tryd.ntmps9
  go_wp2_with fail
  refine (runs_any s _).mono ?_
  rintro e w1 ⟨hb, hr⟩
  rw [hG.out] at hr
  obtain ⟨v, d, rfl, ho, hdl⟩ := hr
  obtain rfl : d3 = d := by simpa using hdl
  have hdec : decide (0 < d3) = true := decide_eq_true hd2
  rcases ho.2 with ⟨_, h0⟩ | ⟨g, cap, cur, rfl, hg, hblk, hcap, hcap2, hsz, htk⟩
  · simp at h0
  have hglt : g < w1.heap.size := (Array.getElem?_eq_some_iff.1 hblk).1
  have hc : Hid (∀ j u, (flat [(m0, d0, n0), (m1, d1, n1), (m2, d2, n2), (46, d3, n3)])[j]? = some u → w1.cell? ⟨g, j, none⟩ = some u) := fun j u hj => by
    have hlt : j < 12 := by
      have := (List.getElem?_eq_some_iff.1 hj).1
      rw [flat_length] at this
      simpa using this
    exact (ho.cellAt j (by simpa using hlt)).trans hj
  have c48 : Tryd.prog.cellsOf 60 = 3 := by kernel_rfl
  have k0 : w1.cell? ⟨g, 2, none⟩ = some (.int .i64 n0) := hc.out 2 _ rfl
  have k1 : w1.cell? ⟨g, 5, none⟩ = some (.int .i64 n1) := hc.out 5 _ rfl
  have k2 : w1.cell? ⟨g, 8, none⟩ = some (.int .i64 n2) := hc.out 8 _ rfl
  have k3 : w1.cell? ⟨g, 9, none⟩ = some (.int .i32 46) := hc.out 9 _ rfl
  have k4 : w1.cell? ⟨g, 10, none⟩ = some (.int .i64 (d3 : Int)) := hc.out 10 _ rfl
  have k5 : w1.cell? ⟨g, 11, none⟩ = some (.int .i64 n3) := hc.out 11 _ rfl
  have hcap' : 4 ≤ cap := by simpa using hcap
  have hc3 : Hid (∀ j u, (flat [(m0, d0, n0), (m1, d1, n1), (m2, d2, n2)])[j]? = some u → w1.cell? ⟨g, j, none⟩ = some u) := fun j u hj => hc.out j u (by
    have e : flat [(m0, d0, n0), (m1, d1, n1), (m2, d2, n2), (46, d3, n3)] = flat [(m0, d0, n0), (m1, d1, n1), (m2, d2, n2)] ++ flat [(46, d3, n3)] := rfl
    rw [e, List.getElem?_append_left (List.getElem?_eq_some_iff.1 hj).1]
    exact hj)
  have HB : Hid (Below w.heap.size w w1) := hb
  clear hb ho hblk hsz htk hdl
  simp only [List.length_cons, List.length_nil]
  have HF : Hid (Calls Tryd.prog 34 #[.slice (some ⟨g, 0, none⟩) 3 cap] w1 fun e w' => e = .returned (.bool true) ∧ Below w1.heap.size w1 w') := by
    have q := isFace_any [(m0, d0, n0), (m1, d1, n1), (m2, d2, n2)] g cap w1 hglt (by simp) (by simp; omega) hcap2 hc3
    rw [hf.out] at q
    exact q
  clear hcap
  go_wp2_with fail
  refine HF.out.mono ?_
  rintro e w2 ⟨rfl, hb2⟩
  have j0 : w2.cell? ⟨g, 2, none⟩ = some (.int .i64 n0) := (hb2.cell (p := ⟨g, 2, none⟩) hglt).trans k0
  have j1 : w2.cell? ⟨g, 5, none⟩ = some (.int .i64 n1) := (hb2.cell (p := ⟨g, 5, none⟩) hglt).trans k1
  have j2 : w2.cell? ⟨g, 8, none⟩ = some (.int .i64 n2) := (hb2.cell (p := ⟨g, 8, none⟩) hglt).trans k2
  have j3 : w2.cell? ⟨g, 9, none⟩ = some (.int .i32 46) := (hb2.cell (p := ⟨g, 9, none⟩) hglt).trans k3
  have j4 : w2.cell? ⟨g, 10, none⟩ = some (.int .i64 (d3 : Int)) := (hb2.cell (p := ⟨g, 10, none⟩) hglt).trans k4
  have j5 : w2.cell? ⟨g, 11, none⟩ = some (.int .i64 n3) := (hb2.cell (p := ⟨g, 11, none⟩) hglt).trans k5
  have HB2 : Hid (Below w.heap.size w w2) := HB.out.trans (hb2.mono HB.out.size)
  have hg2 : g < w2.heap.size := Nat.lt_of_lt_of_le hglt hb2.size
  clear hb2 k0 k1 k2 k3 k4 k5
  go_wp2_with fail
  refine (HU.out _).mono ?_
  rintro e w3 ⟨rfl, hb3⟩
  have i0 : w3.cell? ⟨g, 2, none⟩ = some (.int .i64 n0) := (hb3.cell (p := ⟨g, 2, none⟩) hg2).trans j0
  have i1 : w3.cell? ⟨g, 5, none⟩ = some (.int .i64 n1) := (hb3.cell (p := ⟨g, 5, none⟩) hg2).trans j1
  have HB3 : Hid (Below w.heap.size w w3) := HB2.out.trans (hb3.mono HB2.out.size)
  clear hb3 j0 j1 j2 j3 j4 j5
  go_wp2_with fail
  go_quiet (first | (go_at_call 36; refine Calls.quiet_of_same (HM.out _)))
  go_wp2
  go_ret2
  exact ⟨rfl, below_drewN HB3.out nq⟩

end Go.Proofs.YtdkodkkbggdpbaaDoor
