/- Contracts: the reference's Long whole; clock.micros; clock.Read of four runs. -/
import Derived.Test.YtlhlanekklonmaaDoorDigD
import Derived.Test.YtlhlanekklonmaaDoorClkK
namespace Go.Proofs.YtlhlanekklonmaaDoor
open Go.RowKit
set_option linter.unusedVariables false

theorem nil_append (A : ByteArray) : (⟨#[]⟩ : ByteArray) ++ A = A := by apply ByteArray.ext; simp
theorem elong_any (n : Int) (h1 : -9223372036854775808 ≤ n) (h2 : n ≤ 9223372036854775807) (w : World) :
    Calls Tryd.prog 15 #[.int .i64 n] w fun e w' => e = .returned (.string (longB n)) ∧ Below w.heap.size w w' := by
  obtain ⟨u, hu⟩ : ∃ u : Int, u = n.natAbs := ⟨_, rfl⟩
  have u0 : 0 ≤ u := by omega
  have es : u.tdiv 1000000 = u / 1000000 := Int.tdiv_eq_ediv_of_nonneg u0
  have er : u.tmod 1000000 = u % 1000000 := Int.tmod_eq_emod_of_nonneg u0
  have ea : (u / 1000000).tdiv 3600 = u / 3600000000 := by rw [Int.tdiv_eq_ediv_of_nonneg (by omega)]; omega
  have eb : (u / 1000000).tdiv 60 = u / 60000000 := by rw [Int.tdiv_eq_ediv_of_nonneg (by omega)]; omega
  have ec : (u / 60000000).tmod 60 = u / 60000000 % 60 := Int.tmod_eq_emod_of_nonneg (by omega)
  have ed : (u / 1000000).tmod 60 = u / 1000000 % 60 := Int.tmod_eq_emod_of_nonneg (by omega)
  have f1 : u.tdiv 3600000000 = u / 3600000000 := Int.tdiv_eq_ediv_of_nonneg u0
  have f2 : u.tdiv 60000000 = u / 60000000 := Int.tdiv_eq_ediv_of_nonneg u0
  have hl : ∃ G : ByteArray, ((n < 0 ∧ IntKind.u64.wrap (-(IntKind.u64.wrap n)) = u ∧ G = ⟨#[45]⟩) ∨ (0 ≤ n ∧ n = u ∧ G = ⟨#[]⟩)) ∧ longB n = G ++ faceB (u / 3600000000) (u / 60000000 % 60) (u / 1000000 % 60) (u % 1000000) := by
    by_cases h : n < 0
    · refine ⟨⟨#[45]⟩, .inl ⟨h, by rw [IntKind.wrap_u64, IntKind.wrap_u64]; omega, rfl⟩, ?_⟩
      have hn : n = -u := by omega
      unfold longB
      rw [if_pos h, hn, Int.neg_tdiv, Int.neg_tdiv, Int.neg_tdiv, Int.neg_tmod, Int.neg_tmod, Int.neg_tmod, f1, f2, es, er, ec, ed, Int.neg_neg, Int.neg_neg, Int.neg_neg, Int.neg_neg]
    · refine ⟨⟨#[]⟩, .inr ⟨by omega, by omega, rfl⟩, ?_⟩
      have hn : n = u := by omega
      unfold longB
      rw [if_neg h, hn, f1, f2, es, er, ec, ed, nil_append]
  obtain ⟨G, hG, e⟩ := hl
  have R := elong_core n u 0 (u / 1000000) (u % 1000000) (u / 3600000000) (u / 60000000) (u / 60000000 % 60) (u / 1000000 % 60) G _ _ _ _ (twoB_size (n := u / 3600000000) (by omega) (by omega)) (twoB_size (n := u / 60000000 % 60) (by omega) (by omega)) (twoB_size (n := u / 1000000 % 60) (by omega) (by omega)) (fracB_size (u % 1000000)) hG u0 (by omega) es (by omega) (by omega) er (by omega) (by omega) ea eb ec ed (by omega) (by omega) (by omega) (by omega) (etwo_any _ (by omega) (by omega)) (etwo_any _ (by omega) (by omega)) (etwo_any _ (by omega) (by omega)) (efrac_any _) w
  rw [e]
  unfold faceB
  rw [← ByteArray.append_assoc, ← ByteArray.append_assoc, ← ByteArray.append_assoc, ← ByteArray.append_assoc, ← ByteArray.append_assoc]
  exact R

set_option maxRecDepth 100000 in
set_option maxHeartbeats 1000000 in
theorem micros_any (m : Int) (d : Nat) (n : Int) (hd : d ≤ 6) (h0 : 0 ≤ n) (hn : n < 10 ^ d) (w : World) :
    Calls Tryd.prog 51 #[.agg #[.int .i32 m, .int .i64 (d : Int), .int .i64 n]] w fun e w' => e = .returned (.int .i64 (n * 10 ^ (6 - d))) ∧ Below w.heap.size w w' := by
  obtain ⟨q, hq⟩ : ∃ q : Nat, q = 6 - d := ⟨_, rfl⟩
  have hqd : (6 : Int) - (d : Int) = (q : Int) := by omega
  have HN : Hid (∀ k : Nat, k ≤ q → 0 ≤ n * 10 ^ k ∧ n * 10 ^ k ≤ 999999) := fun k hk => by
    have p : (0 : Int) < 10 ^ k := Int.pow_pos (by decide)
    have a : 0 ≤ n * 10 ^ k := Int.mul_nonneg h0 (Int.le_of_lt p)
    have b : (n + 1) * 10 ^ k ≤ 10 ^ d * 10 ^ k := Int.mul_le_mul_of_nonneg_right (by omega) (Int.le_of_lt p)
    rw [← Int.pow_add, Int.add_mul, Int.one_mul] at b
    have c : (10 : Int) ^ (d + k) ≤ 10 ^ 6 := by
      have : ∀ z : Fin 7, (10 : Int) ^ z.val ≤ 1000000 := by decide
      exact this ⟨d + k, by omega⟩
    have : (10 : Int) ^ 6 = 1000000 := by decide
    omega
  rw [← hq]
  have hq6 : q ≤ 6 := by omega
  have HB0 : Hid (Below w.heap.size w (w.alloc (.cells #[.int .i32 m, .int .i64 (d : Int), .int .i64 n] 66))) := (Below.refl _ _).alloc (Nat.le_refl _) _
  clear hn h0 hq hd
  go_enter Tryd.func51, Tryd.ntmps51
  go_wp2_with fail
  go_loopw [3, 9] (fun v iv W => ∃ k : Nat, k ≤ q ∧ v = .int .i64 (n * 10 ^ k) ∧ iv = .int .i64 (k : Int) ∧ Below w.heap.size w W) (fun _ iv _ => q - (intOf iv).toNat)
  case atStart => exact ⟨0, Nat.zero_le _, by simp, rfl, HB0.out⟩
  case round =>
    obtain ⟨k, hk, rfl, rfl, hB⟩ := hrel
    have HB : Hid (Below w.heap.size w wr) := hB
    clear hB
    by_cases hkq : k < q
    · obtain ⟨y1, y2⟩ := HN.out k hk
      have HE : Hid (n * 10 ^ (k + 1) = n * 10 ^ k * 10) := by show _ = _; rw [Int.pow_succ, Int.mul_assoc]
      have hkq' : (k : Int) < (q : Int) := by omega
      generalize n * 10 ^ k = y at *
      go_wp2_with fail
      go_roundw
      case rel => exact ⟨k + 1, by omega, by rw [HE.out], rfl, HB.out⟩
      case measure => simp [intOf]; omega
    · obtain rfl : k = q := by omega
      have hkq' : ¬ (k : Int) < (k : Int) := by omega
      go_wp2_with fail
      go_ret
      exact ⟨rfl, HB.out⟩

set_option maxRecDepth 1000000 in
set_option maxHeartbeats 2000000 in
theorem read4 (s : ByteArray) (m0 m1 m2 : Int) (d0 d1 d2 d3 : Nat) (n0 n1 n2 n3 us : Int) (hG : Hid (runsF s s.size 0 [] (0, 0, 0) = some [(m0, d0, n0), (m1, d1, n1), (m2, d2, n2), (46, d3, n3)])) (hd2 : 0 < d3)
    (HU : Hid (∀ w : World, Calls Tryd.prog 51 #[.agg #[.int .i32 46, .int .i64 (d3 : Int), .int .i64 n3]] w fun e w' => e = .returned (.int .i64 us) ∧ Below w.heap.size w w')) (hf : Hid (faceOk [(m0, d0, n0), (m1, d1, n1), (m2, d2, n2)] = true)) (w : World) :
    Calls Tryd.prog 17 #[.string s] w fun e w' => e = .returned (.tuple #[.int .i64 (mkV n0 n1 n2 us), .int .i64 (mkE n0 n1 n2 us)]) ∧ Below w.heap.size w w' := by
  have HM : Hid (∀ w : World, Calls Tryd.prog 52 #[.int .i64 n0, .int .i64 n1, .int .i64 n2, .int .i64 us] w fun e w' => e = .returned (.tuple #[.int .i64 (mkV n0 n1 n2 us), .int .i64 (mkE n0 n1 n2 us)]) ∧ w' = w) := make_any n0 n1 n2 us
  generalize mkV n0 n1 n2 us = V at *
  generalize mkE n0 n1 n2 us = E at *
  go_enter Tryd.func17, Tryd.ntmps17
  go_wp2_with fail
  refine (runs_any s _).mono ?_
  rintro e w1 ⟨hb, hr⟩
  rw [hG.out] at hr
  obtain ⟨v, d, rfl, ho, hdl⟩ := hr
  obtain rfl : d3 = d := by simpa using hdl
  have hdec : decide (0 < d3) = true := decide_eq_true hd2
  rcases ho.2 with ⟨_, h0⟩ | ⟨g, cap, cur, rfl, hg, hblk, hcap, hcap2, hsz, htk⟩
  · simp at h0
  have hglt : g < w1.heap.size := (Array.getElem?_eq_some_iff.1 hblk).1
  have hc : Hid (∀ j u, (flat [(m0, d0, n0), (m1, d1, n1), (m2, d2, n2), (46, d3, n3)])[j]? = some u → w1.cell? ⟨g, j, none⟩ = some u) := fun j u hj => by
    have hlt : j < 12 := by
      have := (List.getElem?_eq_some_iff.1 hj).1
      rw [flat_length] at this
      simpa using this
    exact (ho.cellAt j (by simpa using hlt)).trans hj
  have c48 : Tryd.prog.cellsOf 66 = 3 := by kernel_rfl
  have k0 : w1.cell? ⟨g, 2, none⟩ = some (.int .i64 n0) := hc.out 2 _ rfl
  have k1 : w1.cell? ⟨g, 5, none⟩ = some (.int .i64 n1) := hc.out 5 _ rfl
  have k2 : w1.cell? ⟨g, 8, none⟩ = some (.int .i64 n2) := hc.out 8 _ rfl
  have k3 : w1.cell? ⟨g, 9, none⟩ = some (.int .i32 46) := hc.out 9 _ rfl
  have k4 : w1.cell? ⟨g, 10, none⟩ = some (.int .i64 (d3 : Int)) := hc.out 10 _ rfl
  have k5 : w1.cell? ⟨g, 11, none⟩ = some (.int .i64 n3) := hc.out 11 _ rfl
  have hcap' : 4 ≤ cap := by simpa using hcap
  have hc3 : Hid (∀ j u, (flat [(m0, d0, n0), (m1, d1, n1), (m2, d2, n2)])[j]? = some u → w1.cell? ⟨g, j, none⟩ = some u) := fun j u hj => hc.out j u (by
    have e : flat [(m0, d0, n0), (m1, d1, n1), (m2, d2, n2), (46, d3, n3)] = flat [(m0, d0, n0), (m1, d1, n1), (m2, d2, n2)] ++ flat [(46, d3, n3)] := rfl
    rw [e, List.getElem?_append_left (List.getElem?_eq_some_iff.1 hj).1]
    exact hj)
  have HB : Hid (Below w.heap.size w w1) := hb
  clear hb ho hblk hsz htk hdl
  simp only [List.length_cons, List.length_nil]
  have HF : Hid (Calls Tryd.prog 50 #[.slice (some ⟨g, 0, none⟩) 3 cap] w1 fun e w' => e = .returned (.bool true) ∧ Below w1.heap.size w1 w') := by
    have q := isFace_any [(m0, d0, n0), (m1, d1, n1), (m2, d2, n2)] g cap w1 hglt (by simp) (by simp; omega) hcap2 hc3
    rw [hf.out] at q
    exact q
  clear hcap
  go_wp2_with fail
  refine HF.out.mono ?_
  rintro e w2 ⟨rfl, hb2⟩
  have j0 : w2.cell? ⟨g, 2, none⟩ = some (.int .i64 n0) := (hb2.cell (p := ⟨g, 2, none⟩) hglt).trans k0
  have j1 : w2.cell? ⟨g, 5, none⟩ = some (.int .i64 n1) := (hb2.cell (p := ⟨g, 5, none⟩) hglt).trans k1
  have j2 : w2.cell? ⟨g, 8, none⟩ = some (.int .i64 n2) := (hb2.cell (p := ⟨g, 8, none⟩) hglt).trans k2
  have j3 : w2.cell? ⟨g, 9, none⟩ = some (.int .i32 46) := (hb2.cell (p := ⟨g, 9, none⟩) hglt).trans k3
  have j4 : w2.cell? ⟨g, 10, none⟩ = some (.int .i64 (d3 : Int)) := (hb2.cell (p := ⟨g, 10, none⟩) hglt).trans k4
  have j5 : w2.cell? ⟨g, 11, none⟩ = some (.int .i64 n3) := (hb2.cell (p := ⟨g, 11, none⟩) hglt).trans k5
  have HB2 : Hid (Below w.heap.size w w2) := HB.out.trans (hb2.mono HB.out.size)
  have hg2 : g < w2.heap.size := Nat.lt_of_lt_of_le hglt hb2.size
  clear hb2 k0 k1 k2 k3 k4 k5
  go_wp2_with fail
  refine (HU.out _).mono ?_
  rintro e w3 ⟨rfl, hb3⟩
  have i0 : w3.cell? ⟨g, 2, none⟩ = some (.int .i64 n0) := (hb3.cell (p := ⟨g, 2, none⟩) hg2).trans j0
  have i1 : w3.cell? ⟨g, 5, none⟩ = some (.int .i64 n1) := (hb3.cell (p := ⟨g, 5, none⟩) hg2).trans j1
  have HB3 : Hid (Below w.heap.size w w3) := HB2.out.trans (hb3.mono HB2.out.size)
  clear hb3 j0 j1 j2 j3 j4 j5
  go_wp2_with fail
  go_quiet (first | (go_at_call 52; refine Calls.quiet_of_same (HM.out _)))
  go_wp2
  go_ret2
  exact ⟨rfl, below_drewN HB3.out nq⟩

end Go.Proofs.YtlhlanekklonmaaDoor
