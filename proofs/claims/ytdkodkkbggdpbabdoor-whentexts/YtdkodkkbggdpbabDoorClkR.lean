/- DigB, DigC, DigD, DigE, DigF, ScnA, ScnB, ScnC, ScnD, RunMath, as one text. -/
import Derived.Test.YtdkodkkbggdpbabDoorDigA
import Derived.Test.YtdkodkkbggdpbabDoorClkE
import Derived.Test.YtdkodkkbggdpbabDoorClkK
/- Contracts of the reference's Two, Text and Long, over its Fraction. -/
namespace Go.Proofs.YtdkodkkbggdpbabDoor.Clk
open Go.RowKit
set_option linter.unusedVariables false

theorem dgB_small {n : Int} (h : n.natAbs < 10) : (dgB n).size = 1 := by
  show (Lib.decDigits n.natAbs).toArray.size = 1
  rw [Lib.decDigits_one h]; rfl
theorem dgB_large {n : Int} (h : 10 ≤ n.natAbs) : ¬ (dgB n).size < 2 := by
  show ¬ (Lib.decDigits n.natAbs).toArray.size < 2
  obtain ⟨c, l, e, _⟩ := digit_head (n.natAbs / 10)
  rw [dec_step h, e]
  simp
theorem itoa_pos {n : Int} (h : ¬ n < 0) : (⟨(Lib.itoa n).toArray⟩ : ByteArray) = dgB n := by
  unfold Lib.itoa dgB
  rw [if_neg h, show n.toNat = n.natAbs by omega]
theorem itoa_below {n : Int} (h : n < 0) : (⟨(Lib.itoa n).toArray⟩ : ByteArray) = ⟨#[45]⟩ ++ dgB n := by
  unfold Lib.itoa dgB
  rw [if_pos h]
  apply ByteArray.ext
  simp

set_option maxRecDepth 100000 in
set_option maxHeartbeats 1000000 in
theorem etwo_a (n : Int) (D : ByteArray) (h0 : 0 ≤ n) (h1 : n < 10) (hD : D.size ≤ 21)
    (H : Hid (∀ w : World, Calls Tryd.prog 49 #[.int .i64 n] w fun e w' => e = .returned (.string D) ∧ Below w.heap.size w w')) (w : World) :
    Calls Tryd.prog 53 #[.int .i64 n] w fun e w' => e = .returned (.string (⟨#[48]⟩ ++ D)) ∧ Below w.heap.size w w' := by
  go_enter Tryd.func53, Tryd.ntmps53
  go_wp2_with fail
  refine (H.out _).mono ?_
  rintro e w1 ⟨rfl, hb⟩
  go_wp2
  go_ret
  exact ⟨rfl, hb⟩

set_option maxRecDepth 100000 in
set_option maxHeartbeats 1000000 in
theorem etwo_b (n m : Int) (D : ByteArray) (h0 : n < 0) (h1 : -10 < n) (hm : -n = m) (hD : D.size ≤ 21)
    (H : Hid (∀ w : World, Calls Tryd.prog 49 #[.int .i64 m] w fun e w' => e = .returned (.string D) ∧ Below w.heap.size w w')) (w : World) :
    Calls Tryd.prog 53 #[.int .i64 n] w fun e w' => e = .returned (.string (⟨#[45, 48]⟩ ++ D)) ∧ Below w.heap.size w w' := by
  subst hm
  have h2 : ¬ 0 ≤ n := by omega
  go_enter Tryd.func53, Tryd.ntmps53
  go_wp2_with fail
  refine (H.out _).mono ?_
  rintro e w1 ⟨rfl, hb⟩
  go_wp2
  go_ret
  exact ⟨rfl, hb⟩

set_option maxRecDepth 100000 in
set_option maxHeartbeats 1000000 in
theorem etwo_c (n : Int) (D : ByteArray) (h0 : 10 ≤ n ∨ n ≤ -10)
    (H : Hid (∀ w : World, Calls Tryd.prog 49 #[.int .i64 n] w fun e w' => e = .returned (.string D) ∧ Below w.heap.size w w')) (w : World) :
    Calls Tryd.prog 53 #[.int .i64 n] w fun e w' => e = .returned (.string D) ∧ Below w.heap.size w w' := by
  rcases h0 with h0 | h0
  · have h1 : 0 ≤ n := by omega
    have h2 : ¬ n < 10 := by omega
    have h3 : ¬ n < 0 := by omega
    go_enter Tryd.func53, Tryd.ntmps53
    go_wp2_with fail
    refine (H.out _).mono ?_
    rintro e w1 ⟨rfl, hb⟩
    go_wp2
    go_ret
    exact ⟨rfl, hb⟩
  · have h1 : ¬ 0 ≤ n := by omega
    have h3 : n < 0 := by omega
    have h4 : ¬ -10 < n := by omega
    go_enter Tryd.func53, Tryd.ntmps53
    go_wp2_with fail
    refine (H.out _).mono ?_
    rintro e w1 ⟨rfl, hb⟩
    go_wp2
    go_ret
    exact ⟨rfl, hb⟩

theorem etwo_any (n : Int) (h1 : -9223372036854775808 ≤ n) (h2 : n ≤ 9223372036854775807) (w : World) :
    Calls Tryd.prog 53 #[.int .i64 n] w fun e w' => e = .returned (.string (twoB n)) ∧ Below w.heap.size w w' := by
  by_cases hs : n.natAbs < 10
  · by_cases h : n < 0
    · have D := digits_any (-n) (by omega) (by omega)
      rw [itoa_pos (by omega)] at D
      have e : twoB n = ⟨#[45, 48]⟩ ++ dgB (-n) := by
        unfold twoB padB
        rw [if_pos h, if_pos (by have := dgB_small hs; omega)]
        unfold dgB
        rw [Int.natAbs_neg]
        apply ByteArray.ext
        simp
      rw [e]
      exact etwo_b n (-n) _ h (by omega) rfl (by have := dgB_size (n := -n) (by omega) (by omega); omega) D w
    · have D := digits_any n h1 h2
      rw [itoa_pos h] at D
      have e : twoB n = ⟨#[48]⟩ ++ dgB n := by
        unfold twoB padB
        rw [if_neg h, if_pos (by have := dgB_small hs; omega)]
      rw [e]
      exact etwo_a n _ (by omega) (by omega) (by have := dgB_size h1 h2; omega) D w
  · have D := digits_any n h1 h2
    have hp : padB (dgB n) = dgB n := if_neg (dgB_large (by omega))
    by_cases h : n < 0
    · rw [itoa_below h] at D
      have e : twoB n = ⟨#[45]⟩ ++ dgB n := by unfold twoB; rw [if_pos h, hp]
      rw [e]
      exact etwo_c n _ (by omega) D w
    · rw [itoa_pos h] at D
      have e : twoB n = dgB n := by unfold twoB; rw [if_neg h, hp]
      rw [e]
      exact etwo_c n _ (by omega) D w

end Go.Proofs.YtdkodkkbggdpbabDoor.Clk

/- Contract of the reference's Fraction: microseconds behind a point. -/
namespace Go.Proofs.YtdkodkkbggdpbabDoor.Clk
open Go.RowKit
set_option linter.unusedVariables false

theorem trimR_same (r : List UInt8) : Lib.trimRightB (r ++ [48]) 48 = Lib.trimRightB r 48 := by
  unfold Lib.trimRightB
  rw [List.reverse_append]
  simp
theorem trimR_stop (r : List UInt8) (c : UInt8) (h : c ≠ 48) : Lib.trimRightB (r ++ [c]) 48 = r ++ [c] := by
  unfold Lib.trimRightB
  rw [List.reverse_append]
  simp [h]
theorem digit_zero {k : Nat} (h : k < 10) (e : UInt8.ofNat (48 + k) = 48) : k = 0 := by
  have := digit_nat h
  rw [e] at this
  simp at this
  omega
theorem frac_list {us : Int} (h1 : 1 ≤ us) (h2 : us ≤ 999999) : ∃ a b c d e f : Nat, (a < 10 ∧ b < 10 ∧ c < 10 ∧ d < 10 ∧ e < 10 ∧ f < 10) ∧ ¬ (a = 0 ∧ b = 0 ∧ c = 0 ∧ d = 0 ∧ e = 0 ∧ f = 0) ∧
    (⟨(Lib.itoa (1000000 + us)).toArray⟩ : ByteArray).extract 1 7 = ⟨#[UInt8.ofNat (48 + a), UInt8.ofNat (48 + b), UInt8.ofNat (48 + c), UInt8.ofNat (48 + d), UInt8.ofNat (48 + e), UInt8.ofNat (48 + f)]⟩ := by
  obtain ⟨u, hu⟩ : ∃ u : Nat, (1000000 + us).toNat = u := ⟨_, rfl⟩
  have e0 : Lib.itoa (1000000 + us) = Lib.decDigits u := by unfold Lib.itoa; rw [if_neg (by omega), hu]
  have e1 : Lib.decDigits u = [UInt8.ofNat (48 + u / 10 / 10 / 10 / 10 / 10 / 10), UInt8.ofNat (48 + u / 10 / 10 / 10 / 10 / 10 % 10), UInt8.ofNat (48 + u / 10 / 10 / 10 / 10 % 10), UInt8.ofNat (48 + u / 10 / 10 / 10 % 10), UInt8.ofNat (48 + u / 10 / 10 % 10), UInt8.ofNat (48 + u / 10 % 10), UInt8.ofNat (48 + u % 10)] := by
    rw [dec_step (x := u) (by omega), dec_step (x := u / 10) (by omega), dec_step (x := u / 10 / 10) (by omega), dec_step (x := u / 10 / 10 / 10) (by omega), dec_step (x := u / 10 / 10 / 10 / 10) (by omega), dec_step (x := u / 10 / 10 / 10 / 10 / 10) (by omega), Lib.decDigits_one (by omega)]
    rfl
  refine ⟨_, _, _, _, _, _, ⟨?_, ?_, ?_, ?_, ?_, ?_⟩, ?_, by rw [e0, e1]; rfl⟩
  all_goals omega

end Go.Proofs.YtdkodkkbggdpbabDoor.Clk

/- Contracts of the reference's Text and Long. -/
namespace Go.Proofs.YtdkodkkbggdpbabDoor.Clk
open Go.RowKit
set_option linter.unusedVariables false

end Go.Proofs.YtdkodkkbggdpbabDoor.Clk

/- Contracts: the reference's Long whole; clock.micros; clock.Read of four runs. -/
namespace Go.Proofs.YtdkodkkbggdpbabDoor.Clk
open Go.RowKit
set_option linter.unusedVariables false

set_option maxRecDepth 100000 in
set_option maxHeartbeats 1000000 in
theorem micros_any (m : Int) (d : Nat) (n : Int) (hd : d ≤ 6) (h0 : 0 ≤ n) (hn : n < 10 ^ d) (w : World) :
    Calls Tryd.prog 97 #[.agg #[.int .i32 m, .int .i64 (d : Int), .int .i64 n]] w fun e w' => e = .returned (.int .i64 (n * 10 ^ (6 - d))) ∧ Below w.heap.size w w' := by
  obtain ⟨q, hq⟩ : ∃ q : Nat, q = 6 - d := ⟨_, rfl⟩
  have hqd : (6 : Int) - (d : Int) = (q : Int) := by omega
  have HN : Hid (∀ k : Nat, k ≤ q → 0 ≤ n * 10 ^ k ∧ n * 10 ^ k ≤ 999999) := fun k hk => by
    have p : (0 : Int) < 10 ^ k := Int.pow_pos (by decide)
    have a : 0 ≤ n * 10 ^ k := Int.mul_nonneg h0 (Int.le_of_lt p)
    have b : (n + 1) * 10 ^ k ≤ 10 ^ d * 10 ^ k := Int.mul_le_mul_of_nonneg_right (by omega) (Int.le_of_lt p)
    rw [← Int.pow_add, Int.add_mul, Int.one_mul] at b
    have c : (10 : Int) ^ (d + k) ≤ 10 ^ 6 := by
      have : ∀ z : Fin 7, (10 : Int) ^ z.val ≤ 1000000 := by decide
      exact this ⟨d + k, by omega⟩
    have : (10 : Int) ^ 6 = 1000000 := by decide
    omega
  rw [← hq]
  have hq6 : q ≤ 6 := by omega
  have HB0 : Hid (Below w.heap.size w (w.alloc (.cells #[.int .i32 m, .int .i64 (d : Int), .int .i64 n] 129))) := (Below.refl _ _).alloc (Nat.le_refl _) _
  clear hn h0 hq hd
  go_enter Tryd.func97, Tryd.ntmps97
  go_wp2_with fail
  go_loopw [3, 9] (fun v iv W => ∃ k : Nat, k ≤ q ∧ v = .int .i64 (n * 10 ^ k) ∧ iv = .int .i64 (k : Int) ∧ Below w.heap.size w W) (fun _ iv _ => q - (intOf iv).toNat)
  case atStart => exact ⟨0, Nat.zero_le _, by simp, rfl, HB0.out⟩
  case round =>
    obtain ⟨k, hk, rfl, rfl, hB⟩ := hrel
    have HB : Hid (Below w.heap.size w wr) := hB
    clear hB
    by_cases hkq : k < q
    · obtain ⟨y1, y2⟩ := HN.out k hk
      have HE : Hid (n * 10 ^ (k + 1) = n * 10 ^ k * 10) := by show _ = _; rw [Int.pow_succ, Int.mul_assoc]
      have hkq' : (k : Int) < (q : Int) := by omega
      generalize n * 10 ^ k = y at *
      go_wp2_with fail
      go_roundw
      case rel => exact ⟨k + 1, by omega, by rw [HE.out], rfl, HB.out⟩
      case measure => simp [intOf]; omega
    · obtain rfl : k = q := by omega
      have hkq' : ¬ (k : Int) < (k : Int) := by omega
      go_wp2_with fail
      go_ret
      exact ⟨rfl, HB.out⟩

set_option maxRecDepth 1000000 in
set_option maxHeartbeats 2000000 in
theorem read4 (s : ByteArray) (m0 m1 m2 : Int) (d0 d1 d2 d3 : Nat) (n0 n1 n2 n3 us : Int) (hG : Hid (runsF s s.size 0 [] (0, 0, 0) = some [(m0, d0, n0), (m1, d1, n1), (m2, d2, n2), (46, d3, n3)])) (hd2 : 0 < d3)
    (HU : Hid (∀ w : World, Calls Tryd.prog 97 #[.agg #[.int .i32 46, .int .i64 (d3 : Int), .int .i64 n3]] w fun e w' => e = .returned (.int .i64 us) ∧ Below w.heap.size w w')) (hf : Hid (faceOk [(m0, d0, n0), (m1, d1, n1), (m2, d2, n2)] = true)) (w : World) :
    Calls Tryd.prog 75 #[.string s] w fun e w' => e = .returned (.tuple #[.int .i64 (mkV n0 n1 n2 us), .int .i64 (mkE n0 n1 n2 us)]) ∧ Below w.heap.size w w' := by
  have HM : Hid (∀ w : World, Calls Tryd.prog 98 #[.int .i64 n0, .int .i64 n1, .int .i64 n2, .int .i64 us] w fun e w' => e = .returned (.tuple #[.int .i64 (mkV n0 n1 n2 us), .int .i64 (mkE n0 n1 n2 us)]) ∧ w' = w) := make_any n0 n1 n2 us
  generalize mkV n0 n1 n2 us = V at *
  generalize mkE n0 n1 n2 us = E at *
  go_enter Tryd.func75, Tryd.ntmps75
  go_wp2_with fail
  refine (runs_any s _).mono ?_
  rintro e w1 ⟨hb, hr⟩
  rw [hG.out] at hr
  obtain ⟨v, d, rfl, ho, hdl⟩ := hr
  obtain rfl : d3 = d := by simpa using hdl
  have hdec : decide (0 < d3) = true := decide_eq_true hd2
  rcases ho.2 with ⟨_, h0⟩ | ⟨g, cap, cur, rfl, hg, hblk, hcap, hcap2, hsz, htk⟩
  · simp at h0
  have hglt : g < w1.heap.size := (Array.getElem?_eq_some_iff.1 hblk).1
  have hc : Hid (∀ j u, (flat [(m0, d0, n0), (m1, d1, n1), (m2, d2, n2), (46, d3, n3)])[j]? = some u → w1.cell? ⟨g, j, none⟩ = some u) := fun j u hj => by
    have hlt : j < 12 := by
      have := (List.getElem?_eq_some_iff.1 hj).1
      rw [flat_length] at this
      simpa using this
    exact (ho.cellAt j (by simpa using hlt)).trans hj
  have c48 : Tryd.prog.cellsOf 129 = 3 := by kernel_rfl
  have k0 : w1.cell? ⟨g, 2, none⟩ = some (.int .i64 n0) := hc.out 2 _ rfl
  have k1 : w1.cell? ⟨g, 5, none⟩ = some (.int .i64 n1) := hc.out 5 _ rfl
  have k2 : w1.cell? ⟨g, 8, none⟩ = some (.int .i64 n2) := hc.out 8 _ rfl
  have k3 : w1.cell? ⟨g, 9, none⟩ = some (.int .i32 46) := hc.out 9 _ rfl
  have k4 : w1.cell? ⟨g, 10, none⟩ = some (.int .i64 (d3 : Int)) := hc.out 10 _ rfl
  have k5 : w1.cell? ⟨g, 11, none⟩ = some (.int .i64 n3) := hc.out 11 _ rfl
  have hcap' : 4 ≤ cap := by simpa using hcap
  have hc3 : Hid (∀ j u, (flat [(m0, d0, n0), (m1, d1, n1), (m2, d2, n2)])[j]? = some u → w1.cell? ⟨g, j, none⟩ = some u) := fun j u hj => hc.out j u (by
    have e : flat [(m0, d0, n0), (m1, d1, n1), (m2, d2, n2), (46, d3, n3)] = flat [(m0, d0, n0), (m1, d1, n1), (m2, d2, n2)] ++ flat [(46, d3, n3)] := rfl
    rw [e, List.getElem?_append_left (List.getElem?_eq_some_iff.1 hj).1]
    exact hj)
  have HB : Hid (Below w.heap.size w w1) := hb
  clear hb ho hblk hsz htk hdl
  simp only [List.length_cons, List.length_nil]
  have HF : Hid (Calls Tryd.prog 96 #[.slice (some ⟨g, 0, none⟩) 3 cap] w1 fun e w' => e = .returned (.bool true) ∧ Below w1.heap.size w1 w') := by
    have q := isFace_any [(m0, d0, n0), (m1, d1, n1), (m2, d2, n2)] g cap w1 hglt (by simp) (by simp; omega) hcap2 hc3
    rw [hf.out] at q
    exact q
  clear hcap
  go_wp2_with fail
  refine HF.out.mono ?_
  rintro e w2 ⟨rfl, hb2⟩
  have j0 : w2.cell? ⟨g, 2, none⟩ = some (.int .i64 n0) := (hb2.cell (p := ⟨g, 2, none⟩) hglt).trans k0
  have j1 : w2.cell? ⟨g, 5, none⟩ = some (.int .i64 n1) := (hb2.cell (p := ⟨g, 5, none⟩) hglt).trans k1
  have j2 : w2.cell? ⟨g, 8, none⟩ = some (.int .i64 n2) := (hb2.cell (p := ⟨g, 8, none⟩) hglt).trans k2
  have j3 : w2.cell? ⟨g, 9, none⟩ = some (.int .i32 46) := (hb2.cell (p := ⟨g, 9, none⟩) hglt).trans k3
  have j4 : w2.cell? ⟨g, 10, none⟩ = some (.int .i64 (d3 : Int)) := (hb2.cell (p := ⟨g, 10, none⟩) hglt).trans k4
  have j5 : w2.cell? ⟨g, 11, none⟩ = some (.int .i64 n3) := (hb2.cell (p := ⟨g, 11, none⟩) hglt).trans k5
  have HB2 : Hid (Below w.heap.size w w2) := HB.out.trans (hb2.mono HB.out.size)
  have hg2 : g < w2.heap.size := Nat.lt_of_lt_of_le hglt hb2.size
  clear hb2 k0 k1 k2 k3 k4 k5
  go_wp2_with fail
  refine (HU.out _).mono ?_
  rintro e w3 ⟨rfl, hb3⟩
  have i0 : w3.cell? ⟨g, 2, none⟩ = some (.int .i64 n0) := (hb3.cell (p := ⟨g, 2, none⟩) hg2).trans j0
  have i1 : w3.cell? ⟨g, 5, none⟩ = some (.int .i64 n1) := (hb3.cell (p := ⟨g, 5, none⟩) hg2).trans j1
  have HB3 : Hid (Below w.heap.size w w3) := HB2.out.trans (hb3.mono HB2.out.size)
  clear hb3 j0 j1 j2 j3 j4 j5
  go_wp2_with fail
  go_quiet (first | (go_at_call 98; refine Calls.quiet_of_same (HM.out _)))
  go_wp2
  go_ret2
  exact ⟨rfl, below_drewN HB3.out nq⟩

end Go.Proofs.YtdkodkkbggdpbabDoor.Clk

/- A time's text is read again as it was: the runs of the text that clock.Text writes. -/
namespace Go.Proofs.YtdkodkkbggdpbabDoor.Clk
open Go.RowKit
set_option linter.unusedVariables false

/-- what digits are, behind others. -/
def valD (n : Int) (ds : List UInt8) : Int := ds.foldl (fun a c => a * 10 + ((c.toNat : Int) - 48)) n
theorem at_of {s : ByteArray} {p q : List UInt8} {c : UInt8} {pos : Nat} (hs : s.data.toList = p ++ c :: q) (hp : p.length = pos) (hc : c.toNat < 128) :
    ∃ h : pos < s.size, Utf8.decode s pos = (c.toNat, 1) := by
  have hz : s.size = p.length + (q.length + 1) := by
    have : s.data.toList.length = p.length + (q.length + 1) := by rw [hs]; simp
    rw [← this]; simp
  have h : pos < s.size := by omega
  have hg : s[pos]'h = c := by
    show s.data[pos]'h = c
    rw [← Array.getElem_toList]
    have : s.data.toList[pos]? = some c := by rw [hs, ← hp]; simp
    exact (List.getElem?_eq_some_iff.1 this).2
  exact ⟨h, by rw [decode_ascii s pos h (by rw [hg]; exact hc), hg]⟩
theorem run_digit {s : ByteArray} {p q : List UInt8} {c : UInt8} {pos : Nat} (hs : s.data.toList = p ++ c :: q) (hp : p.length = pos) (h1 : 48 ≤ c.toNat) (h2 : c.toNat ≤ 57) {f : Nat} {l : List Run} {m : Int} {d : Nat} {n : Int} (hd : d < 6) :
    runsF s (f + 1) pos l (m, d, n) = runsF s f (pos + 1) l (m, d + 1, n * 10 + ((c.toNat : Int) - 48)) := by
  obtain ⟨h, e⟩ := at_of hs hp (by omega)
  rw [runsF_digit (R := (c.toNat : Int)) h (by rw [e]) (by omega) (by omega) hd, e]
theorem run_mark {s : ByteArray} {p q : List UInt8} {c : UInt8} {pos : Nat} (hs : s.data.toList = p ++ c :: q) (hp : p.length = pos) (h1 : c = 58 ∨ c = 46) {f : Nat} {l : List Run} {m : Int} {d : Nat} {n : Int} (hd : 0 < d) (hl : l.length < 3) :
    runsF s (f + 1) pos l (m, d, n) = runsF s f (pos + 1) (l ++ [(m, d, n)]) ((c.toNat : Int), 0, 0) := by
  have hc : c.toNat = 58 ∨ c.toNat = 46 := by rcases h1 with rfl | rfl <;> decide
  obtain ⟨h, e⟩ := at_of hs hp (by omega)
  rw [runsF_mark (R := (c.toNat : Int)) h (by rw [e]) (by omega) hd hl, e]
theorem run_two {s : ByteArray} {p q : List UInt8} {x pos : Nat} (hx : x < 100) (hs : s.data.toList = p ++ UInt8.ofNat (48 + x / 10) :: UInt8.ofNat (48 + x % 10) :: q) (hp : p.length = pos) {f : Nat} {l : List Run} {m : Int} :
    runsF s (f + 2) pos l (m, 0, 0) = runsF s f (pos + 2) l (m, 2, (x : Int)) := by
  have a := digit_nat (k := x / 10) (by omega)
  have b := digit_nat (k := x % 10) (by omega)
  rw [run_digit hs hp (by omega) (by omega) (by decide), run_digit (p := p ++ [UInt8.ofNat (48 + x / 10)]) (q := q) (c := UInt8.ofNat (48 + x % 10)) (by rw [hs]; simp) (by simp; omega) (by omega) (by omega) (by decide), a, b]
  congr 3
  omega
theorem run_all {s : ByteArray} {l : List Run} {m : Int} : ∀ (ds p : List UInt8) (f pos d : Nat) (n : Int), s.data.toList = p ++ ds → p.length = pos → (∀ c ∈ ds, 48 ≤ c.toNat ∧ c.toNat ≤ 57) → d + ds.length ≤ 6 → ds.length ≤ f →
    runsF s f pos l (m, d, n) = some (l ++ [(m, d + ds.length, valD n ds)])
  | [], p, f, pos, d, n, hs, hp, _, _, _ => by
    have hz : s.size = p.length := by
      have : s.data.toList.length = p.length := by rw [hs]; simp
      rw [← this]; simp
    rw [runsF_end s f pos l _ (by omega)]
    rfl
  | c :: ds, p, f, pos, d, n, hs, hp, hd, hl, hf => by
    obtain ⟨f', rfl⟩ : ∃ f', f = f' + 1 := ⟨f - 1, by simp at hf; omega⟩
    simp only [List.length_cons] at hl hf
    rw [run_digit hs hp (hd c (by simp)).1 (hd c (by simp)).2 (by omega), run_all ds (p ++ [c]) f' (pos + 1) (d + 1) _ (by rw [hs]; simp) (by simp; omega) (fun x hx => hd x (by simp [hx])) (by omega) (by omega)]
    simp only [List.length_cons]
    rw [show d + 1 + ds.length = d + (ds.length + 1) by omega]
    rfl

theorem twoB_two {x : Nat} (h : x < 100) : (twoB (x : Int)).data.toList = [UInt8.ofNat (48 + x / 10), UInt8.ofNat (48 + x % 10)] := by
  unfold twoB padB dgB
  rw [if_neg (by omega)]
  simp only [Int.natAbs_natCast]
  by_cases hx : x < 10
  · rw [Lib.decDigits_one hx, if_pos (by show ([UInt8.ofNat (48 + x)].toArray).size < 2; simp), show x / 10 = 0 by omega, show x % 10 = x by omega]
    simp
  · rw [Lib.decDigits_two hx h, if_neg (by show ¬ ([UInt8.ofNat (48 + x / 10), UInt8.ofNat (48 + x % 10)].toArray).size < 2; simp)]

theorem trim_mem (l : List UInt8) (c x : UInt8) (h : x ∈ Lib.trimRightB l c) : x ∈ l := by
  unfold Lib.trimRightB at h
  rw [List.mem_reverse] at h
  exact List.mem_reverse.1 ((List.dropWhile_sublist _).mem h)
theorem valD_more (n : Int) (r : List UInt8) (c : UInt8) : valD n (r ++ [c]) = valD n r * 10 + ((c.toNat : Int) - 48) := by
  unfold valD; rw [List.foldl_append]; rfl
theorem trim_val : ∀ (k : Nat) (l : List UInt8), l.length = k → k ≤ 6 → valD 0 (Lib.trimRightB l 48) * 10 ^ (6 - (Lib.trimRightB l 48).length) = valD 0 l * 10 ^ (6 - l.length)
  | 0, l, h, _ => by
    obtain rfl := List.eq_nil_of_length_eq_zero h
    rfl
  | k + 1, l, h, hk => by
    have hne : l ≠ [] := by rintro rfl; simp at h
    obtain ⟨r, c, rfl⟩ : ∃ r c, l = r ++ [c] := ⟨l.dropLast, l.getLast hne, (List.dropLast_concat_getLast hne).symm⟩
    have hr : r.length = k := by simp at h; exact h
    by_cases hc : c = 48
    · subst hc
      rw [trimR_same, trim_val k r hr (by omega), valD_more, List.length_append]
      have e : 6 - r.length = (6 - (r.length + [(48 : UInt8)].length)) + 1 := by simp; omega
      rw [e, Int.pow_succ]
      have z : (((48 : UInt8).toNat : Int) - 48) = 0 := by decide
      rw [z, Int.add_zero, Int.mul_comm (10 ^ _) 10, ← Int.mul_assoc]
    · rw [trimR_stop r c hc]

theorem frac_six {us : Int} (h1 : 1 ≤ us) (h2 : us ≤ 999999) : ∃ L : List UInt8, fracT us = ⟨(Lib.trimRightB L 48).toArray⟩ ∧ L.length = 6 ∧ (∀ c ∈ L, 48 ≤ c.toNat ∧ c.toNat ≤ 57) ∧ valD 0 L = us := by
  obtain ⟨u, hu⟩ : ∃ u : Nat, (1000000 + us).toNat = u := ⟨_, rfl⟩
  have e0 : Lib.itoa (1000000 + us) = Lib.decDigits u := by unfold Lib.itoa; rw [if_neg (by omega), hu]
  have e1 : Lib.decDigits u = [UInt8.ofNat (48 + u / 10 / 10 / 10 / 10 / 10 / 10), UInt8.ofNat (48 + u / 10 / 10 / 10 / 10 / 10 % 10), UInt8.ofNat (48 + u / 10 / 10 / 10 / 10 % 10), UInt8.ofNat (48 + u / 10 / 10 / 10 % 10), UInt8.ofNat (48 + u / 10 / 10 % 10), UInt8.ofNat (48 + u / 10 % 10), UInt8.ofNat (48 + u % 10)] := by
    rw [dec_step (x := u) (by omega), dec_step (x := u / 10) (by omega), dec_step (x := u / 10 / 10) (by omega), dec_step (x := u / 10 / 10 / 10) (by omega), dec_step (x := u / 10 / 10 / 10 / 10) (by omega), dec_step (x := u / 10 / 10 / 10 / 10 / 10) (by omega), Lib.decDigits_one (by omega)]
    rfl
  have a := digit_nat (k := u / 10 / 10 / 10 / 10 / 10 % 10) (by omega)
  have b := digit_nat (k := u / 10 / 10 / 10 / 10 % 10) (by omega)
  have c := digit_nat (k := u / 10 / 10 / 10 % 10) (by omega)
  have d := digit_nat (k := u / 10 / 10 % 10) (by omega)
  have e := digit_nat (k := u / 10 % 10) (by omega)
  have f := digit_nat (k := u % 10) (by omega)
  refine ⟨[UInt8.ofNat (48 + u / 10 / 10 / 10 / 10 / 10 % 10), UInt8.ofNat (48 + u / 10 / 10 / 10 / 10 % 10), UInt8.ofNat (48 + u / 10 / 10 / 10 % 10), UInt8.ofNat (48 + u / 10 / 10 % 10), UInt8.ofNat (48 + u / 10 % 10), UInt8.ofNat (48 + u % 10)], ?_, rfl, ?_, ?_⟩
  · unfold fracT fracS
    rw [itoa7 h1 h2, e0, e1]
    rfl
  · intro x hx
    simp only [List.mem_cons, List.not_mem_nil, or_false] at hx
    rcases hx with rfl | rfl | rfl | rfl | rfl | rfl <;> omega
  · simp only [valD, List.foldl_cons, List.foldl_nil, a, b, c, d, e, f]
    omega

theorem face_list {h m s : Nat} (us : Int) (h1 : h < 100) (m1 : m < 100) (s1 : s < 100) : (faceB (h : Int) (m : Int) (s : Int) us).data.toList = UInt8.ofNat (48 + h / 10) :: UInt8.ofNat (48 + h % 10) :: 58 :: UInt8.ofNat (48 + m / 10) :: UInt8.ofNat (48 + m % 10) :: 58 :: UInt8.ofNat (48 + s / 10) :: UInt8.ofNat (48 + s % 10) :: (fracB us).data.toList := by
  unfold faceB
  simp only [ByteArray.data_append, Array.toList_append, twoB_two h1, twoB_two m1, twoB_two s1]
  rfl

theorem runs_face {h m s : Nat} (us : Int) (h1 : h < 100) (m1 : m < 100) (s1 : s < 100) (F : List UInt8) (hF : (fracB us).data.toList = F) (f : Nat) :
    runsF (faceB (h : Int) (m : Int) (s : Int) us) (f + 8) 0 [] (0, 0, 0) = runsF (faceB (h : Int) (m : Int) (s : Int) us) f 8 [(0, 2, (h : Int)), (58, 2, (m : Int))] (58, 2, (s : Int)) := by
  have hs := face_list us h1 m1 s1
  rw [hF] at hs
  refine (run_two (f := f + 6) (p := []) (pos := 0) h1 hs rfl).trans ?_
  refine (run_mark (f := f + 5) (p := [UInt8.ofNat (48 + h / 10), UInt8.ofNat (48 + h % 10)]) (pos := 2) (c := 58) (l := []) (d := 2) hs rfl (.inl rfl) (by decide) (by decide)).trans ?_
  refine (run_two (f := f + 3) (p := [UInt8.ofNat (48 + h / 10), UInt8.ofNat (48 + h % 10), 58]) (pos := 3) m1 hs rfl).trans ?_
  refine (run_mark (f := f + 2) (p := [UInt8.ofNat (48 + h / 10), UInt8.ofNat (48 + h % 10), 58, UInt8.ofNat (48 + m / 10), UInt8.ofNat (48 + m % 10)]) (pos := 5) (c := 58) (l := [(0, 2, (h : Int))]) (d := 2) hs rfl (.inl rfl) (by decide) (by simp)).trans ?_
  exact run_two (f := f) (p := [UInt8.ofNat (48 + h / 10), UInt8.ofNat (48 + h % 10), 58, UInt8.ofNat (48 + m / 10), UInt8.ofNat (48 + m % 10), 58]) (pos := 6) s1 hs rfl

theorem read_back (t : Int) (ht : isT t) (w : World) :
    Calls Tryd.prog 75 #[.string (textB t)] w fun e w' => e = .returned (.tuple #[.int .i64 t, .int .i64 0]) ∧ Below w.heap.size w w' := by
  obtain ⟨t0, t1⟩ := ht
  obtain ⟨h, hh⟩ : ∃ h : Nat, t / 3600000000 = (h : Int) := ⟨(t / 3600000000).toNat, by omega⟩
  obtain ⟨m, hm⟩ : ∃ m : Nat, t / 60000000 % 60 = (m : Int) := ⟨(t / 60000000 % 60).toNat, by omega⟩
  obtain ⟨s, hs⟩ : ∃ s : Nat, t / 1000000 % 60 = (s : Int) := ⟨(t / 1000000 % 60).toNat, by omega⟩
  obtain ⟨us, hu⟩ : ∃ us : Int, t % 1000000 = us := ⟨_, rfl⟩
  have h9 : h < 100 := by omega
  have m9 : m < 100 := by omega
  have s9 : s < 100 := by omega
  have hok : mkOk (h : Int) (m : Int) (s : Int) us := by unfold mkOk; omega
  have hV : mkV (h : Int) (m : Int) (s : Int) us = t := by rw [mkV_in hok]; omega
  have hE := mkE_in hok
  have eT : textB t = faceB (h : Int) (m : Int) (s : Int) us := by unfold textB; rw [hh, hm, hs, hu]
  rw [eT]
  have hsz : (faceB (h : Int) (m : Int) (s : Int) us).size = (fracB us).data.toList.length + 8 := by
    have : (faceB (h : Int) (m : Int) (s : Int) us).data.toList.length = _ := congrArg List.length (face_list us h9 m9 s9)
    simp only [List.length_cons] at this
    rw [← this]; simp
  by_cases hz : us = 0
  · have hF : (fracB us).data.toList = [] := by rw [hz]; rfl
    have hr := runs_face us h9 m9 s9 [] hF 0
    rw [hF] at hsz
    rw [runsF_end _ 0 8 _ _ (by rw [hsz]; simp)] at hr
    have R := read3 (faceB (h : Int) (m : Int) (s : Int) us) 0 58 58 2 2 2 h m s (by show _ = _; rw [hsz]; exact hr) (by decide) rfl w
    rw [hz] at hV hE
    rw [hV, hE] at R
    exact R
  · have u1 : 1 ≤ us := by omega
    have u2 : us ≤ 999999 := by omega
    obtain ⟨L, hT, hL, hd, hv⟩ := frac_six u1 u2
    have tv := trim_val 6 L hL (by decide)
    rw [hL, hv] at tv
    have tl := trim_len 48 L
    obtain ⟨T, hTT⟩ : ∃ T, T = Lib.trimRightB L 48 := ⟨_, rfl⟩
    have hdT : ∀ c ∈ T, 48 ≤ c.toNat ∧ c.toNat ≤ 57 := fun c hc => hd c (trim_mem L 48 c (hTT ▸ hc))
    rw [← hTT] at tv tl hT
    have hF : (fracB us).data.toList = 46 :: T := by unfold fracB; rw [if_pos ⟨u1, u2⟩, hT]; simp
    have hl := face_list us h9 m9 s9
    rw [hF] at hsz hl
    have hr := (runs_face us h9 m9 s9 (46 :: T) hF (T.length + 1)).trans ((run_mark (f := T.length) (p := [UInt8.ofNat (48 + h / 10), UInt8.ofNat (48 + h % 10), 58, UInt8.ofNat (48 + m / 10), UInt8.ofNat (48 + m % 10), 58, UInt8.ofNat (48 + s / 10), UInt8.ofNat (48 + s % 10)]) (pos := 8) (c := 46) (q := T) (l := [(0, 2, (h : Int)), (58, 2, (m : Int))]) (m := 58) (d := 2) (n := (s : Int)) hl rfl (.inr rfl) (by decide) (by simp)).trans
      (run_all T [UInt8.ofNat (48 + h / 10), UInt8.ofNat (48 + h % 10), 58, UInt8.ofNat (48 + m / 10), UInt8.ofNat (48 + m % 10), 58, UInt8.ofNat (48 + s / 10), UInt8.ofNat (48 + s % 10), 46] T.length 9 0 0 hl rfl hdT (by omega) (Nat.le_refl _)))
    have tv' : valD 0 T * 10 ^ (6 - T.length) = us := by rw [tv]; simp
    have p6 : (0 : Int) < 10 ^ (6 - T.length) := Int.pow_pos (by decide)
    have hpos : 0 < T.length := by
      rcases Nat.eq_zero_or_pos T.length with z | z
      · rw [List.eq_nil_of_length_eq_zero z] at tv'
        simp [valD] at tv'
        omega
      · exact z
    have n0 : 0 ≤ valD 0 T := by
      by_cases k : 0 ≤ valD 0 T
      · exact k
      · have := Int.mul_neg_of_neg_of_pos (by omega : valD 0 T < 0) p6; omega
    have n1 : valD 0 T < 10 ^ T.length := by
      by_cases k : valD 0 T < 10 ^ T.length
      · exact k
      · have a := Int.mul_le_mul_of_nonneg_right (by omega : (10 : Int) ^ T.length ≤ valD 0 T) (Int.le_of_lt p6)
        rw [← Int.pow_add, show T.length + (6 - T.length) = 6 by omega, tv'] at a
        have : (10 : Int) ^ 6 = 1000000 := by decide
        omega
    have HU := micros_any 46 T.length (valD 0 T) (by omega) n0 n1
    rw [tv'] at HU
    have R := read4 (faceB (h : Int) (m : Int) (s : Int) us) 0 58 58 2 2 2 T.length h m s (valD 0 T) us (by
      show _ = _
      rw [hsz, show (46 :: T).length + 8 = T.length + 1 + 8 from rfl, hr, Nat.zero_add]
      rfl) hpos HU rfl w
    rw [hV, hE] at R
    exact R

end Go.Proofs.YtdkodkkbggdpbabDoor.Clk

/- Contracts of the reference's scan: a sign that may come, a number of some digits. -/
namespace Go.Proofs.YtdkodkkbggdpbabDoor.Clk
open Go.RowKit
set_option linter.unusedVariables false

/-- the scan's block: what is left of the text, and whether something was wrong. -/
def SBox (w : World) (b : Nat) (l : List UInt8) (bad : Bool) : Prop :=
  b < w.heap.size ∧ w.cell? ⟨b, 0, none⟩ = some (.string ⟨l.toArray⟩) ∧ w.cell? ⟨b, 1, none⟩ = some (.bool bad) ∧ w.frozen? ⟨b, 0, none⟩ = false ∧ w.frozen? ⟨b, 1, none⟩ = false
theorem SBox.set0 {w : World} {b : Nat} {l : List UInt8} {bad : Bool} (h : SBox w b l bad) (s : ByteArray) (r : List UInt8) (hs : s = ⟨r.toArray⟩) : SBox (w.setCell ⟨b, 0, none⟩ (.string s)) b r bad := by
  obtain ⟨h1, h2, h3, h4, h5⟩ := h
  subst hs
  exact ⟨by simpa [World.setCell] using h1, World.cell?_setCell_same _ _ _ h2, (World.cell?_setCell_other _ _ _ _ (addr_ne (by decide))).trans h3, by simpa using h4, by simpa using h5⟩
theorem SBox.set1 {w : World} {b : Nat} {l : List UInt8} {bad : Bool} (h : SBox w b l bad) (q : Bool) : SBox (w.setCell ⟨b, 1, none⟩ (.bool q)) b l q := by
  obtain ⟨h1, h2, h3, h4, h5⟩ := h
  exact ⟨by simpa [World.setCell] using h1, (World.cell?_setCell_other _ _ _ _ (addr_ne (by decide))).trans h2, World.cell?_setCell_same _ _ _ h3, by simpa using h4, by simpa using h5⟩
theorem SBox.below {w w1 : World} {b : Nat} {l : List UInt8} {bad : Bool} (h : SBox w b l bad) {B : Nat} (hb : Below B w w1) (hB : b < B) : SBox w1 b l bad :=
  ⟨Nat.lt_of_lt_of_le h.1 hb.size, (hb.cell (p := ⟨b, 0, none⟩) hB).trans h.2.1, (hb.cell (p := ⟨b, 1, none⟩) hB).trans h.2.2.1, (hb.frozen (p := ⟨b, 0, none⟩) hB).trans h.2.2.2.1, (hb.frozen (p := ⟨b, 1, none⟩) hB).trans h.2.2.2.2⟩

theorem ix_of (s : ByteArray) (l : List UInt8) (k : Nat) (x : UInt8) (hs : s = ⟨l.toArray⟩) (hx : l[k]? = some x) (w0 : World) : (Instr.index 9 (.string s) (.int .i64 (k : Int))).run Tryd.prog w0 = .ok (.int .u8 (x.toNat : Int)) w0 := by
  obtain ⟨hl, he⟩ := List.getElem?_eq_some_iff.1 hx
  have hz : s.size = l.length := by rw [hs]; show l.toArray.size = _; simp
  rw [run_index_string w0 9 s .i64 (k : Int) Tryd.underlying9, dif_pos ⟨by omega, by omega⟩]
  subst hs
  show Result.ok (Value.int .u8 ((l.toArray[((k : Nat) : Int).toNat]'_).toNat : Int)) w0 = _
  simp [he]

/-- whether this sign comes, and what is left. -/
def sgnB (c : UInt8) : List UInt8 → Bool
  | [] => false
  | x :: r => x == c
def sgnL (c : UInt8) : List UInt8 → List UInt8
  | [] => []
  | x :: r => if x = c then r else x :: r

/-- digits at the beginning, no more than these. -/
def isDg (c : UInt8) : Bool := decide (48 ≤ c.toNat) && decide (c.toNat ≤ 57)
def digs (most : Nat) (l : List UInt8) : List UInt8 := (l.take most).takeWhile isDg
theorem digs_stop {most : Nat} {l : List UInt8} {k : Nat} (hk : k ≤ most) (hl : k ≤ l.length) (hd : ∀ c ∈ l.take k, isDg c = true) (he : k = most ∨ k = l.length ∨ ∃ x, l[k]? = some x ∧ isDg x = false) : digs most l = l.take k := by
  have hsplit : l.take most = l.take k ++ (l.drop k).take (most - k) := by
    rw [← List.take_append_drop k (l.take most), List.take_take, List.drop_take, Nat.min_eq_left hk]
  unfold digs
  rw [hsplit, List.takeWhile_append_of_pos hd]
  rcases he with rfl | rfl | ⟨x, hx, hn⟩
  · simp
  · simp
  · obtain ⟨hlt, hg⟩ := List.getElem?_eq_some_iff.1 hx
    rw [List.drop_eq_getElem_cons hlt, hg]
    cases most - k with
    | zero => simp
    | succ q => simp [hn]
theorem valD_bd : ∀ (ds : List UInt8) (n : Int) , 0 ≤ n → (∀ c ∈ ds, isDg c = true) → 0 ≤ valD n ds ∧ valD n ds < (n + 1) * 10 ^ ds.length
  | [], n, h, _ => by simp [valD]; omega
  | c :: ds, n, h, hd => by
    have hc : isDg c = true := hd c (by simp)
    unfold isDg at hc
    simp only [Bool.and_eq_true, decide_eq_true_eq] at hc
    have r := valD_bd ds (n * 10 + ((c.toNat : Int) - 48)) (by omega) (fun x hx => hd x (by simp [hx]))
    refine ⟨r.1, Int.lt_of_lt_of_le r.2 ?_⟩
    rw [List.length_cons, Int.pow_succ, Int.mul_comm (10 ^ ds.length) 10, ← Int.mul_assoc]
    exact Int.mul_le_mul_of_nonneg_right (by omega) (Int.le_of_lt (Int.pow_pos (by decide)))

end Go.Proofs.YtdkodkkbggdpbabDoor.Clk

/- Contract of the reference's Read: what a scan of the text comes to. -/
namespace Go.Proofs.YtdkodkkbggdpbabDoor.Clk
open Go.RowKit
set_option linter.unusedVariables false

def rA (l : List UInt8) : List UInt8 := digs 2 l
def rL1 (l : List UInt8) : List UInt8 := l.drop (rA l).length
def rL2 (l : List UInt8) : List UInt8 := sgnL 58 (rL1 l)
def rM (l : List UInt8) : List UInt8 := digs 2 (rL2 l)
def rL3 (l : List UInt8) : List UInt8 := (rL2 l).drop (rM l).length
def rL4 (l : List UInt8) : List UInt8 := sgnL 58 (rL3 l)
def rS (l : List UInt8) : List UInt8 := digs 2 (rL4 l)
def rL5 (l : List UInt8) : List UInt8 := (rL4 l).drop (rS l).length
def rL6 (l : List UInt8) : List UInt8 := sgnL 46 (rL5 l)
def rU (l : List UInt8) : List UInt8 := digs 6 (rL6 l)
def rL7 (l : List UInt8) : List UInt8 := (rL6 l).drop (rU l).length
/-- what was wrong, up to the minutes, the seconds, the fraction. -/
def rQ1 (l : List UInt8) : Bool := false || decide ((rA l).length < 1)
def rQ2 (l : List UInt8) : Bool := if sgnB 58 (rL1 l) = true then rQ1 l else true
def rQ3 (l : List UInt8) : Bool := rQ2 l || decide ((rM l).length < 2)
def rQ5 (l : List UInt8) : Bool := rQ3 l || decide ((rS l).length < 2)
def rQ7 (l : List UInt8) : Bool := rQ5 l || decide ((rU l).length < 1)
/-- the answer, if nothing is wrong and nothing left. -/
def rdV (q : Bool) (r : List UInt8) (v : Int) : Int := if q = false ∧ r = [] then v else 0
def rdE (q : Bool) (r : List UInt8) (e : Int) : Int := if q = false ∧ r = [] then e else 13
theorem rd_yes {q : Bool} {r : List UInt8} (h : q = false) (g : r = []) (v e : Int) : rdV q r v = v ∧ rdE q r e = e := ⟨if_pos ⟨h, g⟩, if_pos ⟨h, g⟩⟩
theorem rd_bad {q : Bool} {r : List UInt8} (h : q = true) (v e : Int) : rdV q r v = 0 ∧ rdE q r e = 13 := ⟨if_neg (fun k => by rw [h] at k; exact absurd k.1 (by decide)), if_neg (fun k => by rw [h] at k; exact absurd k.1 (by decide))⟩
theorem rd_left {q : Bool} {r : List UInt8} (g : r ≠ []) (v e : Int) : rdV q r v = 0 ∧ rdE q r e = 13 := ⟨if_neg (fun k => g k.2), if_neg (fun k => g k.2)⟩

theorem SBox.new (w : World) (l : List UInt8) (s : ByteArray) (hs : s = ⟨l.toArray⟩) (t : TypeId) : SBox (w.alloc (.cells #[.string s, .bool false] t)) w.heap.size l false := by
  subst hs
  exact ⟨by simp, by rw [World.cell?_alloc_at _ _ _ _ rfl]; rfl, by rw [World.cell?_alloc_at _ _ _ _ rfl]; rfl, by rw [World.frozen?_alloc_at _ _ _ _ rfl], by rw [World.frozen?_alloc_at _ _ _ _ rfl]⟩
theorem sgnL_len (c : UInt8) (l : List UInt8) : (sgnL c l).length ≤ l.length := by
  cases l with
  | nil => exact Nat.le_refl _
  | cons x r =>
    show (if x = c then r else x :: r).length ≤ _
    split <;> simp

end Go.Proofs.YtdkodkkbggdpbabDoor.Clk

/- Contract of the reference's Read where seconds come, and no fraction. -/
namespace Go.Proofs.YtdkodkkbggdpbabDoor.Clk
open Go.RowKit
set_option linter.unusedVariables false

end Go.Proofs.YtdkodkkbggdpbabDoor.Clk

/- Contract of the reference's Read where seconds and a fraction come. -/
namespace Go.Proofs.YtdkodkkbggdpbabDoor.Clk
open Go.RowKit
set_option linter.unusedVariables false

theorem takeWhile_all (p : UInt8 → Bool) : ∀ (l : List UInt8) (c : UInt8), c ∈ l.takeWhile p → p c = true
  | [], c, h => by simp at h
  | x :: l, c, h => by
    by_cases hx : p x = true
    · rw [List.takeWhile_cons_of_pos hx] at h
      rcases List.mem_cons.1 h with rfl | h
      · exact hx
      · exact takeWhile_all p l c h
    · rw [List.takeWhile_cons_of_neg hx] at h; cases h

end Go.Proofs.YtdkodkkbggdpbabDoor.Clk

/- Mathematics: what clock.runs finds in a text, over its bytes; what a time's text looks like; the scan finds just that. -/
namespace Go.Proofs.YtdkodkkbggdpbabDoor.Clk
open Go.RowKit
set_option linter.unusedVariables false

/-- clock.runs over bytes. -/
def runsL : List UInt8 → List Run → Run → Option (List Run)
  | [], l, r => some (l ++ [r])
  | c :: q, l, r =>
    if isDg c = true ∧ r.2.1 < 6 then runsL q l (r.1, r.2.1 + 1, r.2.2 * 10 + ((c.toNat : Int) - 48))
    else if (c = 58 ∨ c = 46) ∧ 0 < r.2.1 ∧ l.length < 3 then runsL q (l ++ [r]) ((c.toNat : Int), 0, 0)
    else none
theorem isDg_iff (c : UInt8) : isDg c = true ↔ 48 ≤ c.toNat ∧ c.toNat ≤ 57 := by
  unfold isDg; rw [Bool.and_eq_true, decide_eq_true_iff, decide_eq_true_iff]
theorem mark_nat (c : UInt8) : (c = 58 ∨ c = 46) ↔ (c.toNat = 58 ∨ c.toNat = 46) := by
  constructor
  · rintro (rfl | rfl) <;> decide
  · rintro (h | h)
    · exact .inl (UInt8.toNat_inj.1 h)
    · exact .inr (UInt8.toNat_inj.1 h)
theorem runsF_L (s : ByteArray) : ∀ (q p : List UInt8) (f : Nat) (l : List Run) (r : Run), s.data.toList = p ++ q → q.length ≤ f → runsF s f p.length l r = runsL q l r
  | [], p, f, l, r, hs, hf => by
    have hz : s.size = p.length := by
      have : s.data.toList.length = p.length := by rw [hs]; simp
      rw [← this]; simp
    rw [runsF_end s f _ l r (by omega)]; rfl
  | c :: q, p, f, l, r, hs, hf => by
    obtain ⟨f', rfl⟩ : ∃ f', f = f' + 1 := ⟨f - 1, by simp at hf; omega⟩
    have hf' : q.length ≤ f' := by simp at hf; omega
    obtain ⟨m, d, n⟩ := r
    have hz : s.size = p.length + (q.length + 1) := by
      have : s.data.toList.length = p.length + (q.length + 1) := by rw [hs]; simp
      rw [← this]; simp
    have ih : ∀ (l : List Run) (r : Run), runsF s f' (p.length + 1) l r = runsL q l r := fun l r => by
      have := runsF_L s q (p ++ [c]) f' l r (by rw [hs]; simp) hf'
      rwa [List.length_append] at this
    by_cases hc : c.toNat < 128
    · obtain ⟨h, e⟩ := at_of hs rfl hc
      have eR : ((Utf8.decode s p.length).1 : Int) = (c.toNat : Int) := by rw [e]
      unfold runsL
      by_cases h1 : isDg c = true ∧ d < 6
      · rw [if_pos h1, runsF_digit h eR (by have := (isDg_iff c).1 h1.1; omega) (by have := (isDg_iff c).1 h1.1; omega) h1.2, e]
        exact ih _ _
      · rw [if_neg h1]
        by_cases h2 : (c = 58 ∨ c = 46) ∧ 0 < d ∧ l.length < 3
        · rw [if_pos h2, runsF_mark h eR (by have := (mark_nat c).1 h2.1; omega) h2.2.1 h2.2.2, e]
          exact ih _ _
        · rw [if_neg h2]
          refine runsF_no h eR (fun k => h1 ⟨(isDg_iff c).2 ⟨by omega, by omega⟩, k.2.2⟩) (fun k => h2 ⟨(mark_nat c).2 (by omega), k.2⟩)
    · have h : p.length < s.size := by omega
      have hg : s[p.length]'h = c := by
        show s.data[p.length]'h = c
        rw [← Array.getElem_toList]
        have : s.data.toList[p.length]? = some c := by rw [hs]; simp
        exact (List.getElem?_eq_some_iff.1 this).2
      have hi := (decode_high s p.length h (by rw [hg]; omega)).1
      unfold runsL
      rw [if_neg (fun k => by have := (isDg_iff c).1 k.1; omega), if_neg (fun k => by have := (mark_nat c).1 k.1; omega)]
      exact runsF_no h rfl (fun k => by omega) (fun k => by omega)

theorem runsL_all (l : List Run) (m : Int) (q : List UInt8) : ∀ (ds : List UInt8) (d : Nat) (n : Int), (∀ c ∈ ds, isDg c = true) → d + ds.length ≤ 6 → runsL (ds ++ q) l (m, d, n) = runsL q l (m, d + ds.length, valD n ds)
  | [], d, n, _, _ => rfl
  | c :: ds, d, n, h, hd => by
    simp only [List.length_cons] at hd
    rw [List.cons_append]
    conv => lhs; unfold runsL
    rw [if_pos ⟨h c (by simp), by show d < 6; omega⟩]
    show runsL (ds ++ q) l (m, d + 1, n * 10 + ((c.toNat : Int) - 48)) = _
    rw [runsL_all l m q ds (d + 1) _ (fun x hx => h x (by simp [hx])) (by omega), List.length_cons, show d + 1 + ds.length = d + (ds.length + 1) by omega]
    rfl
theorem runsL_mark (l : List Run) (m : Int) (d : Nat) (n : Int) (c : UInt8) (q : List UInt8) (hc : c = 58 ∨ c = 46) (hd : 0 < d) (hl : l.length < 3) : runsL (c :: q) l (m, d, n) = runsL q (l ++ [(m, d, n)]) ((c.toNat : Int), 0, 0) := by
  conv => lhs; unfold runsL
  rw [if_neg (fun k => by have := (isDg_iff c).1 k.1; have := (mark_nat c).1 hc; omega), if_pos ⟨hc, hd, hl⟩]
theorem runsL_parse : ∀ (l : List UInt8) (acc : List Run) (m : Int) (d : Nat) (n : Int) (L : List Run), d ≤ 6 → runsL l acc (m, d, n) = some L →
    ∃ ds rest, l = ds ++ rest ∧ (∀ c ∈ ds, isDg c = true) ∧ d + ds.length ≤ 6 ∧ ((rest = [] ∧ L = acc ++ [(m, d + ds.length, valD n ds)]) ∨ ∃ c q, rest = c :: q ∧ (c = 58 ∨ c = 46) ∧ 0 < d + ds.length ∧ acc.length < 3 ∧ runsL q (acc ++ [(m, d + ds.length, valD n ds)]) ((c.toNat : Int), 0, 0) = some L)
  | [], acc, m, d, n, L, hd, h => ⟨[], [], rfl, fun c hc => (nomatch hc), hd, .inl ⟨rfl, (Option.some.inj h).symm⟩⟩
  | c :: q, acc, m, d, n, L, hd, h => by
    unfold runsL at h
    by_cases h1 : isDg c = true ∧ d < 6
    · rw [if_pos h1] at h
      obtain ⟨ds, rest, e, hD, hz, R⟩ := runsL_parse q acc m (d + 1) _ L (by omega) h
      refine ⟨c :: ds, rest, by rw [e]; rfl, fun x hx => ?_, by simp; omega, ?_⟩
      · rcases List.mem_cons.1 hx with rfl | hx
        · exact h1.1
        · exact hD x hx
      · have e2 : d + (c :: ds).length = d + 1 + ds.length := by simp; omega
        rw [e2]
        exact R
    · rw [if_neg h1] at h
      by_cases h2 : (c = 58 ∨ c = 46) ∧ 0 < d ∧ acc.length < 3
      · rw [if_pos h2] at h
        exact ⟨[], c :: q, rfl, fun x hx => (nomatch hx), hd, .inr ⟨c, q, rfl, h2.1, h2.2.1, h2.2.2, h⟩⟩
      · rw [if_neg h2] at h
        cases h

/-- digits, so many at least, at most. -/
def DgL (A : List UInt8) (a b : Nat) : Prop := (∀ c ∈ A, isDg c = true) ∧ a ≤ A.length ∧ A.length ≤ b
/-- the texts of times. -/
def Form (l : List UInt8) (t : Int × Int × Int × Int) : Prop :=
  (∃ A M, DgL A 1 2 ∧ DgL M 2 2 ∧ l = A ++ 58 :: M ∧ t = (valD 0 A, valD 0 M, 0, 0)) ∨
  (∃ A M S, DgL A 1 2 ∧ DgL M 2 2 ∧ DgL S 2 2 ∧ l = A ++ 58 :: (M ++ 58 :: S) ∧ t = (valD 0 A, valD 0 M, valD 0 S, 0)) ∨
  (∃ A M S U, DgL A 1 2 ∧ DgL M 2 2 ∧ DgL S 2 2 ∧ DgL U 1 6 ∧ l = A ++ 58 :: (M ++ 58 :: (S ++ 46 :: U)) ∧ t = (valD 0 A, valD 0 M, valD 0 S, valD 0 U * 10 ^ (6 - U.length)))

/-- what the program makes of the runs. -/
def cgood : List Run → Option (Int × Int × Int × Int)
  | [r0, r1] => if 0 < r1.2.1 ∧ faceOk [r0, r1] = true then some (r0.2.2, r1.2.2, 0, 0) else none
  | [r0, r1, r2] => if 0 < r2.2.1 ∧ faceOk [r0, r1, r2] = true then some (r0.2.2, r1.2.2, r2.2.2, 0) else none
  | [r0, r1, r2, r3] => if 0 < r3.2.1 ∧ faceOk [r0, r1, r2] = true ∧ r3.1 = 46 then some (r0.2.2, r1.2.2, r2.2.2, r3.2.2 * 10 ^ (6 - r3.2.1)) else none
  | _ => none
def cForm (l : List UInt8) : Option (Int × Int × Int × Int) := (runsL l [] (0, 0, 0)).bind cgood

theorem cgood2 (m0 n0 m1 n1 : Int) (d0 d1 : Nat) : cgood [(m0, d0, n0), (m1, d1, n1)] = if 0 < d1 ∧ faceOk [(m0, d0, n0), (m1, d1, n1)] = true then some (n0, n1, 0, 0) else none := rfl
theorem cgood3 (m0 n0 m1 n1 m2 n2 : Int) (d0 d1 d2 : Nat) : cgood [(m0, d0, n0), (m1, d1, n1), (m2, d2, n2)] = if 0 < d2 ∧ faceOk [(m0, d0, n0), (m1, d1, n1), (m2, d2, n2)] = true then some (n0, n1, n2, 0) else none := rfl
theorem cgood4 (m0 n0 m1 n1 m2 n2 m3 n3 : Int) (d0 d1 d2 d3 : Nat) : cgood [(m0, d0, n0), (m1, d1, n1), (m2, d2, n2), (m3, d3, n3)] = if 0 < d3 ∧ faceOk [(m0, d0, n0), (m1, d1, n1), (m2, d2, n2)] = true ∧ m3 = 46 then some (n0, n1, n2, n3 * 10 ^ (6 - d3)) else none := rfl
theorem face2 (d0 d1 : Nat) (n0 n1 m0 m1 : Int) : faceOk [(m0, d0, n0), (m1, d1, n1)] = true ↔ d0 ≤ 2 ∧ d1 = 2 ∧ m1 = 58 := by
  simp [faceOk, faceFrom, badR]
theorem face3 (d0 d1 d2 : Nat) (n0 n1 n2 m0 m1 m2 : Int) : faceOk [(m0, d0, n0), (m1, d1, n1), (m2, d2, n2)] = true ↔ d0 ≤ 2 ∧ (d1 = 2 ∧ m1 = 58) ∧ d2 = 2 ∧ m2 = 58 := by
  simp [faceOk, faceFrom, badR]
theorem runsL_end (A : List UInt8) (l : List Run) (m : Int) (h : ∀ c ∈ A, isDg c = true) (hz : A.length ≤ 6) : runsL A l (m, 0, 0) = some (l ++ [(m, A.length, valD 0 A)]) := by
  have := runsL_all l m [] A 0 0 h (by omega)
  rw [List.append_nil, Nat.zero_add] at this
  exact this
theorem runsL_go (A q : List UInt8) (l : List Run) (m : Int) (c : UInt8) (h : ∀ c ∈ A, isDg c = true) (hz : A.length ≤ 6) (h0 : 0 < A.length) (hc : c = 58 ∨ c = 46) (hl : l.length < 3) : runsL (A ++ c :: q) l (m, 0, 0) = runsL q (l ++ [(m, A.length, valD 0 A)]) ((c.toNat : Int), 0, 0) := by
  rw [runsL_all l m (c :: q) A 0 0 h (by omega), Nat.zero_add, runsL_mark _ _ _ _ _ _ hc h0 hl]

theorem c_of_form {l : List UInt8} {t : Int × Int × Int × Int} (h : Form l t) : cForm l = some t := by
  rcases h with ⟨A, M, ⟨a, a1, a2⟩, ⟨b, b1, b2⟩, rfl, rfl⟩ | ⟨A, M, S, ⟨a, a1, a2⟩, ⟨b, b1, b2⟩, ⟨c, c1, c2⟩, rfl, rfl⟩ | ⟨A, M, S, U, ⟨a, a1, a2⟩, ⟨b, b1, b2⟩, ⟨c, c1, c2⟩, ⟨d, d1, d2⟩, rfl, rfl⟩
  · unfold cForm
    rw [runsL_go A M [] 0 58 a (by omega) (by omega) (.inl rfl) (by decide), runsL_end M _ _ b (by omega)]
    show cgood [(0, A.length, valD 0 A), (58, M.length, valD 0 M)] = _
    rw [cgood2]
    rw [if_pos ⟨by show 0 < M.length; omega, (face2 _ _ _ _ _ _).2 ⟨by omega, by omega, rfl⟩⟩]
  · unfold cForm
    rw [runsL_go A _ [] 0 58 a (by omega) (by omega) (.inl rfl) (by decide), runsL_go M S _ _ 58 b (by omega) (by omega) (.inl rfl) (by simp), runsL_end S _ _ c (by omega)]
    show cgood [(0, A.length, valD 0 A), (58, M.length, valD 0 M), (58, S.length, valD 0 S)] = _
    rw [cgood3]
    rw [if_pos ⟨by show 0 < S.length; omega, (face3 _ _ _ _ _ _ _ _ _).2 ⟨by omega, ⟨by omega, rfl⟩, by omega, rfl⟩⟩]
  · unfold cForm
    rw [runsL_go A _ [] 0 58 a (by omega) (by omega) (.inl rfl) (by decide), runsL_go M _ _ _ 58 b (by omega) (by omega) (.inl rfl) (by simp), runsL_go S U _ _ 46 c (by omega) (by omega) (.inr rfl) (by simp), runsL_end U _ _ d (by omega)]
    show cgood [(0, A.length, valD 0 A), (58, M.length, valD 0 M), (58, S.length, valD 0 S), (46, U.length, valD 0 U)] = _
    rw [cgood4]
    rw [if_pos ⟨by show 0 < U.length; omega, (face3 _ _ _ _ _ _ _ _ _).2 ⟨by omega, ⟨by omega, rfl⟩, by omega, rfl⟩, rfl⟩]

theorem m58 {c : UInt8} (h : (c.toNat : Int) = 58) : c = 58 := UInt8.toNat_inj.1 (by have : (58 : UInt8).toNat = 58 := rfl; omega)
theorem m46 {c : UInt8} (h : (c.toNat : Int) = 46) : c = 46 := UInt8.toNat_inj.1 (by have : (46 : UInt8).toNat = 46 := rfl; omega)
theorem form_of_c {l : List UInt8} {t : Int × Int × Int × Int} (h : cForm l = some t) : Form l t := by
  unfold cForm at h
  obtain ⟨L, hL, hg⟩ := Option.bind_eq_some_iff.1 h
  obtain ⟨A, r0, rfl, a, a6, R⟩ := runsL_parse _ _ _ _ _ _ (by decide) hL
  rw [Nat.zero_add] at R a6
  rcases R with ⟨rfl, rfl⟩ | ⟨c1, q1, rfl, hc1, z1, _, R⟩
  · cases hg
  obtain ⟨M, r1, rfl, b, b6, R⟩ := runsL_parse _ _ _ _ _ _ (by decide) R
  rw [Nat.zero_add] at R b6
  rcases R with ⟨rfl, rfl⟩ | ⟨c2, q2, rfl, hc2, z2, _, R⟩
  · change cgood [(0, A.length, valD 0 A), ((c1.toNat : Int), M.length, valD 0 M)] = _ at hg
    rw [cgood2] at hg
    by_cases k : 0 < M.length ∧ faceOk [(0, A.length, valD 0 A), ((c1.toNat : Int), M.length, valD 0 M)] = true
    · rw [if_pos k] at hg
      obtain ⟨k1, k2, k3⟩ := (face2 _ _ _ _ _ _).1 k.2
      obtain rfl := m58 k3
      exact .inl ⟨A, M, ⟨a, by omega, by omega⟩, ⟨b, by omega, by omega⟩, by simp, (Option.some.inj hg).symm⟩
    · rw [if_neg k] at hg; cases hg
  obtain ⟨S, r2, rfl, c, c6, R⟩ := runsL_parse _ _ _ _ _ _ (by decide) R
  rw [Nat.zero_add] at R c6
  rcases R with ⟨rfl, rfl⟩ | ⟨c3, q3, rfl, hc3, z3, _, R⟩
  · change cgood [(0, A.length, valD 0 A), ((c1.toNat : Int), M.length, valD 0 M), ((c2.toNat : Int), S.length, valD 0 S)] = _ at hg
    rw [cgood3] at hg
    by_cases k : 0 < S.length ∧ faceOk [(0, A.length, valD 0 A), ((c1.toNat : Int), M.length, valD 0 M), ((c2.toNat : Int), S.length, valD 0 S)] = true
    · rw [if_pos k] at hg
      obtain ⟨k1, ⟨k2, k3⟩, k4, k5⟩ := (face3 _ _ _ _ _ _ _ _ _).1 k.2
      obtain rfl := m58 k3
      obtain rfl := m58 k5
      exact .inr (.inl ⟨A, M, S, ⟨a, by omega, by omega⟩, ⟨b, by omega, by omega⟩, ⟨c, by omega, by omega⟩, by simp, (Option.some.inj hg).symm⟩)
    · rw [if_neg k] at hg; cases hg
  obtain ⟨U, r3, rfl, d, d6, R⟩ := runsL_parse _ _ _ _ _ _ (by decide) R
  rw [Nat.zero_add] at R d6
  rcases R with ⟨rfl, rfl⟩ | ⟨c4, q4, rfl, hc4, z4, hz, R⟩
  · change cgood [(0, A.length, valD 0 A), ((c1.toNat : Int), M.length, valD 0 M), ((c2.toNat : Int), S.length, valD 0 S), ((c3.toNat : Int), U.length, valD 0 U)] = _ at hg
    rw [cgood4] at hg
    by_cases k : 0 < U.length ∧ faceOk [(0, A.length, valD 0 A), ((c1.toNat : Int), M.length, valD 0 M), ((c2.toNat : Int), S.length, valD 0 S)] = true ∧ (c3.toNat : Int) = 46
    · rw [if_pos k] at hg
      obtain ⟨k1, ⟨k2, k3⟩, k4, k5⟩ := (face3 _ _ _ _ _ _ _ _ _).1 k.2.1
      obtain rfl := m58 k3
      obtain rfl := m58 k5
      obtain rfl := m46 k.2.2
      exact .inr (.inr ⟨A, M, S, U, ⟨a, by omega, by omega⟩, ⟨b, by omega, by omega⟩, ⟨c, by omega, by omega⟩, ⟨d, by omega, by omega⟩, by simp, (Option.some.inj hg).symm⟩)
    · rw [if_neg k] at hg; cases hg
  · simp at hz

/-- what the reference makes of the scan. -/
def rForm (l : List UInt8) : Option (Int × Int × Int × Int) :=
  if sgnB 58 (rL3 l) = false then (if rQ3 l = false ∧ rL4 l = [] then some (valD 0 (rA l), valD 0 (rM l), 0, 0) else none)
  else if sgnB 46 (rL5 l) = false then (if rQ5 l = false ∧ rL6 l = [] then some (valD 0 (rA l), valD 0 (rM l), valD 0 (rS l), 0) else none)
  else (if rQ7 l = false ∧ rL7 l = [] then some (valD 0 (rA l), valD 0 (rM l), valD 0 (rS l), valD 0 (rU l) * 10 ^ (6 - (rU l).length)) else none)

theorem digs_dg (k : Nat) (l : List UInt8) : ∀ c ∈ digs k l, isDg c = true := fun c hc => takeWhile_all isDg _ c hc
theorem digs_le (k : Nat) (l : List UInt8) : (digs k l).length ≤ k := Nat.le_trans ((List.takeWhile_sublist _).length_le) (by simp; omega)
theorem digs_split (k : Nat) (l : List UInt8) : l = digs k l ++ l.drop (digs k l).length := by
  have h : digs k l <+: l := (List.takeWhile_prefix _).trans (List.take_prefix _ _)
  obtain ⟨r, hr⟩ := h
  conv => rhs; rw [← hr]
  rw [show digs k (digs k l ++ r) = digs k l by rw [hr]]
  simp
  exact hr.symm
theorem sgn_yes {c : UInt8} {l : List UInt8} (h : sgnB c l = true) : l = c :: sgnL c l := by
  cases l with
  | nil => cases h
  | cons x r =>
    have : x = c := by simpa [sgnB] using h
    subst this
    simp [sgnL]
theorem sgn_no {c : UInt8} {l : List UInt8} (h : sgnB c l = false) : sgnL c l = l := by
  cases l with
  | nil => rfl
  | cons x r =>
    have : ¬ x = c := by simpa [sgnB] using h
    simp [sgnL, this]
theorem digs_of {k : Nat} {A q : List UInt8} (hA : ∀ c ∈ A, isDg c = true) (hk : A.length ≤ k) (hq : A.length = k ∨ q = [] ∨ ∃ x r, q = x :: r ∧ isDg x = false) : digs k (A ++ q) = A := by
  have := digs_stop (most := k) (l := A ++ q) (k := A.length) hk (by simp) (fun c hc => hA c (by simpa using hc)) (by
    rcases hq with h | rfl | ⟨x, r, rfl, hx⟩
    · exact .inl h
    · exact .inr (.inl (by simp))
    · exact .inr (.inr ⟨x, by simp, hx⟩))
  rw [this]; simp
theorem no58 : isDg 58 = false := by decide
theorem no46 : isDg 46 = false := by decide

theorem form_of_r {l : List UInt8} {t : Int × Int × Int × Int} (h : rForm l = some t) : Form l t := by
  have s1 : l = rA l ++ rL1 l := digs_split 2 l
  have s2 : rL2 l = rM l ++ rL3 l := digs_split 2 _
  have s3 : rL4 l = rS l ++ rL5 l := digs_split 2 _
  have s4 : rL6 l = rU l ++ rL7 l := digs_split 6 _
  have d1 : (rA l).length ≤ 2 := digs_le 2 _
  have d2 : (rM l).length ≤ 2 := digs_le 2 _
  have d3 : (rS l).length ≤ 2 := digs_le 2 _
  have d4 : (rU l).length ≤ 6 := digs_le 6 _
  have e1 := digs_dg 2 l
  have e2 := digs_dg 2 (rL2 l)
  have e3 := digs_dg 2 (rL4 l)
  have e4 := digs_dg 6 (rL6 l)
  have q3 : rQ3 l = false → 1 ≤ (rA l).length ∧ rL1 l = 58 :: rL2 l ∧ 2 ≤ (rM l).length := fun h => by
    unfold rQ3 at h
    rw [Bool.or_eq_false_iff] at h
    obtain ⟨h1, h2⟩ := h
    unfold rQ2 at h1
    by_cases hs : sgnB 58 (rL1 l) = true
    · rw [if_pos hs] at h1
      unfold rQ1 at h1
      rw [Bool.false_or] at h1
      exact ⟨by have := of_decide_eq_false h1; omega, sgn_yes hs, by have := of_decide_eq_false h2; omega⟩
    · rw [if_neg hs] at h1; cases h1
  have q5 : rQ5 l = false → rQ3 l = false ∧ 2 ≤ (rS l).length := fun h => by
    unfold rQ5 at h
    rw [Bool.or_eq_false_iff] at h
    exact ⟨h.1, by have := of_decide_eq_false h.2; omega⟩
  have q7 : rQ7 l = false → rQ5 l = false ∧ 1 ≤ (rU l).length := fun h => by
    unfold rQ7 at h
    rw [Bool.or_eq_false_iff] at h
    exact ⟨h.1, by have := of_decide_eq_false h.2; omega⟩
  unfold rForm at h
  by_cases c1 : sgnB 58 (rL3 l) = false
  · rw [if_pos c1] at h
    by_cases k : rQ3 l = false ∧ rL4 l = []
    · rw [if_pos k] at h
      obtain ⟨a, b, c⟩ := q3 k.1
      have z : rL3 l = [] := by rw [← sgn_no c1]; exact k.2
      refine .inl ⟨rA l, rM l, ⟨e1, a, d1⟩, ⟨e2, c, d2⟩, ?_, (Option.some.inj h).symm⟩
      rw [z, List.append_nil] at s2
      rw [← s2, ← b]; exact s1
    · rw [if_neg k] at h; cases h
  · have c1' : sgnB 58 (rL3 l) = true := by simpa using c1
    have y1 : rL3 l = 58 :: rL4 l := sgn_yes c1'
    rw [if_neg c1] at h
    by_cases c2 : sgnB 46 (rL5 l) = false
    · rw [if_pos c2] at h
      by_cases k : rQ5 l = false ∧ rL6 l = []
      · rw [if_pos k] at h
        obtain ⟨k5, f⟩ := q5 k.1
        obtain ⟨a, b, c⟩ := q3 k5
        have z : rL5 l = [] := by rw [← sgn_no c2]; exact k.2
        refine .inr (.inl ⟨rA l, rM l, rS l, ⟨e1, a, d1⟩, ⟨e2, c, d2⟩, ⟨e3, f, d3⟩, ?_, (Option.some.inj h).symm⟩)
        rw [z, List.append_nil] at s3
        rw [← s3, ← y1, ← s2, ← b]; exact s1
      · rw [if_neg k] at h; cases h
    · have c2' : sgnB 46 (rL5 l) = true := by simpa using c2
      have y2 : rL5 l = 46 :: rL6 l := sgn_yes c2'
      rw [if_neg c2] at h
      by_cases k : rQ7 l = false ∧ rL7 l = []
      · rw [if_pos k] at h
        obtain ⟨k7, g⟩ := q7 k.1
        obtain ⟨k5, f⟩ := q5 k7
        obtain ⟨a, b, c⟩ := q3 k5
        refine .inr (.inr ⟨rA l, rM l, rS l, rU l, ⟨e1, a, d1⟩, ⟨e2, c, d2⟩, ⟨e3, f, d3⟩, ⟨e4, g, d4⟩, ?_, (Option.some.inj h).symm⟩)
        rw [k.2, List.append_nil] at s4
        rw [← s4, ← y2, ← s3, ← y1, ← s2, ← b]; exact s1
      · rw [if_neg k] at h; cases h

theorem q2_of {l x : List UInt8} (h : rL1 l = 58 :: x) : rQ2 l = rQ1 l := by unfold rQ2; rw [h]; exact if_pos (by simp [sgnB])
theorem drop_len (A q : List UInt8) : (A ++ q).drop A.length = q := by simp
theorem r_of_form {l : List UInt8} {t : Int × Int × Int × Int} (h : Form l t) : rForm l = some t := by
  rcases h with ⟨A, M, ⟨a, a1, a2⟩, ⟨b, b1, b2⟩, hl, rfl⟩ | ⟨A, M, S, ⟨a, a1, a2⟩, ⟨b, b1, b2⟩, ⟨c, c1, c2⟩, hl, rfl⟩ | ⟨A, M, S, U, ⟨a, a1, a2⟩, ⟨b, b1, b2⟩, ⟨c, c1, c2⟩, ⟨d, d1, d2⟩, hl, rfl⟩
  · have xA : rA l = A := by unfold rA; rw [hl]; exact digs_of a a2 (.inr (.inr ⟨58, M, rfl, no58⟩))
    have x1 : rL1 l = 58 :: M := by unfold rL1; rw [xA, hl]; exact drop_len _ _
    have x2 : rL2 l = M := by unfold rL2; rw [x1]; rfl
    have xM : rM l = M := by unfold rM; rw [x2]; have := digs_of (k := 2) (q := []) b b2 (.inr (.inl rfl)); rwa [List.append_nil] at this
    have x3 : rL3 l = [] := by unfold rL3; rw [xM, x2]; simp
    have x4 : rL4 l = [] := by unfold rL4; rw [x3]; rfl
    have g : sgnB 58 (rL3 l) = false := by rw [x3]; rfl
    have q : rQ3 l = false := by
      unfold rQ3
      rw [q2_of x1]
      unfold rQ1
      rw [xA, xM, decide_eq_false (by omega), decide_eq_false (by omega)]; rfl
    unfold rForm
    rw [if_pos g, if_pos ⟨q, x4⟩, xA, xM]
  · have xA : rA l = A := by unfold rA; rw [hl]; exact digs_of a a2 (.inr (.inr ⟨58, _, rfl, no58⟩))
    have x1 : rL1 l = 58 :: (M ++ 58 :: S) := by unfold rL1; rw [xA, hl]; exact drop_len _ _
    have x2 : rL2 l = M ++ 58 :: S := by unfold rL2; rw [x1]; rfl
    have xM : rM l = M := by unfold rM; rw [x2]; exact digs_of b b2 (.inr (.inr ⟨58, _, rfl, no58⟩))
    have x3 : rL3 l = 58 :: S := by unfold rL3; rw [xM, x2]; exact drop_len _ _
    have x4 : rL4 l = S := by unfold rL4; rw [x3]; rfl
    have xS : rS l = S := by unfold rS; rw [x4]; have := digs_of (k := 2) (q := []) c c2 (.inr (.inl rfl)); rwa [List.append_nil] at this
    have x5 : rL5 l = [] := by unfold rL5; rw [xS, x4]; simp
    have x6 : rL6 l = [] := by unfold rL6; rw [x5]; rfl
    have g : ¬ sgnB 58 (rL3 l) = false := by rw [x3]; simp [sgnB]
    have g2 : sgnB 46 (rL5 l) = false := by rw [x5]; rfl
    have q : rQ5 l = false := by
      unfold rQ5 rQ3
      rw [q2_of x1]
      unfold rQ1
      rw [xA, xM, xS, decide_eq_false (by omega), decide_eq_false (by omega), decide_eq_false (by omega)]; rfl
    unfold rForm
    rw [if_neg g, if_pos g2, if_pos ⟨q, x6⟩, xA, xM, xS]
  · have xA : rA l = A := by unfold rA; rw [hl]; exact digs_of a a2 (.inr (.inr ⟨58, _, rfl, no58⟩))
    have x1 : rL1 l = 58 :: (M ++ 58 :: (S ++ 46 :: U)) := by unfold rL1; rw [xA, hl]; exact drop_len _ _
    have x2 : rL2 l = M ++ 58 :: (S ++ 46 :: U) := by unfold rL2; rw [x1]; rfl
    have xM : rM l = M := by unfold rM; rw [x2]; exact digs_of b b2 (.inr (.inr ⟨58, _, rfl, no58⟩))
    have x3 : rL3 l = 58 :: (S ++ 46 :: U) := by unfold rL3; rw [xM, x2]; exact drop_len _ _
    have x4 : rL4 l = S ++ 46 :: U := by unfold rL4; rw [x3]; rfl
    have xS : rS l = S := by unfold rS; rw [x4]; exact digs_of c c2 (.inr (.inr ⟨46, _, rfl, no46⟩))
    have x5 : rL5 l = 46 :: U := by unfold rL5; rw [xS, x4]; exact drop_len _ _
    have x6 : rL6 l = U := by unfold rL6; rw [x5]; rfl
    have xU : rU l = U := by unfold rU; rw [x6]; have := digs_of (k := 6) (q := []) d d2 (.inr (.inl rfl)); rwa [List.append_nil] at this
    have x7 : rL7 l = [] := by unfold rL7; rw [xU, x6]; simp
    have g : ¬ sgnB 58 (rL3 l) = false := by rw [x3]; simp [sgnB]
    have g2 : ¬ sgnB 46 (rL5 l) = false := by rw [x5]; simp [sgnB]
    have q : rQ7 l = false := by
      unfold rQ7 rQ5 rQ3
      rw [q2_of x1]
      unfold rQ1
      rw [xA, xM, xS, xU, decide_eq_false (by omega), decide_eq_false (by omega), decide_eq_false (by omega), decide_eq_false (by omega)]; rfl
    unfold rForm
    rw [if_neg g, if_neg g2, if_pos ⟨q, x7⟩, xA, xM, xS, xU]

theorem forms_same (l : List UInt8) : cForm l = rForm l := by
  cases h : rForm l with
  | some t => exact c_of_form (form_of_r h)
  | none =>
    cases k : cForm l with
    | none => rfl
    | some t => rw [r_of_form (form_of_c k)] at h; cases h

/-- the answer. -/
def ansV : Option (Int × Int × Int × Int) → Int
  | some (h, m, s, u) => mkV h m s u
  | none => 0
def ansE : Option (Int × Int × Int × Int) → Int
  | some (h, m, s, u) => mkE h m s u
  | none => 13

end Go.Proofs.YtdkodkkbggdpbabDoor.Clk
