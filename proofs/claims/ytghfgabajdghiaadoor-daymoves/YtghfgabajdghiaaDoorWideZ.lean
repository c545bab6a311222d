/- Contract of the reference's Over. -/
import Derived.Test.YtghfgabajdghiaaDoorWideY
namespace Go.Proofs.YtghfgabajdghiaaDoor
open Go.RowKit
set_option linter.unusedVariables false

theorem field_w (s : Bool) (b : Nat) (w : World) : (Instr.field 66 (.agg #[.bool s, .slice (some ⟨b, 0, none⟩) 6 6]) 1).run Tryd.prog w = .ok (.slice (some ⟨b, 0, none⟩) 6 6) w := by kernel_rfl

set_option maxRecDepth 1000000 in
set_option maxHeartbeats 4000000 in
theorem over_same (n : Bool) (ba bb va vb : Nat) (w : World) (ha : Row w ba va) (hb : Row w bb vb) (hpos : 0 < vb) (hvb : vb < 18446744073709551616) :
    Calls Tryd.prog 81 #[.agg #[.bool n, .slice (some ⟨ba, 0, none⟩) 6 6], .agg #[.bool n, .slice (some ⟨bb, 0, none⟩) 6 6]] w fun e w' => ∃ b, e = .returned (.agg #[.bool false, .slice (some ⟨b, 0, none⟩) 6 6]) ∧ Below w.heap.size w w' ∧ Row w' b (va / vb) := by
  have HA : Hid (Row (tw w n n ba bb) ba va) := (((ha.alloc _).alloc _).alloc _)
  have HB : Hid (Row (tw w n n ba bb) bb vb) := (((hb.alloc _).alloc _).alloc _)
  go_enter Tryd.func81, Tryd.ntmps81
  go_wp2_with fail
  refine (divide_any ba bb va vb (tw w n n ba bb) HA.out HB.out hpos hvb).mono ?_
  rintro e w1 ⟨bq, br, rfl, hB, h1, h2, hQ, hR⟩
  have e3 : (tw w n n ba bb).heap.size = w.heap.size + 1 + 1 + 1 := size3 _ _ _
  rw [e3] at hB h1 h2
  have HBW : Hid (Below (w.heap.size + 1 + 1 + 1) (tw w n n ba bb) w1) := hB
  have HQ : Hid (Row w1 bq (va / vb)) := hQ
  obtain ⟨c1, c2, c3, c4, c5, c6, f5, f6⟩ := boxes hB
  clear hB hQ hR e3
  go_wp2
  refine bodyPost_ret (v := .agg #[.bool false, .slice (some ⟨bq, 0, none⟩) 6 6]) (by simp [results, Tryd.results81, go_sem, c5, c6]) rfl ⟨bq, rfl, ?_, ?_⟩
  · exact (((three _ _ _).trans (HBW.out.mono (by omega))).setCell (Nat.le_trans (Nat.le_add_right _ 2) (Nat.le_refl _)) _).setCell (Nat.le_trans (Nat.le_add_right _ 2) (Nat.le_refl _)) _
  · exact (HQ.out.setCell (a := ⟨w.heap.size + 1 + 1, 0, none⟩) (show w.heap.size + 1 + 1 ≠ bq by omega) _).setCell (a := ⟨w.heap.size + 1 + 1, 1, none⟩) (show w.heap.size + 1 + 1 ≠ bq by omega) _

set_option maxRecDepth 1000000 in
set_option maxHeartbeats 4000000 in
theorem over_exact (n m : Bool) (hnm : ¬ n = m) (ba bb va vb : Nat) (w : World) (ha : Row w ba va) (hb : Row w bb vb) (hpos : 0 < vb) (hvb : vb < 18446744073709551616) (hz : va % vb = 0) :
    Calls Tryd.prog 81 #[.agg #[.bool n, .slice (some ⟨ba, 0, none⟩) 6 6], .agg #[.bool m, .slice (some ⟨bb, 0, none⟩) 6 6]] w fun e w' => ∃ b, e = .returned (.agg #[.bool (!decide (va / vb = 0)), .slice (some ⟨b, 0, none⟩) 6 6]) ∧ Below w.heap.size w w' ∧ Row w' b (va / vb) := by
  have HA : Hid (Row (tw w n m ba bb) ba va) := (((ha.alloc _).alloc _).alloc _)
  have HB : Hid (Row (tw w n m ba bb) bb vb) := (((hb.alloc _).alloc _).alloc _)
  have hnm' : (n == m) = false := by cases n <;> cases m <;> simp_all
  have hnn : (n != m) = true := by cases n <;> cases m <;> simp_all
  go_enter Tryd.func81, Tryd.ntmps81
  go_wp2_with fail
  refine (divide_any ba bb va vb (tw w n m ba bb) HA.out HB.out hpos hvb).mono ?_
  rintro e w1 ⟨bq, br, rfl, hB, h1, h2, hQ, hR⟩
  have e3 : (tw w n m ba bb).heap.size = w.heap.size + 1 + 1 + 1 := size3 _ _ _
  rw [e3] at hB h1 h2
  have HZ1 := rzero_any br _ w1 hR
  have HBW : Hid (Below (w.heap.size + 1 + 1 + 1) (tw w n m ba bb) w1) := hB
  have hs1 : w.heap.size + 1 + 1 + 1 ≤ w1.heap.size := by have := hB.size; rw [e3] at this; exact this
  have HQ : Hid (Row w1 bq (va / vb)) := hQ
  rw [decide_eq_true hz] at HZ1
  have HZ : Hid (Calls Tryd.prog 85 #[.slice (some ⟨br, 0, none⟩) 6 6] w1 fun e w' => e = .returned (.bool true) ∧ Below w1.heap.size w1 w') := HZ1
  obtain ⟨c1, c2, c3, c4, c5, c6, f5, f6⟩ := boxes hB
  clear hB hQ hR e3 hz HZ1
  go_wp2_with fail
  refine HZ.out.mono ?_
  rintro e w2 ⟨rfl, hB2⟩
  have HB2 : Hid (Below (w.heap.size + 1 + 1 + 1) (tw w n m ba bb) w2) := HBW.out.trans (hB2.mono hs1)
  have HQ2 : Hid (Row w2 bq (va / vb)) := HQ.out.below hB2 HQ.out.2.1
  have hs2 : w1.heap.size ≤ w2.heap.size := hB2.size
  clear c1 c2 c3 c4 c5 c6 f5 f6 hB2
  obtain ⟨c1, c2, c3, c4, c5, c6, f5, f6⟩ := boxes HB2.out
  go_wp2_with fail
  refine (rzero_any bq _ w2 HQ2.out).mono ?_
  rintro e w3 ⟨rfl, hB3⟩
  have HB3 : Hid (Below (w.heap.size + 1 + 1 + 1) (tw w n m ba bb) w3) := HB2.out.trans (hB3.mono (by omega))
  have HQ3 : Hid (Row w3 bq (va / vb)) := HQ2.out.below hB3 HQ2.out.2.1
  clear c1 c2 c3 c4 c5 c6 f5 f6 hB3
  obtain ⟨c1, c2, c3, c4, c5, c6, f5, f6⟩ := boxes HB3.out
  obtain ⟨Z, hZ⟩ : ∃ Z, Z = decide (va / vb = 0) := ⟨_, rfl⟩
  rw [← hZ]
  have HZZ : Hid (Z = decide (va / vb = 0)) := hZ
  clear hZ
  go_wp2
  refine bodyPost_ret (v := .agg #[.bool (!Z), .slice (some ⟨bq, 0, none⟩) 6 6]) (by simp [results, Tryd.results81, go_sem, c5, c6]) rfl ⟨bq, by rw [HZZ.out], ?_, ?_⟩
  · exact (((three _ _ _).trans (HB3.out.mono (by omega))).setCell (Nat.le_trans (Nat.le_add_right _ 2) (Nat.le_refl _)) _).setCell (Nat.le_trans (Nat.le_add_right _ 2) (Nat.le_refl _)) _
  · exact (HQ3.out.setCell (a := ⟨w.heap.size + 1 + 1, 0, none⟩) (show w.heap.size + 1 + 1 ≠ bq by omega) _).setCell (a := ⟨w.heap.size + 1 + 1, 1, none⟩) (show w.heap.size + 1 + 1 ≠ bq by omega) _

set_option maxRecDepth 1000000 in
set_option maxHeartbeats 4000000 in
theorem over_rest (n m : Bool) (hnm : ¬ n = m) (ba bb va vb : Nat) (w : World) (ha : Row w ba va) (hb : Row w bb vb) (hpos : 0 < vb) (hvb : vb < 18446744073709551616) (hz : ¬ va % vb = 0) (hva : va < 4294967296 ^ 5) :
    Calls Tryd.prog 81 #[.agg #[.bool n, .slice (some ⟨ba, 0, none⟩) 6 6], .agg #[.bool m, .slice (some ⟨bb, 0, none⟩) 6 6]] w fun e w' => ∃ b, e = .returned (.agg #[.bool true, .slice (some ⟨b, 0, none⟩) 6 6]) ∧ Below w.heap.size w w' ∧ Row w' b (va / vb + 1) := by
  have HA : Hid (Row (tw w n m ba bb) ba va) := (((ha.alloc _).alloc _).alloc _)
  have HB : Hid (Row (tw w n m ba bb) bb vb) := (((hb.alloc _).alloc _).alloc _)
  have hnm' : (n == m) = false := by cases n <;> cases m <;> simp_all
  have hnn : (n != m) = true := by cases n <;> cases m <;> simp_all
  go_enter Tryd.func81, Tryd.ntmps81
  go_wp2_with fail
  refine (divide_any ba bb va vb (tw w n m ba bb) HA.out HB.out hpos hvb).mono ?_
  rintro e w1 ⟨bq, br, rfl, hB, h1, h2, hQ, hR⟩
  have e3 : (tw w n m ba bb).heap.size = w.heap.size + 1 + 1 + 1 := size3 _ _ _
  rw [e3] at hB h1 h2
  have HZ1 := rzero_any br _ w1 hR
  have HBW : Hid (Below (w.heap.size + 1 + 1 + 1) (tw w n m ba bb) w1) := hB
  have hs1 : w.heap.size + 1 + 1 + 1 ≤ w1.heap.size := by have := hB.size; rw [e3] at this; exact this
  have HQ : Hid (Row w1 bq (va / vb)) := hQ
  rw [decide_eq_false hz] at HZ1
  have HZ : Hid (Calls Tryd.prog 85 #[.slice (some ⟨br, 0, none⟩) 6 6] w1 fun e w' => e = .returned (.bool false) ∧ Below w1.heap.size w1 w') := HZ1
  obtain ⟨c1, c2, c3, c4, c5, c6, f5, f6⟩ := boxes hB
  clear hB hQ hR e3 hz HZ1
  go_wp2_with fail
  refine HZ.out.mono ?_
  rintro e w2 ⟨rfl, hB2⟩
  have HB2 : Hid (Below (w.heap.size + 1 + 1 + 1) (tw w n m ba bb) w2) := HBW.out.trans (hB2.mono hs1)
  have HQ2 : Hid (Row w2 bq (va / vb)) := HQ.out.below hB2 HQ.out.2.1
  have hs2 : w1.heap.size ≤ w2.heap.size := hB2.size
  clear c1 c2 c3 c4 c5 c6 f5 f6 hB2
  obtain ⟨c1, c2, c3, c4, c5, c6, f5, f6⟩ := boxes HB2.out
  go_wp2_with fail
  refine (rof_any 1 (by omega) (by omega) w2).mono ?_
  rintro e w3 ⟨b1, rfl, hB3, hb1, hO⟩
  have HB3 : Hid (Below (w.heap.size + 1 + 1 + 1) (tw w n m ba bb) w3) := HB2.out.trans (hB3.mono (by omega))
  have HQ3 : Hid (Row w3 bq (va / vb)) := HQ2.out.below hB3 HQ2.out.2.1
  have HO : Hid (Row w3 b1 1) := hO
  have hs3 : w2.heap.size ≤ w3.heap.size := hB3.size
  have HC4 : Hid (Calls Tryd.prog 78 #[.slice (some ⟨bq, 0, none⟩) 6 6, .slice (some ⟨b1, 0, none⟩) 6 6] w3 fun e w' => e = .returned (.slice (some ⟨w3.heap.size, 0, none⟩) 6 6) ∧ Part w3 w' w3.heap.size (fun j => Wd.dg (va / vb + 1) j)) := radd_any _ _ _ _ w3 HQ3.out HO.out
  clear c1 c2 c3 c4 c5 c6 f5 f6 hB3 hO
  obtain ⟨c1, c2, c3, c4, c5, c6, f5, f6⟩ := boxes HB3.out
  have hfl := field_w
  go_wp2_with fail
  clear hfl
  refine HC4.out.mono ?_
  rintro e w4 ⟨rfl, hP4⟩
  have hlt : va / vb + 1 < 4294967296 ^ 6 := Nat.lt_of_le_of_lt (Nat.succ_le_succ (Nat.div_le_self _ _)) (Nat.lt_of_le_of_lt (Nat.succ_le_of_lt hva) (by decide))
  have HB4 : Hid (Below (w.heap.size + 1 + 1 + 1) (tw w n m ba bb) w4) := HB3.out.trans (hP4.below.mono (by omega))
  have HQ4 : Hid (Row w4 w3.heap.size (va / vb + 1)) := hP4.row hlt
  have hs4 := hP4.size
  have C5 := rzero_any w3.heap.size _ w4 HQ4.out
  rw [decide_eq_false (Nat.succ_ne_zero (va / vb))] at C5
  have HC5 : Hid (Calls Tryd.prog 85 #[.slice (some ⟨w3.heap.size, 0, none⟩) 6 6] w4 fun e w' => e = .returned (.bool false) ∧ Below w4.heap.size w4 w') := C5
  clear c1 c2 c3 c4 c5 c6 f5 f6 hP4 hlt C5
  obtain ⟨c1, c2, c3, c4, c5, c6, f5, f6⟩ := boxes HB4.out
  go_wp2_with fail
  refine HC5.out.mono ?_
  rintro e w5 ⟨rfl, hB5⟩
  have HB5 : Hid (Below (w.heap.size + 1 + 1 + 1) (tw w n m ba bb) w5) := HB4.out.trans (hB5.mono (by omega))
  have HQ5 : Hid (Row w5 w3.heap.size (va / vb + 1)) := HQ4.out.below hB5 HQ4.out.2.1
  clear c1 c2 c3 c4 c5 c6 f5 f6 hB5
  obtain ⟨c1, c2, c3, c4, c5, c6, f5, f6⟩ := boxes HB5.out
  go_wp2
  refine bodyPost_ret (v := .agg #[.bool true, .slice (some ⟨w3.heap.size, 0, none⟩) 6 6]) (by simp [results, Tryd.results81, go_sem, c5, c6]) rfl ⟨w3.heap.size, rfl, ?_, ?_⟩
  · exact (((three _ _ _).trans (HB5.out.mono (by omega))).setCell (Nat.le_trans (Nat.le_add_right _ 2) (Nat.le_refl _)) _).setCell (Nat.le_trans (Nat.le_add_right _ 2) (Nat.le_refl _)) _
  · exact (HQ5.out.setCell (a := ⟨w.heap.size + 1 + 1, 0, none⟩) (show w.heap.size + 1 + 1 ≠ w3.heap.size by omega) _).setCell (a := ⟨w.heap.size + 1 + 1, 1, none⟩) (show w.heap.size + 1 + 1 ≠ w3.heap.size by omega) _

theorem over_math (x c : Int) (hc : c ≠ 0) : x.fdiv c = if (decide (x < 0) != decide (c < 0)) = true then (if x.natAbs % c.natAbs = 0 then -((x.natAbs / c.natAbs : Nat) : Int) else -((x.natAbs / c.natAbs : Nat) : Int) - 1) else ((x.natAbs / c.natAbs : Nat) : Int) := by
  have h := scale_math x 1 c x.natAbs c.natAbs (by simp) rfl hc
  rw [Int.mul_one, show decide ((1 : Int) < 0) = false from rfl, Bool.bne_false] at h
  exact h

theorem wover (v u : Value) (x y : Int) (w : World) (hx : IsW w v x) (hy : IsW w u y) (h0 : y ≠ 0) (h1 : x.natAbs < 4294967296 ^ 5) (h2 : y.natAbs < 18446744073709551616) :
    Calls Tryd.prog 81 #[v, u] w fun e w' => ∃ v', e = .returned v' ∧ IsW w' v' (x.fdiv y) ∧ Below w.heap.size w w' := by
  obtain ⟨ba, rfl, ra⟩ := hx
  obtain ⟨bb, rfl, rb⟩ := hy
  have hm := over_math x y h0
  have hp : 0 < y.natAbs := by omega
  generalize hQ : x.natAbs / y.natAbs = Q at *
  generalize hR : x.natAbs % y.natAbs = R at *
  by_cases hs : decide (x < 0) = decide (y < 0)
  · rw [hs, show (decide (y < 0) != decide (y < 0)) = false by simp, if_neg (by decide)] at hm
    rw [hs]
    refine (over_same _ ba bb _ _ w ra rb hp h2).mono fun e w' ⟨b, he, hb, hr⟩ => ⟨_, he, ⟨b, ?_, ?_⟩, hb⟩
    · rw [hm, decide_eq_false (show ¬ (Q : Int) < 0 by omega)]
    · rw [hm, Int.natAbs_natCast, ← hQ]; exact hr
  · have hs' : (decide (x < 0) != decide (y < 0)) = true := by
      generalize decide (x < 0) = p at *
      generalize decide (y < 0) = q at *
      cases p <;> cases q <;> simp_all
    rw [if_pos hs'] at hm
    by_cases hz : R = 0
    · rw [if_pos hz] at hm
      refine (over_exact _ _ hs ba bb _ _ w ra rb hp h2 (by rw [hR]; exact hz)).mono fun e w' ⟨b, he, hb, hr⟩ => ⟨_, he, ⟨b, ?_, ?_⟩, hb⟩
      · rw [hQ, hm]
        by_cases hq : Q = 0
        · rw [decide_eq_true hq, decide_eq_false (show ¬ -(Q : Int) < 0 by omega)]; rfl
        · rw [decide_eq_false hq, decide_eq_true (show -(Q : Int) < 0 by omega)]; rfl
      · rw [hm, Int.natAbs_neg, Int.natAbs_natCast, ← hQ]; exact hr
    · rw [if_neg hz] at hm
      refine (over_rest _ _ hs ba bb _ _ w ra rb hp h2 (by rw [hR]; exact hz) h1).mono fun e w' ⟨b, he, hb, hr⟩ => ⟨_, he, ⟨b, ?_, ?_⟩, hb⟩
      · rw [hm, decide_eq_true (show -(Q : Int) - 1 < 0 by omega)]
      · rw [hm, show (-(Q : Int) - 1).natAbs = Q + 1 by omega, ← hQ]; exact hr

end Go.Proofs.YtghfgabajdghiaaDoor
