/- series: the reference's Count whole, both Ints whole; SeriesInts over its callees. -/
import Derived.Test.YtoglkfchiidmmaaDoorSeKq
namespace Go.Proofs.YtoglkfchiidmmaaDoor
open Go.RowKit
set_option linter.unusedVariables false

theorem all_cnt {a b s : Int} (h : allB a b s = true) : cntI a b s = 18446744073709551616 := by
  unfold allB allU allD at h
  simp only [Bool.or_eq_true, Bool.and_eq_true, decide_eq_true_eq] at h
  rcases h with ⟨rfl, rfl, rfl⟩ | ⟨rfl, rfl, rfl⟩ <;> decide +kernel
theorem all_not {a b s : Int} (h : cntI a b s < 18446744073709551616) : allB a b s = false := by
  cases e : allB a b s
  · rfl
  · have := all_cnt e; omega
theorem ct_of {a b s : Int} (h0 : s ≠ 0) (h : cntI a b s < 18446744073709551616) : ctV a b s = cntI a b s ∧ ctE a b s = 0 := by
  unfold ctV ctE
  rw [if_neg h0, if_neg h0, all_not h]
  exact ⟨rfl, rfl⟩
theorem ct_all {a b s : Int} (h0 : s ≠ 0) (h : ¬ cntI a b s < 18446744073709551616) (a1 : -9223372036854775808 ≤ a) (a2 : a ≤ 9223372036854775807) (b1 : -9223372036854775808 ≤ b) (b2 : b ≤ 9223372036854775807) : ctV a b s = 0 ∧ ctE a b s = 10 := by
  unfold ctV ctE
  rw [if_neg h0, if_neg h0]
  cases e : allB a b s
  · exact absurd (cnt_lt h0 e a1 a2 b1 b2) h
  · exact ⟨rfl, rfl⟩

theorem rcount_any (a b s : Int) (a1 : -9223372036854775808 ≤ a) (a2 : a ≤ 9223372036854775807) (b1 : -9223372036854775808 ≤ b) (b2 : b ≤ 9223372036854775807) (s1 : -9223372036854775808 ≤ s) (s2 : s ≤ 9223372036854775807) (w : World) :
    Calls Tryd.prog 8 #[.int .i64 a, .int .i64 b, .int .i64 s] w fun r w' => r = .returned (.tuple #[.int .u64 (ctV a b s), .int .i64 (ctE a b s)]) ∧ Below w.heap.size w w' := by
  by_cases h0 : s = 0
  · subst h0
    exact rcount_zero a b w
  have bd := cnt_bd (a := a) (b := b) h0 a1 a2 b1 b2
  by_cases hs : 0 < s
  · by_cases g : b < a
    · have e : cntI a b s = 0 := by unfold cntI; rw [if_pos hs, if_pos g]
      obtain ⟨e1, e2⟩ := ct_of h0 (show cntI a b s < _ by omega)
      rw [e1, e2, e]
      exact rcount_upn a b s 0 0 a1 a2 b1 b2 s1 s2 hs (by omega) w
    · have e := cnt_up hs g
      have hn : (b + -a).fdiv s + 1 = ((cntI a b s).toNat : Int) := by
        rw [Int.fdiv_eq_ediv_of_nonneg _ (by omega), show b + -a = b - a by omega, ← e]; omega
      by_cases hb : cntI a b s < 18446744073709551616
      · obtain ⟨e1, e2⟩ := ct_of h0 hb
        rw [e1, e2]
        exact rcount_up a b s 0 0 a1 a2 b1 b2 s1 s2 hs _ (by omega) hn _ (by omega) (by omega) w
      · obtain ⟨e1, e2⟩ := ct_all h0 hb a1 a2 b1 b2
        rw [e1, e2]
        exact rcount_upb a b s 0 0 a1 a2 b1 b2 s1 s2 hs _ (by omega) hn (by omega) w
  · have hs : s < 0 := by omega
    by_cases g : a < b
    · have e : cntI a b s = 0 := by unfold cntI; rw [if_neg (by omega), if_pos g]
      obtain ⟨e1, e2⟩ := ct_of h0 (show cntI a b s < _ by omega)
      rw [e1, e2, e]
      exact rcount_dnn a b s 0 0 a1 a2 b1 b2 s1 s2 hs (by omega) w
    · have e := cnt_dn hs g
      have hn : (-(b + -a)).fdiv (-s) + 1 = ((cntI a b s).toNat : Int) := by
        rw [Int.fdiv_eq_ediv_of_nonneg _ (by omega), show -(b + -a) = a - b by omega, ← e]; omega
      by_cases hb : cntI a b s < 18446744073709551616
      · obtain ⟨e1, e2⟩ := ct_of h0 hb
        rw [e1, e2]
        exact rcount_dn a b s 0 0 a1 a2 b1 b2 s1 s2 hs _ (by omega) hn _ (by omega) (by omega) w
      · obtain ⟨e1, e2⟩ := ct_all h0 hb a1 a2 b1 b2
        rw [e1, e2]
        exact rcount_dnb a b s 0 0 a1 a2 b1 b2 s1 s2 hs _ (by omega) hn (by omega) w

/-- the numbers lie between both ends, and the next one beyond. -/
theorem row_in {a b s : Int} (hs : 0 < s) (i : Nat) (h : (i : Int) < cntI a b s) : a ≤ a + (i : Int) * s ∧ a + (i : Int) * s ≤ b := by
  have g : ¬ b < a := fun g => by have e : cntI a b s = 0 := by unfold cntI; rw [if_pos hs, if_pos g]
                                  omega
  rw [cnt_up hs g] at h
  have h1 : (i : Int) * s ≤ (b - a) / s * s := Int.mul_le_mul_of_nonneg_right (by omega) (by omega)
  have h2 : (b - a) / s * s ≤ b - a := Int.ediv_mul_le _ (by omega)
  have h3 : 0 ≤ (i : Int) * s := Int.mul_nonneg (by omega) (by omega)
  omega
theorem row_out {a b s : Int} (hs : 0 < s) : b < a + cntI a b s * s := by
  by_cases g : b < a
  · rw [show cntI a b s = 0 by unfold cntI; rw [if_pos hs, if_pos g]]; omega
  · rw [cnt_up hs g]
    have := Int.lt_ediv_add_one_mul_self (b - a) hs
    omega
theorem row_inD {a b s : Int} (hs : s < 0) (i : Nat) (h : (i : Int) < cntI a b s) : a + (i : Int) * s ≤ a ∧ b ≤ a + (i : Int) * s := by
  have g : ¬ a < b := fun g => by have e : cntI a b s = 0 := by unfold cntI; rw [if_neg (by omega), if_pos g]
                                  omega
  rw [cnt_dn hs g] at h
  have h1 : (i : Int) * (-s) ≤ (a - b) / (-s) * (-s) := Int.mul_le_mul_of_nonneg_right (by omega) (by omega)
  have h2 : (a - b) / (-s) * (-s) ≤ a - b := Int.ediv_mul_le _ (by omega)
  have h3 : 0 ≤ (i : Int) * (-s) := Int.mul_nonneg (by omega) (by omega)
  rw [Int.mul_neg] at h1 h3
  omega
theorem row_outD {a b s : Int} (hs : s < 0) : a + cntI a b s * s < b := by
  by_cases g : a < b
  · rw [show cntI a b s = 0 by unfold cntI; rw [if_neg (by omega), if_pos g]]; omega
  · rw [cnt_dn hs g]
    have := Int.lt_ediv_add_one_mul_self (a - b) (show 0 < -s by omega)
    rw [Int.mul_neg] at this
    omega
theorem row_i64 {a b s : Int} (h0 : s ≠ 0) (a1 : -9223372036854775808 ≤ a) (a2 : a ≤ 9223372036854775807) (b1 : -9223372036854775808 ≤ b) (b2 : b ≤ 9223372036854775807) (i : Nat) (h : (i : Int) < cntI a b s) : -9223372036854775808 ≤ a + (i : Int) * s ∧ a + (i : Int) * s ≤ 9223372036854775807 := by
  by_cases hs : 0 < s
  · have := row_in hs i h; omega
  · have := row_inD (show s < 0 by omega) i h; omega

/-- what Ints answers. -/
def inE (a b s m : Int) : Int := if mostB m = false then 1 else if s = 0 then 11 else if m < cntI a b s then 14 else 0
def inL (a b s m : Int) : List Int := if inE a b s m = 0 then arI a s (cntI a b s).toNat else []

theorem ints_any (a b s m : Int) (a1 : -9223372036854775808 ≤ a) (a2 : a ≤ 9223372036854775807) (b1 : -9223372036854775808 ≤ b) (b2 : b ≤ 9223372036854775807) (s1 : -9223372036854775808 ≤ s) (s2 : s ≤ 9223372036854775807) (w : World) :
    Calls Tryd.prog 5 #[.int .i64 a, .int .i64 b, .int .i64 s, .int .i64 m] w fun r w' => ∃ v, r = .returned (.tuple #[v, .int .i64 (inE a b s m)]) ∧ Below w.heap.size w w' ∧ IRow w' v (inL a b s m) := by
  have C := fun w => Count_any a b s a1 a2 b1 b2 s1 s2 w
  have nil : ∀ {e : Int} {r : Ending} {W : World}, inE a b s m = e → e ≠ 0 → r = .returned (.tuple #[.slice none 0 0, .int .i64 e]) ∧ Below w.heap.size w W → ∃ v, r = .returned (.tuple #[v, .int .i64 (inE a b s m)]) ∧ Below w.heap.size w W ∧ IRow W v (inL a b s m) := fun {e r W} h1 h2 h => ⟨_, by rw [h1]; exact h.1, h.2, by unfold inL; rw [if_neg (by rw [h1]; exact h2)]; exact IRow.nil W⟩
  cases hm : mostB m
  · exact (ints_most a b s m hm w).mono fun r W h => nil (by unfold inE; rw [if_pos hm]) (by decide) h
  have hm2 : 0 ≤ m ∧ m ≤ 1000 := by unfold mostB at hm; simpa using hm
  by_cases h0 : s = 0
  · rw [show ctE a b s = 11 by unfold ctE; rw [if_pos h0]] at C
    exact (ints_zero a b s m _ hm C w).mono fun r W h => nil (by unfold inE; rw [if_neg (by rw [hm]; decide), if_pos h0]) (by decide) h
  have bd := cnt_bd (a := a) (b := b) h0 a1 a2 b1 b2
  have hmw : IntKind.u64.wrap m = m := by rw [IntKind.wrap_u64]; omega
  by_cases hc : m < cntI a b s
  · have he : inE a b s m = 14 := by unfold inE; rw [if_neg (by rw [hm]; decide), if_neg h0, if_pos hc]
    by_cases hb : cntI a b s < 18446744073709551616
    · obtain ⟨e1, e2⟩ := ct_of h0 hb
      rw [e1, e2] at C
      exact (ints_rows a b s m _ hm hc hmw C w).mono fun r W h => nil he (by decide) h
    · obtain ⟨e1, e2⟩ := ct_all h0 hb a1 a2 b1 b2
      rw [e1, e2] at C
      exact (ints_all a b s m _ hm C w).mono fun r W h => nil he (by decide) h
  · have he : inE a b s m = 0 := by unfold inE; rw [if_neg (by rw [hm]; decide), if_neg h0, if_neg hc]
    obtain ⟨e1, e2⟩ := ct_of h0 (show cntI a b s < _ by omega)
    rw [e1, e2, show cntI a b s = ((cntI a b s).toNat : Int) by omega] at C
    refine (ints_ok a b s m (cntI a b s).toNat hm (by omega) (by omega) hmw (fun i hi => ?_) (by rw [IntKind.wrap_i64]; omega) C w).mono ?_
    · have := row_i64 h0 a1 a2 b1 b2 i (show (i : Int) < cntI a b s by omega)
      rw [IntKind.wrap_i64]; omega
    · rintro e W ⟨g, rfl, hb, _, hx⟩
      exact ⟨_, by rw [he], hb, by unfold inL; rw [if_pos he]; exact IRow.of_bx hx (arI_len _ _ _)⟩

theorem rints_any (a b s m : Int) (a1 : -9223372036854775808 ≤ a) (a2 : a ≤ 9223372036854775807) (b1 : -9223372036854775808 ≤ b) (b2 : b ≤ 9223372036854775807) (s1 : -9223372036854775808 ≤ s) (s2 : s ≤ 9223372036854775807) (w : World) :
    Calls Tryd.prog 6 #[.int .i64 a, .int .i64 b, .int .i64 s, .int .i64 m] w fun r w' => ∃ v, r = .returned (.tuple #[v, .int .i64 (inE a b s m)]) ∧ Below w.heap.size w w' ∧ IRow w' v (inL a b s m) := by
  have nil : ∀ {e : Int} {r : Ending} {W : World}, inE a b s m = e → e ≠ 0 → r = .returned (.tuple #[.slice none 0 0, .int .i64 e]) ∧ Below w.heap.size w W → ∃ v, r = .returned (.tuple #[v, .int .i64 (inE a b s m)]) ∧ Below w.heap.size w W ∧ IRow W v (inL a b s m) := fun {e r W} h1 h2 h => ⟨_, by rw [h1]; exact h.1, h.2, by unfold inL; rw [if_neg (by rw [h1]; exact h2)]; exact IRow.nil W⟩
  cases hm : mostB m
  · exact (rints_most a b s m hm w).mono fun r W h => nil (by unfold inE; rw [if_pos hm]) (by decide) h
  have hm2 : 0 ≤ m ∧ m ≤ 1000 := by unfold mostB at hm; simpa using hm
  by_cases h0 : s = 0
  · subst h0
    exact (rints_zero a b m hm2.1 hm2.2 w).mono fun r W h => nil (by unfold inE; rw [if_neg (by rw [hm]; decide), if_pos rfl]) (by decide) h
  have bd := cnt_bd (a := a) (b := b) h0 a1 a2 b1 b2
  have fin : ∀ (r : Ending) (W : World), (∃ v E, r = .returned (.tuple #[v, .int .i64 E]) ∧ Below w.heap.size w W ∧ (((cntI a b s).toNat ≤ m.toNat ∧ E = 0 ∧ IRow W v (arI a s (cntI a b s).toNat)) ∨ (m.toNat < (cntI a b s).toNat ∧ v = .slice none 0 0 ∧ E = 14))) → ∃ v, r = .returned (.tuple #[v, .int .i64 (inE a b s m)]) ∧ Below w.heap.size w W ∧ IRow W v (inL a b s m) := by
    rintro r W ⟨v, E, rfl, hb, ⟨h1, rfl, h3⟩ | ⟨h1, rfl, rfl⟩⟩
    · have he : inE a b s m = 0 := by unfold inE; rw [if_neg (by rw [hm]; decide), if_neg h0, if_neg (by omega)]
      exact ⟨v, by rw [he], hb, by unfold inL; rw [if_pos he]; exact h3⟩
    · exact nil (e := 14) (by unfold inE; rw [if_neg (by rw [hm]; decide), if_neg h0, if_pos (by omega)]) (by decide) ⟨rfl, hb⟩
  have hmm : m = (m.toNat : Int) := by omega
  by_cases hs : 0 < s
  · have R := rints_up a b s m.toNat (cntI a b s).toNat (by omega) hs s1 s2 ⟨a1, a2⟩ (fun i hi => (row_in hs i (by omega)).2) (by have := row_out (a := a) (b := b) hs; rw [show ((cntI a b s).toNat : Int) = cntI a b s by omega]; exact this) b1 b2 w
    rw [← hmm] at R
    exact R.mono fin
  · have R := rints_dn a b s m.toNat (cntI a b s).toNat (by omega) (by omega) s1 s2 ⟨a1, a2⟩ (fun i hi => (row_inD (show s < 0 by omega) i (by omega)).2) (by have := row_outD (a := a) (b := b) (show s < 0 by omega); rw [show ((cntI a b s).toNat : Int) = cntI a b s by omega]; exact this) b1 b2 w
    rw [← hmm] at R
    exact R.mono fin
theorem inL_len {a b s m : Int} : (inL a b s m).length ≤ 1000 := by
  unfold inL
  by_cases h : inE a b s m = 0
  · rw [if_pos h, arI_len]
    unfold inE mostB at h
    by_cases c : (decide (0 ≤ m) && decide (m ≤ 1000)) = false
    · rw [if_pos c] at h; omega
    · rw [if_neg c] at h
      have c2 : 0 ≤ m ∧ m ≤ 1000 := by simpa using c
      by_cases z : s = 0
      · rw [if_pos z] at h; omega
      · rw [if_neg z] at h
        by_cases q : m < cntI a b s
        · rw [if_pos q] at h; omega
        · omega
  · rw [if_neg h]; simp


set_option maxRecDepth 100000 in
set_option maxHeartbeats 8000000 in
theorem si_no (a b s m C E G : Int) (L : List Int) (hl : L.length ≤ 1000) (hE : E ≠ 0)
    (XI : Hid (∀ w : World, Calls Tryd.prog 5 #[.int .i64 a, .int .i64 b, .int .i64 s, .int .i64 m] w fun r w' => ∃ v, r = .returned (.tuple #[v, .int .i64 E]) ∧ Below w.heap.size w w' ∧ IRow w' v L))
    (YI : Hid (∀ w : World, Calls Tryd.prog 6 #[.int .i64 a, .int .i64 b, .int .i64 s, .int .i64 m] w fun r w' => ∃ v, r = .returned (.tuple #[v, .int .i64 E]) ∧ Below w.heap.size w w' ∧ IRow w' v L))
    (CN : Hid (∀ w : World, Calls Tryd.prog 7 #[.int .i64 a, .int .i64 b, .int .i64 s] w fun r w' => r = .returned (.tuple #[.int .u64 C, .int .i64 G]) ∧ Below w.heap.size w w'))
    (CM : Hid (∀ w : World, Calls Tryd.prog 8 #[.int .i64 a, .int .i64 b, .int .i64 s] w fun r w' => r = .returned (.tuple #[.int .u64 C, .int .i64 G]) ∧ Below w.heap.size w w'))
    (KN : Hid (∀ w : World, Cvl.Lens w → Calls Tryd.prog 10 #[] w fun r w' => r = .returned (.bool true) ∧ Below w.heap.size w w')) (w : World) (hL : Hid (∀ W : World, Below w.heap.size w W → Cvl.Lens W)) :
    Calls Tryd.prog 3 #[.int .i64 a, .int .i64 b, .int .i64 s, .int .i64 m] w fun r w' => r = .returned (.bool true) ∧ Below w.heap.size w w' := by
  have hE0 : (E == 0) = false := by simpa using hE
  clear hE
  go_enter Tryd.func3, Tryd.ntmps3
  go_wp2_with fail
  refine (XI.out _).mono ?_
  rintro e W1 ⟨v, rfl, hb, hr⟩
  have HB1 : Hid (Below w.heap.size w W1) := hb
  have HR1 : Hid (IRow W1 v L) := hr
  clear hb hr
  go_wp2_with fail
  refine (YI.out _).mono ?_
  rintro e W2 ⟨u, rfl, hb, hr⟩
  have HB2 : Hid (Below w.heap.size w W2) := HB1.out.trans (hb.mono HB1.out.size)
  have HR2 : Hid (IRow W2 v L) := HR1.out.below hb
  have HU2 : Hid (IRow W2 u L) := hr
  clear hb hr HB1 HR1
  go_wp2_with fail
  refine (CN.out _).mono ?_
  rintro e W3 ⟨rfl, hb⟩
  have HB3 : Hid (Below w.heap.size w W3) := HB2.out.trans (hb.mono HB2.out.size)
  have HR3 : Hid (IRow W3 v L) := HR2.out.below hb
  have HU3 : Hid (IRow W3 u L) := HU2.out.below hb
  clear hb HB2 HR2 HU2
  go_wp2_with fail
  refine (CM.out _).mono ?_
  rintro e W4 ⟨rfl, hb⟩
  have HB4 : Hid (Below w.heap.size w W4) := HB3.out.trans (hb.mono HB3.out.size)
  have HR4 : Hid (IRow W4 v L) := HR3.out.below hb
  have HU4 : Hid (IRow W4 u L) := HU3.out.below hb
  clear hb HB3 HR3 HU3
  go_wp2_with fail
  refine (same_yes _ _ L (by first | omega | (rw [HN.out]; omega)) _ HR4 HU4).mono ?_
  rintro e W5 ⟨rfl, hb⟩
  have HB5 : Hid (Below w.heap.size w W5) := HB4.out.trans (hb.mono HB4.out.size)
  clear hb HB4 HR4 HU4
  go_wp2_with fail
  refine (KN.out _ (hL.out _ HB5.out)).mono ?_
  rintro e W6 ⟨rfl, hb⟩
  have HB6 : Hid (Below w.heap.size w W6) := HB5.out.trans (hb.mono HB5.out.size)
  clear hb HB5
  go_wp2_with fail
  go_ret
  exact ⟨rfl, HB6.out⟩

set_option maxRecDepth 100000 in
set_option maxHeartbeats 8000000 in
theorem si_ok (a b s m C : Int) (L : List Int) (hl : L.length ≤ 1000) (hC : C = (L.length : Int))
    (XI : Hid (∀ w : World, Calls Tryd.prog 5 #[.int .i64 a, .int .i64 b, .int .i64 s, .int .i64 m] w fun r w' => ∃ v, r = .returned (.tuple #[v, .int .i64 0]) ∧ Below w.heap.size w w' ∧ IRow w' v L))
    (YI : Hid (∀ w : World, Calls Tryd.prog 6 #[.int .i64 a, .int .i64 b, .int .i64 s, .int .i64 m] w fun r w' => ∃ v, r = .returned (.tuple #[v, .int .i64 0]) ∧ Below w.heap.size w w' ∧ IRow w' v L))
    (CN : Hid (∀ w : World, Calls Tryd.prog 7 #[.int .i64 a, .int .i64 b, .int .i64 s] w fun r w' => r = .returned (.tuple #[.int .u64 C, .int .i64 0]) ∧ Below w.heap.size w w'))
    (CM : Hid (∀ w : World, Calls Tryd.prog 8 #[.int .i64 a, .int .i64 b, .int .i64 s] w fun r w' => r = .returned (.tuple #[.int .u64 C, .int .i64 0]) ∧ Below w.heap.size w w'))
    (KN : Hid (∀ w : World, Cvl.Lens w → Calls Tryd.prog 10 #[] w fun r w' => r = .returned (.bool true) ∧ Below w.heap.size w w')) (w : World) (hL : Hid (∀ W : World, Below w.heap.size w W → Cvl.Lens W)) :
    Calls Tryd.prog 3 #[.int .i64 a, .int .i64 b, .int .i64 s, .int .i64 m] w fun r w' => r = .returned (.bool true) ∧ Below w.heap.size w w' := by
  obtain ⟨n, hn⟩ : ∃ n, L.length = n := ⟨_, rfl⟩
  rw [hn] at hl hC
  have HN : Hid (L.length = n) := hn
  have hu : IntKind.u64.wrap (n : Int) = C := by rw [IntKind.wrap_u64]; omega
  clear hn hC
  go_enter Tryd.func3, Tryd.ntmps3
  go_wp2_with fail
  refine (XI.out _).mono ?_
  rintro e W1 ⟨v, rfl, hb, hr⟩
  have HB1 : Hid (Below w.heap.size w W1) := hb
  have HR1 : Hid (IRow W1 v L) := hr
  clear hb hr
  go_wp2_with fail
  refine (YI.out _).mono ?_
  rintro e W2 ⟨u, rfl, hb, hr⟩
  have HB2 : Hid (Below w.heap.size w W2) := HB1.out.trans (hb.mono HB1.out.size)
  have HR2 : Hid (IRow W2 v L) := HR1.out.below hb
  have HU2 : Hid (IRow W2 u L) := hr
  clear hb hr HB1 HR1
  go_wp2_with fail
  refine (CN.out _).mono ?_
  rintro e W3 ⟨rfl, hb⟩
  have HB3 : Hid (Below w.heap.size w W3) := HB2.out.trans (hb.mono HB2.out.size)
  have HR3 : Hid (IRow W3 v L) := HR2.out.below hb
  have HU3 : Hid (IRow W3 u L) := HU2.out.below hb
  clear hb HB2 HR2 HU2
  go_wp2_with fail
  refine (CM.out _).mono ?_
  rintro e W4 ⟨rfl, hb⟩
  have HB4 : Hid (Below w.heap.size w W4) := HB3.out.trans (hb.mono HB3.out.size)
  have HR4 : Hid (IRow W4 v L) := HR3.out.below hb
  have HU4 : Hid (IRow W4 u L) := HU3.out.below hb
  clear hb HB3 HR3 HU3
  obtain ⟨ao, c, hv, _⟩ := HR4.out
  rw [HN.out] at hv
  subst hv
  go_wp2_with fail
  refine (same_yes _ _ L (by first | omega | (rw [HN.out]; omega)) _ HR4 HU4).mono ?_
  rintro e W5 ⟨rfl, hb⟩
  have HB5 : Hid (Below w.heap.size w W5) := HB4.out.trans (hb.mono HB4.out.size)
  clear hb HB4 HR4 HU4
  go_wp2_with fail
  refine (KN.out _ (hL.out _ HB5.out)).mono ?_
  rintro e W6 ⟨rfl, hb⟩
  have HB6 : Hid (Below w.heap.size w W6) := HB5.out.trans (hb.mono HB5.out.size)
  clear hb HB5
  go_wp2_with fail
  go_ret
  exact ⟨rfl, HB6.out⟩


end Go.Proofs.YtoglkfchiidmmaaDoor
