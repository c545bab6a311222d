/- day.Right, RightStamp, of and the reference's, whole; what moves a day. -/
import Derived.Test.YtghfgabajdghiaaDoorDyB
import Derived.Test.YtghfgabajdghiaaDoorWideS
namespace Go.Proofs.YtghfgabajdghiaaDoor
open Go.RowKit
set_option linter.unusedVariables false

theorem right_any (i d : Int) (w : World) (hL : Cvl.Lens w) :
    Calls Tryd.prog 13 #[.agg #[.int .i64 i, .int .i64 d]] w fun e w' => e = .returned (.bool (dR i d)) ∧ Below w.heap.size w w' := by
  by_cases h0 : i = 0
  · subst h0
    rw [dR_0]
    exact right_0 d _ (fun w h => canBe_any _ w h) w (lens_of hL)
  · rw [dR_1 h0]
    by_cases g1 : i = -1
    · subst g1
      by_cases k : d = 0
      · rw [decide_eq_true ⟨.inl rfl, k⟩]; subst k; exact right_m0 0 rfl w
      · rw [decide_eq_false (fun q => k q.2)]; exact right_m1 d k w
    · by_cases g2 : i = 1
      · subst g2
        by_cases k : d = 0
        · rw [decide_eq_true ⟨.inr rfl, k⟩]; subst k; exact right_p0 0 rfl w
        · rw [decide_eq_false (fun q => k q.2)]; exact right_p1 d k w
      · rw [decide_eq_false (fun q => q.1.elim g1 g2)]; exact right_x i d h0 g1 g2 w

theorem rright_any (i d : Int) (w : World) :
    Calls Tryd.prog 14 #[.agg #[.int .i64 i, .int .i64 d]] w fun e w' => e = .returned (.bool (dR i d)) ∧ Below w.heap.size w w' := by
  by_cases h0 : i = 0
  · subst h0
    rw [dR_0]
    exact rright_0 d _ (fun w => inside_any _ w) w
  · rw [dR_1 h0]
    by_cases g1 : i = -1
    · subst g1
      by_cases k : d = 0
      · rw [decide_eq_true ⟨.inl rfl, k⟩]; subst k; exact rright_m0 0 rfl w
      · rw [decide_eq_false (fun q => k q.2)]; exact rright_m1 d k w
    · by_cases g2 : i = 1
      · subst g2
        by_cases k : d = 0
        · rw [decide_eq_true ⟨.inr rfl, k⟩]; subst k; exact rright_p0 0 rfl w
        · rw [decide_eq_false (fun q => k q.2)]; exact rright_p1 d k w
      · rw [decide_eq_false (fun q => q.1.elim g1 g2)]; exact rright_x i d h0 g1 g2 w

theorem rst_any (i d : Int) (h1 : -9223372036854775808 ≤ d) (h2 : d ≤ 9223372036854775807) (w : World) (hL : Cvl.Lens w) :
    Calls Tryd.prog 30 #[.agg #[.int .i64 i, .int .i64 d]] w fun e w' => e = .returned (.bool (sR i d)) ∧ Below w.heap.size w w' := by
  by_cases h0 : i = 0
  · subst h0
    rw [sR_0]
    exact rst_0 d _ _ _ (fun w => split_any d h1 h2 w) (fun w h => canBe_any _ w h) w (lens_of hL)
  · rw [sR_1 h0]
    by_cases g1 : i = -1
    · subst g1
      by_cases k : d = 0
      · rw [decide_eq_true ⟨.inl rfl, k⟩]; subst k; exact rst_m0 0 rfl w
      · rw [decide_eq_false (fun q => k q.2)]; exact rst_m1 d k w
    · by_cases g2 : i = 1
      · subst g2
        by_cases k : d = 0
        · rw [decide_eq_true ⟨.inr rfl, k⟩]; subst k; exact rst_p0 0 rfl w
        · rw [decide_eq_false (fun q => k q.2)]; exact rst_p1 d k w
      · rw [decide_eq_false (fun q => q.1.elim g1 g2)]; exact rst_x i d h0 g1 g2 w

theorem sm_div (u : Int) (h1 : -9223372036854775808 ≤ u) (h2 : u ≤ 9223372036854775807) : smV (u.fdiv 86400000000) = u / 86400000000 ∧ smE (u.fdiv 86400000000) = 0 ∧ smV (u.fmod 86400000000) = u % 86400000000 ∧ smE (u.fmod 86400000000) = 0 := by
  rw [day_div, day_mod]
  exact ⟨smV_in (by omega) (by omega), smE_in (by omega) (by omega), smV_in (by omega) (by omega), smE_in (by omega) (by omega)⟩

set_option maxHeartbeats 1000000 in
theorem rsplit_any (u : Int) (h1 : -9223372036854775808 ≤ u) (h2 : u ≤ 9223372036854775807) (w : World) :
    Calls Tryd.prog 50 #[.int .i64 u] w fun e w' => e = .returned (.tuple #[.int .i64 (u / 86400000000), .int .i64 (u % 86400000000)]) ∧ Below w.heap.size w w' := by
  have C1 : Hid (∀ w : World, Calls Tryd.prog 70 #[.int .i64 u, .int .i64 86400000000] w fun e w' => e = .returned (.tuple #[.int .i64 (u / 86400000000), .int .i64 0]) ∧ Below w.heap.size w w') := fun w => by
    have R := refdiv_any u 86400000000 h1 h2 (by decide) (by decide) (by decide) w
    rw [(sm_div u h1 h2).1, (sm_div u h1 h2).2.1] at R
    exact R
  have C2 : Hid (∀ w : World, Calls Tryd.prog 71 #[.int .i64 u, .int .i64 86400000000] w fun e w' => e = .returned (.tuple #[.int .i64 (u % 86400000000), .int .i64 0]) ∧ Below w.heap.size w w') := fun w => by
    have R := refmod_any u 86400000000 h1 h2 (by decide) (by decide) (by decide) w
    rw [(sm_div u h1 h2).2.2.1, (sm_div u h1 h2).2.2.2] at R
    exact R
  generalize u / 86400000000 = q at *
  generalize u % 86400000000 = r at *
  go_enter Tryd.func50, Tryd.ntmps50
  go_wp2_with fail
  refine (C1.out _).mono ?_
  rintro e w1 ⟨rfl, b1⟩
  go_wp2_with fail
  refine (C2.out _).mono ?_
  rintro e w2 ⟨rfl, b2⟩
  have B2 := b1.trans (b2.mono b1.size)
  go_wp2
  go_ret2
  exact ⟨rfl, B2⟩

theorem rrst_any (i d : Int) (h1 : -9223372036854775808 ≤ d) (h2 : d ≤ 9223372036854775807) (w : World) :
    Calls Tryd.prog 31 #[.agg #[.int .i64 i, .int .i64 d]] w fun e w' => e = .returned (.bool (sR i d)) ∧ Below w.heap.size w w' := by
  by_cases h0 : i = 0
  · subst h0
    rw [sR_0]
    exact rrst_0 d _ _ _ (fun w => rsplit_any d h1 h2 w) (fun w => inside_any _ w) w
  · rw [sR_1 h0]
    by_cases g1 : i = -1
    · subst g1
      by_cases k : d = 0
      · rw [decide_eq_true ⟨.inl rfl, k⟩]; subst k; exact rrst_m0 0 rfl w
      · rw [decide_eq_false (fun q => k q.2)]; exact rrst_m1 d k w
    · by_cases g2 : i = 1
      · subst g2
        by_cases k : d = 0
        · rw [decide_eq_true ⟨.inr rfl, k⟩]; subst k; exact rrst_p0 0 rfl w
        · rw [decide_eq_false (fun q => k q.2)]; exact rrst_p1 d k w
      · rw [decide_eq_false (fun q => q.1.elim g1 g2)]; exact rrst_x i d h0 g1 g2 w

/-- the date of a day that was reckoned, if there is one. -/
def oV (n e : Int) : Int := if e = 0 ∧ dok n = true then n else 0
def oE (n e : Int) : Int := if e = 0 ∧ dok n = true then 0 else 10
theorem o_yes {n : Int} (h : dok n = true) : oV n 0 = n ∧ oE n 0 = 0 := ⟨if_pos ⟨rfl, h⟩, if_pos ⟨rfl, h⟩⟩
theorem o_no {n e : Int} (h : e ≠ 0 ∨ dok n = false) : oV n e = 0 ∧ oE n e = 10 := by
  have k : ¬ (e = 0 ∧ dok n = true) := fun q => h.elim (fun z => z q.1) (fun z => by rw [z] at q; exact absurd q.2 (by decide))
  exact ⟨if_neg k, if_neg k⟩

set_option maxRecDepth 100000 in
set_option maxHeartbeats 4000000 in
theorem of_bad (n e : Int) (he : e ≠ 0)
    (w : World) :
    Calls Tryd.prog 35 #[.int .i64 n, .int .i64 e] w fun r' w' => r' = .returned (.tuple #[.agg #[.int .i64 0, .int .i64 0], .int .i64 10]) ∧ Below w.heap.size w w' := by
  have e1 : (e != 0) = true := bne_iff_ne.2 he
  have K0 : Hid (BS w [(w.heap.size, [.int .i64 0, .int .i64 0])] (w.alloc (.cells #[.int .i64 0, .int .i64 0] 23))) := ((BS.start w).new [.int .i64 0, .int .i64 0] 23 rfl)
  go_enter Tryd.func35, Tryd.ntmps35
  go_wp2
  exact bodyPost_ret (v := .tuple #[.agg #[.int .i64 0, .int .i64 0], .int .i64 10]) (by simp [results, Tryd.results35, go_sem]) rfl ⟨rfl, (by repeat' (first | assumption | exact Below.refl _ _ | exact Nat.le_refl _ | refine Below.alloc ?_ ?_ _ | (simp; done) | (simp; omega) | omega))⟩

set_option maxRecDepth 100000 in
set_option maxHeartbeats 4000000 in
theorem of_true (n : Int)
    (C : Hid (∀ w : World, Cvl.Lens w → Calls Tryd.prog 40 #[.int .i64 n] w fun r' w' => r' = .returned (.bool true) ∧ w' = w))
    (w : World) (hL : Hid (∀ W : World, Below w.heap.size w W → Cvl.Lens W)) :
    Calls Tryd.prog 35 #[.int .i64 n, .int .i64 0] w fun r' w' => r' = .returned (.tuple #[.agg #[.int .i64 0, .int .i64 n], .int .i64 0]) ∧ Below w.heap.size w w' := by
  have K0 : Hid (BS w [(w.heap.size, [.int .i64 0, .int .i64 0])] (w.alloc (.cells #[.int .i64 0, .int .i64 0] 23))) := ((BS.start w).new [.int .i64 0, .int .i64 0] 23 rfl)
  go_enter Tryd.func35, Tryd.ntmps35
  go_wp2_with fail
  refine (C.out _ (hL.out _ K0.out.1)).mono ?_
  rintro e W1 ⟨rfl, rfl⟩
  go_wp2
  exact bodyPost_ret (v := .tuple #[.agg #[.int .i64 0, .int .i64 n], .int .i64 0]) (by simp [results, Tryd.results35, go_sem]) rfl ⟨rfl, (by repeat' (first | assumption | exact Below.refl _ _ | exact Nat.le_refl _ | refine Below.alloc ?_ ?_ _ | (simp; done) | (simp; omega) | omega))⟩

set_option maxRecDepth 100000 in
set_option maxHeartbeats 4000000 in
theorem of_false (n : Int)
    (C : Hid (∀ w : World, Cvl.Lens w → Calls Tryd.prog 40 #[.int .i64 n] w fun r' w' => r' = .returned (.bool false) ∧ w' = w))
    (w : World) (hL : Hid (∀ W : World, Below w.heap.size w W → Cvl.Lens W)) :
    Calls Tryd.prog 35 #[.int .i64 n, .int .i64 0] w fun r' w' => r' = .returned (.tuple #[.agg #[.int .i64 0, .int .i64 0], .int .i64 10]) ∧ Below w.heap.size w w' := by
  have K0 : Hid (BS w [(w.heap.size, [.int .i64 0, .int .i64 0])] (w.alloc (.cells #[.int .i64 0, .int .i64 0] 23))) := ((BS.start w).new [.int .i64 0, .int .i64 0] 23 rfl)
  go_enter Tryd.func35, Tryd.ntmps35
  go_wp2_with fail
  refine (C.out _ (hL.out _ K0.out.1)).mono ?_
  rintro e W1 ⟨rfl, rfl⟩
  go_wp2
  exact bodyPost_ret (v := .tuple #[.agg #[.int .i64 0, .int .i64 0], .int .i64 10]) (by simp [results, Tryd.results35, go_sem]) rfl ⟨rfl, (by repeat' (first | assumption | exact Below.refl _ _ | exact Nat.le_refl _ | refine Below.alloc ?_ ?_ _ | (simp; done) | (simp; omega) | omega))⟩

theorem of_any (n e : Int) (w : World) (hL : Cvl.Lens w) :
    Calls Tryd.prog 35 #[.int .i64 n, .int .i64 e] w fun r w' => r = .returned (.tuple #[.agg #[.int .i64 0, .int .i64 (oV n e)], .int .i64 (oE n e)]) ∧ Below w.heap.size w w' := by
  by_cases he : e = 0
  · subst he
    cases h : dok n
    · rw [(o_no (.inr h)).1, (o_no (.inr h)).2]; exact of_false n (fun w hh => by rw [← h]; exact canBe_any n w hh) w (lens_of hL)
    · rw [(o_yes h).1, (o_yes h).2]; exact of_true n (fun w hh => by rw [← h]; exact canBe_any n w hh) w (lens_of hL)
  · rw [(o_no (.inl he)).1, (o_no (.inl he)).2]; exact of_bad n e he w

set_option maxRecDepth 100000 in
set_option maxHeartbeats 4000000 in
theorem made_bad (n e : Int) (he : e ≠ 0)
    (w : World) :
    Calls Tryd.prog 43 #[.int .i64 n, .int .i64 e] w fun r' w' => r' = .returned (.tuple #[.agg #[.int .i64 0, .int .i64 0], .int .i64 10]) ∧ Below w.heap.size w w' := by
  have e1 : (e != 0) = true := bne_iff_ne.2 he
  have K0 : Hid (BS w [(w.heap.size, [.int .i64 0, .int .i64 0])] (w.alloc (.cells #[.int .i64 0, .int .i64 0] 23))) := ((BS.start w).new [.int .i64 0, .int .i64 0] 23 rfl)
  go_enter Tryd.func43, Tryd.ntmps43
  go_wp2
  exact bodyPost_ret (v := .tuple #[.agg #[.int .i64 0, .int .i64 0], .int .i64 10]) (by simp [results, Tryd.results43, go_sem]) rfl ⟨rfl, (by repeat' (first | assumption | exact Below.refl _ _ | exact Nat.le_refl _ | refine Below.alloc ?_ ?_ _ | (simp; done) | (simp; omega) | omega))⟩

set_option maxRecDepth 100000 in
set_option maxHeartbeats 4000000 in
theorem made_true (n : Int)
    (C : Hid (∀ w : World, Calls Tryd.prog 37 #[.int .i64 n] w fun r' w' => r' = .returned (.bool true) ∧ w' = w))
    (w : World) :
    Calls Tryd.prog 43 #[.int .i64 n, .int .i64 0] w fun r' w' => r' = .returned (.tuple #[.agg #[.int .i64 0, .int .i64 n], .int .i64 0]) ∧ Below w.heap.size w w' := by
  have K0 : Hid (BS w [(w.heap.size, [.int .i64 0, .int .i64 0])] (w.alloc (.cells #[.int .i64 0, .int .i64 0] 23))) := ((BS.start w).new [.int .i64 0, .int .i64 0] 23 rfl)
  go_enter Tryd.func43, Tryd.ntmps43
  go_wp2_with fail
  refine (C.out _).mono ?_
  rintro e W1 ⟨rfl, rfl⟩
  go_wp2
  exact bodyPost_ret (v := .tuple #[.agg #[.int .i64 0, .int .i64 n], .int .i64 0]) (by simp [results, Tryd.results43, go_sem]) rfl ⟨rfl, (by repeat' (first | assumption | exact Below.refl _ _ | exact Nat.le_refl _ | refine Below.alloc ?_ ?_ _ | (simp; done) | (simp; omega) | omega))⟩

set_option maxRecDepth 100000 in
set_option maxHeartbeats 4000000 in
theorem made_false (n : Int)
    (C : Hid (∀ w : World, Calls Tryd.prog 37 #[.int .i64 n] w fun r' w' => r' = .returned (.bool false) ∧ w' = w))
    (w : World) :
    Calls Tryd.prog 43 #[.int .i64 n, .int .i64 0] w fun r' w' => r' = .returned (.tuple #[.agg #[.int .i64 0, .int .i64 0], .int .i64 10]) ∧ Below w.heap.size w w' := by
  have K0 : Hid (BS w [(w.heap.size, [.int .i64 0, .int .i64 0])] (w.alloc (.cells #[.int .i64 0, .int .i64 0] 23))) := ((BS.start w).new [.int .i64 0, .int .i64 0] 23 rfl)
  go_enter Tryd.func43, Tryd.ntmps43
  go_wp2_with fail
  refine (C.out _).mono ?_
  rintro e W1 ⟨rfl, rfl⟩
  go_wp2
  exact bodyPost_ret (v := .tuple #[.agg #[.int .i64 0, .int .i64 0], .int .i64 10]) (by simp [results, Tryd.results43, go_sem]) rfl ⟨rfl, (by repeat' (first | assumption | exact Below.refl _ _ | exact Nat.le_refl _ | refine Below.alloc ?_ ?_ _ | (simp; done) | (simp; omega) | omega))⟩

theorem made_any (n e : Int) (w : World) :
    Calls Tryd.prog 43 #[.int .i64 n, .int .i64 e] w fun r w' => r = .returned (.tuple #[.agg #[.int .i64 0, .int .i64 (oV n e)], .int .i64 (oE n e)]) ∧ Below w.heap.size w w' := by
  by_cases he : e = 0
  · subst he
    cases h : dok n
    · rw [(o_no (.inr h)).1, (o_no (.inr h)).2]; exact made_false n (fun w => by rw [← h]; exact inside_any n w) w
    · rw [(o_yes h).1, (o_yes h).2]; exact made_true n (fun w => by rw [← h]; exact inside_any n w) w
  · rw [(o_no (.inl he)).1, (o_no (.inl he)).2]; exact made_bad n e he w

set_option maxRecDepth 100000 in
set_option maxHeartbeats 4000000 in
theorem days_meth (b n v e : Int)
    (A : Hid (∀ w : World, Calls Tryd.prog 63 #[.int .i64 n, .int .i64 b] w fun r' w' => r' = .returned (.tuple #[.int .i64 v, .int .i64 e]) ∧ w' = w))
    (w : World) :
    Calls Tryd.prog 42 #[.int .i64 b, .int .i64 n] w fun r' w' => r' = .returned (.tuple #[.int .i64 v, .int .i64 e]) ∧ w' = w := by
  go_enter Tryd.func42, Tryd.ntmps42
  go_wp2_with fail
  refine (A.out _).mono ?_
  rintro e W1 ⟨rfl, rfl⟩
  go_wp2
  go_ret2
  exact ⟨rfl, rfl⟩

set_option maxRecDepth 100000 in
set_option maxHeartbeats 4000000 in
theorem months_meth (b n v e : Int)
    (A : Hid (∀ w : World, Cvl.Lens w → Calls Tryd.prog 67 #[.int .i64 n, .int .i64 b] w fun r' w' => r' = .returned (.tuple #[.int .i64 v, .int .i64 e]) ∧ w' = w))
    (w : World) (hL : Hid (∀ W : World, Below w.heap.size w W → Cvl.Lens W)) :
    Calls Tryd.prog 46 #[.int .i64 b, .int .i64 n] w fun r' w' => r' = .returned (.tuple #[.int .i64 v, .int .i64 e]) ∧ w' = w := by
  have K0 : Hid (BS w [] w) := (BS.start w)
  go_enter Tryd.func46, Tryd.ntmps46
  go_wp2_with fail
  refine (A.out _ (hL.out _ K0.out.1)).mono ?_
  rintro e W1 ⟨rfl, rfl⟩
  go_wp2
  go_ret2
  exact ⟨rfl, rfl⟩


end Go.Proofs.YtghfgabajdghiaaDoor
