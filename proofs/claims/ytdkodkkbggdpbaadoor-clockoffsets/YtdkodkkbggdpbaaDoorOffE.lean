/- Contract of the reference's Offset. -/
import Derived.Test.YtdkodkkbggdpbaaDoorClkM
namespace Go.Proofs.YtdkodkkbggdpbaaDoor
open Go.RowKit
set_option linter.unusedVariables false

set_option maxRecDepth 100000 in
set_option maxHeartbeats 1000000 in
theorem eoffset_out (sec : Int) (h : sec < -57599 ∨ 57599 < sec) (w : World) :
    Calls Tryd.prog 14 #[.int .i64 sec] w fun e w' => e = .returned (.tuple #[.string ⟨#[]⟩, .int .i64 10]) ∧ Below w.heap.size w w' := by
  rcases h with h | h
  · go_enter Tryd.func14, Tryd.ntmps14
    go_wp2
    go_ret2
    exact ⟨rfl, Below.refl _ _⟩
  · have h2 : ¬ sec < -57599 := by omega
    go_enter Tryd.func14, Tryd.ntmps14
    go_wp2
    go_ret2
    exact ⟨rfl, Below.refl _ _⟩

set_option maxRecDepth 100000 in
set_option maxHeartbeats 1000000 in
theorem eoffset_pos1 (sec a b c m d : Int) (A B C : ByteArray) (a1 : A.size ≤ 21) (b1 : B.size ≤ 21) (c1 : C.size ≤ 21) (h1 : ¬ sec < -57599) (h2 : ¬ 57599 < sec) (hn : ¬ sec < 0) (ha : sec = a) (e1 : a.tdiv 3600 = b) (e2 : a.tmod 3600 = 0) (e5 : a.tmod 60 = 0) (e3 : a.tdiv 60 = c) (e4 : c.tmod 60 = m)
    (k1 : 0 ≤ b) (k2 : b ≤ 57599) (k3 : 0 ≤ c) (k4 : c ≤ 57599) (k5 : 0 ≤ a) (k6 : a ≤ 57599)
    (H1 : Hid (∀ w : World, Calls Tryd.prog 44 #[.int .i64 b] w fun e w' => e = .returned (.string A) ∧ Below w.heap.size w w'))
    (H2 : Hid (∀ w : World, Calls Tryd.prog 44 #[.int .i64 m] w fun e w' => e = .returned (.string B) ∧ Below w.heap.size w w'))
    (H3 : Hid (∀ w : World, Calls Tryd.prog 44 #[.int .i64 d] w fun e w' => e = .returned (.string C) ∧ Below w.heap.size w w'))
    (w : World) :
    Calls Tryd.prog 14 #[.int .i64 sec] w fun e w' => e = .returned (.tuple #[.string (⟨#[43]⟩ ++ A), .int .i64 0]) ∧ Below w.heap.size w w' := by
  subst ha
  go_enter Tryd.func14, Tryd.ntmps14
  go_wp2_with fail
  refine (H1.out _).mono ?_
  rintro e w1 ⟨rfl, B1⟩
  go_wp2_with fail
  go_ret2
  exact ⟨rfl, B1⟩

set_option maxRecDepth 100000 in
set_option maxHeartbeats 1000000 in
theorem eoffset_pos2 (sec a b c m d : Int) (A B C : ByteArray) (a1 : A.size ≤ 21) (b1 : B.size ≤ 21) (c1 : C.size ≤ 21) (h1 : ¬ sec < -57599) (h2 : ¬ 57599 < sec) (hn : ¬ sec < 0) (ha : sec = a) (e1 : a.tdiv 3600 = b) (e2 : (a.tmod 3600 != 0) = true) (e2' : (a % 3600 != 0) = true) (e5 : a.tmod 60 = 0) (e3 : a.tdiv 60 = c) (e4 : c.tmod 60 = m)
    (k1 : 0 ≤ b) (k2 : b ≤ 57599) (k3 : 0 ≤ c) (k4 : c ≤ 57599) (k5 : 0 ≤ a) (k6 : a ≤ 57599)
    (H1 : Hid (∀ w : World, Calls Tryd.prog 44 #[.int .i64 b] w fun e w' => e = .returned (.string A) ∧ Below w.heap.size w w'))
    (H2 : Hid (∀ w : World, Calls Tryd.prog 44 #[.int .i64 m] w fun e w' => e = .returned (.string B) ∧ Below w.heap.size w w'))
    (H3 : Hid (∀ w : World, Calls Tryd.prog 44 #[.int .i64 d] w fun e w' => e = .returned (.string C) ∧ Below w.heap.size w w'))
    (w : World) :
    Calls Tryd.prog 14 #[.int .i64 sec] w fun e w' => e = .returned (.tuple #[.string (((⟨#[43]⟩ ++ A) ++ ⟨#[58]⟩) ++ B), .int .i64 0]) ∧ Below w.heap.size w w' := by
  subst ha
  go_enter Tryd.func14, Tryd.ntmps14
  go_wp2_with fail
  refine (H1.out _).mono ?_
  rintro e w1 ⟨rfl, B1⟩
  go_wp2_with fail
  refine (H2.out _).mono ?_
  rintro e w2 ⟨rfl, b2⟩
  have B2 := B1.trans (b2.mono B1.size)
  clear b2 B1
  go_wp2_with fail
  go_ret2
  exact ⟨rfl, B2⟩

set_option maxRecDepth 100000 in
set_option maxHeartbeats 1000000 in
theorem eoffset_pos3 (sec a b c m d : Int) (A B C : ByteArray) (a1 : A.size ≤ 21) (b1 : B.size ≤ 21) (c1 : C.size ≤ 21) (h1 : ¬ sec < -57599) (h2 : ¬ 57599 < sec) (hn : ¬ sec < 0) (ha : sec = a) (e1 : a.tdiv 3600 = b) (e2 : (a.tmod 3600 != 0) = true) (e2' : (a % 3600 != 0) = true) (e5 : a.tmod 60 = d) (e6 : (d != 0) = true) (e3 : a.tdiv 60 = c) (e4 : c.tmod 60 = m)
    (k1 : 0 ≤ b) (k2 : b ≤ 57599) (k3 : 0 ≤ c) (k4 : c ≤ 57599) (k5 : 0 ≤ a) (k6 : a ≤ 57599)
    (H1 : Hid (∀ w : World, Calls Tryd.prog 44 #[.int .i64 b] w fun e w' => e = .returned (.string A) ∧ Below w.heap.size w w'))
    (H2 : Hid (∀ w : World, Calls Tryd.prog 44 #[.int .i64 m] w fun e w' => e = .returned (.string B) ∧ Below w.heap.size w w'))
    (H3 : Hid (∀ w : World, Calls Tryd.prog 44 #[.int .i64 d] w fun e w' => e = .returned (.string C) ∧ Below w.heap.size w w'))
    (w : World) :
    Calls Tryd.prog 14 #[.int .i64 sec] w fun e w' => e = .returned (.tuple #[.string (((((⟨#[43]⟩ ++ A) ++ ⟨#[58]⟩) ++ B) ++ ⟨#[58]⟩) ++ C), .int .i64 0]) ∧ Below w.heap.size w w' := by
  subst ha
  go_enter Tryd.func14, Tryd.ntmps14
  go_wp2_with fail
  refine (H1.out _).mono ?_
  rintro e w1 ⟨rfl, B1⟩
  go_wp2_with fail
  refine (H2.out _).mono ?_
  rintro e w2 ⟨rfl, b2⟩
  have B2 := B1.trans (b2.mono B1.size)
  clear b2 B1
  go_wp2_with fail
  refine (H3.out _).mono ?_
  rintro e w3 ⟨rfl, b3⟩
  have B3 := B2.trans (b3.mono B2.size)
  clear b3 B2
  go_wp2_with fail
  go_ret2
  exact ⟨rfl, B3⟩

set_option maxRecDepth 100000 in
set_option maxHeartbeats 1000000 in
theorem eoffset_neg1 (sec a b c m d : Int) (A B C : ByteArray) (a1 : A.size ≤ 21) (b1 : B.size ≤ 21) (c1 : C.size ≤ 21) (h1 : ¬ sec < -57599) (h2 : ¬ 57599 < sec) (hn : sec < 0) (ha : -sec = a) (e1 : a.tdiv 3600 = b) (e2 : a.tmod 3600 = 0) (e5 : a.tmod 60 = 0) (e3 : a.tdiv 60 = c) (e4 : c.tmod 60 = m)
    (k1 : 0 ≤ b) (k2 : b ≤ 57599) (k3 : 0 ≤ c) (k4 : c ≤ 57599) (k5 : 0 ≤ a) (k6 : a ≤ 57599)
    (H1 : Hid (∀ w : World, Calls Tryd.prog 44 #[.int .i64 b] w fun e w' => e = .returned (.string A) ∧ Below w.heap.size w w'))
    (H2 : Hid (∀ w : World, Calls Tryd.prog 44 #[.int .i64 m] w fun e w' => e = .returned (.string B) ∧ Below w.heap.size w w'))
    (H3 : Hid (∀ w : World, Calls Tryd.prog 44 #[.int .i64 d] w fun e w' => e = .returned (.string C) ∧ Below w.heap.size w w'))
    (w : World) :
    Calls Tryd.prog 14 #[.int .i64 sec] w fun e w' => e = .returned (.tuple #[.string (⟨#[45]⟩ ++ A), .int .i64 0]) ∧ Below w.heap.size w w' := by
  go_enter Tryd.func14, Tryd.ntmps14
  go_wp2_with fail
  refine (H1.out _).mono ?_
  rintro e w1 ⟨rfl, B1⟩
  go_wp2_with fail
  go_ret2
  exact ⟨rfl, B1⟩

set_option maxRecDepth 100000 in
set_option maxHeartbeats 1000000 in
theorem eoffset_neg2 (sec a b c m d : Int) (A B C : ByteArray) (a1 : A.size ≤ 21) (b1 : B.size ≤ 21) (c1 : C.size ≤ 21) (h1 : ¬ sec < -57599) (h2 : ¬ 57599 < sec) (hn : sec < 0) (ha : -sec = a) (e1 : a.tdiv 3600 = b) (e2 : (a.tmod 3600 != 0) = true) (e2' : (a % 3600 != 0) = true) (e5 : a.tmod 60 = 0) (e3 : a.tdiv 60 = c) (e4 : c.tmod 60 = m)
    (k1 : 0 ≤ b) (k2 : b ≤ 57599) (k3 : 0 ≤ c) (k4 : c ≤ 57599) (k5 : 0 ≤ a) (k6 : a ≤ 57599)
    (H1 : Hid (∀ w : World, Calls Tryd.prog 44 #[.int .i64 b] w fun e w' => e = .returned (.string A) ∧ Below w.heap.size w w'))
    (H2 : Hid (∀ w : World, Calls Tryd.prog 44 #[.int .i64 m] w fun e w' => e = .returned (.string B) ∧ Below w.heap.size w w'))
    (H3 : Hid (∀ w : World, Calls Tryd.prog 44 #[.int .i64 d] w fun e w' => e = .returned (.string C) ∧ Below w.heap.size w w'))
    (w : World) :
    Calls Tryd.prog 14 #[.int .i64 sec] w fun e w' => e = .returned (.tuple #[.string (((⟨#[45]⟩ ++ A) ++ ⟨#[58]⟩) ++ B), .int .i64 0]) ∧ Below w.heap.size w w' := by
  go_enter Tryd.func14, Tryd.ntmps14
  go_wp2_with fail
  refine (H1.out _).mono ?_
  rintro e w1 ⟨rfl, B1⟩
  go_wp2_with fail
  refine (H2.out _).mono ?_
  rintro e w2 ⟨rfl, b2⟩
  have B2 := B1.trans (b2.mono B1.size)
  clear b2 B1
  go_wp2_with fail
  go_ret2
  exact ⟨rfl, B2⟩

set_option maxRecDepth 100000 in
set_option maxHeartbeats 1000000 in
theorem eoffset_neg3 (sec a b c m d : Int) (A B C : ByteArray) (a1 : A.size ≤ 21) (b1 : B.size ≤ 21) (c1 : C.size ≤ 21) (h1 : ¬ sec < -57599) (h2 : ¬ 57599 < sec) (hn : sec < 0) (ha : -sec = a) (e1 : a.tdiv 3600 = b) (e2 : (a.tmod 3600 != 0) = true) (e2' : (a % 3600 != 0) = true) (e5 : a.tmod 60 = d) (e6 : (d != 0) = true) (e3 : a.tdiv 60 = c) (e4 : c.tmod 60 = m)
    (k1 : 0 ≤ b) (k2 : b ≤ 57599) (k3 : 0 ≤ c) (k4 : c ≤ 57599) (k5 : 0 ≤ a) (k6 : a ≤ 57599)
    (H1 : Hid (∀ w : World, Calls Tryd.prog 44 #[.int .i64 b] w fun e w' => e = .returned (.string A) ∧ Below w.heap.size w w'))
    (H2 : Hid (∀ w : World, Calls Tryd.prog 44 #[.int .i64 m] w fun e w' => e = .returned (.string B) ∧ Below w.heap.size w w'))
    (H3 : Hid (∀ w : World, Calls Tryd.prog 44 #[.int .i64 d] w fun e w' => e = .returned (.string C) ∧ Below w.heap.size w w'))
    (w : World) :
    Calls Tryd.prog 14 #[.int .i64 sec] w fun e w' => e = .returned (.tuple #[.string (((((⟨#[45]⟩ ++ A) ++ ⟨#[58]⟩) ++ B) ++ ⟨#[58]⟩) ++ C), .int .i64 0]) ∧ Below w.heap.size w w' := by
  go_enter Tryd.func14, Tryd.ntmps14
  go_wp2_with fail
  refine (H1.out _).mono ?_
  rintro e w1 ⟨rfl, B1⟩
  go_wp2_with fail
  refine (H2.out _).mono ?_
  rintro e w2 ⟨rfl, b2⟩
  have B2 := B1.trans (b2.mono B1.size)
  clear b2 B1
  go_wp2_with fail
  refine (H3.out _).mono ?_
  rintro e w3 ⟨rfl, b3⟩
  have B3 := B2.trans (b3.mono B2.size)
  clear b3 B2
  go_wp2_with fail
  go_ret2
  exact ⟨rfl, B3⟩

/-- computusref03.Offset of an offset. -/
theorem eoffset_in (sec : Int) (h1 : -57599 ≤ sec) (h2 : sec ≤ 57599) (w : World) :
    Calls Tryd.prog 14 #[.int .i64 sec] w fun e w' => e = .returned (.tuple #[.string (offB sec sec.natAbs), .int .i64 0]) ∧ Below w.heap.size w w' := by
  obtain ⟨a, ha⟩ : ∃ a : Int, (sec.natAbs : Int) = a := ⟨_, rfl⟩
  rw [ha]
  have a0 : 0 ≤ a := by omega
  have d1 : a.tdiv 3600 = a / 3600 := Int.tdiv_eq_ediv_of_nonneg a0
  have d2 : a.tmod 3600 = a % 3600 := Int.tmod_eq_emod_of_nonneg a0
  have d3 : a.tdiv 60 = a / 60 := Int.tdiv_eq_ediv_of_nonneg a0
  have d4 : a.tmod 60 = a % 60 := Int.tmod_eq_emod_of_nonneg a0
  have d5 : (a / 60).tmod 60 = a / 60 % 60 := Int.tmod_eq_emod_of_nonneg (by omega)
  have T1 := etwo_any (a / 3600) (by omega) (by omega)
  have T2 := etwo_any (a / 60 % 60) (by omega) (by omega)
  have T3 := etwo_any (a % 60) (by omega) (by omega)
  have S1 := twoB_size (n := a / 3600) (by omega) (by omega)
  have S2 := twoB_size (n := a / 60 % 60) (by omega) (by omega)
  have S3 := twoB_size (n := a % 60) (by omega) (by omega)
  unfold offB
  simp only [← ByteArray.append_assoc]
  by_cases hn : sec < 0
  · simp only [if_pos hn]
    by_cases q : a % 3600 = 0
    · rw [if_pos q]
      exact eoffset_neg1 sec a _ _ _ _ _ _ _ S1 S2 S3 (by omega) (by omega) hn (by omega) d1 (d2.trans q) (d4.trans (by omega)) d3 d5 (by omega) (by omega) (by omega) (by omega) a0 (by omega) T1 T2 T3 w
    · rw [if_neg q]
      by_cases r : a % 60 = 0
      · rw [if_pos r]
        exact eoffset_neg2 sec a _ _ _ _ _ _ _ S1 S2 S3 (by omega) (by omega) hn (by omega) d1 (by rw [d2, bne_iff_ne]; exact q) (by rw [bne_iff_ne]; exact q) (d4.trans r) d3 d5 (by omega) (by omega) (by omega) (by omega) a0 (by omega) T1 T2 T3 w
      · rw [if_neg r]
        exact eoffset_neg3 sec a _ _ _ _ _ _ _ S1 S2 S3 (by omega) (by omega) hn (by omega) d1 (by rw [d2, bne_iff_ne]; exact q) (by rw [bne_iff_ne]; exact q) d4 (by rw [bne_iff_ne]; exact r) d3 d5 (by omega) (by omega) (by omega) (by omega) a0 (by omega) T1 T2 T3 w
  · simp only [if_neg hn]
    by_cases q : a % 3600 = 0
    · rw [if_pos q]
      exact eoffset_pos1 sec a _ _ _ _ _ _ _ S1 S2 S3 (by omega) (by omega) hn (by omega) d1 (d2.trans q) (d4.trans (by omega)) d3 d5 (by omega) (by omega) (by omega) (by omega) a0 (by omega) T1 T2 T3 w
    · rw [if_neg q]
      by_cases r : a % 60 = 0
      · rw [if_pos r]
        exact eoffset_pos2 sec a _ _ _ _ _ _ _ S1 S2 S3 (by omega) (by omega) hn (by omega) d1 (by rw [d2, bne_iff_ne]; exact q) (by rw [bne_iff_ne]; exact q) (d4.trans r) d3 d5 (by omega) (by omega) (by omega) (by omega) a0 (by omega) T1 T2 T3 w
      · rw [if_neg r]
        exact eoffset_pos3 sec a _ _ _ _ _ _ _ S1 S2 S3 (by omega) (by omega) hn (by omega) d1 (by rw [d2, bne_iff_ne]; exact q) (by rw [bne_iff_ne]; exact q) d4 (by rw [bne_iff_ne]; exact r) d3 d5 (by omega) (by omega) (by omega) (by omega) a0 (by omega) T1 T2 T3 w

end Go.Proofs.YtdkodkkbggdpbaaDoor
