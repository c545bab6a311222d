/- Contract of clock.Offset. -/
import Derived.Test.YtdkodkkbggdpbaaDoorClkE
namespace Go.Proofs.YtdkodkkbggdpbaaDoor
open Go.RowKit
set_option linter.unusedVariables false

set_option maxRecDepth 100000 in
set_option maxHeartbeats 1000000 in
theorem offset_out (sec : Int) (h : sec < -57599 ∨ 57599 < sec) (w : World) :
    Calls Tryd.prog 13 #[.int .i64 sec] w fun e w' => e = .returned (.tuple #[.string ⟨#[]⟩, .int .i64 10]) ∧ Below w.heap.size w w' := by
  rcases h with h | h
  · go_enter Tryd.func13, Tryd.ntmps13
    go_wp2
    go_ret2
    exact ⟨rfl, Below.refl _ _⟩
  · have h2 : ¬ sec < -57599 := by omega
    go_enter Tryd.func13, Tryd.ntmps13
    go_wp2
    go_ret2
    exact ⟨rfl, Below.refl _ _⟩

set_option maxRecDepth 100000 in
set_option maxHeartbeats 1000000 in
theorem offset_pos1 (sec a b c m d : Int) (A B C : ByteArray) (a1 : A.size ≤ 21) (b1 : B.size ≤ 21) (c1 : C.size ≤ 21) (h1 : ¬ sec < -57599) (h2 : ¬ 57599 < sec) (hn : ¬ sec < 0) (ha : sec = a) (e1 : a.tdiv 3600 = b) (e2 : a.tmod 3600 = 0) (e5 : a.tmod 60 = 0) (e3 : a.tdiv 60 = c) (e4 : c.tmod 60 = m)
    (k1 : 0 ≤ b) (k2 : b ≤ 57599) (k3 : 0 ≤ c) (k4 : c ≤ 57599) (k5 : 0 ≤ a) (k6 : a ≤ 57599)
    (H1 : Hid (∀ w : World, Tab w → Calls Tryd.prog 43 #[.int .i64 b] w fun e w' => e = .returned (.string A) ∧ Below w.heap.size w w'))
    (H2 : Hid (∀ w : World, Tab w → Calls Tryd.prog 43 #[.int .i64 m] w fun e w' => e = .returned (.string B) ∧ Below w.heap.size w w'))
    (H3 : Hid (∀ w : World, Tab w → Calls Tryd.prog 43 #[.int .i64 d] w fun e w' => e = .returned (.string C) ∧ Below w.heap.size w w'))
    (w : World) (hT : Hid (Tab w)) :
    Calls Tryd.prog 13 #[.int .i64 sec] w fun e w' => e = .returned (.tuple #[.string (⟨#[43]⟩ ++ A), .int .i64 0]) ∧ Below w.heap.size w w' := by
  subst ha
  go_enter Tryd.func13, Tryd.ntmps13
  go_wp2_with fail
  refine (H1.out _ hT.out).mono ?_
  rintro e w1 ⟨rfl, B1⟩
  have T1 := hT.out.below B1
  go_wp2_with fail
  go_ret2
  exact ⟨rfl, B1⟩

set_option maxRecDepth 100000 in
set_option maxHeartbeats 1000000 in
theorem offset_pos2 (sec a b c m d : Int) (A B C : ByteArray) (a1 : A.size ≤ 21) (b1 : B.size ≤ 21) (c1 : C.size ≤ 21) (h1 : ¬ sec < -57599) (h2 : ¬ 57599 < sec) (hn : ¬ sec < 0) (ha : sec = a) (e1 : a.tdiv 3600 = b) (e2 : (a.tmod 3600 != 0) = true) (e2' : (a % 3600 != 0) = true) (e5 : a.tmod 60 = 0) (e3 : a.tdiv 60 = c) (e4 : c.tmod 60 = m)
    (k1 : 0 ≤ b) (k2 : b ≤ 57599) (k3 : 0 ≤ c) (k4 : c ≤ 57599) (k5 : 0 ≤ a) (k6 : a ≤ 57599)
    (H1 : Hid (∀ w : World, Tab w → Calls Tryd.prog 43 #[.int .i64 b] w fun e w' => e = .returned (.string A) ∧ Below w.heap.size w w'))
    (H2 : Hid (∀ w : World, Tab w → Calls Tryd.prog 43 #[.int .i64 m] w fun e w' => e = .returned (.string B) ∧ Below w.heap.size w w'))
    (H3 : Hid (∀ w : World, Tab w → Calls Tryd.prog 43 #[.int .i64 d] w fun e w' => e = .returned (.string C) ∧ Below w.heap.size w w'))
    (w : World) (hT : Hid (Tab w)) :
    Calls Tryd.prog 13 #[.int .i64 sec] w fun e w' => e = .returned (.tuple #[.string ((⟨#[43]⟩ ++ A) ++ (⟨#[58]⟩ ++ B)), .int .i64 0]) ∧ Below w.heap.size w w' := by
  subst ha
  go_enter Tryd.func13, Tryd.ntmps13
  go_wp2_with fail
  refine (H1.out _ hT.out).mono ?_
  rintro e w1 ⟨rfl, B1⟩
  have T1 := hT.out.below B1
  go_wp2_with fail
  refine (H2.out _ T1).mono ?_
  rintro e w2 ⟨rfl, b2⟩
  have T2 := T1.below b2
  have B2 := B1.trans (b2.mono B1.size)
  clear b2 B1 T1
  go_wp2_with fail
  go_ret2
  exact ⟨rfl, B2⟩

set_option maxRecDepth 100000 in
set_option maxHeartbeats 1000000 in
theorem offset_pos3 (sec a b c m d : Int) (A B C : ByteArray) (a1 : A.size ≤ 21) (b1 : B.size ≤ 21) (c1 : C.size ≤ 21) (h1 : ¬ sec < -57599) (h2 : ¬ 57599 < sec) (hn : ¬ sec < 0) (ha : sec = a) (e1 : a.tdiv 3600 = b) (e2 : (a.tmod 3600 != 0) = true) (e2' : (a % 3600 != 0) = true) (e5 : a.tmod 60 = d) (e6 : (d != 0) = true) (e3 : a.tdiv 60 = c) (e4 : c.tmod 60 = m)
    (k1 : 0 ≤ b) (k2 : b ≤ 57599) (k3 : 0 ≤ c) (k4 : c ≤ 57599) (k5 : 0 ≤ a) (k6 : a ≤ 57599)
    (H1 : Hid (∀ w : World, Tab w → Calls Tryd.prog 43 #[.int .i64 b] w fun e w' => e = .returned (.string A) ∧ Below w.heap.size w w'))
    (H2 : Hid (∀ w : World, Tab w → Calls Tryd.prog 43 #[.int .i64 m] w fun e w' => e = .returned (.string B) ∧ Below w.heap.size w w'))
    (H3 : Hid (∀ w : World, Tab w → Calls Tryd.prog 43 #[.int .i64 d] w fun e w' => e = .returned (.string C) ∧ Below w.heap.size w w'))
    (w : World) (hT : Hid (Tab w)) :
    Calls Tryd.prog 13 #[.int .i64 sec] w fun e w' => e = .returned (.tuple #[.string (((⟨#[43]⟩ ++ A) ++ (⟨#[58]⟩ ++ B)) ++ (⟨#[58]⟩ ++ C)), .int .i64 0]) ∧ Below w.heap.size w w' := by
  subst ha
  go_enter Tryd.func13, Tryd.ntmps13
  go_wp2_with fail
  refine (H1.out _ hT.out).mono ?_
  rintro e w1 ⟨rfl, B1⟩
  have T1 := hT.out.below B1
  go_wp2_with fail
  refine (H2.out _ T1).mono ?_
  rintro e w2 ⟨rfl, b2⟩
  have T2 := T1.below b2
  have B2 := B1.trans (b2.mono B1.size)
  clear b2 B1 T1
  go_wp2_with fail
  refine (H3.out _ T2).mono ?_
  rintro e w3 ⟨rfl, b3⟩
  have B3 := B2.trans (b3.mono B2.size)
  clear b3 B2 T2
  go_wp2_with fail
  go_ret2
  exact ⟨rfl, B3⟩

set_option maxRecDepth 100000 in
set_option maxHeartbeats 1000000 in
theorem offset_neg1 (sec a b c m d : Int) (A B C : ByteArray) (a1 : A.size ≤ 21) (b1 : B.size ≤ 21) (c1 : C.size ≤ 21) (h1 : ¬ sec < -57599) (h2 : ¬ 57599 < sec) (hn : sec < 0) (ha : -sec = a) (e1 : a.tdiv 3600 = b) (e2 : a.tmod 3600 = 0) (e5 : a.tmod 60 = 0) (e3 : a.tdiv 60 = c) (e4 : c.tmod 60 = m)
    (k1 : 0 ≤ b) (k2 : b ≤ 57599) (k3 : 0 ≤ c) (k4 : c ≤ 57599) (k5 : 0 ≤ a) (k6 : a ≤ 57599)
    (H1 : Hid (∀ w : World, Tab w → Calls Tryd.prog 43 #[.int .i64 b] w fun e w' => e = .returned (.string A) ∧ Below w.heap.size w w'))
    (H2 : Hid (∀ w : World, Tab w → Calls Tryd.prog 43 #[.int .i64 m] w fun e w' => e = .returned (.string B) ∧ Below w.heap.size w w'))
    (H3 : Hid (∀ w : World, Tab w → Calls Tryd.prog 43 #[.int .i64 d] w fun e w' => e = .returned (.string C) ∧ Below w.heap.size w w'))
    (w : World) (hT : Hid (Tab w)) :
    Calls Tryd.prog 13 #[.int .i64 sec] w fun e w' => e = .returned (.tuple #[.string (⟨#[45]⟩ ++ A), .int .i64 0]) ∧ Below w.heap.size w w' := by
  go_enter Tryd.func13, Tryd.ntmps13
  go_wp2_with fail
  refine (H1.out _ hT.out).mono ?_
  rintro e w1 ⟨rfl, B1⟩
  have T1 := hT.out.below B1
  go_wp2_with fail
  go_ret2
  exact ⟨rfl, B1⟩

set_option maxRecDepth 100000 in
set_option maxHeartbeats 1000000 in
theorem offset_neg2 (sec a b c m d : Int) (A B C : ByteArray) (a1 : A.size ≤ 21) (b1 : B.size ≤ 21) (c1 : C.size ≤ 21) (h1 : ¬ sec < -57599) (h2 : ¬ 57599 < sec) (hn : sec < 0) (ha : -sec = a) (e1 : a.tdiv 3600 = b) (e2 : (a.tmod 3600 != 0) = true) (e2' : (a % 3600 != 0) = true) (e5 : a.tmod 60 = 0) (e3 : a.tdiv 60 = c) (e4 : c.tmod 60 = m)
    (k1 : 0 ≤ b) (k2 : b ≤ 57599) (k3 : 0 ≤ c) (k4 : c ≤ 57599) (k5 : 0 ≤ a) (k6 : a ≤ 57599)
    (H1 : Hid (∀ w : World, Tab w → Calls Tryd.prog 43 #[.int .i64 b] w fun e w' => e = .returned (.string A) ∧ Below w.heap.size w w'))
    (H2 : Hid (∀ w : World, Tab w → Calls Tryd.prog 43 #[.int .i64 m] w fun e w' => e = .returned (.string B) ∧ Below w.heap.size w w'))
    (H3 : Hid (∀ w : World, Tab w → Calls Tryd.prog 43 #[.int .i64 d] w fun e w' => e = .returned (.string C) ∧ Below w.heap.size w w'))
    (w : World) (hT : Hid (Tab w)) :
    Calls Tryd.prog 13 #[.int .i64 sec] w fun e w' => e = .returned (.tuple #[.string ((⟨#[45]⟩ ++ A) ++ (⟨#[58]⟩ ++ B)), .int .i64 0]) ∧ Below w.heap.size w w' := by
  go_enter Tryd.func13, Tryd.ntmps13
  go_wp2_with fail
  refine (H1.out _ hT.out).mono ?_
  rintro e w1 ⟨rfl, B1⟩
  have T1 := hT.out.below B1
  go_wp2_with fail
  refine (H2.out _ T1).mono ?_
  rintro e w2 ⟨rfl, b2⟩
  have T2 := T1.below b2
  have B2 := B1.trans (b2.mono B1.size)
  clear b2 B1 T1
  go_wp2_with fail
  go_ret2
  exact ⟨rfl, B2⟩

set_option maxRecDepth 100000 in
set_option maxHeartbeats 1000000 in
theorem offset_neg3 (sec a b c m d : Int) (A B C : ByteArray) (a1 : A.size ≤ 21) (b1 : B.size ≤ 21) (c1 : C.size ≤ 21) (h1 : ¬ sec < -57599) (h2 : ¬ 57599 < sec) (hn : sec < 0) (ha : -sec = a) (e1 : a.tdiv 3600 = b) (e2 : (a.tmod 3600 != 0) = true) (e2' : (a % 3600 != 0) = true) (e5 : a.tmod 60 = d) (e6 : (d != 0) = true) (e3 : a.tdiv 60 = c) (e4 : c.tmod 60 = m)
    (k1 : 0 ≤ b) (k2 : b ≤ 57599) (k3 : 0 ≤ c) (k4 : c ≤ 57599) (k5 : 0 ≤ a) (k6 : a ≤ 57599)
    (H1 : Hid (∀ w : World, Tab w → Calls Tryd.prog 43 #[.int .i64 b] w fun e w' => e = .returned (.string A) ∧ Below w.heap.size w w'))
    (H2 : Hid (∀ w : World, Tab w → Calls Tryd.prog 43 #[.int .i64 m] w fun e w' => e = .returned (.string B) ∧ Below w.heap.size w w'))
    (H3 : Hid (∀ w : World, Tab w → Calls Tryd.prog 43 #[.int .i64 d] w fun e w' => e = .returned (.string C) ∧ Below w.heap.size w w'))
    (w : World) (hT : Hid (Tab w)) :
    Calls Tryd.prog 13 #[.int .i64 sec] w fun e w' => e = .returned (.tuple #[.string (((⟨#[45]⟩ ++ A) ++ (⟨#[58]⟩ ++ B)) ++ (⟨#[58]⟩ ++ C)), .int .i64 0]) ∧ Below w.heap.size w w' := by
  go_enter Tryd.func13, Tryd.ntmps13
  go_wp2_with fail
  refine (H1.out _ hT.out).mono ?_
  rintro e w1 ⟨rfl, B1⟩
  have T1 := hT.out.below B1
  go_wp2_with fail
  refine (H2.out _ T1).mono ?_
  rintro e w2 ⟨rfl, b2⟩
  have T2 := T1.below b2
  have B2 := B1.trans (b2.mono B1.size)
  clear b2 B1 T1
  go_wp2_with fail
  refine (H3.out _ T2).mono ?_
  rintro e w3 ⟨rfl, b3⟩
  have B3 := B2.trans (b3.mono B2.size)
  clear b3 B2 T2
  go_wp2_with fail
  go_ret2
  exact ⟨rfl, B3⟩

/-- an offset as a text. -/
def offA (a : Int) : ByteArray := twoB (a / 3600)
def offB (sec a : Int) : ByteArray :=
  let s : ByteArray := if sec < 0 then ⟨#[45]⟩ else ⟨#[43]⟩
  if a % 3600 = 0 then s ++ twoB (a / 3600)
  else if a % 60 = 0 then (s ++ twoB (a / 3600)) ++ (⟨#[58]⟩ ++ twoB (a / 60 % 60))
  else ((s ++ twoB (a / 3600)) ++ (⟨#[58]⟩ ++ twoB (a / 60 % 60))) ++ (⟨#[58]⟩ ++ twoB (a % 60))

/-- clock.Offset of an offset. -/
theorem offset_in (sec : Int) (h1 : -57599 ≤ sec) (h2 : sec ≤ 57599) (w : World) (hT : Tab w) :
    Calls Tryd.prog 13 #[.int .i64 sec] w fun e w' => e = .returned (.tuple #[.string (offB sec sec.natAbs), .int .i64 0]) ∧ Below w.heap.size w w' := by
  obtain ⟨a, ha⟩ : ∃ a : Int, (sec.natAbs : Int) = a := ⟨_, rfl⟩
  rw [ha]
  have a0 : 0 ≤ a := by omega
  have d1 : a.tdiv 3600 = a / 3600 := Int.tdiv_eq_ediv_of_nonneg a0
  have d2 : a.tmod 3600 = a % 3600 := Int.tmod_eq_emod_of_nonneg a0
  have d3 : a.tdiv 60 = a / 60 := Int.tdiv_eq_ediv_of_nonneg a0
  have d4 : a.tmod 60 = a % 60 := Int.tmod_eq_emod_of_nonneg a0
  have d5 : (a / 60).tmod 60 = a / 60 % 60 := Int.tmod_eq_emod_of_nonneg (by omega)
  have T1 := two_any (a / 3600) (by omega) (by omega)
  have T2 := two_any (a / 60 % 60) (by omega) (by omega)
  have T3 := two_any (a % 60) (by omega) (by omega)
  have S1 := twoB_size (n := a / 3600) (by omega) (by omega)
  have S2 := twoB_size (n := a / 60 % 60) (by omega) (by omega)
  have S3 := twoB_size (n := a % 60) (by omega) (by omega)
  unfold offB
  by_cases hn : sec < 0
  · simp only [if_pos hn]
    by_cases q : a % 3600 = 0
    · rw [if_pos q]
      exact offset_neg1 sec a _ _ _ _ _ _ _ S1 S2 S3 (by omega) (by omega) hn (by omega) d1 (d2.trans q) (d4.trans (by omega)) d3 d5 (by omega) (by omega) (by omega) (by omega) a0 (by omega) T1 T2 T3 w hT
    · rw [if_neg q]
      by_cases r : a % 60 = 0
      · rw [if_pos r]
        exact offset_neg2 sec a _ _ _ _ _ _ _ S1 S2 S3 (by omega) (by omega) hn (by omega) d1 (by rw [d2, bne_iff_ne]; exact q) (by rw [bne_iff_ne]; exact q) (d4.trans r) d3 d5 (by omega) (by omega) (by omega) (by omega) a0 (by omega) T1 T2 T3 w hT
      · rw [if_neg r]
        exact offset_neg3 sec a _ _ _ _ _ _ _ S1 S2 S3 (by omega) (by omega) hn (by omega) d1 (by rw [d2, bne_iff_ne]; exact q) (by rw [bne_iff_ne]; exact q) d4 (by rw [bne_iff_ne]; exact r) d3 d5 (by omega) (by omega) (by omega) (by omega) a0 (by omega) T1 T2 T3 w hT
  · simp only [if_neg hn]
    by_cases q : a % 3600 = 0
    · rw [if_pos q]
      exact offset_pos1 sec a _ _ _ _ _ _ _ S1 S2 S3 (by omega) (by omega) hn (by omega) d1 (d2.trans q) (d4.trans (by omega)) d3 d5 (by omega) (by omega) (by omega) (by omega) a0 (by omega) T1 T2 T3 w hT
    · rw [if_neg q]
      by_cases r : a % 60 = 0
      · rw [if_pos r]
        exact offset_pos2 sec a _ _ _ _ _ _ _ S1 S2 S3 (by omega) (by omega) hn (by omega) d1 (by rw [d2, bne_iff_ne]; exact q) (by rw [bne_iff_ne]; exact q) (d4.trans r) d3 d5 (by omega) (by omega) (by omega) (by omega) a0 (by omega) T1 T2 T3 w hT
      · rw [if_neg r]
        exact offset_pos3 sec a _ _ _ _ _ _ _ S1 S2 S3 (by omega) (by omega) hn (by omega) d1 (by rw [d2, bne_iff_ne]; exact q) (by rw [bne_iff_ne]; exact q) d4 (by rw [bne_iff_ne]; exact r) d3 d5 (by omega) (by omega) (by omega) (by omega) a0 (by omega) T1 T2 T3 w hT

end Go.Proofs.YtdkodkkbggdpbaaDoor
