/- Small things of package span: counts, what comes first, what is lent. -/
import Derived.Test.YtghfgabajdghiacBxA
import Derived.Deep.Cut
namespace Go.Proofs.Ytghfgabajdghiac
open Go.RowKit
set_option linter.unusedVariables false

theorem ret_bool {a b : Bool} (h : a = b) : Ending.returned (.bool a) = .returned (.bool b) := by rw [h]
/-- can there be so many months, or days? -/
def cnt (n : Int) : Bool := decide (-2147483647 ≤ n ∧ n ≤ 2147483647)
theorem cnt_yes {n : Int} (h : cnt n = true) : -2147483647 ≤ n ∧ n ≤ 2147483647 := of_decide_eq_true h
theorem cnt_no {n : Int} (h : cnt n = false) : ¬ (-2147483647 ≤ n ∧ n ≤ 2147483647) := of_decide_eq_false h
/-- is a below b, the same, above? -/
def sgnC (a b : Int) : Int := if a < b then -1 else if b < a then 1 else 0
theorem sgnC_lt {a b : Int} (h : a < b) : sgnC a b = -1 := if_pos h
theorem sgnC_gt {a b : Int} (h : b < a) : sgnC a b = 1 := by unfold sgnC; rw [if_neg (by omega), if_pos h]
theorem sgnC_eq (a : Int) : sgnC a a = 0 := by unfold sgnC; rw [if_neg (by omega), if_neg (by omega)]
/-- the first one that is not nought. -/
def orV (a b c : Int) : Int := if a ≠ 0 then a else if b ≠ 0 then b else c

set_option maxRecDepth 100000 in
set_option maxHeartbeats 4000000 in
theorem cnt_t (n : Int) (h1 : -2147483647 ≤ n) (h2 : n ≤ 2147483647)
    (w : World) :
    Calls Try.prog 16 #[.int .i64 n] w fun r' w' => r' = .returned (.bool true) ∧ w' = w := by
  go_enter Try.func16, Try.ntmps16
  go_wp2
  go_ret
  exact ⟨by first | rfl | exact ret_bool (by simp; omega), rfl⟩

set_option maxRecDepth 100000 in
set_option maxHeartbeats 4000000 in
theorem cnt_f1 (n : Int) (h1 : ¬ -2147483647 ≤ n)
    (w : World) :
    Calls Try.prog 16 #[.int .i64 n] w fun r' w' => r' = .returned (.bool false) ∧ w' = w := by
  go_enter Try.func16, Try.ntmps16
  go_wp2
  go_ret
  exact ⟨by first | rfl | exact ret_bool (by simp; omega), rfl⟩

set_option maxRecDepth 100000 in
set_option maxHeartbeats 4000000 in
theorem cnt_f2 (n : Int) (h1 : -2147483647 ≤ n) (h2 : ¬ n ≤ 2147483647)
    (w : World) :
    Calls Try.prog 16 #[.int .i64 n] w fun r' w' => r' = .returned (.bool false) ∧ w' = w := by
  go_enter Try.func16, Try.ntmps16
  go_wp2
  go_ret
  exact ⟨by first | rfl | exact ret_bool (by simp; omega), rfl⟩

theorem isCount_any (n : Int) (w : World) : Calls Try.prog 16 #[.int .i64 n] w fun r w' => r = .returned (.bool (cnt n)) ∧ w' = w := by
  unfold cnt
  by_cases h1 : -2147483647 ≤ n
  · by_cases h2 : n ≤ 2147483647
    · rw [decide_eq_true ⟨h1, h2⟩]; exact cnt_t n h1 h2 w
    · rw [decide_eq_false (fun k => h2 k.2)]; exact cnt_f2 n h1 h2 w
  · rw [decide_eq_false (fun k => h1 k.1)]; exact cnt_f1 n h1 w

set_option maxRecDepth 100000 in
set_option maxHeartbeats 4000000 in
theorem wit_t (n M : Int) (m1 : 0 ≤ M) (m2 : M ≤ 9223372036854775807) (h1 : -M ≤ n) (h2 : n ≤ M)
    (w : World) :
    Calls Try.prog 9 #[.int .i64 n, .int .i64 M] w fun r' w' => r' = .returned (.bool true) ∧ w' = w := by
  go_enter Try.func9, Try.ntmps9
  go_wp2
  go_ret
  exact ⟨by first | rfl | exact ret_bool (by simp; omega), rfl⟩

set_option maxRecDepth 100000 in
set_option maxHeartbeats 4000000 in
theorem wit_f1 (n M : Int) (m1 : 0 ≤ M) (m2 : M ≤ 9223372036854775807) (h1 : ¬ -M ≤ n)
    (w : World) :
    Calls Try.prog 9 #[.int .i64 n, .int .i64 M] w fun r' w' => r' = .returned (.bool false) ∧ w' = w := by
  go_enter Try.func9, Try.ntmps9
  go_wp2
  go_ret
  exact ⟨by first | rfl | exact ret_bool (by simp; omega), rfl⟩

set_option maxRecDepth 100000 in
set_option maxHeartbeats 4000000 in
theorem wit_f2 (n M : Int) (m1 : 0 ≤ M) (m2 : M ≤ 9223372036854775807) (h1 : -M ≤ n) (h2 : ¬ n ≤ M)
    (w : World) :
    Calls Try.prog 9 #[.int .i64 n, .int .i64 M] w fun r' w' => r' = .returned (.bool false) ∧ w' = w := by
  go_enter Try.func9, Try.ntmps9
  go_wp2
  go_ret
  exact ⟨by first | rfl | exact ret_bool (by simp; omega), rfl⟩

theorem within_any (n M : Int) (m1 : 0 ≤ M) (m2 : M ≤ 9223372036854775807) (w : World) : Calls Try.prog 9 #[.int .i64 n, .int .i64 M] w fun r w' => r = .returned (.bool (decide (-M ≤ n ∧ n ≤ M))) ∧ w' = w := by
  by_cases h1 : -M ≤ n
  · by_cases h2 : n ≤ M
    · rw [decide_eq_true ⟨h1, h2⟩]; exact wit_t n M m1 m2 h1 h2 w
    · rw [decide_eq_false (fun k => h2 k.2)]; exact wit_f2 n M m1 m2 h1 h2 w
  · rw [decide_eq_false (fun k => h1 k.1)]; exact wit_f1 n M m1 m2 h1 w

set_option maxRecDepth 100000 in
set_option maxHeartbeats 4000000 in
theorem nan_int64 (n : Int)
    (w : World) :
    Calls Try.prog 26 #[.int .i64 n] w fun r' w' => r' = .returned (.bool false) ∧ w' = w := by
  go_enter Try.func26, Try.ntmps26
  go_wp2
  go_ret
  exact ⟨rfl, rfl⟩

set_option maxRecDepth 100000 in
set_option maxHeartbeats 4000000 in
theorem cmp_int64_lt (a b : Int) (h : a < b)
    (N1 : Hid (∀ w : World, Calls Try.prog 26 #[.int .i64 a] w fun r' w' => r' = .returned (.bool false) ∧ w' = w))
    (N2 : Hid (∀ w : World, Calls Try.prog 26 #[.int .i64 b] w fun r' w' => r' = .returned (.bool false) ∧ w' = w))
    (w : World) :
    Calls Try.prog 19 #[.int .i64 a, .int .i64 b] w fun r' w' => r' = .returned (.int .i64 (-1)) ∧ w' = w := by
  go_enter Try.func19, Try.ntmps19
  go_wp2_with fail
  refine (N1.out _).mono ?_
  rintro e W1 ⟨rfl, rfl⟩
  go_wp2_with fail
  refine (N2.out _).mono ?_
  rintro e W2 ⟨rfl, rfl⟩
  go_wp2
  go_ret
  exact ⟨rfl, rfl⟩

set_option maxRecDepth 100000 in
set_option maxHeartbeats 4000000 in
theorem cmp_int64_gt (a b : Int) (h : b < a)
    (N1 : Hid (∀ w : World, Calls Try.prog 26 #[.int .i64 a] w fun r' w' => r' = .returned (.bool false) ∧ w' = w))
    (N2 : Hid (∀ w : World, Calls Try.prog 26 #[.int .i64 b] w fun r' w' => r' = .returned (.bool false) ∧ w' = w))
    (w : World) :
    Calls Try.prog 19 #[.int .i64 a, .int .i64 b] w fun r' w' => r' = .returned (.int .i64 (1)) ∧ w' = w := by
  have h1 : ¬ a < b := by omega
  go_enter Try.func19, Try.ntmps19
  go_wp2_with fail
  refine (N1.out _).mono ?_
  rintro e W1 ⟨rfl, rfl⟩
  go_wp2_with fail
  refine (N2.out _).mono ?_
  rintro e W2 ⟨rfl, rfl⟩
  go_wp2
  go_ret
  exact ⟨rfl, rfl⟩

set_option maxRecDepth 100000 in
set_option maxHeartbeats 4000000 in
theorem cmp_int64_eq (a b : Int) (h1 : ¬ a < b) (h2 : ¬ b < a)
    (N1 : Hid (∀ w : World, Calls Try.prog 26 #[.int .i64 a] w fun r' w' => r' = .returned (.bool false) ∧ w' = w))
    (N2 : Hid (∀ w : World, Calls Try.prog 26 #[.int .i64 b] w fun r' w' => r' = .returned (.bool false) ∧ w' = w))
    (w : World) :
    Calls Try.prog 19 #[.int .i64 a, .int .i64 b] w fun r' w' => r' = .returned (.int .i64 (0)) ∧ w' = w := by
  go_enter Try.func19, Try.ntmps19
  go_wp2_with fail
  refine (N1.out _).mono ?_
  rintro e W1 ⟨rfl, rfl⟩
  go_wp2_with fail
  refine (N2.out _).mono ?_
  rintro e W2 ⟨rfl, rfl⟩
  go_wp2
  go_ret
  exact ⟨rfl, rfl⟩

theorem cmp_int64_any (a b : Int) (w : World) : Calls Try.prog 19 #[.int .i64 a, .int .i64 b] w fun r w' => r = .returned (.int .i64 (sgnC a b)) ∧ w' = w := by
  rcases Int.lt_trichotomy a b with h | h | h
  · rw [sgnC_lt h]; exact cmp_int64_lt a b h (fun w => nan_int64 a w) (fun w => nan_int64 b w) w
  · subst h
    rw [sgnC_eq]; exact cmp_int64_eq a a (by omega) (by omega) (fun w => nan_int64 a w) (fun w => nan_int64 a w) w
  · rw [sgnC_gt h]; exact cmp_int64_gt a b h (fun w => nan_int64 a w) (fun w => nan_int64 b w) w

set_option maxRecDepth 100000 in
set_option maxHeartbeats 4000000 in
theorem nan_int (n : Int)
    (w : World) :
    Calls Try.prog 29 #[.int .i64 n] w fun r' w' => r' = .returned (.bool false) ∧ w' = w := by
  go_enter Try.func29, Try.ntmps29
  go_wp2
  go_ret
  exact ⟨rfl, rfl⟩

set_option maxRecDepth 100000 in
set_option maxHeartbeats 4000000 in
theorem cmp_int_lt (a b : Int) (h : a < b)
    (N1 : Hid (∀ w : World, Calls Try.prog 29 #[.int .i64 a] w fun r' w' => r' = .returned (.bool false) ∧ w' = w))
    (N2 : Hid (∀ w : World, Calls Try.prog 29 #[.int .i64 b] w fun r' w' => r' = .returned (.bool false) ∧ w' = w))
    (w : World) :
    Calls Try.prog 23 #[.int .i64 a, .int .i64 b] w fun r' w' => r' = .returned (.int .i64 (-1)) ∧ w' = w := by
  go_enter Try.func23, Try.ntmps23
  go_wp2_with fail
  refine (N1.out _).mono ?_
  rintro e W1 ⟨rfl, rfl⟩
  go_wp2_with fail
  refine (N2.out _).mono ?_
  rintro e W2 ⟨rfl, rfl⟩
  go_wp2
  go_ret
  exact ⟨rfl, rfl⟩

set_option maxRecDepth 100000 in
set_option maxHeartbeats 4000000 in
theorem cmp_int_gt (a b : Int) (h : b < a)
    (N1 : Hid (∀ w : World, Calls Try.prog 29 #[.int .i64 a] w fun r' w' => r' = .returned (.bool false) ∧ w' = w))
    (N2 : Hid (∀ w : World, Calls Try.prog 29 #[.int .i64 b] w fun r' w' => r' = .returned (.bool false) ∧ w' = w))
    (w : World) :
    Calls Try.prog 23 #[.int .i64 a, .int .i64 b] w fun r' w' => r' = .returned (.int .i64 (1)) ∧ w' = w := by
  have h1 : ¬ a < b := by omega
  go_enter Try.func23, Try.ntmps23
  go_wp2_with fail
  refine (N1.out _).mono ?_
  rintro e W1 ⟨rfl, rfl⟩
  go_wp2_with fail
  refine (N2.out _).mono ?_
  rintro e W2 ⟨rfl, rfl⟩
  go_wp2
  go_ret
  exact ⟨rfl, rfl⟩

set_option maxRecDepth 100000 in
set_option maxHeartbeats 4000000 in
theorem cmp_int_eq (a b : Int) (h1 : ¬ a < b) (h2 : ¬ b < a)
    (N1 : Hid (∀ w : World, Calls Try.prog 29 #[.int .i64 a] w fun r' w' => r' = .returned (.bool false) ∧ w' = w))
    (N2 : Hid (∀ w : World, Calls Try.prog 29 #[.int .i64 b] w fun r' w' => r' = .returned (.bool false) ∧ w' = w))
    (w : World) :
    Calls Try.prog 23 #[.int .i64 a, .int .i64 b] w fun r' w' => r' = .returned (.int .i64 (0)) ∧ w' = w := by
  go_enter Try.func23, Try.ntmps23
  go_wp2_with fail
  refine (N1.out _).mono ?_
  rintro e W1 ⟨rfl, rfl⟩
  go_wp2_with fail
  refine (N2.out _).mono ?_
  rintro e W2 ⟨rfl, rfl⟩
  go_wp2
  go_ret
  exact ⟨rfl, rfl⟩

theorem cmp_int_any (a b : Int) (w : World) : Calls Try.prog 23 #[.int .i64 a, .int .i64 b] w fun r w' => r = .returned (.int .i64 (sgnC a b)) ∧ w' = w := by
  rcases Int.lt_trichotomy a b with h | h | h
  · rw [sgnC_lt h]; exact cmp_int_lt a b h (fun w => nan_int a w) (fun w => nan_int b w) w
  · subst h
    rw [sgnC_eq]; exact cmp_int_eq a a (by omega) (by omega) (fun w => nan_int a w) (fun w => nan_int a w) w
  · rw [sgnC_gt h]; exact cmp_int_gt a b h (fun w => nan_int a w) (fun w => nan_int b w) w

set_option maxRecDepth 100000 in
set_option maxHeartbeats 4000000 in
theorem orI_any (a b c : Int) (B : Nat) (w : World) (h0 : w.cell? ⟨B, 0, none⟩ = some (.int .i64 a)) (h1 : w.cell? ⟨B, 1, none⟩ = some (.int .i64 b)) (h2 : w.cell? ⟨B, 2, none⟩ = some (.int .i64 c)) :
    Calls Try.prog 22 #[.slice (some ⟨B, 0, none⟩) 3 3] w fun r w' => r = .returned (.int .i64 (orV a b c)) ∧ w' = w := by
  obtain ⟨G, hG⟩ : ∃ G, G = orV a b c := ⟨_, rfl⟩
  rw [← hG]
  unfold orV at hG
  go_enter Try.func22, Try.ntmps22
  go_wp2_with fail
  go_loopw [8] (fun i W => W = w ∧ (i = .int .i64 0 ∨ (a = 0 ∧ i = .int .i64 1) ∨ (a = 0 ∧ b = 0 ∧ i = .int .i64 2) ∨ (a = 0 ∧ b = 0 ∧ c = 0 ∧ i = .int .i64 3))) (fun i _ => 3 - (intOf i).toNat)
  case atStart => exact ⟨rfl, .inl rfl⟩
  case round =>
    obtain ⟨rfl, rfl | ⟨ha, rfl⟩ | ⟨ha, hb, rfl⟩ | ⟨ha, hb, hc, rfl⟩⟩ := hrel
    · by_cases ha : a = 0
      · subst ha
        go_wp2_with fail
        simp [intOf]
      · have e1 : (a != 0) = true := bne_iff_ne.2 ha
        rw [if_pos ha] at hG
        subst hG
        go_wp2_with fail
        go_ret
        exact ⟨rfl, rfl⟩
    · subst ha
      rw [if_neg (by decide)] at hG
      by_cases hb : b = 0
      · subst hb
        go_wp2_with fail
        simp [intOf]
      · have e1 : (b != 0) = true := bne_iff_ne.2 hb
        rw [if_pos hb] at hG
        subst hG
        go_wp2_with fail
        go_ret
        exact ⟨rfl, rfl⟩
    · subst ha
      subst hb
      rw [if_neg (by decide), if_neg (by decide)] at hG
      subst hG
      by_cases hc : G = 0
      · subst hc
        go_wp2_with fail
        simp [intOf]
      · have e1 : (G != 0) = true := bne_iff_ne.2 hc
        go_wp2_with fail
        go_ret
        exact ⟨rfl, rfl⟩
    · subst ha
      subst hb
      subst hc
      rw [if_neg (by decide), if_neg (by decide)] at hG
      subst hG
      go_wp2_with fail
      go_ret
      exact ⟨rfl, rfl⟩

set_option maxRecDepth 100000 in
set_option maxHeartbeats 4000000 in
theorem orE_any (a b c : Int) (B : Nat) (w : World) (h0 : w.cell? ⟨B, 0, none⟩ = some (.int .i64 a)) (h1 : w.cell? ⟨B, 1, none⟩ = some (.int .i64 b)) (h2 : w.cell? ⟨B, 2, none⟩ = some (.int .i64 c)) :
    Calls Try.prog 24 #[.slice (some ⟨B, 0, none⟩) 3 3] w fun r w' => r = .returned (.int .i64 (orV a b c)) ∧ w' = w := by
  obtain ⟨G, hG⟩ : ∃ G, G = orV a b c := ⟨_, rfl⟩
  rw [← hG]
  unfold orV at hG
  go_enter Try.func24, Try.ntmps24
  go_wp2_with fail
  go_loopw [8] (fun i W => W = w ∧ (i = .int .i64 0 ∨ (a = 0 ∧ i = .int .i64 1) ∨ (a = 0 ∧ b = 0 ∧ i = .int .i64 2) ∨ (a = 0 ∧ b = 0 ∧ c = 0 ∧ i = .int .i64 3))) (fun i _ => 3 - (intOf i).toNat)
  case atStart => exact ⟨rfl, .inl rfl⟩
  case round =>
    obtain ⟨rfl, rfl | ⟨ha, rfl⟩ | ⟨ha, hb, rfl⟩ | ⟨ha, hb, hc, rfl⟩⟩ := hrel
    · by_cases ha : a = 0
      · subst ha
        go_wp2_with fail
        simp [intOf]
      · have e1 : (a != 0) = true := bne_iff_ne.2 ha
        rw [if_pos ha] at hG
        subst hG
        go_wp2_with fail
        go_ret
        exact ⟨rfl, rfl⟩
    · subst ha
      rw [if_neg (by decide)] at hG
      by_cases hb : b = 0
      · subst hb
        go_wp2_with fail
        simp [intOf]
      · have e1 : (b != 0) = true := bne_iff_ne.2 hb
        rw [if_pos hb] at hG
        subst hG
        go_wp2_with fail
        go_ret
        exact ⟨rfl, rfl⟩
    · subst ha
      subst hb
      rw [if_neg (by decide), if_neg (by decide)] at hG
      subst hG
      by_cases hc : G = 0
      · subst hc
        go_wp2_with fail
        simp [intOf]
      · have e1 : (G != 0) = true := bne_iff_ne.2 hc
        go_wp2_with fail
        go_ret
        exact ⟨rfl, rfl⟩
    · subst ha
      subst hb
      subst hc
      rw [if_neg (by decide), if_neg (by decide)] at hG
      subst hG
      go_wp2_with fail
      go_ret
      exact ⟨rfl, rfl⟩

/-- what is lent. -/
def lG (g b : Int) : Int := if 0 < g ∧ b < 0 then g - 1 else if g < 0 ∧ 0 < b then g + 1 else g
def lS (g s u b : Int) : Int := if 0 < g ∧ b < 0 then s + u else if g < 0 ∧ 0 < b then s - u else s

set_option maxRecDepth 100000 in
set_option maxHeartbeats 4000000 in
theorem lend_1 (g s u b : Int) (g1 : -1000000000000 ≤ g) (g2 : g ≤ 1000000000000) (s1 : -100000000000000 ≤ s) (s2 : s ≤ 100000000000000) (u1 : 0 ≤ u) (u2 : u ≤ 86400000000) (h1 : 0 < g) (h2 : b < 0)
    (w : World) :
    Calls Try.prog 17 #[.int .i64 g, .int .i64 s, .int .i64 u, .int .i64 b] w fun r' w' => r' = .returned (.tuple #[.int .i64 (g - 1), .int .i64 (s + u)]) ∧ w' = w := by
  go_enter Try.func17, Try.ntmps17
  go_wp2
  go_ret2
  exact ⟨rfl, rfl⟩

set_option maxRecDepth 100000 in
set_option maxHeartbeats 4000000 in
theorem lend_2 (g s u b : Int) (g1 : -1000000000000 ≤ g) (g2 : g ≤ 1000000000000) (s1 : -100000000000000 ≤ s) (s2 : s ≤ 100000000000000) (u1 : 0 ≤ u) (u2 : u ≤ 86400000000) (h1 : g < 0) (h2 : 0 < b)
    (w : World) :
    Calls Try.prog 17 #[.int .i64 g, .int .i64 s, .int .i64 u, .int .i64 b] w fun r' w' => r' = .returned (.tuple #[.int .i64 (g + 1), .int .i64 (s - u)]) ∧ w' = w := by
  have h3 : ¬ 0 < g := by omega
  go_enter Try.func17, Try.ntmps17
  go_wp2
  go_ret2
  exact ⟨rfl, rfl⟩

set_option maxRecDepth 100000 in
set_option maxHeartbeats 4000000 in
theorem lend_3 (g s u b : Int) (g1 : -1000000000000 ≤ g) (g2 : g ≤ 1000000000000) (s1 : -100000000000000 ≤ s) (s2 : s ≤ 100000000000000) (u1 : 0 ≤ u) (u2 : u ≤ 86400000000) (h1 : 0 < g) (h2 : ¬ b < 0)
    (w : World) :
    Calls Try.prog 17 #[.int .i64 g, .int .i64 s, .int .i64 u, .int .i64 b] w fun r' w' => r' = .returned (.tuple #[.int .i64 g, .int .i64 s]) ∧ w' = w := by
  have h3 : ¬ g < 0 := by omega
  go_enter Try.func17, Try.ntmps17
  go_wp2
  go_ret2
  exact ⟨rfl, rfl⟩

set_option maxRecDepth 100000 in
set_option maxHeartbeats 4000000 in
theorem lend_4 (g s u b : Int) (g1 : -1000000000000 ≤ g) (g2 : g ≤ 1000000000000) (s1 : -100000000000000 ≤ s) (s2 : s ≤ 100000000000000) (u1 : 0 ≤ u) (u2 : u ≤ 86400000000) (h1 : g < 0) (h2 : ¬ 0 < b)
    (w : World) :
    Calls Try.prog 17 #[.int .i64 g, .int .i64 s, .int .i64 u, .int .i64 b] w fun r' w' => r' = .returned (.tuple #[.int .i64 g, .int .i64 s]) ∧ w' = w := by
  have h3 : ¬ 0 < g := by omega
  go_enter Try.func17, Try.ntmps17
  go_wp2
  go_ret2
  exact ⟨rfl, rfl⟩

set_option maxRecDepth 100000 in
set_option maxHeartbeats 4000000 in
theorem lend_5 (g s u b : Int) (g1 : -1000000000000 ≤ g) (g2 : g ≤ 1000000000000) (s1 : -100000000000000 ≤ s) (s2 : s ≤ 100000000000000) (u1 : 0 ≤ u) (u2 : u ≤ 86400000000) (h1 : ¬ 0 < g) (h2 : ¬ g < 0)
    (w : World) :
    Calls Try.prog 17 #[.int .i64 g, .int .i64 s, .int .i64 u, .int .i64 b] w fun r' w' => r' = .returned (.tuple #[.int .i64 g, .int .i64 s]) ∧ w' = w := by
  go_enter Try.func17, Try.ntmps17
  go_wp2
  go_ret2
  exact ⟨rfl, rfl⟩

theorem lend_any (g s u b : Int) (g1 : -1000000000000 ≤ g) (g2 : g ≤ 1000000000000) (s1 : -100000000000000 ≤ s) (s2 : s ≤ 100000000000000) (u1 : 0 ≤ u) (u2 : u ≤ 86400000000) (w : World) : Calls Try.prog 17 #[.int .i64 g, .int .i64 s, .int .i64 u, .int .i64 b] w fun r w' => r = .returned (.tuple #[.int .i64 (lG g b), .int .i64 (lS g s u b)]) ∧ w' = w := by
  unfold lG lS
  by_cases h1 : 0 < g ∧ b < 0
  · rw [if_pos h1, if_pos h1]; exact lend_1 g s u b g1 g2 s1 s2 u1 u2 h1.1 h1.2 w
  · rw [if_neg h1, if_neg h1]
    by_cases h2 : g < 0 ∧ 0 < b
    · rw [if_pos h2, if_pos h2]; exact lend_2 g s u b g1 g2 s1 s2 u1 u2 h2.1 h2.2 w
    · rw [if_neg h2, if_neg h2]
      by_cases k : 0 < g
      · exact lend_3 g s u b g1 g2 s1 s2 u1 u2 k (by omega) w
      · by_cases l : g < 0
        · exact lend_4 g s u b g1 g2 s1 s2 u1 u2 l (by omega) w
        · exact lend_5 g s u b g1 g2 s1 s2 u1 u2 k l w


end Go.Proofs.Ytghfgabajdghiac
