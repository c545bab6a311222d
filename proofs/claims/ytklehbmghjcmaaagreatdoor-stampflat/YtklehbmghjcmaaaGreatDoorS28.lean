import Derived.Test.YtklehbmghjcmaaaGreatDoorSz
import Derived.Test.YtklehbmghjcmaaaGreatDoorS2
import Derived.Deep.Cut
import Derived.Test.YtklehbmghjcmaaaGreatDoorS0
open Go.Value renaming int → vi
open Go.IntKind renaming i64 → ki
open List renaming setIfInBounds_toArray → zb, set_cons_zero → zc, set_cons_succ → zd
open Go.Act renaming put → za
open Go.Ending renaming returned → zr
set_option maxRecDepth 100000
set_option maxHeartbeats 16000000
set_option linter.unusedVariables false
namespace Go.Proofs.YtklehbmghjcmaaaGreatDoor.Sp
open Go.RowKit
theorem ret_bool {a b : Bool} (h : a = b) : Ending.returned (.bool a) = zr (.bool b) := by rw [h]
def cnt (n : Int) : Bool := decide (-2147483647 ≤ n ∧ n ≤ 2147483647)
theorem cnt_yes {n : Int} (h : cnt n = true) : -2147483647 ≤ n ∧ n ≤ 2147483647 := of_decide_eq_true h
def sgnC (a b : Int) : Int := if a < b then -1 else if b < a then 1 else 0
theorem sgnC_lt {a b : Int} (h : a < b) : sgnC a b = -1 := if_pos h
theorem sgnC_gt {a b : Int} (h : b < a) : sgnC a b = 1 := by unfold sgnC; rw [if_neg (by omega), if_pos h]
theorem sgnC_eq (a : Int) : sgnC a a = 0 := by unfold sgnC; rw [if_neg (by omega), if_neg (by omega)]
def orV (a b c : Int) : Int := if a ≠ 0 then a else if b ≠ 0 then b else c
theorem cnt_t (n : Int) (h1 : -2147483647 ≤ n) (h2 : n ≤ 2147483647)
  (w : World) :
  Calls Tryz.prog 56 #[vi ki n] w fun r' w' => r' = zr (.bool true) ∧ w' = w := by
 go_enter Tryz.func56, Tryz.ntmps56
 go_wp2
 go_ret
 exact ⟨by first | rfl | exact ret_bool (by simp; omega), rfl⟩
theorem cnt_f1 (n : Int) (h1 : ¬ -2147483647 ≤ n)
  (w : World) :
  Calls Tryz.prog 56 #[vi ki n] w fun r' w' => r' = zr (.bool false) ∧ w' = w := by
 go_enter Tryz.func56, Tryz.ntmps56
 go_wp2
 go_ret
 exact ⟨by first | rfl | exact ret_bool (by simp; omega), rfl⟩
theorem cnt_f2 (n : Int) (h1 : -2147483647 ≤ n) (h2 : ¬ n ≤ 2147483647)
  (w : World) :
  Calls Tryz.prog 56 #[vi ki n] w fun r' w' => r' = zr (.bool false) ∧ w' = w := by
 go_enter Tryz.func56, Tryz.ntmps56
 go_wp2
 go_ret
 exact ⟨by first | rfl | exact ret_bool (by simp; omega), rfl⟩
theorem isCount_any (n : Int) (w : World) : Calls Tryz.prog 56 #[vi ki n] w fun r w' => r = zr (.bool (cnt n)) ∧ w' = w := by
 unfold cnt
 by_cases h1 : -2147483647 ≤ n
 ·by_cases h2 : n ≤ 2147483647
  ·rw [decide_eq_true ⟨h1, h2⟩]; exact cnt_t n h1 h2 w
  ·rw [decide_eq_false (fun k => h2 k.2)]; exact cnt_f2 n h1 h2 w
 ·rw [decide_eq_false (fun k => h1 k.1)]; exact cnt_f1 n h1 w
theorem nan_int64 (n : Int)
  (w : World) :
  Calls Tryz.prog 210 #[vi ki n] w fun r' w' => r' = zr (.bool false) ∧ w' = w := by
 go_enter Tryz.func210, Tryz.ntmps210
 go_wp2
 go_ret
 exact ⟨rfl, rfl⟩
theorem cmp_int64_lt (a b : Int) (h : a < b)
  (N1 : Hid (∀ w : World, Calls Tryz.prog 210 #[vi ki a] w fun r' w' => r' = zr (.bool false) ∧ w' = w))
  (N2 : Hid (∀ w : World, Calls Tryz.prog 210 #[vi ki b] w fun r' w' => r' = zr (.bool false) ∧ w' = w))
  (w : World) :
  Calls Tryz.prog 185 #[vi ki a, vi ki b] w fun r' w' => r' = zr (vi ki (-1)) ∧ w' = w := by
 go_enter Tryz.func185, Tryz.ntmps185
 go_wp2_with fail
 refine (N1.out _).mono ?_
 rintro e W1 ⟨rfl, rfl⟩
 go_wp2_with fail
 refine (N2.out _).mono ?_
 rintro e W2 ⟨rfl, rfl⟩
 go_wp2
 go_ret
 exact ⟨rfl, rfl⟩
theorem cmp_int64_gt (a b : Int) (h : b < a)
  (N1 : Hid (∀ w : World, Calls Tryz.prog 210 #[vi ki a] w fun r' w' => r' = zr (.bool false) ∧ w' = w))
  (N2 : Hid (∀ w : World, Calls Tryz.prog 210 #[vi ki b] w fun r' w' => r' = zr (.bool false) ∧ w' = w))
  (w : World) :
  Calls Tryz.prog 185 #[vi ki a, vi ki b] w fun r' w' => r' = zr (vi ki (1)) ∧ w' = w := by
 have h1 : ¬ a < b := by omega
 go_enter Tryz.func185, Tryz.ntmps185
 go_wp2_with fail
 refine (N1.out _).mono ?_
 rintro e W1 ⟨rfl, rfl⟩
 go_wp2_with fail
 refine (N2.out _).mono ?_
 rintro e W2 ⟨rfl, rfl⟩
 go_wp2
 go_ret
 exact ⟨rfl, rfl⟩
theorem cmp_int64_eq (a b : Int) (h1 : ¬ a < b) (h2 : ¬ b < a)
  (N1 : Hid (∀ w : World, Calls Tryz.prog 210 #[vi ki a] w fun r' w' => r' = zr (.bool false) ∧ w' = w))
  (N2 : Hid (∀ w : World, Calls Tryz.prog 210 #[vi ki b] w fun r' w' => r' = zr (.bool false) ∧ w' = w))
  (w : World) :
  Calls Tryz.prog 185 #[vi ki a, vi ki b] w fun r' w' => r' = zr (vi ki (0)) ∧ w' = w := by
 go_enter Tryz.func185, Tryz.ntmps185
 go_wp2_with fail
 refine (N1.out _).mono ?_
 rintro e W1 ⟨rfl, rfl⟩
 go_wp2_with fail
 refine (N2.out _).mono ?_
 rintro e W2 ⟨rfl, rfl⟩
 go_wp2
 go_ret
 exact ⟨rfl, rfl⟩
theorem cmp_int64_any (a b : Int) (w : World) : Calls Tryz.prog 185 #[vi ki a, vi ki b] w fun r w' => r = zr (vi ki (sgnC a b)) ∧ w' = w := by
 rcases Int.lt_trichotomy a b with h | h | h
 ·rw [sgnC_lt h]; exact cmp_int64_lt a b h (fun w => nan_int64 a w) (fun w => nan_int64 b w) w
 ·subst h
  rw [sgnC_eq]; exact cmp_int64_eq a a (by omega) (by omega) (fun w => nan_int64 a w) (fun w => nan_int64 a w) w
 ·rw [sgnC_gt h]; exact cmp_int64_gt a b h (fun w => nan_int64 a w) (fun w => nan_int64 b w) w
theorem orE_any (a b c : Int) (B : Nat) (w : World) (h0 : w.cell? ⟨B, 0, none⟩ = some (vi ki a)) (h1 : w.cell? ⟨B, 1, none⟩ = some (vi ki b)) (h2 : w.cell? ⟨B, 2, none⟩ = some (vi ki c)) :
  Calls Tryz.prog 209 #[.slice (some ⟨B, 0, none⟩) 3 3] w fun r w' => r = zr (vi ki (orV a b c)) ∧ w' = w := by
 obtain ⟨G, hG⟩ : ∃ G, G = orV a b c := ⟨_, rfl⟩
 rw [← hG]
 unfold orV at hG
 go_enter Tryz.func209, Tryz.ntmps209
 go_wp2_with fail
 go_loopw [8] (fun i W => W = w ∧ (i = vi ki 0 ∨ (a = 0 ∧ i = vi ki 1) ∨ (a = 0 ∧ b = 0 ∧ i = vi ki 2) ∨ (a = 0 ∧ b = 0 ∧ c = 0 ∧ i = vi ki 3))) (fun i _ => 3 - (intOf i).toNat)
 case atStart => exact ⟨rfl, .inl rfl⟩
 case round =>
  obtain ⟨rfl, rfl | ⟨ha, rfl⟩ | ⟨ha, hb, rfl⟩ | ⟨ha, hb, hc, rfl⟩⟩ := hrel
  ·by_cases ha : a = 0
   ·subst ha
    go_wp2_with fail
    simp [intOf]
   ·have e1 : (a != 0) = true := bne_iff_ne.2 ha
    rw [if_pos ha] at hG
    subst hG
    go_wp2_with fail
    go_ret
    exact ⟨rfl, rfl⟩
  ·subst ha
   rw [if_neg (by decide)] at hG
   by_cases hb : b = 0
   ·subst hb
    go_wp2_with fail
    simp [intOf]
   ·have e1 : (b != 0) = true := bne_iff_ne.2 hb
    rw [if_pos hb] at hG
    subst hG
    go_wp2_with fail
    go_ret
    exact ⟨rfl, rfl⟩
  ·subst ha
   subst hb
   rw [if_neg (by decide), if_neg (by decide)] at hG
   subst hG
   by_cases hc : G = 0
   ·subst hc
    go_wp2_with fail
    simp [intOf]
   ·have e1 : (G != 0) = true := bne_iff_ne.2 hc
    go_wp2_with fail
    go_ret
    exact ⟨rfl, rfl⟩
  ·subst ha
   subst hb
   subst hc
   rw [if_neg (by decide), if_neg (by decide)] at hG
   subst hG
   go_wp2_with fail
   go_ret
   exact ⟨rfl, rfl⟩
end Go.Proofs.YtklehbmghjcmaaaGreatDoor.Sp
namespace Go.Proofs.YtklehbmghjcmaaaGreatDoor.Sp
open Go.RowKit
def pR (i m d u : Int) : Bool := if i = 0 then cnt m && (cnt d && decide (-9223372036854775807 ≤ u ∧ u ≤ 9223372036854775807)) else decide ((i = -1 ∨ i = 1) ∧ m = 0 ∧ d = 0 ∧ u = 0)
theorem pR_1 {i : Int} (h : i ≠ 0) (m d u : Int) : pR i m d u = decide ((i = -1 ∨ i = 1) ∧ m = 0 ∧ d = 0 ∧ u = 0) := if_neg h
theorem pR_0 (m d u : Int) : pR 0 m d u = (cnt m && (cnt d && decide (-9223372036854775807 ≤ u ∧ u ≤ 9223372036854775807))) := rfl
theorem pR_yes {i m d u : Int} (h : pR i m d u = true) : (i = 0 ∧ -2147483647 ≤ m ∧ m ≤ 2147483647 ∧ -2147483647 ≤ d ∧ d ≤ 2147483647 ∧ -9223372036854775807 ≤ u ∧ u ≤ 9223372036854775807) ∨ ((i = -1 ∨ i = 1) ∧ m = 0 ∧ d = 0 ∧ u = 0) := by
 by_cases h0 : i = 0
 ·subst h0
  rw [pR_0, Bool.and_eq_true, Bool.and_eq_true] at h
  obtain ⟨a, b, c⟩ := h
  exact .inl ⟨rfl, (cnt_yes a).1, (cnt_yes a).2, (cnt_yes b).1, (cnt_yes b).2, (of_decide_eq_true c).1, (of_decide_eq_true c).2⟩
 ·rw [pR_1 h0] at h
  exact .inr (of_decide_eq_true h)
theorem pR_in {m d u : Int} (h1 : -2147483647 ≤ m) (h2 : m ≤ 2147483647) (h3 : -2147483647 ≤ d) (h4 : d ≤ 2147483647) (h5 : -9223372036854775807 ≤ u) (h6 : u ≤ 9223372036854775807) : pR 0 m d u = true := by
 rw [pR_0, show cnt m = true from decide_eq_true ⟨h1, h2⟩, show cnt d = true from decide_eq_true ⟨h3, h4⟩, decide_eq_true ⟨h5, h6⟩]; rfl
theorem pr_f1 (m d u : Int)
  (C1 : Hid (∀ w : World, Calls Tryz.prog 56 #[vi ki m] w fun r' w' => r' = zr (.bool false) ∧ w' = w))
  (w : World) :
  Calls Tryz.prog 23 #[.agg #[vi ki 0, vi ki m, vi ki d, vi ki u]] w fun r' w' => r' = zr (.bool false) ∧ Below w.heap.size w w' := by
 have K0 := bsn1 w [vi ki 0, vi ki m, vi ki d, vi ki u] 59
 go_enter Tryz.func23, Tryz.ntmps23
 go_wp2_with fail
 refine (C1.out _).mono ?_
 rintro e W1 ⟨rfl, rfl⟩
 go_wp2
 go_ret
 exact ⟨rfl, K0.out.1⟩
theorem pr_f2 (m d u : Int)
  (C1 : Hid (∀ w : World, Calls Tryz.prog 56 #[vi ki m] w fun r' w' => r' = zr (.bool true) ∧ w' = w))
  (C2 : Hid (∀ w : World, Calls Tryz.prog 56 #[vi ki d] w fun r' w' => r' = zr (.bool false) ∧ w' = w))
  (w : World) :
  Calls Tryz.prog 23 #[.agg #[vi ki 0, vi ki m, vi ki d, vi ki u]] w fun r' w' => r' = zr (.bool false) ∧ Below w.heap.size w w' := by
 have K0 := bsn1 w [vi ki 0, vi ki m, vi ki d, vi ki u] 59
 go_enter Tryz.func23, Tryz.ntmps23
 go_wp2_with fail
 refine (C1.out _).mono ?_
 rintro e W1 ⟨rfl, rfl⟩
 go_wp2_with fail
 refine (C2.out _).mono ?_
 rintro e W2 ⟨rfl, rfl⟩
 go_wp2
 go_ret
 exact ⟨rfl, K0.out.1⟩
theorem pr_f3 (m d : Int)
  (C1 : Hid (∀ w : World, Calls Tryz.prog 56 #[vi ki m] w fun r' w' => r' = zr (.bool true) ∧ w' = w))
  (C2 : Hid (∀ w : World, Calls Tryz.prog 56 #[vi ki d] w fun r' w' => r' = zr (.bool true) ∧ w' = w))
  (w : World) :
  Calls Tryz.prog 23 #[.agg #[vi ki 0, vi ki m, vi ki d, vi ki (-9223372036854775808)]] w fun r' w' => r' = zr (.bool false) ∧ Below w.heap.size w w' := by
 have K0 := bsn1 w [vi ki 0, vi ki m, vi ki d, vi ki (-9223372036854775808)] 59
 go_enter Tryz.func23, Tryz.ntmps23
 go_wp2_with fail
 refine (C1.out _).mono ?_
 rintro e W1 ⟨rfl, rfl⟩
 go_wp2_with fail
 refine (C2.out _).mono ?_
 rintro e W2 ⟨rfl, rfl⟩
 go_wp2
 go_ret
 exact ⟨rfl, K0.out.1⟩
theorem pr_t (m d u : Int) (hu : u ≠ -9223372036854775808)
  (C1 : Hid (∀ w : World, Calls Tryz.prog 56 #[vi ki m] w fun r' w' => r' = zr (.bool true) ∧ w' = w))
  (C2 : Hid (∀ w : World, Calls Tryz.prog 56 #[vi ki d] w fun r' w' => r' = zr (.bool true) ∧ w' = w))
  (w : World) :
  Calls Tryz.prog 23 #[.agg #[vi ki 0, vi ki m, vi ki d, vi ki u]] w fun r' w' => r' = zr (.bool true) ∧ Below w.heap.size w w' := by
 have u1 : (u != -9223372036854775808) = true := bne_iff_ne.2 hu
 have K0 := bsn1 w [vi ki 0, vi ki m, vi ki d, vi ki u] 59
 go_enter Tryz.func23, Tryz.ntmps23
 go_wp2_with fail
 refine (C1.out _).mono ?_
 rintro e W1 ⟨rfl, rfl⟩
 go_wp2_with fail
 refine (C2.out _).mono ?_
 rintro e W2 ⟨rfl, rfl⟩
 go_wp2
 go_ret
 exact ⟨rfl, K0.out.1⟩
theorem pr_m0 
  (w : World) :
  Calls Tryz.prog 23 #[.agg #[vi ki (-1), vi ki 0, vi ki 0, vi ki 0]] w fun r' w' => r' = zr (.bool true) ∧ Below w.heap.size w w' := by
 have K0 := bsn1 w [vi ki (-1), vi ki 0, vi ki 0, vi ki 0] 59
 go_enter Tryz.func23, Tryz.ntmps23
 go_wp2
 go_ret
 exact ⟨rfl, K0.out.1⟩
theorem pr_m1 (m d u : Int) (h : m ≠ 0)
  (w : World) :
  Calls Tryz.prog 23 #[.agg #[vi ki (-1), vi ki m, vi ki d, vi ki u]] w fun r' w' => r' = zr (.bool false) ∧ Below w.heap.size w w' := by
 have h1 : (m == 0) = false := by simpa using h
 have K0 := bsn1 w [vi ki (-1), vi ki m, vi ki d, vi ki u] 59
 go_enter Tryz.func23, Tryz.ntmps23
 go_wp2
 go_ret
 exact ⟨rfl, K0.out.1⟩
theorem pr_m2 (d u : Int) (h : d ≠ 0)
  (w : World) :
  Calls Tryz.prog 23 #[.agg #[vi ki (-1), vi ki 0, vi ki d, vi ki u]] w fun r' w' => r' = zr (.bool false) ∧ Below w.heap.size w w' := by
 have h1 : (d == 0) = false := by simpa using h
 have K0 := bsn1 w [vi ki (-1), vi ki 0, vi ki d, vi ki u] 59
 go_enter Tryz.func23, Tryz.ntmps23
 go_wp2
 go_ret
 exact ⟨rfl, K0.out.1⟩
theorem pr_m3 (u : Int) (h : u ≠ 0)
  (w : World) :
  Calls Tryz.prog 23 #[.agg #[vi ki (-1), vi ki 0, vi ki 0, vi ki u]] w fun r' w' => r' = zr (.bool false) ∧ Below w.heap.size w w' := by
 have h1 : (u == 0) = false := by simpa using h
 have K0 := bsn1 w [vi ki (-1), vi ki 0, vi ki 0, vi ki u] 59
 go_enter Tryz.func23, Tryz.ntmps23
 go_wp2
 go_ret
 exact ⟨rfl, K0.out.1⟩
theorem pr_p0 
  (w : World) :
  Calls Tryz.prog 23 #[.agg #[vi ki 1, vi ki 0, vi ki 0, vi ki 0]] w fun r' w' => r' = zr (.bool true) ∧ Below w.heap.size w w' := by
 have K0 := bsn1 w [vi ki 1, vi ki 0, vi ki 0, vi ki 0] 59
 go_enter Tryz.func23, Tryz.ntmps23
 go_wp2
 go_ret
 exact ⟨rfl, K0.out.1⟩
theorem pr_p1 (m d u : Int) (h : m ≠ 0)
  (w : World) :
  Calls Tryz.prog 23 #[.agg #[vi ki 1, vi ki m, vi ki d, vi ki u]] w fun r' w' => r' = zr (.bool false) ∧ Below w.heap.size w w' := by
 have h1 : (m == 0) = false := by simpa using h
 have K0 := bsn1 w [vi ki 1, vi ki m, vi ki d, vi ki u] 59
 go_enter Tryz.func23, Tryz.ntmps23
 go_wp2
 go_ret
 exact ⟨rfl, K0.out.1⟩
theorem pr_p2 (d u : Int) (h : d ≠ 0)
  (w : World) :
  Calls Tryz.prog 23 #[.agg #[vi ki 1, vi ki 0, vi ki d, vi ki u]] w fun r' w' => r' = zr (.bool false) ∧ Below w.heap.size w w' := by
 have h1 : (d == 0) = false := by simpa using h
 have K0 := bsn1 w [vi ki 1, vi ki 0, vi ki d, vi ki u] 59
 go_enter Tryz.func23, Tryz.ntmps23
 go_wp2
 go_ret
 exact ⟨rfl, K0.out.1⟩
theorem pr_p3 (u : Int) (h : u ≠ 0)
  (w : World) :
  Calls Tryz.prog 23 #[.agg #[vi ki 1, vi ki 0, vi ki 0, vi ki u]] w fun r' w' => r' = zr (.bool false) ∧ Below w.heap.size w w' := by
 have h1 : (u == 0) = false := by simpa using h
 have K0 := bsn1 w [vi ki 1, vi ki 0, vi ki 0, vi ki u] 59
 go_enter Tryz.func23, Tryz.ntmps23
 go_wp2
 go_ret
 exact ⟨rfl, K0.out.1⟩
theorem pr_x (i m d u : Int) (h0 : i ≠ 0) (h1 : i ≠ -1) (h2 : i ≠ 1)
  (w : World) :
  Calls Tryz.prog 23 #[.agg #[vi ki i, vi ki m, vi ki d, vi ki u]] w fun r' w' => r' = zr (.bool false) ∧ Below w.heap.size w w' := by
 have g0 : (i == 0) = false := by simpa using h0
 have g9 : (i != 0) = true := bne_iff_ne.2 h0
 have g1 : (i == -1) = false := by simpa using h1
 have g2 : (i == 1) = false := by simpa using h2
 have K0 := bsn1 w [vi ki i, vi ki m, vi ki d, vi ki u] 59
 go_enter Tryz.func23, Tryz.ntmps23
 go_wp2
 go_ret
 exact ⟨rfl, K0.out.1⟩
theorem pr_any (i m d u : Int) (u1 : -9223372036854775808 ≤ u) (u2 : u ≤ 9223372036854775807) (w : World) :
  Calls Tryz.prog 23 #[.agg #[vi ki i, vi ki m, vi ki d, vi ki u]] w fun r w' => r = zr (.bool (pR i m d u)) ∧ Below w.heap.size w w' := by
 by_cases h0 : i = 0
 ·subst h0
  rw [pR_0]
  cases c1 : cnt m
  ·exact pr_f1 m d u (fun w => by rw [← c1]; exact isCount_any m w) w
  ·cases c2 : cnt d
   ·exact pr_f2 m d u (fun w => by rw [← c1]; exact isCount_any m w) (fun w => by rw [← c2]; exact isCount_any d w) w
   ·by_cases hu : u = -9223372036854775808
    ·subst hu
     exact pr_f3 m d (fun w => by rw [← c1]; exact isCount_any m w) (fun w => by rw [← c2]; exact isCount_any d w) w
    ·rw [decide_eq_true ⟨by omega, u2⟩]
     exact pr_t m d u hu (fun w => by rw [← c1]; exact isCount_any m w) (fun w => by rw [← c2]; exact isCount_any d w) w
 ·rw [pR_1 h0]
  by_cases g1 : i = -1
  ·subst g1
   by_cases a : m = 0
   ·subst a
    by_cases b : d = 0
    ·subst b
     by_cases c : u = 0
     ·subst c
      rw [decide_eq_true ⟨.inl rfl, rfl, rfl, rfl⟩]; exact pr_m0 w
     ·rw [decide_eq_false (fun q => c q.2.2.2)]; exact pr_m3 u c w
    ·rw [decide_eq_false (fun q => b q.2.2.1)]; exact pr_m2 d u b w
   ·rw [decide_eq_false (fun q => a q.2.1)]; exact pr_m1 m d u a w
  ·by_cases g2 : i = 1
   ·subst g2
    by_cases a : m = 0
    ·subst a
     by_cases b : d = 0
     ·subst b
      by_cases c : u = 0
      ·subst c
       rw [decide_eq_true ⟨.inr rfl, rfl, rfl, rfl⟩]; exact pr_p0 w
      ·rw [decide_eq_false (fun q => c q.2.2.2)]; exact pr_p3 u c w
     ·rw [decide_eq_false (fun q => b q.2.2.1)]; exact pr_p2 d u b w
    ·rw [decide_eq_false (fun q => a q.2.1)]; exact pr_p1 m d u a w
   ·rw [decide_eq_false (fun q => q.1.elim g1 g2)]; exact pr_x i m d u h0 g1 g2 w
end Go.Proofs.YtklehbmghjcmaaaGreatDoor.Sp
namespace Go.Proofs.YtklehbmghjcmaaaGreatDoor.Sp
open Go.RowKit
def gM (m d u x : Int) : Int := if pR 0 m d u = true then x else 0
def gE (m d u : Int) : Int := if pR 0 m d u = true then 0 else 10
theorem g_yes {m d u : Int} (h : pR 0 m d u = true) : gM m d u m = m ∧ gM m d u d = d ∧ gM m d u u = u ∧ gE m d u = 0 := ⟨if_pos h, if_pos h, if_pos h, if_pos h⟩
theorem g_no {m d u : Int} (h : pR 0 m d u = false) : gM m d u m = 0 ∧ gM m d u d = 0 ∧ gM m d u u = 0 ∧ gE m d u = 10 := by
 have k : ¬ pR 0 m d u = true := by rw [h]; decide
 exact ⟨if_neg k, if_neg k, if_neg k, if_neg k⟩
theorem pmake_true (m d u : Int)
  (R : Hid (∀ w : World, Calls Tryz.prog 23 #[.agg #[vi ki 0, vi ki m, vi ki d, vi ki u]] w fun r' w' => r' = zr (.bool true) ∧ Below w.heap.size w w'))
  (w : World) :
  Calls Tryz.prog 137 #[vi ki m, vi ki d, vi ki u] w fun r' w' => r' = zr (.tuple #[.agg #[vi ki 0, vi ki m, vi ki d, vi ki u], vi ki 0]) ∧ Below w.heap.size w w' := by
 have K0 := bsn2 w [vi ki 0, vi ki 0, vi ki 0, vi ki 0] 59 [vi ki 0, vi ki m, vi ki d, vi ki u] 59
 go_enter Tryz.func137, Tryz.ntmps137
 go_wp2_with fail
 refine (R.out _).mono ?_
 rintro e W1 ⟨rfl, hb⟩
 have K1 := bsb K0 hb
 clear hb K0
 obtain ⟨c1_0_0, c1_0_1, c1_0_2, c1_0_3⟩ := (bo1 K1).c4
 obtain ⟨c1_1_0, c1_1_1, c1_1_2, c1_1_3⟩ := (bo2 K1).c4
 obtain ⟨z1_1_0, z1_1_1, z1_1_2, z1_1_3⟩ := (bo2 K1).f4
 have XF : Hid (Bx (W1.setCells (w.heap.size) 0 [vi ki 0, vi ki m, vi ki d, vi ki u]) (w.heap.size) [vi ki 0, vi ki m, vi ki d, vi ki u]) := (K1.out.at (w.heap.size) [vi ki 0, vi ki 0, vi ki 0, vi ki 0] (by simp)).setAll _ rfl
 have BF : Hid (Below w.heap.size w (W1.setCells (w.heap.size) 0 [vi ki 0, vi ki m, vi ki d, vi ki u])) := below_setCells (by omega) _ _ _ K1.out.1
 have y0 := XF.out.c 0 rfl
 have y1 := XF.out.c 1 rfl
 have y2 := XF.out.c 2 rfl
 have y3 := XF.out.c 3 rfl
 simp only [World.setCells, Nat.zero_add, Nat.reduceAdd] at y0 y1 y2 y3
 clear XF
 go_wp2
 exact bodyPost_ret (v := .tuple #[.agg #[vi ki 0, vi ki m, vi ki d, vi ki u], vi ki 0]) (by simp [results, Tryz.results137, go_sem, y0, y1, y2, y3]) rfl ⟨rfl, BF.out⟩
theorem pmake_false (m d u : Int)
  (R : Hid (∀ w : World, Calls Tryz.prog 23 #[.agg #[vi ki 0, vi ki m, vi ki d, vi ki u]] w fun r' w' => r' = zr (.bool false) ∧ Below w.heap.size w w'))
  (w : World) :
  Calls Tryz.prog 137 #[vi ki m, vi ki d, vi ki u] w fun r' w' => r' = zr (.tuple #[.agg #[vi ki 0, vi ki 0, vi ki 0, vi ki 0], vi ki 10]) ∧ Below w.heap.size w w' := by
 have K0 := bsn2 w [vi ki 0, vi ki 0, vi ki 0, vi ki 0] 59 [vi ki 0, vi ki m, vi ki d, vi ki u] 59
 go_enter Tryz.func137, Tryz.ntmps137
 go_wp2_with fail
 refine (R.out _).mono ?_
 rintro e W1 ⟨rfl, hb⟩
 have K1 := bsb K0 hb
 clear hb K0
 obtain ⟨c1_0_0, c1_0_1, c1_0_2, c1_0_3⟩ := (bo1 K1).c4
 obtain ⟨c1_1_0, c1_1_1, c1_1_2, c1_1_3⟩ := (bo2 K1).c4
 obtain ⟨z1_1_0, z1_1_1, z1_1_2, z1_1_3⟩ := (bo2 K1).f4
 have XF : Hid (Bx (W1.setCells (w.heap.size) 0 [vi ki 0, vi ki 0, vi ki 0, vi ki 0]) (w.heap.size) [vi ki 0, vi ki 0, vi ki 0, vi ki 0]) := (K1.out.at (w.heap.size) [vi ki 0, vi ki 0, vi ki 0, vi ki 0] (by simp)).setAll _ rfl
 have BF : Hid (Below w.heap.size w (W1.setCells (w.heap.size) 0 [vi ki 0, vi ki 0, vi ki 0, vi ki 0])) := below_setCells (by omega) _ _ _ K1.out.1
 have y0 := XF.out.c 0 rfl
 have y1 := XF.out.c 1 rfl
 have y2 := XF.out.c 2 rfl
 have y3 := XF.out.c 3 rfl
 simp only [World.setCells, Nat.zero_add, Nat.reduceAdd] at y0 y1 y2 y3
 clear XF
 go_wp2
 exact bodyPost_ret (v := .tuple #[.agg #[vi ki 0, vi ki 0, vi ki 0, vi ki 0], vi ki 10]) (by simp [results, Tryz.results137, go_sem, y0, y1, y2, y3]) rfl ⟨rfl, BF.out⟩
theorem pmake_any (m d u : Int) (u1 : -9223372036854775808 ≤ u) (u2 : u ≤ 9223372036854775807) (w : World) :
  Calls Tryz.prog 137 #[vi ki m, vi ki d, vi ki u] w fun r w' => r = zr (.tuple #[.agg #[vi ki 0, vi ki (gM m d u m), vi ki (gM m d u d), vi ki (gM m d u u)], vi ki (gE m d u)]) ∧ Below w.heap.size w w' := by
 cases h : pR 0 m d u
 ·obtain ⟨a, b, c, e⟩ := g_no h
  rw [a, b, c, e]; exact pmake_false m d u (fun w => by rw [← h]; exact pr_any 0 m d u u1 u2 w) w
 ·obtain ⟨a, b, c, e⟩ := g_yes h
  rw [a, b, c, e]; exact pmake_true m d u (fun w => by rw [← h]; exact pr_any 0 m d u u1 u2 w) w
theorem times_meth (b n v e : Int)
  (A : Hid (∀ w : World, Calls Tryz.prog 160 #[vi ki n, vi ki b] w fun r' w' => r' = zr (.tuple #[vi ki v, vi ki e]) ∧ Below w.heap.size w w'))
  (w : World) :
  Calls Tryz.prog 184 #[vi ki b, vi ki n] w fun r' w' => r' = zr (.tuple #[vi ki v, vi ki e]) ∧ Below w.heap.size w w' := by
 have K0 : Hid (BS w [] w) := (BS.start w)
 go_enter Tryz.func184, Tryz.ntmps184
 go_wp2_with fail
 refine (A.out _).mono ?_
 rintro e W1 ⟨rfl, hb⟩
 have K1 := bsb K0 hb
 clear hb K0
 go_wp2
 exact bodyPost_ret (v := .tuple #[vi ki v, vi ki e]) (by simp [results, Tryz.results184, go_sem]) rfl ⟨rfl, K1.out.1⟩
theorem each_times_bad (m d u x y z v1 e1 v2 e2 v3 e3 : Int) (er : Int) (he : orV e1 e2 e3 = er) (hn : er ≠ 0)
  (F1 : Hid (∀ w : World, Calls Tryz.prog 184 #[vi ki x, vi ki m] w fun r' w' => r' = zr (.tuple #[vi ki v1, vi ki e1]) ∧ Below w.heap.size w w'))
  (F2 : Hid (∀ w : World, Calls Tryz.prog 184 #[vi ki y, vi ki d] w fun r' w' => r' = zr (.tuple #[vi ki v2, vi ki e2]) ∧ Below w.heap.size w w'))
  (F3 : Hid (∀ w : World, Calls Tryz.prog 184 #[vi ki z, vi ki u] w fun r' w' => r' = zr (.tuple #[vi ki v3, vi ki e3]) ∧ Below w.heap.size w w'))
  (w : World) :
  Calls Tryz.prog 183 #[.agg #[vi ki 0, vi ki m, vi ki d, vi ki u], .func (.func 184) #[vi ki x] #[], .func (.func 184) #[vi ki y] #[], .func (.func 184) #[vi ki z] #[]] w fun r' w' => r' = zr (.tuple #[.agg #[vi ki 0, vi ki 0, vi ki 0, vi ki 0], vi ki er]) ∧ Below w.heap.size w w' := by
 have n1 : (er != 0) = true := bne_iff_ne.2 hn
 have K0 := bsn2 w [vi ki 0, vi ki m, vi ki d, vi ki u] 59 [vi ki 0, vi ki 0, vi ki 0, vi ki 0] 59
 go_enter Tryz.func183, Tryz.ntmps183
 go_wp2_with fail
 refine (F1.out _).mono ?_
 rintro e W1 ⟨rfl, hb⟩
 have K1 := bsb K0 hb
 clear hb K0
 obtain ⟨c1_0_0, c1_0_1, c1_0_2, c1_0_3⟩ := (bo1 K1).c4
 obtain ⟨c1_1_0, c1_1_1, c1_1_2, c1_1_3⟩ := (bo2 K1).c4
 go_wp2_with fail
 refine (F2.out _).mono ?_
 rintro e W2 ⟨rfl, hb⟩
 have K2 := bsb K1 hb
 clear c1_0_0 c1_0_1 c1_0_2 c1_0_3 c1_1_0 c1_1_1 c1_1_2 c1_1_3
 clear hb K1
 obtain ⟨c2_0_0, c2_0_1, c2_0_2, c2_0_3⟩ := (bo1 K2).c4
 obtain ⟨c2_1_0, c2_1_1, c2_1_2, c2_1_3⟩ := (bo2 K2).c4
 go_wp2_with fail
 refine (F3.out _).mono ?_
 rintro e W3 ⟨rfl, hb⟩
 have K3 := bsb K2 hb
 clear c2_0_0 c2_0_1 c2_0_2 c2_0_3 c2_1_0 c2_1_1 c2_1_2 c2_1_3
 clear hb K2
 obtain ⟨c3_0_0, c3_0_1, c3_0_2, c3_0_3⟩ := (bo1 K3).c4
 obtain ⟨c3_1_0, c3_1_1, c3_1_2, c3_1_3⟩ := (bo2 K3).c4
 have K4 : Hid (BS w [(W3.heap.size, [vi ki e1, vi ki e2, vi ki e3]), (w.heap.size + 1, [vi ki 0, vi ki 0, vi ki 0, vi ki 0]), (w.heap.size, [vi ki 0, vi ki m, vi ki d, vi ki u])] (W3.alloc (.cells #[vi ki e1, vi ki e2, vi ki e3] 46))) := K3.out.new [vi ki e1, vi ki e2, vi ki e3] 46 rfl
 go_wp2_with fail
 have OE := orE_any _ _ _ (W3.heap.size) _ (K4.out.first.c 0 rfl) (K4.out.first.c 1 rfl) (K4.out.first.c 2 rfl)
 rw [he] at OE
 refine OE.mono ?_
 rintro e W4 ⟨rfl, hw⟩
 have K4' : Hid (BS w [(W3.heap.size, [vi ki e1, vi ki e2, vi ki e3]), (w.heap.size + 1, [vi ki 0, vi ki 0, vi ki 0, vi ki 0]), (w.heap.size, [vi ki 0, vi ki m, vi ki d, vi ki u])] W4) := by rw [hw]; exact K4.out
 clear c3_0_0 c3_0_1 c3_0_2 c3_0_3 c3_1_0 c3_1_1 c3_1_2 c3_1_3
 clear OE hw K4 K3
 obtain ⟨c4_0_0, c4_0_1, c4_0_2⟩ := (bo1 K4').c3
 obtain ⟨c4_1_0, c4_1_1, c4_1_2, c4_1_3⟩ := (bo2 K4').c4
 obtain ⟨z4_1_0, z4_1_1, z4_1_2, z4_1_3⟩ := (bo2 K4').f4
 obtain ⟨c4_2_0, c4_2_1, c4_2_2, c4_2_3⟩ := (bo3 K4').c4
 have XF : Hid (Bx (W4.setCells (w.heap.size + 1) 0 [vi ki 0, vi ki 0, vi ki 0, vi ki 0]) (w.heap.size + 1) [vi ki 0, vi ki 0, vi ki 0, vi ki 0]) := (K4'.out.at (w.heap.size + 1) [vi ki 0, vi ki 0, vi ki 0, vi ki 0] (by simp)).setAll _ rfl
 have BF : Hid (Below w.heap.size w (W4.setCells (w.heap.size + 1) 0 [vi ki 0, vi ki 0, vi ki 0, vi ki 0])) := below_setCells (by omega) _ _ _ K4'.out.1
 have y0 := XF.out.c 0 rfl
 have y1 := XF.out.c 1 rfl
 have y2 := XF.out.c 2 rfl
 have y3 := XF.out.c 3 rfl
 simp only [World.setCells, Nat.zero_add, Nat.reduceAdd] at y0 y1 y2 y3
 clear XF
 go_wp2
 exact bodyPost_ret (v := .tuple #[.agg #[vi ki 0, vi ki 0, vi ki 0, vi ki 0], vi ki er]) (by simp [results, Tryz.results183, go_sem, y0, y1, y2, y3]) rfl ⟨rfl, BF.out⟩
theorem each_times_ok (m d u x y z v1 e1 v2 e2 v3 e3 : Int) (M D U E : Int) (he : orV e1 e2 e3 = 0)
  (F1 : Hid (∀ w : World, Calls Tryz.prog 184 #[vi ki x, vi ki m] w fun r' w' => r' = zr (.tuple #[vi ki v1, vi ki e1]) ∧ Below w.heap.size w w'))
  (F2 : Hid (∀ w : World, Calls Tryz.prog 184 #[vi ki y, vi ki d] w fun r' w' => r' = zr (.tuple #[vi ki v2, vi ki e2]) ∧ Below w.heap.size w w'))
  (F3 : Hid (∀ w : World, Calls Tryz.prog 184 #[vi ki z, vi ki u] w fun r' w' => r' = zr (.tuple #[vi ki v3, vi ki e3]) ∧ Below w.heap.size w w'))
  (MK : Hid (∀ w : World, Calls Tryz.prog 137 #[vi ki v1, vi ki v2, vi ki v3] w fun r' w' => r' = zr (.tuple #[.agg #[vi ki 0, vi ki M, vi ki D, vi ki U], vi ki E]) ∧ Below w.heap.size w w'))
  (w : World) :
  Calls Tryz.prog 183 #[.agg #[vi ki 0, vi ki m, vi ki d, vi ki u], .func (.func 184) #[vi ki x] #[], .func (.func 184) #[vi ki y] #[], .func (.func 184) #[vi ki z] #[]] w fun r' w' => r' = zr (.tuple #[.agg #[vi ki 0, vi ki M, vi ki D, vi ki U], vi ki E]) ∧ Below w.heap.size w w' := by
 have K0 := bsn2 w [vi ki 0, vi ki m, vi ki d, vi ki u] 59 [vi ki 0, vi ki 0, vi ki 0, vi ki 0] 59
 go_enter Tryz.func183, Tryz.ntmps183
 go_wp2_with fail
 refine (F1.out _).mono ?_
 rintro e W1 ⟨rfl, hb⟩
 have K1 := bsb K0 hb
 clear hb K0
 obtain ⟨c1_0_0, c1_0_1, c1_0_2, c1_0_3⟩ := (bo1 K1).c4
 obtain ⟨c1_1_0, c1_1_1, c1_1_2, c1_1_3⟩ := (bo2 K1).c4
 go_wp2_with fail
 refine (F2.out _).mono ?_
 rintro e W2 ⟨rfl, hb⟩
 have K2 := bsb K1 hb
 clear c1_0_0 c1_0_1 c1_0_2 c1_0_3 c1_1_0 c1_1_1 c1_1_2 c1_1_3
 clear hb K1
 obtain ⟨c2_0_0, c2_0_1, c2_0_2, c2_0_3⟩ := (bo1 K2).c4
 obtain ⟨c2_1_0, c2_1_1, c2_1_2, c2_1_3⟩ := (bo2 K2).c4
 go_wp2_with fail
 refine (F3.out _).mono ?_
 rintro e W3 ⟨rfl, hb⟩
 have K3 := bsb K2 hb
 clear c2_0_0 c2_0_1 c2_0_2 c2_0_3 c2_1_0 c2_1_1 c2_1_2 c2_1_3
 clear hb K2
 obtain ⟨c3_0_0, c3_0_1, c3_0_2, c3_0_3⟩ := (bo1 K3).c4
 obtain ⟨c3_1_0, c3_1_1, c3_1_2, c3_1_3⟩ := (bo2 K3).c4
 have K4 : Hid (BS w [(W3.heap.size, [vi ki e1, vi ki e2, vi ki e3]), (w.heap.size + 1, [vi ki 0, vi ki 0, vi ki 0, vi ki 0]), (w.heap.size, [vi ki 0, vi ki m, vi ki d, vi ki u])] (W3.alloc (.cells #[vi ki e1, vi ki e2, vi ki e3] 46))) := K3.out.new [vi ki e1, vi ki e2, vi ki e3] 46 rfl
 go_wp2_with fail
 have OE := orE_any _ _ _ (W3.heap.size) _ (K4.out.first.c 0 rfl) (K4.out.first.c 1 rfl) (K4.out.first.c 2 rfl)
 rw [he] at OE
 refine OE.mono ?_
 rintro e W4 ⟨rfl, hw⟩
 have K4' : Hid (BS w [(W3.heap.size, [vi ki e1, vi ki e2, vi ki e3]), (w.heap.size + 1, [vi ki 0, vi ki 0, vi ki 0, vi ki 0]), (w.heap.size, [vi ki 0, vi ki m, vi ki d, vi ki u])] W4) := by rw [hw]; exact K4.out
 clear c3_0_0 c3_0_1 c3_0_2 c3_0_3 c3_1_0 c3_1_1 c3_1_2 c3_1_3
 clear OE hw K4 K3
 obtain ⟨c4_0_0, c4_0_1, c4_0_2⟩ := (bo1 K4').c3
 obtain ⟨c4_1_0, c4_1_1, c4_1_2, c4_1_3⟩ := (bo2 K4').c4
 obtain ⟨z4_1_0, z4_1_1, z4_1_2, z4_1_3⟩ := (bo2 K4').f4
 obtain ⟨c4_2_0, c4_2_1, c4_2_2, c4_2_3⟩ := (bo3 K4').c4
 go_wp2_with fail
 refine (MK.out _).mono ?_
 rintro e W5 ⟨rfl, hb⟩
 have K5 := bsb K4' hb
 clear c4_0_0 c4_0_1 c4_0_2 c4_1_0 c4_1_1 c4_1_2 c4_1_3 z4_1_0 z4_1_1 z4_1_2 z4_1_3 c4_2_0 c4_2_1 c4_2_2 c4_2_3
 clear hb K4'
 obtain ⟨c5_0_0, c5_0_1, c5_0_2⟩ := (bo1 K5).c3
 obtain ⟨c5_1_0, c5_1_1, c5_1_2, c5_1_3⟩ := (bo2 K5).c4
 obtain ⟨z5_1_0, z5_1_1, z5_1_2, z5_1_3⟩ := (bo2 K5).f4
 obtain ⟨c5_2_0, c5_2_1, c5_2_2, c5_2_3⟩ := (bo3 K5).c4
 have XF : Hid (Bx (W5.setCells (w.heap.size + 1) 0 [vi ki 0, vi ki M, vi ki D, vi ki U]) (w.heap.size + 1) [vi ki 0, vi ki M, vi ki D, vi ki U]) := (K5.out.at (w.heap.size + 1) [vi ki 0, vi ki 0, vi ki 0, vi ki 0] (by simp)).setAll _ rfl
 have BF : Hid (Below w.heap.size w (W5.setCells (w.heap.size + 1) 0 [vi ki 0, vi ki M, vi ki D, vi ki U])) := below_setCells (by omega) _ _ _ K5.out.1
 have y0 := XF.out.c 0 rfl
 have y1 := XF.out.c 1 rfl
 have y2 := XF.out.c 2 rfl
 have y3 := XF.out.c 3 rfl
 simp only [World.setCells, Nat.zero_add, Nat.reduceAdd] at y0 y1 y2 y3
 clear XF
 go_wp2
 exact bodyPost_ret (v := .tuple #[.agg #[vi ki 0, vi ki M, vi ki D, vi ki U], vi ki E]) (by simp [results, Tryz.results183, go_sem, y0, y1, y2, y3]) rfl ⟨rfl, BF.out⟩
end Go.Proofs.YtklehbmghjcmaaaGreatDoor.Sp
