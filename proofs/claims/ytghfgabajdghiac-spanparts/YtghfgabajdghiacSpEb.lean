/- Intervals together and apart: what each function answers, the program's and the reference's alike. -/
import Derived.Test.YtghfgabajdghiacSpDb
import Derived.Test.YtghfgabajdghiacSpE
namespace Go.Proofs.Ytghfgabajdghiac
open Go.RowKit
set_option linter.unusedVariables false

theorem each_more (m d u n e v : Int) (m1 : -2147483647 ≤ m) (m2 : m ≤ 2147483647) (d1 : -2147483647 ≤ d) (d2 : d ≤ 2147483647) (n1 : -2147483647 ≤ n) (n2 : n ≤ 2147483647) (e1 : -2147483647 ≤ e) (e2 : e ≤ 2147483647)
    (u1 : -9223372036854775808 ≤ u) (u2 : u ≤ 9223372036854775807) (v1 : -9223372036854775808 ≤ v) (v2 : v ≤ 9223372036854775807) (w : World) :
    Calls Try.prog 14 #[a4 0 m d u, .func (.func 15) #[.int .i64 n] #[], .func (.func 15) #[.int .i64 e] #[], .func (.func 15) #[.int .i64 v] #[]] w
      fun r w' => r = .returned (v5 (parts5 (m + n) 0 (d + e) 0 (smV (u + v)) (smE (u + v)))) ∧ Below w.heap.size w w' := by
  have F1 := fun w => more_meth n m _ _ (fun w => add_in m n (by omega) (by omega) (by omega) (by omega) (by omega) (by omega) w) w
  have F2 := fun w => more_meth e d _ _ (fun w => add_in d e (by omega) (by omega) (by omega) (by omega) (by omega) (by omega) w) w
  have F3 := fun w => more_meth v u _ _ (fun w => add_any u v u1 u2 v1 v2 w) w
  by_cases h : smE (u + v) = 0
  · have e' : orV 0 0 (smE (u + v)) = 0 := by rw [h]; rfl
    unfold parts5
    rw [if_pos ⟨rfl, rfl, h⟩]
    exact each_more_ok m d u n e v _ _ _ _ _ _ _ _ _ _ e' F1 F2 F3 (fun w => pmake_any _ _ _ (smV_bd _).1 (smV_bd _).2 w) w
  · unfold parts5
    rw [if_neg (fun k => h k.2.2)]
    exact each_more_bad m d u n e v _ _ _ _ _ _ 10 (or_10 (.inl rfl) (.inl rfl) (smE_01 _) (fun k => h k.2.2)) (by decide) F1 F2 F3 w

theorem padd_any (i m d u : Int) (m1 : -9223372036854775808 ≤ m) (m2 : m ≤ 9223372036854775807) (d1 : -9223372036854775808 ≤ d) (d2 : d ≤ 9223372036854775807) (u1 : -9223372036854775808 ≤ u) (u2 : u ≤ 9223372036854775807) (j n e v : Int) (v1 : -9223372036854775808 ≤ v) (v2 : v ≤ 9223372036854775807) (w : World) : Calls Try.prog 6 #[a4 i m d u, a4 j n e v] w fun r w' => r = .returned (v5 (add5 i m d u j n e v)) ∧ Below w.heap.size w w' := by
  have X := pright_is i m d u u1 u2
  have Y := pright_is j n e v v1 v2
  unfold add5
  cases h : pR i m d u
  · rw [if_neg (fun k => absurd k.1 (by decide))]; exact padd_no1 i m d u j n e v (X false h) w
  · cases k : pR j n e v
    · rw [if_neg (fun k => absurd k.2 (by decide))]; exact padd_no2 i m d u j n e v (X true h) (Y false k) w
    · rw [if_pos ⟨rfl, rfl⟩]
      have p := pR_yes h
      have q := pR_yes k
      rcases (show i = 0 ∨ i = -1 ∨ i = 1 by omega) with rfl | rfl | rfl
      · rw [if_neg (by decide)]
        by_cases hj : j = 0
        · subst hj
          rw [if_neg (by decide)]
          exact padd_each m d u n e v _ _ _ _ _ (X true h) (Y true k) (fun w => each_more m d u n e v (by omega) (by omega) (by omega) (by omega) (by omega) (by omega) (by omega) (by omega) u1 u2 v1 v2 w) w
        · rw [if_pos hj]; exact padd_b m d u j n e v hj (X true h) (Y true k) w
      · rw [if_pos (by decide)]
        rcases (show j = 1 ∨ j = -1 ∨ j = 0 by omega) with rfl | rfl | rfl
        · rw [if_pos (by decide)]; exact padd_oppm m d u n e v (X true h) (Y true k) w
        · rw [if_neg (by decide)]; exact padd_ams m d u n e v (X true h) (Y true k) w
        · rw [if_neg (by decide)]; exact padd_am0 m d u n e v (X true h) (Y true k) w
      · rw [if_pos (by decide)]
        rcases (show j = -1 ∨ j = 1 ∨ j = 0 by omega) with rfl | rfl | rfl
        · rw [if_pos (by decide)]; exact padd_oppp m d u n e v (X true h) (Y true k) w
        · rw [if_neg (by decide)]; exact padd_aps m d u n e v (X true h) (Y true k) w
        · rw [if_neg (by decide)]; exact padd_ap0 m d u n e v (X true h) (Y true k) w

theorem psub_any (i m d u : Int) (m1 : -9223372036854775808 ≤ m) (m2 : m ≤ 9223372036854775807) (d1 : -9223372036854775808 ≤ d) (d2 : d ≤ 9223372036854775807) (u1 : -9223372036854775808 ≤ u) (u2 : u ≤ 9223372036854775807) (j n e v : Int) (v1 : -9223372036854775808 ≤ v) (v2 : v ≤ 9223372036854775807) (n1 : -9223372036854775808 ≤ n) (n2 : n ≤ 9223372036854775807) (e1 : -9223372036854775808 ≤ e) (e2 : e ≤ 9223372036854775807) (w : World) : Calls Try.prog 8 #[a4 i m d u, a4 j n e v] w fun r w' => r = .returned (v5 (sub5 i m d u j n e v)) ∧ Below w.heap.size w w' := by
  have NG := fun w => pneg_any j n e v n1 n2 e1 e2 v1 v2 w
  unfold sub5
  unfold neg5 at NG
  cases k : pR j n e v
  · rw [k, if_neg (by decide)] at NG
    rw [if_neg (by decide)]
    exact psub_no i m d u j n e v _ _ _ _ 1 (by decide) NG w
  · rw [k, if_pos rfl] at NG
    rw [if_pos rfl]
    have q := pR_yes k
    exact psub_yes i m d u j n e v _ _ _ _ _ _ _ _ _ NG (fun w => padd_any i m d u m1 m2 d1 d2 u1 u2 (-j) (-n) (-e) (-v) (by omega) (by omega) w) w

end Go.Proofs.Ytghfgabajdghiac
