/- Intervals turned, together, apart, so many times: what each function answers, the program's and the reference's alike. -/
import Derived.Test.YtghfgabajdghiabSpD
import Derived.Test.YtghfgabajdghiabWideV
namespace Go.Proofs.Ytghfgabajdghiab
open Go.RowKit
set_option linter.unusedVariables false

/-- an answer: an interval, and what is wrong. -/
structure R5 where
  (i m d u e : Int)
abbrev v5 (x : R5) : Value := .tuple #[.agg #[.int .i64 x.i, .int .i64 x.m, .int .i64 x.d, .int .i64 x.u], .int .i64 x.e]
abbrev a4 (i m d u : Int) : Value := .agg #[.int .i64 i, .int .i64 m, .int .i64 d, .int .i64 u]
def err5 (e : Int) : R5 := ⟨0, 0, 0, 0, e⟩
def mk5 (m d u : Int) : R5 := ⟨0, gM m d u m, gM m d u d, gM m d u u, gE m d u⟩
def parts5 (v1 e1 v2 e2 v3 e3 : Int) : R5 := if e1 = 0 ∧ e2 = 0 ∧ e3 = 0 then mk5 v1 v2 v3 else err5 10
def mul5 (i m d u n : Int) : R5 := if pR i m d u = true then (if i = 0 then parts5 (smV (m * n)) (smE (m * n)) (smV (d * n)) (smE (d * n)) (smV (u * n)) (smE (u * n)) else if n = 0 then err5 10 else ⟨i * sgnC n 0, 0, 0, 0, 0⟩) else err5 1
def neg5 (i m d u : Int) : R5 := if pR i m d u = true then ⟨-i, -m, -d, -u, 0⟩ else err5 1
def add5 (i m d u j n e v : Int) : R5 :=
  if pR i m d u = true ∧ pR j n e v = true then (if i ≠ 0 then (if j = -i then err5 10 else ⟨i, m, d, u, 0⟩) else if j ≠ 0 then ⟨j, n, e, v, 0⟩ else parts5 (m + n) 0 (d + e) 0 (smV (u + v)) (smE (u + v))) else err5 1
def sub5 (i m d u j n e v : Int) : R5 := if pR j n e v = true then add5 i m d u (-j) (-n) (-e) (-v) else err5 1

theorem smE_01 (x : Int) : smE x = 0 ∨ smE x = 10 := by unfold smE; split; exact .inl rfl; exact .inr rfl

theorem smV_bd (x : Int) : -9223372036854775808 ≤ smV x ∧ smV x ≤ 9223372036854775807 := by unfold smV; split; assumption; decide

theorem or_10 {a b c : Int} (ha : a = 0 ∨ a = 10) (hb : b = 0 ∨ b = 10) (hc : c = 0 ∨ c = 10) (h : ¬ (a = 0 ∧ b = 0 ∧ c = 0)) : orV a b c = 10 := by
  rcases ha with rfl | rfl
  · rcases hb with rfl | rfl
    · rcases hc with rfl | rfl
      · exact absurd ⟨rfl, rfl, rfl⟩ h
      · rfl
    · rfl
  · rfl

theorem each_times (m d u n : Int) (n1 : -9223372036854775808 ≤ n) (n2 : n ≤ 9223372036854775807) (m1 : -9223372036854775808 ≤ m) (m2 : m ≤ 9223372036854775807) (d1 : -9223372036854775808 ≤ d) (d2 : d ≤ 9223372036854775807) (u1 : -9223372036854775808 ≤ u) (u2 : u ≤ 9223372036854775807) (w : World) :
    Calls Try.prog 29 #[a4 0 m d u, .func (.func 35) #[.int .i64 n] #[], .func (.func 35) #[.int .i64 n] #[], .func (.func 35) #[.int .i64 n] #[]] w
      fun r w' => r = .returned (v5 (parts5 (smV (m * n)) (smE (m * n)) (smV (d * n)) (smE (d * n)) (smV (u * n)) (smE (u * n)))) ∧ Below w.heap.size w w' := by
  have F1 := fun w => times_meth n m _ _ (fun w => mul_any m n m1 m2 n1 n2 w) w
  have F2 := fun w => times_meth n d _ _ (fun w => mul_any d n d1 d2 n1 n2 w) w
  have F3 := fun w => times_meth n u _ _ (fun w => mul_any u n u1 u2 n1 n2 w) w
  by_cases h : smE (m * n) = 0 ∧ smE (d * n) = 0 ∧ smE (u * n) = 0
  · have e : orV (smE (m * n)) (smE (d * n)) (smE (u * n)) = 0 := by rw [h.1, h.2.1, h.2.2]; rfl
    unfold parts5
    rw [if_pos h]
    exact each_times_ok m d u n n n _ _ _ _ _ _ _ _ _ _ e F1 F2 F3 (fun w => pmake_any _ _ _ (smV_bd _).1 (smV_bd _).2 w) w
  · unfold parts5
    rw [if_neg h]
    exact each_times_bad m d u n n n _ _ _ _ _ _ 10 (or_10 (smE_01 _) (smE_01 _) (smE_01 _) h) (by decide) F1 F2 F3 w

theorem pright_is (i m d u : Int) (u1 : -9223372036854775808 ≤ u) (u2 : u ≤ 9223372036854775807) (c : Bool) (h : pR i m d u = c) : Hid (∀ w : World, Calls Try.prog 15 #[a4 i m d u] w fun r' w' => r' = .returned (.bool c) ∧ Below w.heap.size w w') := fun w => by rw [← h]; exact pr_any i m d u u1 u2 w

theorem rpright_is (i m d u : Int) (u1 : -9223372036854775808 ≤ u) (u2 : u ≤ 9223372036854775807) (c : Bool) (h : pR i m d u = c) : Hid (∀ w : World, Calls Try.prog 16 #[a4 i m d u] w fun r' w' => r' = .returned (.bool c) ∧ Below w.heap.size w w') := fun w => by rw [← h]; exact rpr_any i m d u u1 u2 w

theorem pmul_any (i m d u : Int) (m1 : -9223372036854775808 ≤ m) (m2 : m ≤ 9223372036854775807) (d1 : -9223372036854775808 ≤ d) (d2 : d ≤ 9223372036854775807) (u1 : -9223372036854775808 ≤ u) (u2 : u ≤ 9223372036854775807) (n : Int) (n1 : -9223372036854775808 ≤ n) (n2 : n ≤ 9223372036854775807) (w : World) :
    Calls Try.prog 18 #[a4 i m d u, .int .i64 n] w fun r w' => r = .returned (v5 (mul5 i m d u n)) ∧ Below w.heap.size w w' := by
  have RI := pright_is i m d u u1 u2
  unfold mul5
  cases h : pR i m d u
  · rw [if_neg (by decide)]; exact pmul_no i m d u n (RI false h) w
  · rw [if_pos rfl]
    by_cases h0 : i = 0
    · subst h0
      rw [if_pos rfl]
      exact pmul_each m d u n _ _ _ _ _ (RI true h) (fun w => each_times m d u n n1 n2 m1 m2 d1 d2 u1 u2 w) w
    · rw [if_neg h0]
      by_cases hn : n = 0
      · subst hn
        rw [if_pos rfl]; exact pmul_inf0 i m d u h0 (RI true h) w
      · rw [if_neg hn]
        rcases pR_yes h with q | ⟨q, rfl, rfl, rfl⟩
        · exact absurd q.1 h0
        · have C := fun w => cmp_int64_any n 0 w
          rcases Int.lt_or_gt_of_ne hn with k | k
          · rw [sgnC_lt k] at C ⊢
            rcases q with rfl | rfl
            · exact pmul_inf_mm n hn (RI true h) C w
            · exact pmul_inf_pm n hn (RI true h) C w
          · rw [sgnC_gt k] at C ⊢
            rcases q with rfl | rfl
            · exact pmul_inf_mp n hn (RI true h) C w
            · exact pmul_inf_pp n hn (RI true h) C w

theorem rpmul_any (i m d u : Int) (m1 : -9223372036854775808 ≤ m) (m2 : m ≤ 9223372036854775807) (d1 : -9223372036854775808 ≤ d) (d2 : d ≤ 9223372036854775807) (u1 : -9223372036854775808 ≤ u) (u2 : u ≤ 9223372036854775807) (n : Int) (n1 : -9223372036854775808 ≤ n) (n2 : n ≤ 9223372036854775807) (w : World) :
    Calls Try.prog 19 #[a4 i m d u, .int .i64 n] w fun r w' => r = .returned (v5 (mul5 i m d u n)) ∧ Below w.heap.size w w' := by
  have RI := rpright_is i m d u u1 u2
  unfold mul5
  cases h : pR i m d u
  · rw [if_neg (by decide)]; exact rpmul_no i m d u n (RI false h) w
  · rw [if_pos rfl]
    by_cases h0 : i = 0
    · subst h0
      rw [if_pos rfl]
      have MK : ∀ w : World, Calls Try.prog 32 #[.int .i64 (smV (m * n)), .int .i64 (smE (m * n)), .int .i64 (smV (d * n)), .int .i64 (smE (d * n)), .int .i64 (smV (u * n)), .int .i64 (smE (u * n))] w fun r w' => r = .returned (v5 (parts5 (smV (m * n)) (smE (m * n)) (smV (d * n)) (smE (d * n)) (smV (u * n)) (smE (u * n)))) ∧ Below w.heap.size w w' := fun w => by
        unfold parts5
        by_cases k : smE (m * n) = 0 ∧ smE (d * n) = 0 ∧ smE (u * n) = 0
        · rw [if_pos k, k.1, k.2.1, k.2.2]; exact rpmade_any _ _ _ (smV_bd _).1 (smV_bd _).2 w
        · rw [if_neg k]; exact rpmade_no _ _ _ _ _ _ (by omega) w
      exact rpmul_each m d u n _ _ _ _ _ _ _ _ _ _ _ (RI true h) (fun w => refmul_any m n m1 m2 n1 n2 w) (fun w => refmul_any d n d1 d2 n1 n2 w) (fun w => refmul_any u n u1 u2 n1 n2 w) MK w
    · rw [if_neg h0]
      by_cases hn : n = 0
      · subst hn
        rw [if_pos rfl]; exact rpmul_inf0 i m d u h0 (RI true h) w
      · rw [if_neg hn]
        rcases pR_yes h with q | ⟨q, rfl, rfl, rfl⟩
        · exact absurd q.1 h0
        · rcases Int.lt_or_gt_of_ne hn with k | k
          · rw [sgnC_lt k, show i * -1 = -i by omega]
            exact rpmul_neg i n h0 (by omega) (by omega) k (RI true h) w
          · rw [sgnC_gt k, Int.mul_one]
            exact rpmul_pos i 0 0 0 n h0 k (RI true h) w

theorem mul_neg (i m d u : Int) (m1 : -9223372036854775808 ≤ m) (m2 : m ≤ 9223372036854775807) (d1 : -9223372036854775808 ≤ d) (d2 : d ≤ 9223372036854775807) (u1 : -9223372036854775808 ≤ u) (u2 : u ≤ 9223372036854775807) (w : World) : mul5 i m d u (-1) = neg5 i m d u := by
  unfold mul5 neg5
  cases h : pR i m d u
  · rw [if_neg (by decide), if_neg (by decide)]
  · rw [if_pos rfl, if_pos rfl]
    rcases pR_yes h with ⟨rfl, a, b, c, e, f, g⟩ | ⟨q, rfl, rfl, rfl⟩
    · rw [if_pos rfl, show m * -1 = -m by omega, show d * -1 = -d by omega, show u * -1 = -u by omega, smV_in (by omega) (by omega), smE_in (by omega) (by omega), smV_in (by omega) (by omega), smE_in (by omega) (by omega), smV_in (by omega) (by omega), smE_in (by omega) (by omega)]
      unfold parts5
      rw [if_pos ⟨rfl, rfl, rfl⟩]
      unfold mk5
      obtain ⟨x, y, z, t⟩ := g_yes (pR_in (m := -m) (d := -d) (u := -u) (by omega) (by omega) (by omega) (by omega) (by omega) (by omega))
      rw [x, y, z, t]; rfl
    · have h0 : i ≠ 0 := by omega
      rw [if_neg h0, if_neg (by decide), sgnC_lt (by decide), show i * -1 = -i by omega]; rfl

theorem pneg_any (i m d u : Int) (m1 : -9223372036854775808 ≤ m) (m2 : m ≤ 9223372036854775807) (d1 : -9223372036854775808 ≤ d) (d2 : d ≤ 9223372036854775807) (u1 : -9223372036854775808 ≤ u) (u2 : u ≤ 9223372036854775807) (w : World) : Calls Try.prog 9 #[a4 i m d u] w fun r w' => r = .returned (v5 (neg5 i m d u)) ∧ Below w.heap.size w w' := by
  rw [← mul_neg i m d u m1 m2 d1 d2 u1 u2 w]
  exact pneg_run i m d u _ _ _ _ _ (fun w => pmul_any i m d u m1 m2 d1 d2 u1 u2 (-1) (by decide) (by decide) w) w

theorem rpneg_any (i m d u : Int) (m1 : -9223372036854775808 ≤ m) (m2 : m ≤ 9223372036854775807) (d1 : -9223372036854775808 ≤ d) (d2 : d ≤ 9223372036854775807) (u1 : -9223372036854775808 ≤ u) (u2 : u ≤ 9223372036854775807) (w : World) : Calls Try.prog 10 #[a4 i m d u] w fun r w' => r = .returned (v5 (neg5 i m d u)) ∧ Below w.heap.size w w' := by
  unfold neg5
  cases h : pR i m d u
  · rw [if_neg (by decide)]; exact rpneg_no i m d u (rpright_is i m d u u1 u2 false h) w
  · rw [if_pos rfl]
    have q := pR_yes h
    exact rpneg_yes i m d u (by omega) (by omega) (by omega) (by omega) (by omega) (by omega) (by omega) (by omega) (rpright_is i m d u u1 u2 true h) w

end Go.Proofs.Ytghfgabajdghiab
