/- The contract of num.Scale: one number times another one, and how often a third one is there. -/
import Derived.Test.YtlhlanekklonmaaNumE
namespace Go.Proofs.Ytlhlanekklonmaa
open Go.RowKit
set_option linter.unusedVariables false

theorem fdiv_pp (p n : Nat) : (p : Int).fdiv (n : Int) = ((p / n : Nat) : Int) := by
  rw [Int.fdiv_eq_ediv_of_nonneg _ (by omega), Int.natCast_ediv]

theorem fdiv_np (p n : Nat) (hn : 0 < n) : (-(p : Int)).fdiv (n : Int) = if p % n = 0 then -((p / n : Nat) : Int) else -((p / n : Nat) : Int) - 1 := by
  rw [Int.fdiv_eq_ediv_of_nonneg _ (by omega)]
  have e := Nat.div_add_mod p n
  have l := Nat.mod_lt p hn
  have e' : (n : Int) * ((p / n : Nat) : Int) + ((p % n : Nat) : Int) = (p : Int) := by rw [← Int.natCast_mul, ← Int.natCast_add, e]
  by_cases h : p % n = 0
  · rw [if_pos h]
    refine ((Int.ediv_emod_unique (r := 0) (by omega)).2 ⟨?_, by omega, by omega⟩).1
    rw [h] at e'
    rw [Int.mul_neg]
    omega
  · rw [if_neg h]
    refine ((Int.ediv_emod_unique (r := (n : Int) - ((p % n : Nat) : Int)) (by omega)).2 ⟨?_, by omega, by omega⟩).1
    rw [Int.mul_sub, Int.mul_neg]
    omega

theorem scale_math (a b c : Int) (p n : Nat) (hp : a.natAbs * b.natAbs = p) (hn : c.natAbs = n) (hc : c ≠ 0) :
    (a * b).fdiv c = if ((decide (a < 0) != decide (b < 0)) != decide (c < 0)) = true then (if p % n = 0 then -((p / n : Nat) : Int) else -((p / n : Nat) : Int) - 1) else ((p / n : Nat) : Int) := by
  have hs := sgn_of a b
  rw [hp] at hs
  rw [← hs]
  have hn0 : 0 < n := by omega
  generalize (decide (a < 0) != decide (b < 0)) = X
  by_cases h : c < 0
  · have ec : c = -(n : Int) := by omega
    rw [ec]
    have hd : decide (-(n : Int) < 0) = true := by rw [decide_eq_true_eq]; omega
    rw [hd]
    cases X
    · show (p : Int).fdiv (-(n : Int)) = _
      rw [show (p : Int).fdiv (-(n : Int)) = (-(p : Int)).fdiv (n : Int) by rw [← Int.neg_fdiv_neg (p : Int) (-(n : Int)), Int.neg_neg], fdiv_np p n hn0]
      rfl
    · show (-(p : Int)).fdiv (-(n : Int)) = _
      rw [Int.neg_fdiv_neg, fdiv_pp]
      rfl
  · have ec : c = (n : Int) := by omega
    rw [ec]
    have hd : decide ((n : Int) < 0) = false := by rw [decide_eq_false_iff_not]; omega
    rw [hd]
    cases X
    · show (p : Int).fdiv (n : Int) = _
      rw [fdiv_pp]
      rfl
    · show (-(p : Int)).fdiv (n : Int) = _
      rw [fdiv_np p n hn0]
      rfl

set_option maxHeartbeats 400000 in
theorem scale_zero (a b : Int) (w : World) :
    Calls Try.prog 10 #[.int .i64 a, .int .i64 b, .int .i64 0] w fun e w' => e = .returned (.tuple #[.int .i64 0, .int .i64 11]) ∧ w' = w := by
  go_enter Try.func10, Try.ntmps10
  go_wp2
  go_ret2
  exact ⟨rfl, rfl⟩

set_option maxHeartbeats 1000000 in
theorem scale_over (a b c : Int) (H L n : Nat) (hc : (c == 0) = false) (hH : (n : Int) ≤ H)
    (H1 : Hid (∀ w : World, Calls Try.prog 11 #[.int .i64 a, .int .i64 b] w fun e w' => e = .returned (.agg #[.int .u64 (H : Int), .int .u64 (L : Int)]) ∧ Below w.heap.size w w'))
    (H2 : Hid (∀ w : World, Calls Try.prog 12 #[.int .i64 c] w fun e w' => e = .returned (.int .u64 (n : Int)) ∧ w' = w)) (w : World) :
    Calls Try.prog 10 #[.int .i64 a, .int .i64 b, .int .i64 c] w fun e w' => e = .returned (.tuple #[.int .i64 0, .int .i64 10]) ∧ Below w.heap.size w w' := by
  go_enter Try.func10, Try.ntmps10
  go_wp2_with fail
  refine (H1.out _).mono ?_
  rintro e w1 ⟨rfl, hb1⟩
  have hz1 := hb1.size
  go_wp2_with fail
  refine (H2.out _).mono ?_
  rintro e w2 ⟨rfl, rfl⟩
  go_wp2_with fail
  go_ret2
  exact ⟨rfl, hb1.alloc hz1 _⟩

set_option maxHeartbeats 1000000 in
theorem scale_plain (a b c v x : Int) (H L n q r : Nat) (hc : (c == 0) = false) (hH : (H : Int) < n) (hX : (!((!(decide (a < 0) == decide (b < 0))) == decide (c < 0))) = false)
    (H1 : Hid (∀ w : World, Calls Try.prog 11 #[.int .i64 a, .int .i64 b] w fun e w' => e = .returned (.agg #[.int .u64 (H : Int), .int .u64 (L : Int)]) ∧ Below w.heap.size w w'))
    (H2 : Hid (∀ w : World, Calls Try.prog 12 #[.int .i64 c] w fun e w' => e = .returned (.int .u64 (n : Int)) ∧ w' = w))
    (H3 : Hid (∀ w : World, Calls Try.prog 13 #[.int .u64 H, .int .u64 L, .int .u64 n] w fun e w' => e = .returned (.tuple #[.int .u64 (q : Int), .int .u64 (r : Int)]) ∧ Below w.heap.size w w'))
    (H4 : Hid (∀ w : World, Calls Try.prog 14 #[.bool false, .int .u64 (q : Int)] w fun e w' => e = .returned (.tuple #[.int .i64 v, .int .i64 x]) ∧ w' = w)) (w : World) :
    Calls Try.prog 10 #[.int .i64 a, .int .i64 b, .int .i64 c] w fun e w' => e = .returned (.tuple #[.int .i64 v, .int .i64 x]) ∧ Below w.heap.size w w' := by
  go_enter Try.func10, Try.ntmps10
  go_wp2_with fail
  refine (H1.out _).mono ?_
  rintro e w1 ⟨rfl, hb1⟩
  have hz1 := hb1.size
  go_wp2_with fail
  refine (H2.out _).mono ?_
  rintro e w2 ⟨rfl, rfl⟩
  go_wp2_with fail
  refine (H3.out _).mono ?_
  rintro e w3 ⟨rfl, hb3⟩
  have hz3 := hb3.size
  go_wp2_with fail
  refine (H4.out _).mono ?_
  rintro e w4 ⟨rfl, rfl⟩
  go_wp2
  go_ret2
  exact ⟨rfl, (hb1.alloc hz1 _).trans (hb3.mono (by simp; omega))⟩

set_option maxHeartbeats 1000000 in
theorem scale_even (a b c v x : Int) (H L n q r : Nat) (hc : (c == 0) = false) (hH : (H : Int) < n) (hX : (!((!(decide (a < 0) == decide (b < 0))) == decide (c < 0))) = true) (hr : ((r : Int) != 0) = false)
    (H1 : Hid (∀ w : World, Calls Try.prog 11 #[.int .i64 a, .int .i64 b] w fun e w' => e = .returned (.agg #[.int .u64 (H : Int), .int .u64 (L : Int)]) ∧ Below w.heap.size w w'))
    (H2 : Hid (∀ w : World, Calls Try.prog 12 #[.int .i64 c] w fun e w' => e = .returned (.int .u64 (n : Int)) ∧ w' = w))
    (H3 : Hid (∀ w : World, Calls Try.prog 13 #[.int .u64 H, .int .u64 L, .int .u64 n] w fun e w' => e = .returned (.tuple #[.int .u64 (q : Int), .int .u64 (r : Int)]) ∧ Below w.heap.size w w'))
    (H4 : Hid (∀ w : World, Calls Try.prog 14 #[.bool true, .int .u64 (q : Int)] w fun e w' => e = .returned (.tuple #[.int .i64 v, .int .i64 x]) ∧ w' = w)) (w : World) :
    Calls Try.prog 10 #[.int .i64 a, .int .i64 b, .int .i64 c] w fun e w' => e = .returned (.tuple #[.int .i64 v, .int .i64 x]) ∧ Below w.heap.size w w' := by
  go_enter Try.func10, Try.ntmps10
  go_wp2_with fail
  refine (H1.out _).mono ?_
  rintro e w1 ⟨rfl, hb1⟩
  have hz1 := hb1.size
  go_wp2_with fail
  refine (H2.out _).mono ?_
  rintro e w2 ⟨rfl, rfl⟩
  go_wp2_with fail
  refine (H3.out _).mono ?_
  rintro e w3 ⟨rfl, hb3⟩
  have hz3 := hb3.size
  go_wp2_with fail
  refine (H4.out _).mono ?_
  rintro e w4 ⟨rfl, rfl⟩
  go_wp2
  go_ret2
  exact ⟨rfl, (hb1.alloc hz1 _).trans (hb3.mono (by simp; omega))⟩

set_option maxHeartbeats 1000000 in
theorem scale_last (a b c : Int) (H L n q r : Nat) (hc : (c == 0) = false) (hH : (H : Int) < n) (hX : (!((!(decide (a < 0) == decide (b < 0))) == decide (c < 0))) = true) (hr : ((r : Int) != 0) = true) (hq : ((q : Int) == 18446744073709551615) = true)
    (H1 : Hid (∀ w : World, Calls Try.prog 11 #[.int .i64 a, .int .i64 b] w fun e w' => e = .returned (.agg #[.int .u64 (H : Int), .int .u64 (L : Int)]) ∧ Below w.heap.size w w'))
    (H2 : Hid (∀ w : World, Calls Try.prog 12 #[.int .i64 c] w fun e w' => e = .returned (.int .u64 (n : Int)) ∧ w' = w))
    (H3 : Hid (∀ w : World, Calls Try.prog 13 #[.int .u64 H, .int .u64 L, .int .u64 n] w fun e w' => e = .returned (.tuple #[.int .u64 (q : Int), .int .u64 (r : Int)]) ∧ Below w.heap.size w w')) (w : World) :
    Calls Try.prog 10 #[.int .i64 a, .int .i64 b, .int .i64 c] w fun e w' => e = .returned (.tuple #[.int .i64 0, .int .i64 10]) ∧ Below w.heap.size w w' := by
  go_enter Try.func10, Try.ntmps10
  go_wp2_with fail
  refine (H1.out _).mono ?_
  rintro e w1 ⟨rfl, hb1⟩
  have hz1 := hb1.size
  go_wp2_with fail
  refine (H2.out _).mono ?_
  rintro e w2 ⟨rfl, rfl⟩
  go_wp2_with fail
  refine (H3.out _).mono ?_
  rintro e w3 ⟨rfl, hb3⟩
  have hz3 := hb3.size
  go_wp2_with fail
  go_ret2
  exact ⟨rfl, (hb1.alloc hz1 _).trans (hb3.mono (by simp; omega))⟩

set_option maxHeartbeats 1000000 in
theorem scale_odd (a b c v x : Int) (H L n q r q' : Nat) (hc : (c == 0) = false) (hH : (H : Int) < n) (hX : (!((!(decide (a < 0) == decide (b < 0))) == decide (c < 0))) = true) (hr : ((r : Int) != 0) = true) (hq : ((q : Int) == 18446744073709551615) = false) (hq' : IntKind.u64.wrap ((q : Int) + 1) = (q' : Int))
    (H1 : Hid (∀ w : World, Calls Try.prog 11 #[.int .i64 a, .int .i64 b] w fun e w' => e = .returned (.agg #[.int .u64 (H : Int), .int .u64 (L : Int)]) ∧ Below w.heap.size w w'))
    (H2 : Hid (∀ w : World, Calls Try.prog 12 #[.int .i64 c] w fun e w' => e = .returned (.int .u64 (n : Int)) ∧ w' = w))
    (H3 : Hid (∀ w : World, Calls Try.prog 13 #[.int .u64 H, .int .u64 L, .int .u64 n] w fun e w' => e = .returned (.tuple #[.int .u64 (q : Int), .int .u64 (r : Int)]) ∧ Below w.heap.size w w'))
    (H4 : Hid (∀ w : World, Calls Try.prog 14 #[.bool true, .int .u64 (q' : Int)] w fun e w' => e = .returned (.tuple #[.int .i64 v, .int .i64 x]) ∧ w' = w)) (w : World) :
    Calls Try.prog 10 #[.int .i64 a, .int .i64 b, .int .i64 c] w fun e w' => e = .returned (.tuple #[.int .i64 v, .int .i64 x]) ∧ Below w.heap.size w w' := by
  go_enter Try.func10, Try.ntmps10
  go_wp2_with fail
  refine (H1.out _).mono ?_
  rintro e w1 ⟨rfl, hb1⟩
  have hz1 := hb1.size
  go_wp2_with fail
  refine (H2.out _).mono ?_
  rintro e w2 ⟨rfl, rfl⟩
  go_wp2_with fail
  refine (H3.out _).mono ?_
  rintro e w3 ⟨rfl, hb3⟩
  have hz3 := hb3.size
  go_wp2_with fail
  refine (H4.out _).mono ?_
  rintro e w4 ⟨rfl, rfl⟩
  go_wp2
  go_ret2
  exact ⟨rfl, (hb1.alloc hz1 _).trans (hb3.mono (by simp; omega))⟩

theorem scale_any (a b c : Int) (h1 : -9223372036854775808 ≤ a) (h2 : a ≤ 9223372036854775807) (h3 : -9223372036854775808 ≤ b) (h4 : b ≤ 9223372036854775807) (h5 : -9223372036854775808 ≤ c) (h6 : c ≤ 9223372036854775807) (hc : c ≠ 0) (w : World) :
    Calls Try.prog 10 #[.int .i64 a, .int .i64 b, .int .i64 c] w fun e w' => e = .returned (.tuple #[.int .i64 (smV ((a * b).fdiv c)), .int .i64 (smE ((a * b).fdiv c))]) ∧ Below w.heap.size w w' := by
  obtain ⟨p, hp⟩ : ∃ p, a.natAbs * b.natAbs = p := ⟨_, rfl⟩
  obtain ⟨n, hn⟩ : ∃ n, c.natAbs = n := ⟨_, rfl⟩
  obtain ⟨H, hH⟩ : ∃ H, p / 18446744073709551616 = H := ⟨_, rfl⟩
  obtain ⟨L, hL⟩ : ∃ L, p % 18446744073709551616 = L := ⟨_, rfl⟩
  have hc0 : (c == 0) = false := by rw [beq_eq_false_iff_ne]; exact hc
  have lL : L < 18446744073709551616 := by omega
  have C1 := product_any a b H L h1 h2 h3 h4 (by rw [hp]; omega) lL
  have C2 := size_any c h5 h6
  rw [hn] at C2
  have e := scale_math a b c p n hp hn hc
  obtain ⟨q, hq⟩ : ∃ q, p / n = q := ⟨_, rfl⟩
  obtain ⟨r, hr⟩ : ∃ r, p % n = r := ⟨_, rfl⟩
  have en : n * q + r = p := by rw [← hq, ← hr]; exact Nat.div_add_mod p n
  rw [hq, hr] at e
  by_cases hbig : n ≤ H
  · have lq : 18446744073709551616 ≤ q := by
      rw [← hq]
      exact (Nat.le_div_iff_mul_le (by omega)).2 (by omega)
    have ho : (a * b).fdiv c < -9223372036854775808 ∨ 9223372036854775807 < (a * b).fdiv c := by
      rw [e]; split
      · split <;> omega
      · omega
    rw [smV_out ho, smE_out ho]
    exact scale_over a b c H L n hc0 (by omega) C1 C2 w
  · have hN : H * (4294967296 * 4294967296) + L = p := by omega
    have C3 := div64_any H L n q r (by omega) lL (by omega) (by rw [hN, hq]) (by rw [hN, hr])
    have lq : q < 18446744073709551616 := by
      rw [← hq]
      exact Nat.div_lt_of_lt_mul (by omega)
    cases hX : ((decide (a < 0) != decide (b < 0)) != decide (c < 0))
    · rw [hX] at e
      rw [e]
      exact scale_plain a b c _ _ H L n q r hc0 (by omega) hX C1 C2 C3 (fun w => signed_any false q lq w) w
    · rw [hX] at e
      by_cases hr0 : r = 0
      · rw [if_pos rfl, if_pos hr0] at e
        rw [e]
        exact scale_even a b c _ _ H L n q r hc0 (by omega) hX (by rw [hr0]; rfl) C1 C2 C3 (fun w => signed_any true q lq w) w
      · rw [if_pos rfl, if_neg hr0] at e
        have hrb : ((r : Int) != 0) = true := by rw [bne_iff_ne]; omega
        by_cases hl : q = 18446744073709551615
        · rw [e, smV_out (by omega), smE_out (by omega)]
          exact scale_last a b c H L n q r hc0 (by omega) hX hrb (by rw [beq_iff_eq]; omega) C1 C2 C3 w
        · rw [e, show -(q : Int) - 1 = sgn true (q + 1) by unfold sgn; simp; omega]
          exact scale_odd a b c _ _ H L n q r (q + 1) hc0 (by omega) hX hrb (by rw [beq_eq_false_iff_ne]; omega) (by rw [IntKind.wrap_u64]; omega) C1 C2 C3 (fun w => signed_any true (q + 1) (by omega) w) w

end Go.Proofs.Ytlhlanekklonmaa
