/- The contract of math/bits.Div64 whole, and of num.Scale. -/
import Derived.Test.YtlhlanekklonmaaNumD
import Derived.RegionTactic
import Derived.ChangeAlike
namespace Go.Proofs.Ytlhlanekklonmaa
open Go.RowKit
set_option linter.unusedVariables false

theorem shifted (B P P2 hi lo y : Nat) (hB : B = P2 * P) (hP : 0 < P) (hlo : lo < B) (hh : hi < y) :
    (hi * P + lo / P2) * B + lo * P % B = (hi * B + lo) * P ∧ hi * P + lo / P2 < y * P ∧ lo / P2 < P := by
  have e1 := Nat.div_add_mod' (lo * P) B
  have e2 : lo * P / B = lo / P2 := by rw [hB]; exact Nat.mul_div_mul_right lo P2 hP
  have l : lo / P2 < P := Nat.div_lt_of_lt_mul (by rw [← hB]; exact hlo)
  rw [e2] at e1
  refine ⟨?_, ?_, l⟩
  · rw [Nat.add_mul, Nat.add_mul, Nat.add_assoc, e1, Nat.mul_right_comm]
  · have : (hi + 1) * P ≤ y * P := Nat.mul_le_mul_right _ hh
    rw [Nat.add_mul] at this
    omega

theorem castPow (a s : Nat) : (a : Int) * 2 ^ s = ((a * 2 ^ s : Nat) : Int) := by rw [Int.natCast_mul, Int.natCast_pow]; rfl
theorem castDivPow (a s : Nat) : (a : Int) / 2 ^ s = ((a / 2 ^ s : Nat) : Int) := by rw [Int.natCast_ediv, Int.natCast_pow]; rfl

set_option maxRecDepth 100000 in
set_option maxHeartbeats 400000 in
theorem div64_zero (lo y q r : Nat) (hlo : lo < 18446744073709551616) (hy : y < 18446744073709551616) (h : 0 < y) (hq : Hid (lo / y = q)) (hr : Hid (lo % y = r)) (w : World) :
    Calls Try.prog 13 #[.int .u64 0, .int .u64 lo, .int .u64 y] w fun e w' => e = .returned (.tuple #[.int .u64 (q : Int), .int .u64 (r : Int)]) ∧ Below w.heap.size w w' := by
  have h0 : ((y : Int) == 0) = false := by rw [beq_eq_false_iff_ne]; omega
  have h1 : ¬ (y : Int) ≤ 0 := by omega
  have h2 : ¬ (y : Int) = 0 := by omega
  have e1 : IntKind.u64.wrap ((lo : Int) / (y : Int)) = (q : Int) := by rw [quo_eq lo y hlo, hq.out]
  have e2 : (lo : Int) % (y : Int) = (r : Int) := by rw [← Int.natCast_emod, hr.out]
  go_enter Try.func13, Try.ntmps13
  go_wp2
  go_region
  all_goals (try go_wp2)
  all_goals go_ret2
  all_goals exact ⟨ret_two rfl e2, (Below.refl _ _).drew⟩

theorem div64_pos (hi lo y q r : Nat) (hh : hi < y) (hlo : lo < 18446744073709551616) (hy : y < 18446744073709551616) (h : 0 < hi)
    (hq : (hi * (4294967296 * 4294967296) + lo) / y = q) (hr : (hi * (4294967296 * 4294967296) + lo) % y = r) (w : World) :
    Calls Try.prog 13 #[.int .u64 hi, .int .u64 lo, .int .u64 y] w fun e w' => e = .returned (.tuple #[.int .u64 (q : Int), .int .u64 (r : Int)]) ∧ w' = w := by
  obtain ⟨s, hs, es, y1, y2⟩ := norm y (by omega) hy
  have hB : (4294967296 * 4294967296 : Nat) = 2 ^ (64 - s) * 2 ^ s := by rw [← Nat.pow_add, show 64 - s + s = 64 by omega]
  have hP : 0 < 2 ^ s := Nat.two_pow_pos s
  obtain ⟨g1, g2, g3⟩ := shifted (4294967296 * 4294967296) (2 ^ s) (2 ^ (64 - s)) hi lo y hB hP (by omega) hh
  have C1 := lz64_any y (by omega) (by omega)
  rw [Int.toNat_natCast, es] at C1
  have hH : hi * 2 ^ s < 18446744073709551616 := Nat.lt_trans (Nat.mul_lt_mul_of_pos_right hh hP) y2
  obtain ⟨z1, z2⟩ := Dv.scaled (hi * (4294967296 * 4294967296) + lo) y (2 ^ s) hP
  have eU : bits .or .u64 ((hi * 2 ^ s : Nat) : Int) ((lo : Int) / 2 ^ (64 - s)) = ((hi * 2 ^ s + lo / 2 ^ (64 - s) : Nat) : Int) := by
    rw [castDivPow, bits_or_u64_nat _ _ hH (Nat.lt_of_le_of_lt (Nat.div_le_self _ _) hlo), Nat.mul_comm hi, Nat.two_pow_add_eq_or_of_lt g3 hi]
  have hL : lo * 2 ^ s % (4294967296 * 4294967296) < 18446744073709551616 := Nat.mod_lt _ (by decide)
  generalize hYd : y * 2 ^ s = Y at *
  generalize hUd : hi * 2 ^ s + lo / 2 ^ (64 - s) = U at *
  generalize hLd : lo * 2 ^ s % (4294967296 * 4294967296) = Lw at *
  have hb := dg_init U (Lw / 4294967296) Y (Y / 4294967296) (Y % 4294967296) (by omega) (by omega) (by omega) (by omega) g2 (by omega)
  have core := div64_core hi lo y s Y (Y / 4294967296) (Y % 4294967296) (hi * 2 ^ s) U Lw (Lw / 4294967296) (Lw % 4294967296) (U / (Y / 4294967296)) (U % (Y / 4294967296)) ((hi * (4294967296 * 4294967296) + lo) * 2 ^ s) hh h hs w C1
    (by rw [castPow, hYd, castWrap _ y2]) (castDiv Y) (andLow Y y2) (by rw [castPow, castWrap _ hH]) eU
    (by rw [castPow, castMod]; exact congrArg Int.ofNat hLd) (castDiv Lw) (andLow Lw hL)
    (quo_eq U _ (by omega)) (rem_eq U _ _ (by omega) rfl) y2 (by omega) (by omega) (by omega) (by omega) (by omega) g2
    (show Y = Y / 4294967296 * 4294967296 + Y % 4294967296 by omega) hb
    (show _ = _ by rw [← g1, Nat.div_add_mod' Lw 4294967296])
  rw [z1, z2, Nat.mul_div_cancel _ hP, hq, hr] at core
  exact core

theorem div64_any (hi lo y q r : Nat) (hh : hi < y) (hlo : lo < 18446744073709551616) (hy : y < 18446744073709551616)
    (hq : (hi * (4294967296 * 4294967296) + lo) / y = q) (hr : (hi * (4294967296 * 4294967296) + lo) % y = r) (w : World) :
    Calls Try.prog 13 #[.int .u64 hi, .int .u64 lo, .int .u64 y] w fun e w' => e = .returned (.tuple #[.int .u64 (q : Int), .int .u64 (r : Int)]) ∧ Below w.heap.size w w' := by
  by_cases h : 0 < hi
  · refine (div64_pos hi lo y q r hh hlo hy h hq hr w).mono ?_
    rintro e w' ⟨rfl, rfl⟩
    exact ⟨rfl, Below.refl _ _⟩
  · obtain rfl : hi = 0 := by omega
    rw [Nat.zero_mul, Nat.zero_add] at hq hr
    exact div64_zero lo y q r hlo hy hh hq hr w

end Go.Proofs.Ytlhlanekklonmaa
