/- Contracts of math/bits.Mul64, num.product, num.Mul, num.Mod, num.Split, num.Neg's kin: the product's two halves, the product, what is left, days and microseconds. -/
import Derived.Test.YtgnfkkcagbbhmaaGreatDoorNumBq
namespace Go.Proofs.YtgnfkkcagbbhmaaGreatDoor
open Go.RowKit
set_option linter.unusedVariables false

theorem andLow (a : Nat) (ha : a < 18446744073709551616) : bits .and .u64 (a : Int) 4294967295 = ((a % 4294967296 : Nat) : Int) := by
  have h := bits_and_u64_nat a 4294967295 ha (by omega)
  rw [show a &&& 4294967295 = a % 4294967296 from Nat.and_two_pow_sub_one_eq_mod a 32] at h
  exact h
theorem castDiv (a : Nat) : (a : Int) / 4294967296 = ((a / 4294967296 : Nat) : Int) := by omega
theorem castMul (a b : Nat) : (a : Int) * (b : Int) = ((a * b : Nat) : Int) := (Int.natCast_mul a b).symm
theorem castAdd (a b : Nat) : (a : Int) + (b : Int) = ((a + b : Nat) : Int) := (Int.natCast_add a b).symm
theorem castWrap (a : Nat) (ha : a < 18446744073709551616) : IntKind.u64.wrap (a : Int) = (a : Int) := by rw [IntKind.wrap_u64]; omega
theorem castMod (a : Nat) : IntKind.u64.wrap (a : Int) = ((a % 18446744073709551616 : Nat) : Int) := by rw [IntKind.wrap_u64]; omega

set_option maxHeartbeats 1000000 in
theorem mul64_any (x y : Nat) (hx : x < 18446744073709551616) (hy : y < 18446744073709551616) (w : World) :
    Calls Tryz.prog 176 #[.int .u64 x, .int .u64 y] w fun e w' => e = .returned (.tuple #[.int .u64 ((x * y / 18446744073709551616 : Nat) : Int), .int .u64 ((x * y % 18446744073709551616 : Nat) : Int)]) ∧ w' = w := by
  obtain ⟨bd, bt, bw, hhi⟩ := Lib.mul64_hi x y hx hy
  have ba := Lib.half_mul_le (a := x / 4294967296) (b := y / 4294967296) (by omega) (by omega)
  have bb := Lib.half_mul_le (a := x / 4294967296) (b := y % 4294967296) (by omega) (by omega)
  have bc := Lib.half_mul_le (a := x % 4294967296) (b := y / 4294967296) (by omega) (by omega)
  have ba' : x / 4294967296 * (y / 4294967296) < 18446744073709551616 := by omega
  have bb' : x / 4294967296 * (y % 4294967296) < 18446744073709551616 := by omega
  have bc' : x % 4294967296 * (y / 4294967296) < 18446744073709551616 := by omega
  have b1 : x / 4294967296 * (y / 4294967296) + (x / 4294967296 * (y % 4294967296) + x % 4294967296 * (y % 4294967296) / 4294967296) / 4294967296 < 18446744073709551616 := by omega
  have b2 : x / 4294967296 * (y / 4294967296) + (x / 4294967296 * (y % 4294967296) + x % 4294967296 * (y % 4294967296) / 4294967296) / 4294967296 + ((x / 4294967296 * (y % 4294967296) + x % 4294967296 * (y % 4294967296) / 4294967296) % 4294967296 + x % 4294967296 * (y / 4294967296)) / 4294967296 < 18446744073709551616 := by omega
  go_enter Tryz.func176, Tryz.ntmps176
  go_wp2
  simp only [andLow x hx, andLow y hy, castDiv, castMul, castAdd, castWrap _ bd, castWrap _ bb', castWrap _ bt, andLow _ bt, castWrap _ bc', castWrap _ bw, castWrap _ ba', castWrap _ b1, castWrap _ b2, castMod (x * y)]
  rw [hhi]
  go_ret2
  exact ⟨rfl, rfl⟩

theorem halves (p H L : Nat) (he : (p : Int) = (H : Int) * 18446744073709551616 + L) (hL : L < 18446744073709551616) : p / 18446744073709551616 = H ∧ p % 18446744073709551616 = L := by omega

/-- the halves under names. -/
theorem mul64_hl (x y H L : Nat) (hx : x < 18446744073709551616) (hy : y < 18446744073709551616) (he : ((x * y : Nat) : Int) = (H : Int) * 18446744073709551616 + L) (hL : L < 18446744073709551616) (w : World) :
    Calls Tryz.prog 176 #[.int .u64 x, .int .u64 y] w fun e w' => e = .returned (.tuple #[.int .u64 (H : Int), .int .u64 (L : Int)]) ∧ w' = w := by
  obtain ⟨e1, e2⟩ := halves (x * y) H L he hL
  have := mul64_any x y hx hy w
  rw [e1, e2] at this
  exact this

set_option maxHeartbeats 1000000 in
theorem product_any (a b : Int) (H L : Nat) (h1 : -9223372036854775808 ≤ a) (h2 : a ≤ 9223372036854775807) (h3 : -9223372036854775808 ≤ b) (h4 : b ≤ 9223372036854775807)
    (he : ((a.natAbs * b.natAbs : Nat) : Int) = (H : Int) * 18446744073709551616 + L) (hL : L < 18446744073709551616) (w : World) :
    Calls Tryz.prog 174 #[.int .i64 a, .int .i64 b] w fun e w' => e = .returned (.agg #[.int .u64 (H : Int), .int .u64 (L : Int)]) ∧ Below w.heap.size w w' := by
  have C1 := size_any a h1 h2
  have C2 := size_any b h3 h4
  have C3 := mul64_hl a.natAbs b.natAbs H L (by omega) (by omega) he hL
  generalize a.natAbs = x at *
  generalize b.natAbs = y at *
  have H1 : Hid (∀ w : World, Calls Tryz.prog 177 #[.int .i64 a] w fun e w' => e = .returned (.int .u64 (x : Int)) ∧ w' = w) := C1
  have H2 : Hid (∀ w : World, Calls Tryz.prog 177 #[.int .i64 b] w fun e w' => e = .returned (.int .u64 (y : Int)) ∧ w' = w) := C2
  have H3 : Hid (∀ w : World, Calls Tryz.prog 176 #[.int .u64 x, .int .u64 y] w fun e w' => e = .returned (.tuple #[.int .u64 (H : Int), .int .u64 (L : Int)]) ∧ w' = w) := C3
  clear C1 C2 C3 he
  go_enter Tryz.func174, Tryz.ntmps174
  go_wp2_with fail
  refine (H1.out _).mono ?_
  rintro e w1 ⟨rfl, rfl⟩
  go_wp2_with fail
  refine (H2.out _).mono ?_
  rintro e w1 ⟨rfl, rfl⟩
  go_wp2_with fail
  refine (H3.out _).mono ?_
  rintro e w1 ⟨rfl, rfl⟩
  go_wp2
  exact bodyPost_ret (v := .agg #[.int .u64 (H : Int), .int .u64 (L : Int)]) (by simp [results, Tryz.results174, go_sem]) rfl ⟨rfl, ((Below.refl _ _).alloc (Nat.le_refl _) _).alloc (by simp) _⟩

theorem halves_of (p : Nat) : (p : Int) = ((p / 18446744073709551616 : Nat) : Int) * 18446744073709551616 + (p % 18446744073709551616 : Nat) ∧ p % 18446744073709551616 < 18446744073709551616 := by omega

theorem sgn_of (a b : Int) : sgn (decide (a < 0) != decide (b < 0)) (a.natAbs * b.natAbs) = a * b := by
  have e : ((a.natAbs * b.natAbs : Nat) : Int) = (a.natAbs : Int) * (b.natAbs : Int) := Int.natCast_mul _ _
  unfold sgn
  rw [e]
  by_cases ha : a < 0
  · have ea : (a.natAbs : Int) = -a := by omega
    by_cases hb : b < 0
    · have eb : (b.natAbs : Int) = -b := by omega
      simp [ha, hb, ea, eb, Int.neg_mul, Int.mul_neg]
    · have eb : (b.natAbs : Int) = b := by omega
      simp [ha, hb, ea, eb, Int.neg_mul]
  · have ea : (a.natAbs : Int) = a := by omega
    by_cases hb : b < 0
    · have eb : (b.natAbs : Int) = -b := by omega
      simp [ha, hb, ea, eb, Int.mul_neg]
    · have eb : (b.natAbs : Int) = b := by omega
      simp [ha, hb, ea, eb]

set_option maxHeartbeats 1000000 in
theorem mul_hl (a b : Int) (H L : Nat) (h1 : -9223372036854775808 ≤ a) (h2 : a ≤ 9223372036854775807) (h3 : -9223372036854775808 ≤ b) (h4 : b ≤ 9223372036854775807)
    (he : ((a.natAbs * b.natAbs : Nat) : Int) = (H : Int) * 18446744073709551616 + L) (hL : L < 18446744073709551616) (w : World) :
    Calls Tryz.prog 172 #[.int .i64 a, .int .i64 b] w fun e w' => e = .returned (.tuple #[.int .i64 (smV (a * b)), .int .i64 (smE (a * b))]) ∧ Below w.heap.size w w' := by
  have C1 := product_any a b H L h1 h2 h3 h4 he hL
  have H1 : Hid (∀ w : World, Calls Tryz.prog 174 #[.int .i64 a, .int .i64 b] w fun e w' => e = .returned (.agg #[.int .u64 (H : Int), .int .u64 (L : Int)]) ∧ Below w.heap.size w w') := C1
  clear C1
  have hs := sgn_of a b
  by_cases hz : H = 0
  · have e1 : a.natAbs * b.natAbs = L := by omega
    rw [e1] at hs
    have H2 : Hid (∀ w : World, Calls Tryz.prog 175 #[.bool (decide (a < 0) != decide (b < 0)), .int .u64 L] w fun e w' => e = .returned (.tuple #[.int .i64 (smV (a * b)), .int .i64 (smE (a * b))]) ∧ w' = w) := by
      intro w
      rw [← hs]
      exact signed_any _ L hL w
    have hn : ((H : Int) != 0) = false := by rw [hz]; rfl
    clear he hs e1 hz
    go_enter Tryz.func172, Tryz.ntmps172
    go_wp2_with fail
    refine (H1.out _).mono ?_
    rintro e w1 ⟨rfl, hb1⟩
    have hz1 := hb1.size
    go_wp2_with fail
    refine (H2.out _).mono ?_
    rintro e w2 ⟨rfl, rfl⟩
    go_wp2
    go_ret2
    exact ⟨rfl, hb1.alloc (Nat.le_trans hz1 (Nat.le_refl _)) _⟩
  · have hn : ((H : Int) != 0) = true := by rw [bne_iff_ne]; omega
    have ho : a * b < -9223372036854775808 ∨ 9223372036854775807 < a * b := by
      rw [← hs]
      have : 18446744073709551616 ≤ a.natAbs * b.natAbs := by omega
      unfold sgn
      split <;> omega
    rw [smV_out ho, smE_out ho]
    clear he hs ho hz
    go_enter Tryz.func172, Tryz.ntmps172
    go_wp2_with fail
    refine (H1.out _).mono ?_
    rintro e w1 ⟨rfl, hb1⟩
    have hz1 := hb1.size
    go_wp2_with fail
    go_ret2
    exact ⟨rfl, hb1.alloc (Nat.le_trans hz1 (Nat.le_refl _)) _⟩

theorem mul_any (a b : Int) (h1 : -9223372036854775808 ≤ a) (h2 : a ≤ 9223372036854775807) (h3 : -9223372036854775808 ≤ b) (h4 : b ≤ 9223372036854775807) (w : World) :
    Calls Tryz.prog 172 #[.int .i64 a, .int .i64 b] w fun e w' => e = .returned (.tuple #[.int .i64 (smV (a * b)), .int .i64 (smE (a * b))]) ∧ Below w.heap.size w w' :=
  mul_hl a b _ _ h1 h2 h3 h4 (halves_of _).1 (halves_of _).2 w

end Go.Proofs.YtgnfkkcagbbhmaaGreatDoor
