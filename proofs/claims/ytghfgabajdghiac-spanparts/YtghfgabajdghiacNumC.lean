/- Contracts of math/bits.Mul64, num.product, num.Mul, num.Mod, num.Split, num.Neg's kin: the product's two halves, the product, what is left, days and microseconds. -/
import Derived.Test.YtghfgabajdghiacNumB
namespace Go.Proofs.Ytghfgabajdghiac
open Go.RowKit
set_option linter.unusedVariables false

theorem andLow (a : Nat) (ha : a < 18446744073709551616) : bits .and .u64 (a : Int) 4294967295 = ((a % 4294967296 : Nat) : Int) := by
  have h := bits_and_u64_nat a 4294967295 ha (by omega)
  rw [show a &&& 4294967295 = a % 4294967296 from Nat.and_two_pow_sub_one_eq_mod a 32] at h
  exact h
theorem castDiv (a : Nat) : (a : Int) / 4294967296 = ((a / 4294967296 : Nat) : Int) := by omega
theorem castMul (a b : Nat) : (a : Int) * (b : Int) = ((a * b : Nat) : Int) := (Int.natCast_mul a b).symm
theorem castAdd (a b : Nat) : (a : Int) + (b : Int) = ((a + b : Nat) : Int) := (Int.natCast_add a b).symm
theorem castWrap (a : Nat) (ha : a < 18446744073709551616) : IntKind.u64.wrap (a : Int) = (a : Int) := by rw [IntKind.wrap_u64]; omega
theorem castMod (a : Nat) : IntKind.u64.wrap (a : Int) = ((a % 18446744073709551616 : Nat) : Int) := by rw [IntKind.wrap_u64]; omega

set_option maxHeartbeats 1000000 in
theorem mul64_any (x y : Nat) (hx : x < 18446744073709551616) (hy : y < 18446744073709551616) (w : World) :
    Calls Try.prog 35 #[.int .u64 x, .int .u64 y] w fun e w' => e = .returned (.tuple #[.int .u64 ((x * y / 18446744073709551616 : Nat) : Int), .int .u64 ((x * y % 18446744073709551616 : Nat) : Int)]) ∧ w' = w := by
  obtain ⟨bd, bt, bw, hhi⟩ := Lib.mul64_hi x y hx hy
  have ba := Lib.half_mul_le (a := x / 4294967296) (b := y / 4294967296) (by omega) (by omega)
  have bb := Lib.half_mul_le (a := x / 4294967296) (b := y % 4294967296) (by omega) (by omega)
  have bc := Lib.half_mul_le (a := x % 4294967296) (b := y / 4294967296) (by omega) (by omega)
  have ba' : x / 4294967296 * (y / 4294967296) < 18446744073709551616 := by omega
  have bb' : x / 4294967296 * (y % 4294967296) < 18446744073709551616 := by omega
  have bc' : x % 4294967296 * (y / 4294967296) < 18446744073709551616 := by omega
  have b1 : x / 4294967296 * (y / 4294967296) + (x / 4294967296 * (y % 4294967296) + x % 4294967296 * (y % 4294967296) / 4294967296) / 4294967296 < 18446744073709551616 := by omega
  have b2 : x / 4294967296 * (y / 4294967296) + (x / 4294967296 * (y % 4294967296) + x % 4294967296 * (y % 4294967296) / 4294967296) / 4294967296 + ((x / 4294967296 * (y % 4294967296) + x % 4294967296 * (y % 4294967296) / 4294967296) % 4294967296 + x % 4294967296 * (y / 4294967296)) / 4294967296 < 18446744073709551616 := by omega
  go_enter Try.func35, Try.ntmps35
  go_wp2
  simp only [andLow x hx, andLow y hy, castDiv, castMul, castAdd, castWrap _ bd, castWrap _ bb', castWrap _ bt, andLow _ bt, castWrap _ bc', castWrap _ bw, castWrap _ ba', castWrap _ b1, castWrap _ b2, castMod (x * y)]
  rw [hhi]
  go_ret2
  exact ⟨rfl, rfl⟩

theorem halves (p H L : Nat) (he : (p : Int) = (H : Int) * 18446744073709551616 + L) (hL : L < 18446744073709551616) : p / 18446744073709551616 = H ∧ p % 18446744073709551616 = L := by omega

/-- the halves under names. -/
theorem mul64_hl (x y H L : Nat) (hx : x < 18446744073709551616) (hy : y < 18446744073709551616) (he : ((x * y : Nat) : Int) = (H : Int) * 18446744073709551616 + L) (hL : L < 18446744073709551616) (w : World) :
    Calls Try.prog 35 #[.int .u64 x, .int .u64 y] w fun e w' => e = .returned (.tuple #[.int .u64 (H : Int), .int .u64 (L : Int)]) ∧ w' = w := by
  obtain ⟨e1, e2⟩ := halves (x * y) H L he hL
  have := mul64_any x y hx hy w
  rw [e1, e2] at this
  exact this

set_option maxHeartbeats 1000000 in
theorem product_any (a b : Int) (H L : Nat) (h1 : -9223372036854775808 ≤ a) (h2 : a ≤ 9223372036854775807) (h3 : -9223372036854775808 ≤ b) (h4 : b ≤ 9223372036854775807)
    (he : ((a.natAbs * b.natAbs : Nat) : Int) = (H : Int) * 18446744073709551616 + L) (hL : L < 18446744073709551616) (w : World) :
    Calls Try.prog 33 #[.int .i64 a, .int .i64 b] w fun e w' => e = .returned (.agg #[.int .u64 (H : Int), .int .u64 (L : Int)]) ∧ Below w.heap.size w w' := by
  have C1 := size_any a h1 h2
  have C2 := size_any b h3 h4
  have C3 := mul64_hl a.natAbs b.natAbs H L (by omega) (by omega) he hL
  generalize a.natAbs = x at *
  generalize b.natAbs = y at *
  have H1 : Hid (∀ w : World, Calls Try.prog 36 #[.int .i64 a] w fun e w' => e = .returned (.int .u64 (x : Int)) ∧ w' = w) := C1
  have H2 : Hid (∀ w : World, Calls Try.prog 36 #[.int .i64 b] w fun e w' => e = .returned (.int .u64 (y : Int)) ∧ w' = w) := C2
  have H3 : Hid (∀ w : World, Calls Try.prog 35 #[.int .u64 x, .int .u64 y] w fun e w' => e = .returned (.tuple #[.int .u64 (H : Int), .int .u64 (L : Int)]) ∧ w' = w) := C3
  clear C1 C2 C3 he
  go_enter Try.func33, Try.ntmps33
  go_wp2_with fail
  refine (H1.out _).mono ?_
  rintro e w1 ⟨rfl, rfl⟩
  go_wp2_with fail
  refine (H2.out _).mono ?_
  rintro e w1 ⟨rfl, rfl⟩
  go_wp2_with fail
  refine (H3.out _).mono ?_
  rintro e w1 ⟨rfl, rfl⟩
  go_wp2
  exact bodyPost_ret (v := .agg #[.int .u64 (H : Int), .int .u64 (L : Int)]) (by simp [results, Try.results33, go_sem]) rfl ⟨rfl, ((Below.refl _ _).alloc (Nat.le_refl _) _).alloc (by simp) _⟩

theorem halves_of (p : Nat) : (p : Int) = ((p / 18446744073709551616 : Nat) : Int) * 18446744073709551616 + (p % 18446744073709551616 : Nat) ∧ p % 18446744073709551616 < 18446744073709551616 := by omega

theorem sgn_of (a b : Int) : sgn (decide (a < 0) != decide (b < 0)) (a.natAbs * b.natAbs) = a * b := by
  have e : ((a.natAbs * b.natAbs : Nat) : Int) = (a.natAbs : Int) * (b.natAbs : Int) := Int.natCast_mul _ _
  unfold sgn
  rw [e]
  by_cases ha : a < 0
  · have ea : (a.natAbs : Int) = -a := by omega
    by_cases hb : b < 0
    · have eb : (b.natAbs : Int) = -b := by omega
      simp [ha, hb, ea, eb, Int.neg_mul, Int.mul_neg]
    · have eb : (b.natAbs : Int) = b := by omega
      simp [ha, hb, ea, eb, Int.neg_mul]
  · have ea : (a.natAbs : Int) = a := by omega
    by_cases hb : b < 0
    · have eb : (b.natAbs : Int) = -b := by omega
      simp [ha, hb, ea, eb, Int.mul_neg]
    · have eb : (b.natAbs : Int) = b := by omega
      simp [ha, hb, ea, eb]

set_option maxHeartbeats 1000000 in
theorem mul_hl (a b : Int) (H L : Nat) (h1 : -9223372036854775808 ≤ a) (h2 : a ≤ 9223372036854775807) (h3 : -9223372036854775808 ≤ b) (h4 : b ≤ 9223372036854775807)
    (he : ((a.natAbs * b.natAbs : Nat) : Int) = (H : Int) * 18446744073709551616 + L) (hL : L < 18446744073709551616) (w : World) :
    Calls Try.prog 30 #[.int .i64 a, .int .i64 b] w fun e w' => e = .returned (.tuple #[.int .i64 (smV (a * b)), .int .i64 (smE (a * b))]) ∧ Below w.heap.size w w' := by
  have C1 := product_any a b H L h1 h2 h3 h4 he hL
  have H1 : Hid (∀ w : World, Calls Try.prog 33 #[.int .i64 a, .int .i64 b] w fun e w' => e = .returned (.agg #[.int .u64 (H : Int), .int .u64 (L : Int)]) ∧ Below w.heap.size w w') := C1
  clear C1
  have hs := sgn_of a b
  by_cases hz : H = 0
  · have e1 : a.natAbs * b.natAbs = L := by omega
    rw [e1] at hs
    have H2 : Hid (∀ w : World, Calls Try.prog 34 #[.bool (decide (a < 0) != decide (b < 0)), .int .u64 L] w fun e w' => e = .returned (.tuple #[.int .i64 (smV (a * b)), .int .i64 (smE (a * b))]) ∧ w' = w) := by
      intro w
      rw [← hs]
      exact signed_any _ L hL w
    have hn : ((H : Int) != 0) = false := by rw [hz]; rfl
    clear he hs e1 hz
    go_enter Try.func30, Try.ntmps30
    go_wp2_with fail
    refine (H1.out _).mono ?_
    rintro e w1 ⟨rfl, hb1⟩
    have hz1 := hb1.size
    go_wp2_with fail
    refine (H2.out _).mono ?_
    rintro e w2 ⟨rfl, rfl⟩
    go_wp2
    go_ret2
    exact ⟨rfl, hb1.alloc (Nat.le_trans hz1 (Nat.le_refl _)) _⟩
  · have hn : ((H : Int) != 0) = true := by rw [bne_iff_ne]; omega
    have ho : a * b < -9223372036854775808 ∨ 9223372036854775807 < a * b := by
      rw [← hs]
      have : 18446744073709551616 ≤ a.natAbs * b.natAbs := by omega
      unfold sgn
      split <;> omega
    rw [smV_out ho, smE_out ho]
    clear he hs ho hz
    go_enter Try.func30, Try.ntmps30
    go_wp2_with fail
    refine (H1.out _).mono ?_
    rintro e w1 ⟨rfl, hb1⟩
    have hz1 := hb1.size
    go_wp2_with fail
    go_ret2
    exact ⟨rfl, hb1.alloc (Nat.le_trans hz1 (Nat.le_refl _)) _⟩

theorem mul_any (a b : Int) (h1 : -9223372036854775808 ≤ a) (h2 : a ≤ 9223372036854775807) (h3 : -9223372036854775808 ≤ b) (h4 : b ≤ 9223372036854775807) (w : World) :
    Calls Try.prog 30 #[.int .i64 a, .int .i64 b] w fun e w' => e = .returned (.tuple #[.int .i64 (smV (a * b)), .int .i64 (smE (a * b))]) ∧ Below w.heap.size w w' :=
  mul_hl a b _ _ h1 h2 h3 h4 (halves_of _).1 (halves_of _).2 w

set_option maxHeartbeats 400000 in
theorem mod_zero (a : Int) (w : World) :
    Calls Try.prog 32 #[.int .i64 a, .int .i64 0] w fun e w' => e = .returned (.tuple #[.int .i64 0, .int .i64 11]) ∧ w' = w := by
  go_enter Try.func32, Try.ntmps32
  go_wp2
  go_ret2
  exact ⟨rfl, rfl⟩

set_option maxHeartbeats 400000 in
theorem mod_in (a b : Int) (h3 : -9223372036854775808 ≤ b) (h4 : b ≤ 9223372036854775807) (hb : b ≠ 0) (w : World) :
    Calls Try.prog 32 #[.int .i64 a, .int .i64 b] w fun e w' => e = .returned (.tuple #[.int .i64 (a.fmod b), .int .i64 0]) ∧ w' = w := by
  have hb0 : (b == 0) = false := by rw [beq_eq_false_iff_ne]; exact hb
  have bd := Nm.tmod_bd (a := a) hb
  by_cases hz : a.tmod b = 0
  · have hq : Hid (a.fmod b = a.tmod b) := (Nm.keep hb (.inl hz)).2
    have hz' : (a.tmod b != 0) = false := by rw [hz]; rfl
    clear hz
    go_enter Try.func32, Try.ntmps32
    go_wp2
    go_ret2
    exact ⟨ret_two hq.out.symm rfl, rfl⟩
  · have hz' : (a.tmod b != 0) = true := by rw [bne_iff_ne]; exact hz
    by_cases hs : a.tmod b < 0 ↔ b < 0
    · have hq : Hid (a.fmod b = a.tmod b) := (Nm.keep hb (.inr hs)).2
      by_cases hn : b < 0
      · have hm : a.tmod b < 0 := hs.2 hn
        clear hs hz
        go_enter Try.func32, Try.ntmps32
        go_wp2
        go_ret2
        exact ⟨ret_two hq.out.symm rfl, rfl⟩
      · have hm : ¬ a.tmod b < 0 := fun x => hn (hs.1 x)
        clear hs hz
        go_enter Try.func32, Try.ntmps32
        go_wp2
        go_ret2
        exact ⟨ret_two hq.out.symm rfl, rfl⟩
    · have hq : Hid (a.fmod b = a.tmod b + b) := (Nm.down hb hz hs).2
      by_cases hn : b < 0
      · have hm : ¬ a.tmod b < 0 := fun x => hs ⟨fun _ => hn, fun _ => x⟩
        have l1 : -9223372036854775808 ≤ a.tmod b + b := by omega
        have l2 : a.tmod b + b ≤ 9223372036854775807 := by omega
        clear hs hz
        go_enter Try.func32, Try.ntmps32
        go_wp2
        go_ret2
        exact ⟨ret_two hq.out.symm rfl, rfl⟩
      · have hm : a.tmod b < 0 := by
          by_cases x : a.tmod b < 0
          · exact x
          · exact absurd ⟨fun y => absurd y x, fun y => absurd y hn⟩ hs
        have l1 : -9223372036854775808 ≤ a.tmod b + b := by omega
        have l2 : a.tmod b + b ≤ 9223372036854775807 := by omega
        clear hs hz
        go_enter Try.func32, Try.ntmps32
        go_wp2
        go_ret2
        exact ⟨ret_two hq.out.symm rfl, rfl⟩

theorem day_div (u : Int) : u.fdiv 86400000000 = u / 86400000000 := Int.fdiv_eq_ediv_of_nonneg u (by decide)
theorem day_mod (u : Int) : u.fmod 86400000000 = u % 86400000000 := Int.fmod_eq_emod_of_nonneg u (by decide)

set_option maxHeartbeats 400000 in
theorem split_any (u : Int) (h1 : -9223372036854775808 ≤ u) (h2 : u ≤ 9223372036854775807) (w : World) :
    Calls Try.prog 28 #[.int .i64 u] w fun e w' => e = .returned (.tuple #[.int .i64 (u / 86400000000), .int .i64 (u % 86400000000)]) ∧ w' = w := by
  have C1 := div_in u 86400000000 h1 h2 (by decide) (by decide) (by decide) (.inr (by decide))
  have C2 := mod_in u 86400000000 (by decide) (by decide) (by decide)
  rw [day_div] at C1
  rw [day_mod] at C2
  have H1 : Hid (∀ w : World, Calls Try.prog 31 #[.int .i64 u, .int .i64 86400000000] w fun e w' => e = .returned (.tuple #[.int .i64 (u / 86400000000), .int .i64 0]) ∧ w' = w) := C1
  have H2 : Hid (∀ w : World, Calls Try.prog 32 #[.int .i64 u, .int .i64 86400000000] w fun e w' => e = .returned (.tuple #[.int .i64 (u % 86400000000), .int .i64 0]) ∧ w' = w) := C2
  clear C1 C2
  go_enter Try.func28, Try.ntmps28
  go_wp2_with fail
  refine (H1.out _).mono ?_
  rintro e w1 ⟨rfl, rfl⟩
  go_wp2_with fail
  refine (H2.out _).mono ?_
  rintro e w1 ⟨rfl, rfl⟩
  go_wp2
  go_ret2
  exact ⟨rfl, rfl⟩

end Go.Proofs.Ytghfgabajdghiac
