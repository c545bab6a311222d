/- series: the reference's Count. -/
import Derived.Test.YtoglkfchiidmmaaDoorSeFq
namespace Go.Proofs.YtoglkfchiidmmaaDoor
open Go.RowKit
set_option linter.unusedVariables false

/-- a number in a block of the call's own. -/
def wC (x : Int) (g : Nat) : List Value := [.bool (decide (x < 0)), .slice (some ⟨g, 0, none⟩) 6 6]

def wB (q : Bool) (g : Nat) : List Value := [.bool q, .slice (some ⟨g, 0, none⟩) 6 6]
theorem isW_set {W : World} {v : Value} {x : Int} {b : Nat} {q : Bool} (h : IsW W v x) (hc : W.cell? ⟨b, 0, none⟩ = some (.bool q)) (p r : Value) : IsW ((W.setCell ⟨b, 0, none⟩ p).setCell ⟨b, 1, none⟩ r) v x := by
  obtain ⟨g, e, hr⟩ := h
  have hne : b ≠ g := fun e => by
    have := hr.2.2 0 (by decide)
    rw [← e, hc] at this
    cases this
  exact ⟨g, e, (hr.setCell (a := ⟨b, 0, none⟩) hne p).setCell (a := ⟨b, 1, none⟩) hne r⟩

theorem rcount_zero (a b : Int) (w : World) : Calls Tryd.prog 8 #[.int .i64 a, .int .i64 b, .int .i64 0] w fun r w' => r = .returned (.tuple #[.int .u64 0, .int .i64 11]) ∧ Below w.heap.size w w' := by
  go_enter Tryd.func8, Tryd.ntmps8
  go_wp2_with fail
  go_ret2
  exact ⟨rfl, Below.refl _ _⟩

set_option maxRecDepth 100000 in
set_option maxHeartbeats 8000000 in
theorem rcount_upn (a b s x y : Int) (a1 : -9223372036854775808 ≤ a) (a2 : a ≤ 9223372036854775807) (b1 : -9223372036854775808 ≤ b) (b2 : b ≤ 9223372036854775807) (s1 : -9223372036854775808 ≤ s) (s2 : s ≤ 9223372036854775807) (hs : 0 < s) (hx : b + -a < 0) (w : World) :
    Calls Tryd.prog 8 #[.int .i64 a, .int .i64 b, .int .i64 s] w fun r w' => r = .returned (.tuple #[.int .u64 0, .int .i64 0]) ∧ Below w.heap.size w w' := by
  have HX : Hid (b + -a < 0) := hx
  clear hx
  have hs0 : (s == 0) = false := by simpa using (show ¬ s = 0 by omega)
  have hbig : (b + -a).natAbs ≤ 36893488147419103232 := by omega
  have HS1 : Hid (b.natAbs + (-a).natAbs < 4294967296 ^ 6) := Nat.lt_of_le_of_lt (show b.natAbs + (-a).natAbs ≤ 36893488147419103232 by omega) (by decide)
  go_enter Tryd.func8, Tryd.ntmps8
  go_wp2_with fail
  refine (wof b b1 b2 _).mono ?_
  rintro e w1 ⟨v1, rfl, W1, B1⟩
  go_wp2_with fail
  refine (wof a a1 a2 _).mono ?_
  rintro e w2 ⟨v2, rfl, W2, b2'⟩
  have W1' := W1.below b2'
  have B2 := B1.trans (b2'.mono B1.size)
  clear W1 b2' B1
  go_wp2_with fail
  refine (wminus v2 a _ W2).mono ?_
  rintro e w3 ⟨v3, rfl, W3, b3⟩
  have W13 := W1'.below b3
  have B3 := B2.trans (b3.mono B2.size)
  clear W2 b3 B2 W1'
  go_wp2_with fail
  refine (wplus v1 v3 b (-a) _ W13 W3 HS1.out).mono ?_
  rintro e w4 ⟨v4, rfl, W4, b4⟩
  have B4 := B3.trans (b4.mono B3.size)
  clear b4 B3 W13 W3
  obtain ⟨g1, rfl, R1⟩ := W4
  have K4 : Hid (BS w [] w4) := ⟨B4, fun x h => by cases h⟩
  have Mz := bsn K4 (wC (b + -a) g1) 40
  unfold wC at Mz
  go_upto_region 4 with fail
  refine gen_to (fun V => Hid (BS w [(w4.heap.size, wC (b + -a) g1)] V) ∧ Hid (Row V g1 (b + -a).natAbs)) ⟨Mz, R1.alloc _⟩ ?_
  clear Mz K4 R1 B4
  generalize w4.heap.size = G
  rintro V ⟨K, R⟩
  go_wp2_with fail
  refine (wof s s1 s2 _).mono ?_
  rintro e w5 ⟨v5, rfl, W5, b5⟩
  have K5 := bsb K b5
  have R5 : Hid (Row w5 g1 (b + -a).natAbs) := R.out.below b5 R.out.2.1
  clear b5 K R
  obtain ⟨g2, rfl, R2⟩ := W5
  have hG := (bo1 K5).1
  have Mz := bsn K5 (wC s g2) 40
  unfold wC at Mz
  go_upto_region 5 with fail
  refine gen_to (fun V => Hid (BS w [(w5.heap.size, wC s g2), (G, wC (b + -a) g1)] V) ∧ Hid (Row V g1 (b + -a).natAbs) ∧ Hid (Row V g2 s.natAbs)) ⟨Mz, R5.out.alloc _, R2.alloc _⟩ ?_
  clear Mz K5 R5 R2
  generalize w5.heap.size = Y9 at *
  rintro V ⟨K, R, R2⟩
  have IG : Hid (IsW V (.agg #[.bool (decide (b + -a < 0)), .slice (some ⟨g1, 0, none⟩) 6 6]) (b + -a)) := ⟨g1, rfl, R.out⟩
  have IY : Hid (IsW V (.agg #[.bool (decide (s < 0)), .slice (some ⟨g2, 0, none⟩) 6 6]) s) := ⟨g2, rfl, R2.out⟩
  clear R R2
  obtain ⟨c0, c1⟩ := (show Bx V Y9 [_, _] from bo1 K).c2
  obtain ⟨d0, d1⟩ := (show Bx V G [_, _] from bo2 K).c2
  obtain ⟨sy, hsy⟩ : ∃ q, decide (s < 0) = q := ⟨_, rfl⟩
  rw [hsy] at c0 IY
  clear hsy
  obtain ⟨sx, hsx⟩ : ∃ q, decide (b + -a < 0) = q := ⟨_, rfl⟩
  have hsx2 : sx = true := by rw [← hsx]; exact decide_eq_true HX.out
  subst hsx2
  rw [hsx] at d0
  clear hsx
  go_wp2_with fail
  go_ret2
  exact ⟨rfl, K.out.1⟩

set_option maxRecDepth 100000 in
set_option maxHeartbeats 8000000 in
theorem rcount_up (a b s x y : Int) (a1 : -9223372036854775808 ≤ a) (a2 : a ≤ 9223372036854775807) (b1 : -9223372036854775808 ≤ b) (b2 : b ≤ 9223372036854775807) (s1 : -9223372036854775808 ≤ s) (s2 : s ≤ 9223372036854775807) (hs : 0 < s) (n : Nat) (hx : ¬ b + -a < 0) (hn : (b + -a).fdiv (s) + 1 = (n : Int)) (u : Int) (hu : u = (n : Int)) (hb : n < 18446744073709551616) (w : World) :
    Calls Tryd.prog 8 #[.int .i64 a, .int .i64 b, .int .i64 s] w fun r w' => r = .returned (.tuple #[.int .u64 u, .int .i64 0]) ∧ Below w.heap.size w w' := by
  have hs0 : (s == 0) = false := by simpa using (show ¬ s = 0 by omega)
  have hbig : (b + -a).natAbs ≤ 36893488147419103232 := by omega
  have HS1 : Hid (b.natAbs + (-a).natAbs < 4294967296 ^ 6) := Nat.lt_of_le_of_lt (show b.natAbs + (-a).natAbs ≤ 36893488147419103232 by omega) (by decide)
  have HN : Hid ((b + -a).fdiv (s) + 1 = (n : Int)) := hn
  clear hn
  have HU : Hid (u = (n : Int)) := hu
  clear hu
  have HD : Hid (Wd.dg n 2 = 0 ∧ Wd.dg n 1 * 4294967296 + Wd.dg n 0 = n) := by show _ ∧ _; unfold Wd.dg; rw [show (4294967296 : Nat) ^ 2 = 18446744073709551616 from rfl]; constructor; omega; simp; omega
  go_enter Tryd.func8, Tryd.ntmps8
  go_wp2_with fail
  refine (wof b b1 b2 _).mono ?_
  rintro e w1 ⟨v1, rfl, W1, B1⟩
  go_wp2_with fail
  refine (wof a a1 a2 _).mono ?_
  rintro e w2 ⟨v2, rfl, W2, b2'⟩
  have W1' := W1.below b2'
  have B2 := B1.trans (b2'.mono B1.size)
  clear W1 b2' B1
  go_wp2_with fail
  refine (wminus v2 a _ W2).mono ?_
  rintro e w3 ⟨v3, rfl, W3, b3⟩
  have W13 := W1'.below b3
  have B3 := B2.trans (b3.mono B2.size)
  clear W2 b3 B2 W1'
  go_wp2_with fail
  refine (wplus v1 v3 b (-a) _ W13 W3 HS1.out).mono ?_
  rintro e w4 ⟨v4, rfl, W4, b4⟩
  have B4 := B3.trans (b4.mono B3.size)
  clear b4 B3 W13 W3
  obtain ⟨g1, rfl, R1⟩ := W4
  have K4 : Hid (BS w [] w4) := ⟨B4, fun x h => by cases h⟩
  have Mz := bsn K4 (wC (b + -a) g1) 40
  unfold wC at Mz
  go_upto_region 4 with fail
  refine gen_to (fun V => Hid (BS w [(w4.heap.size, wC (b + -a) g1)] V) ∧ Hid (Row V g1 (b + -a).natAbs)) ⟨Mz, R1.alloc _⟩ ?_
  clear Mz K4 R1 B4
  generalize w4.heap.size = G
  rintro V ⟨K, R⟩
  go_wp2_with fail
  refine (wof s s1 s2 _).mono ?_
  rintro e w5 ⟨v5, rfl, W5, b5⟩
  have K5 := bsb K b5
  have R5 : Hid (Row w5 g1 (b + -a).natAbs) := R.out.below b5 R.out.2.1
  clear b5 K R
  obtain ⟨g2, rfl, R2⟩ := W5
  have hG := (bo1 K5).1
  have Mz := bsn K5 (wC s g2) 40
  unfold wC at Mz
  go_upto_region 5 with fail
  refine gen_to (fun V => Hid (BS w [(w5.heap.size, wC s g2), (G, wC (b + -a) g1)] V) ∧ Hid (Row V g1 (b + -a).natAbs) ∧ Hid (Row V g2 s.natAbs)) ⟨Mz, R5.out.alloc _, R2.alloc _⟩ ?_
  clear Mz K5 R5 R2
  generalize w5.heap.size = Y9 at *
  rintro V ⟨K, R, R2⟩
  have IG : Hid (IsW V (.agg #[.bool (decide (b + -a < 0)), .slice (some ⟨g1, 0, none⟩) 6 6]) (b + -a)) := ⟨g1, rfl, R.out⟩
  have IY : Hid (IsW V (.agg #[.bool (decide (s < 0)), .slice (some ⟨g2, 0, none⟩) 6 6]) s) := ⟨g2, rfl, R2.out⟩
  clear R R2
  obtain ⟨c0, c1⟩ := (show Bx V Y9 [_, _] from bo1 K).c2
  obtain ⟨d0, d1⟩ := (show Bx V G [_, _] from bo2 K).c2
  obtain ⟨sy, hsy⟩ : ∃ q, decide (s < 0) = q := ⟨_, rfl⟩
  rw [hsy] at c0 IY
  clear hsy
  have hsx : decide (b + -a < 0) = false := decide_eq_false (by omega)
  rw [hsx] at d0 IG
  clear hsx
  have HQ1 : Hid ((b + -a).natAbs < 4294967296 ^ 5) := Nat.lt_of_le_of_lt (show (b + -a).natAbs ≤ 36893488147419103232 by omega) (by decide)
  go_wp2_with fail
  refine (wover _ _ (b + -a) (s) _ IG.out IY.out (by omega) HQ1.out (by omega)).mono ?_
  rintro e w7 ⟨v7, rfl, W7, b7⟩
  have K7 := bsb K b7
  clear b7 K IG IY c0 c1 d0 d1
  go_wp2_with fail
  refine (wof 1 (by decide) (by decide) _).mono ?_
  rintro e w8 ⟨v8, rfl, W8, b8⟩
  have K8 := bsb K7 b8
  have W78 := W7.below b8
  clear b8 K7 W7
  have HQ : Hid (((b + -a).fdiv (s)).natAbs + (1 : Int).natAbs < 4294967296 ^ 6) := by
    have hN := HN.out; generalize (b + -a).fdiv (s) = q at *; exact Nat.lt_of_le_of_lt (show q.natAbs + (1 : Int).natAbs ≤ 79228162514264337593543950340 by omega) (by decide)
  go_wp2_with fail
  refine (wplus v7 v8 _ 1 _ W78 W8 HQ.out).mono ?_
  rintro e w9 ⟨v9, rfl, W9, b9⟩
  have K9 := bsb K8 b9
  rw [HN.out] at W9
  clear b9 K8 W78 W8 HQ
  obtain ⟨g9, rfl, R9⟩ := W9
  rw [Int.natAbs_natCast] at R9
  rw [show decide ((n : Int) < 0) = false from decide_eq_false (by omega)]
  have Mz := bsn K9 [.bool false, .slice (some ⟨g9, 0, none⟩) 6 6] 40
  go_upto_region 11 with fail
  refine gen_to (fun V => Hid (Below w.heap.size w V ∧ Bx V w9.heap.size [.bool false, .slice (some ⟨g9, 0, none⟩) 6 6]) ∧ Hid (Row V g9 n)) ⟨⟨Mz.out.1, Mz.out.first⟩, R9.alloc _⟩ ?_
  clear Mz K9 R9
  generalize w9.heap.size = N9 at *
  rintro U ⟨KB, RN⟩
  obtain ⟨m0, m1⟩ := KB.out.2.c2
  have HB : Hid (Below w.heap.size w U) := KB.out.1
  clear KB
  have r2 := RN.out.2.2 2 (by decide)
  rw [HD.out.1] at r2
  have c0 := RN.out.2.2 0 (by decide)
  have c1 := RN.out.2.2 1 (by decide)
  have d0 := Wd.dg_lt n 0
  have d1 := Wd.dg_lt n 1
  have hor := low_two d1 d0
  rw [HD.out.2] at hor
  rw [← HU.out] at hor
  obtain ⟨x0, hx0⟩ : ∃ x : Int, x = ((Wd.dg n 0 : Nat) : Int) := ⟨_, rfl⟩
  obtain ⟨x1, hx1⟩ : ∃ x : Int, x = ((Wd.dg n 1 : Nat) : Int) := ⟨_, rfl⟩
  rw [← hx0] at c0 hor
  rw [← hx1] at c1 hor
  have b00 : 0 ≤ x0 := by omega
  have b01 : x0 < 4294967296 := by omega
  have b10 : 0 ≤ x1 := by omega
  have b11 : x1 < 4294967296 := by omega
  have bu0 : 0 ≤ u := by have := HU.out; omega
  have bu1 : u < 18446744073709551616 := by have := HU.out; omega
  clear HD RN HN hx0 hx1 d0 d1 hb
  go_wp2_with fail
  go_quiet (fail)
  go_wp2
  go_ret2
  exact ⟨rfl, wbelow_drewN HB.out nq⟩

set_option maxRecDepth 100000 in
set_option maxHeartbeats 8000000 in
theorem rcount_upb (a b s x y : Int) (a1 : -9223372036854775808 ≤ a) (a2 : a ≤ 9223372036854775807) (b1 : -9223372036854775808 ≤ b) (b2 : b ≤ 9223372036854775807) (s1 : -9223372036854775808 ≤ s) (s2 : s ≤ 9223372036854775807) (hs : 0 < s) (n : Nat) (hx : ¬ b + -a < 0) (hn : (b + -a).fdiv (s) + 1 = (n : Int)) (hb : 18446744073709551616 ≤ n ∧ n < 79228162514264337593543950336) (w : World) :
    Calls Tryd.prog 8 #[.int .i64 a, .int .i64 b, .int .i64 s] w fun r w' => r = .returned (.tuple #[.int .u64 0, .int .i64 10]) ∧ Below w.heap.size w w' := by
  have hs0 : (s == 0) = false := by simpa using (show ¬ s = 0 by omega)
  have hbig : (b + -a).natAbs ≤ 36893488147419103232 := by omega
  have HS1 : Hid (b.natAbs + (-a).natAbs < 4294967296 ^ 6) := Nat.lt_of_le_of_lt (show b.natAbs + (-a).natAbs ≤ 36893488147419103232 by omega) (by decide)
  have HN : Hid ((b + -a).fdiv (s) + 1 = (n : Int)) := hn
  clear hn
  have HD : Hid (¬ Wd.dg n 2 = 0) := by show ¬ _; unfold Wd.dg; rw [show (4294967296 : Nat) ^ 2 = 18446744073709551616 from rfl]; omega
  go_enter Tryd.func8, Tryd.ntmps8
  go_wp2_with fail
  refine (wof b b1 b2 _).mono ?_
  rintro e w1 ⟨v1, rfl, W1, B1⟩
  go_wp2_with fail
  refine (wof a a1 a2 _).mono ?_
  rintro e w2 ⟨v2, rfl, W2, b2'⟩
  have W1' := W1.below b2'
  have B2 := B1.trans (b2'.mono B1.size)
  clear W1 b2' B1
  go_wp2_with fail
  refine (wminus v2 a _ W2).mono ?_
  rintro e w3 ⟨v3, rfl, W3, b3⟩
  have W13 := W1'.below b3
  have B3 := B2.trans (b3.mono B2.size)
  clear W2 b3 B2 W1'
  go_wp2_with fail
  refine (wplus v1 v3 b (-a) _ W13 W3 HS1.out).mono ?_
  rintro e w4 ⟨v4, rfl, W4, b4⟩
  have B4 := B3.trans (b4.mono B3.size)
  clear b4 B3 W13 W3
  obtain ⟨g1, rfl, R1⟩ := W4
  have K4 : Hid (BS w [] w4) := ⟨B4, fun x h => by cases h⟩
  have Mz := bsn K4 (wC (b + -a) g1) 40
  unfold wC at Mz
  go_upto_region 4 with fail
  refine gen_to (fun V => Hid (BS w [(w4.heap.size, wC (b + -a) g1)] V) ∧ Hid (Row V g1 (b + -a).natAbs)) ⟨Mz, R1.alloc _⟩ ?_
  clear Mz K4 R1 B4
  generalize w4.heap.size = G
  rintro V ⟨K, R⟩
  go_wp2_with fail
  refine (wof s s1 s2 _).mono ?_
  rintro e w5 ⟨v5, rfl, W5, b5⟩
  have K5 := bsb K b5
  have R5 : Hid (Row w5 g1 (b + -a).natAbs) := R.out.below b5 R.out.2.1
  clear b5 K R
  obtain ⟨g2, rfl, R2⟩ := W5
  have hG := (bo1 K5).1
  have Mz := bsn K5 (wC s g2) 40
  unfold wC at Mz
  go_upto_region 5 with fail
  refine gen_to (fun V => Hid (BS w [(w5.heap.size, wC s g2), (G, wC (b + -a) g1)] V) ∧ Hid (Row V g1 (b + -a).natAbs) ∧ Hid (Row V g2 s.natAbs)) ⟨Mz, R5.out.alloc _, R2.alloc _⟩ ?_
  clear Mz K5 R5 R2
  generalize w5.heap.size = Y9 at *
  rintro V ⟨K, R, R2⟩
  have IG : Hid (IsW V (.agg #[.bool (decide (b + -a < 0)), .slice (some ⟨g1, 0, none⟩) 6 6]) (b + -a)) := ⟨g1, rfl, R.out⟩
  have IY : Hid (IsW V (.agg #[.bool (decide (s < 0)), .slice (some ⟨g2, 0, none⟩) 6 6]) s) := ⟨g2, rfl, R2.out⟩
  clear R R2
  obtain ⟨c0, c1⟩ := (show Bx V Y9 [_, _] from bo1 K).c2
  obtain ⟨d0, d1⟩ := (show Bx V G [_, _] from bo2 K).c2
  obtain ⟨sy, hsy⟩ : ∃ q, decide (s < 0) = q := ⟨_, rfl⟩
  rw [hsy] at c0 IY
  clear hsy
  have hsx : decide (b + -a < 0) = false := decide_eq_false (by omega)
  rw [hsx] at d0 IG
  clear hsx
  have HQ1 : Hid ((b + -a).natAbs < 4294967296 ^ 5) := Nat.lt_of_le_of_lt (show (b + -a).natAbs ≤ 36893488147419103232 by omega) (by decide)
  go_wp2_with fail
  refine (wover _ _ (b + -a) (s) _ IG.out IY.out (by omega) HQ1.out (by omega)).mono ?_
  rintro e w7 ⟨v7, rfl, W7, b7⟩
  have K7 := bsb K b7
  clear b7 K IG IY c0 c1 d0 d1
  go_wp2_with fail
  refine (wof 1 (by decide) (by decide) _).mono ?_
  rintro e w8 ⟨v8, rfl, W8, b8⟩
  have K8 := bsb K7 b8
  have W78 := W7.below b8
  clear b8 K7 W7
  have HQ : Hid (((b + -a).fdiv (s)).natAbs + (1 : Int).natAbs < 4294967296 ^ 6) := by
    have hN := HN.out; generalize (b + -a).fdiv (s) = q at *; exact Nat.lt_of_le_of_lt (show q.natAbs + (1 : Int).natAbs ≤ 79228162514264337593543950340 by omega) (by decide)
  go_wp2_with fail
  refine (wplus v7 v8 _ 1 _ W78 W8 HQ.out).mono ?_
  rintro e w9 ⟨v9, rfl, W9, b9⟩
  have K9 := bsb K8 b9
  rw [HN.out] at W9
  clear b9 K8 W78 W8 HQ
  obtain ⟨g9, rfl, R9⟩ := W9
  rw [Int.natAbs_natCast] at R9
  rw [show decide ((n : Int) < 0) = false from decide_eq_false (by omega)]
  have Mz := bsn K9 [.bool false, .slice (some ⟨g9, 0, none⟩) 6 6] 40
  go_upto_region 11 with fail
  refine gen_to (fun V => Hid (Below w.heap.size w V ∧ Bx V w9.heap.size [.bool false, .slice (some ⟨g9, 0, none⟩) 6 6]) ∧ Hid (Row V g9 n)) ⟨⟨Mz.out.1, Mz.out.first⟩, R9.alloc _⟩ ?_
  clear Mz K9 R9
  generalize w9.heap.size = N9 at *
  rintro U ⟨KB, RN⟩
  obtain ⟨m0, m1⟩ := KB.out.2.c2
  have HB : Hid (Below w.heap.size w U) := KB.out.1
  clear KB
  have r2 := RN.out.2.2 2 (by decide)
  have hd : (((Wd.dg n 2 : Nat) : Int) != 0) = true := by rw [bne_iff_ne]; have := HD.out; omega
  generalize Wd.dg n 2 = z2 at *
  clear HD RN HN
  go_wp2_with fail
  go_ret2
  exact ⟨rfl, HB.out⟩

set_option maxRecDepth 100000 in
set_option maxHeartbeats 8000000 in
theorem rcount_dnn (a b s x y : Int) (a1 : -9223372036854775808 ≤ a) (a2 : a ≤ 9223372036854775807) (b1 : -9223372036854775808 ≤ b) (b2 : b ≤ 9223372036854775807) (s1 : -9223372036854775808 ≤ s) (s2 : s ≤ 9223372036854775807) (hs : s < 0) (hx : -(b + -a) < 0) (w : World) :
    Calls Tryd.prog 8 #[.int .i64 a, .int .i64 b, .int .i64 s] w fun r w' => r = .returned (.tuple #[.int .u64 0, .int .i64 0]) ∧ Below w.heap.size w w' := by
  have HX : Hid (-(b + -a) < 0) := hx
  clear hx
  have hs0 : (s == 0) = false := by simpa using (show ¬ s = 0 by omega)
  have hbig : (b + -a).natAbs ≤ 36893488147419103232 := by omega
  have HS1 : Hid (b.natAbs + (-a).natAbs < 4294967296 ^ 6) := Nat.lt_of_le_of_lt (show b.natAbs + (-a).natAbs ≤ 36893488147419103232 by omega) (by decide)
  go_enter Tryd.func8, Tryd.ntmps8
  go_wp2_with fail
  refine (wof b b1 b2 _).mono ?_
  rintro e w1 ⟨v1, rfl, W1, B1⟩
  go_wp2_with fail
  refine (wof a a1 a2 _).mono ?_
  rintro e w2 ⟨v2, rfl, W2, b2'⟩
  have W1' := W1.below b2'
  have B2 := B1.trans (b2'.mono B1.size)
  clear W1 b2' B1
  go_wp2_with fail
  refine (wminus v2 a _ W2).mono ?_
  rintro e w3 ⟨v3, rfl, W3, b3⟩
  have W13 := W1'.below b3
  have B3 := B2.trans (b3.mono B2.size)
  clear W2 b3 B2 W1'
  go_wp2_with fail
  refine (wplus v1 v3 b (-a) _ W13 W3 HS1.out).mono ?_
  rintro e w4 ⟨v4, rfl, W4, b4⟩
  have B4 := B3.trans (b4.mono B3.size)
  clear b4 B3 W13 W3
  obtain ⟨g1, rfl, R1⟩ := W4
  have K4 : Hid (BS w [] w4) := ⟨B4, fun x h => by cases h⟩
  have Mz := bsn K4 (wC (b + -a) g1) 40
  unfold wC at Mz
  go_upto_region 4 with fail
  refine gen_to (fun V => Hid (BS w [(w4.heap.size, wC (b + -a) g1)] V) ∧ Hid (Row V g1 (b + -a).natAbs)) ⟨Mz, R1.alloc _⟩ ?_
  clear Mz K4 R1 B4
  generalize w4.heap.size = G
  rintro V ⟨K, R⟩
  go_wp2_with fail
  refine (wof s s1 s2 _).mono ?_
  rintro e w5 ⟨v5, rfl, W5, b5⟩
  have K5 := bsb K b5
  have R5 : Hid (Row w5 g1 (b + -a).natAbs) := R.out.below b5 R.out.2.1
  clear b5 K R
  obtain ⟨g2, rfl, R2⟩ := W5
  have HDT : Hid (decide (s < 0) = true) := decide_eq_true hs
  rw [HDT.out]
  have hG := (bo1 K5).1
  have Mz := bsn K5 (wB true g2) 40
  unfold wB at Mz
  go_upto_region 5 with fail
  refine gen_to (fun V => Hid (BS w [(w5.heap.size, wB true g2), (G, wC (b + -a) g1)] V) ∧ Hid (Row V g1 (b + -a).natAbs) ∧ Hid (Row V g2 s.natAbs)) ⟨Mz, R5.out.alloc _, R2.alloc _⟩ ?_
  clear Mz K5 R5 R2
  generalize w5.heap.size = Y9 at *
  rintro V ⟨K, R, R2⟩
  have IG : Hid (IsW V (.agg #[.bool (decide (b + -a < 0)), .slice (some ⟨g1, 0, none⟩) 6 6]) (b + -a)) := ⟨g1, rfl, R.out⟩
  have IY : Hid (IsW V (.agg #[.bool true, .slice (some ⟨g2, 0, none⟩) 6 6]) s) := ⟨g2, by rw [HDT.out], R2.out⟩
  clear R R2
  obtain ⟨c0, c1⟩ := (show Bx V Y9 [_, _] from bo1 K).c2
  obtain ⟨d0, d1⟩ := (show Bx V G [_, _] from bo2 K).c2
  obtain ⟨e0, e1⟩ := (show Bx V G [_, _] from bo2 K).f2
  obtain ⟨sx0, hsx0⟩ : ∃ q, decide (b + -a < 0) = q := ⟨_, rfl⟩
  rw [hsx0] at d0 IG
  clear hsx0
  go_wp2_with fail
  refine (wminus _ _ _ IG.out).mono ?_
  rintro e w6 ⟨v6, rfl, W6, b6⟩
  have K6 := bsb K b6
  have IY6 : Hid (IsW w6 (.agg #[.bool true, .slice (some ⟨g2, 0, none⟩) 6 6]) s) := IY.out.below b6
  clear b6 K IG IY c0 c1 d0 d1 e0 e1
  obtain ⟨g3, rfl, R3⟩ := W6
  obtain ⟨sx1, hsx1⟩ : ∃ q, decide (-(b + -a) < 0) = q := ⟨_, rfl⟩
  rw [hsx1]
  have HSX : Hid (decide (-(b + -a) < 0) = sx1) := hsx1
  clear hsx1
  obtain ⟨d0, d1⟩ := (show Bx w6 G [_, _] from bo2 K6).c2
  obtain ⟨e0, e1⟩ := (show Bx w6 G [_, _] from bo2 K6).f2
  have Mz : Hid (BS w [(G, wB sx1 g3), (Y9, wB true g2)] (w6.setCells G 0 (wB sx1 g3))) := K6.out.swap.set (wB sx1 g3) rfl (by intro z hz; simp only [List.mem_cons, List.not_mem_nil, or_false] at hz; subst hz; simp only []; omega)
  simp only [World.setCells, wB, Nat.zero_add] at Mz
  have IG : Hid (IsW ((w6.setCell ⟨G, 0, none⟩ (.bool sx1)).setCell ⟨G, 1, none⟩ (.slice (some ⟨g3, 0, none⟩) 6 6)) (.agg #[.bool sx1, .slice (some ⟨g3, 0, none⟩) 6 6]) (-(b + -a))) := isW_set ⟨g3, by rw [← HSX.out], R3⟩ d0 _ _
  have IY : Hid (IsW ((w6.setCell ⟨G, 0, none⟩ (.bool sx1)).setCell ⟨G, 1, none⟩ (.slice (some ⟨g3, 0, none⟩) 6 6)) (.agg #[.bool true, .slice (some ⟨g2, 0, none⟩) 6 6]) s) := isW_set IY6.out d0 _ _
  go_upto_region 7 with fail
  refine gen_to (fun V => Hid (BS w [(G, wB sx1 g3), (Y9, wB true g2)] V) ∧ Hid (IsW V (.agg #[.bool sx1, .slice (some ⟨g3, 0, none⟩) 6 6]) (-(b + -a))) ∧ Hid (IsW V (.agg #[.bool true, .slice (some ⟨g2, 0, none⟩) 6 6]) s)) ⟨Mz, IG, IY⟩ ?_
  clear Mz IG IY K6 IY6 R3 d0 d1 e0 e1
  rintro V6 ⟨K, IG, IY⟩
  obtain ⟨c0, c1⟩ := (show Bx V6 Y9 [_, _] from bo2 K).c2
  go_wp2_with fail
  refine (wminus _ _ _ IY.out).mono ?_
  rintro e w6 ⟨v6, rfl, W6, b6⟩
  have K6 := bsb K b6
  have IG6 : Hid (IsW w6 (.agg #[.bool sx1, .slice (some ⟨g3, 0, none⟩) 6 6]) (-(b + -a))) := IG.out.below b6
  clear b6 K IG IY c0 c1
  obtain ⟨g4, rfl, R4⟩ := W6
  obtain ⟨sy1, hsy1⟩ : ∃ q, decide (-s < 0) = q := ⟨_, rfl⟩
  rw [hsy1]
  have HSY1 : Hid (decide (-s < 0) = sy1) := hsy1
  clear hsy1
  obtain ⟨d0, d1⟩ := (show Bx w6 Y9 [_, _] from bo2 K6).c2
  obtain ⟨e0, e1⟩ := (show Bx w6 Y9 [_, _] from bo2 K6).f2
  have Mz : Hid (BS w [(Y9, wB sy1 g4), (G, wB sx1 g3)] (w6.setCells Y9 0 (wB sy1 g4))) := K6.out.swap.set (wB sy1 g4) rfl (by intro z hz; simp only [List.mem_cons, List.not_mem_nil, or_false] at hz; subst hz; simp only []; omega)
  simp only [World.setCells, wB, Nat.zero_add] at Mz
  have IY : Hid (IsW ((w6.setCell ⟨Y9, 0, none⟩ (.bool sy1)).setCell ⟨Y9, 1, none⟩ (.slice (some ⟨g4, 0, none⟩) 6 6)) (.agg #[.bool sy1, .slice (some ⟨g4, 0, none⟩) 6 6]) (-s)) := isW_set ⟨g4, by rw [← HSY1.out], R4⟩ d0 _ _
  have IG : Hid (IsW ((w6.setCell ⟨Y9, 0, none⟩ (.bool sy1)).setCell ⟨Y9, 1, none⟩ (.slice (some ⟨g4, 0, none⟩) 6 6)) (.agg #[.bool sx1, .slice (some ⟨g3, 0, none⟩) 6 6]) (-(b + -a))) := isW_set IG6.out d0 _ _
  go_upto_region 8 with fail
  refine gen_to (fun V => Hid (BS w [(Y9, wB sy1 g4), (G, wB sx1 g3)] V) ∧ Hid (IsW V (.agg #[.bool sx1, .slice (some ⟨g3, 0, none⟩) 6 6]) (-(b + -a))) ∧ Hid (IsW V (.agg #[.bool sy1, .slice (some ⟨g4, 0, none⟩) 6 6]) (-s))) ⟨Mz, IG, IY⟩ ?_
  clear Mz IG IY K6 IG6 R4 d0 d1 e0 e1
  rintro V6 ⟨K, IG, IY⟩
  obtain ⟨c0, c1⟩ := (show Bx V6 Y9 [_, _] from bo1 K).c2
  obtain ⟨d0, d1⟩ := (show Bx V6 G [_, _] from bo2 K).c2
  have hsx9 := HSX.out
  have hsx2 : sx1 = true := by rw [← hsx9]; exact decide_eq_true HX.out
  subst hsx2
  clear hsx9
  go_wp2_with fail
  go_ret2
  exact ⟨rfl, K.out.1⟩

set_option maxRecDepth 100000 in
set_option maxHeartbeats 8000000 in
theorem rcount_dn (a b s x y : Int) (a1 : -9223372036854775808 ≤ a) (a2 : a ≤ 9223372036854775807) (b1 : -9223372036854775808 ≤ b) (b2 : b ≤ 9223372036854775807) (s1 : -9223372036854775808 ≤ s) (s2 : s ≤ 9223372036854775807) (hs : s < 0) (n : Nat) (hx : ¬ -(b + -a) < 0) (hn : (-(b + -a)).fdiv (-s) + 1 = (n : Int)) (u : Int) (hu : u = (n : Int)) (hb : n < 18446744073709551616) (w : World) :
    Calls Tryd.prog 8 #[.int .i64 a, .int .i64 b, .int .i64 s] w fun r w' => r = .returned (.tuple #[.int .u64 u, .int .i64 0]) ∧ Below w.heap.size w w' := by
  have hs0 : (s == 0) = false := by simpa using (show ¬ s = 0 by omega)
  have hbig : (b + -a).natAbs ≤ 36893488147419103232 := by omega
  have HS1 : Hid (b.natAbs + (-a).natAbs < 4294967296 ^ 6) := Nat.lt_of_le_of_lt (show b.natAbs + (-a).natAbs ≤ 36893488147419103232 by omega) (by decide)
  have HN : Hid ((-(b + -a)).fdiv (-s) + 1 = (n : Int)) := hn
  clear hn
  have HU : Hid (u = (n : Int)) := hu
  clear hu
  have HD : Hid (Wd.dg n 2 = 0 ∧ Wd.dg n 1 * 4294967296 + Wd.dg n 0 = n) := by show _ ∧ _; unfold Wd.dg; rw [show (4294967296 : Nat) ^ 2 = 18446744073709551616 from rfl]; constructor; omega; simp; omega
  go_enter Tryd.func8, Tryd.ntmps8
  go_wp2_with fail
  refine (wof b b1 b2 _).mono ?_
  rintro e w1 ⟨v1, rfl, W1, B1⟩
  go_wp2_with fail
  refine (wof a a1 a2 _).mono ?_
  rintro e w2 ⟨v2, rfl, W2, b2'⟩
  have W1' := W1.below b2'
  have B2 := B1.trans (b2'.mono B1.size)
  clear W1 b2' B1
  go_wp2_with fail
  refine (wminus v2 a _ W2).mono ?_
  rintro e w3 ⟨v3, rfl, W3, b3⟩
  have W13 := W1'.below b3
  have B3 := B2.trans (b3.mono B2.size)
  clear W2 b3 B2 W1'
  go_wp2_with fail
  refine (wplus v1 v3 b (-a) _ W13 W3 HS1.out).mono ?_
  rintro e w4 ⟨v4, rfl, W4, b4⟩
  have B4 := B3.trans (b4.mono B3.size)
  clear b4 B3 W13 W3
  obtain ⟨g1, rfl, R1⟩ := W4
  have K4 : Hid (BS w [] w4) := ⟨B4, fun x h => by cases h⟩
  have Mz := bsn K4 (wC (b + -a) g1) 40
  unfold wC at Mz
  go_upto_region 4 with fail
  refine gen_to (fun V => Hid (BS w [(w4.heap.size, wC (b + -a) g1)] V) ∧ Hid (Row V g1 (b + -a).natAbs)) ⟨Mz, R1.alloc _⟩ ?_
  clear Mz K4 R1 B4
  generalize w4.heap.size = G
  rintro V ⟨K, R⟩
  go_wp2_with fail
  refine (wof s s1 s2 _).mono ?_
  rintro e w5 ⟨v5, rfl, W5, b5⟩
  have K5 := bsb K b5
  have R5 : Hid (Row w5 g1 (b + -a).natAbs) := R.out.below b5 R.out.2.1
  clear b5 K R
  obtain ⟨g2, rfl, R2⟩ := W5
  have HDT : Hid (decide (s < 0) = true) := decide_eq_true hs
  rw [HDT.out]
  have hG := (bo1 K5).1
  have Mz := bsn K5 (wB true g2) 40
  unfold wB at Mz
  go_upto_region 5 with fail
  refine gen_to (fun V => Hid (BS w [(w5.heap.size, wB true g2), (G, wC (b + -a) g1)] V) ∧ Hid (Row V g1 (b + -a).natAbs) ∧ Hid (Row V g2 s.natAbs)) ⟨Mz, R5.out.alloc _, R2.alloc _⟩ ?_
  clear Mz K5 R5 R2
  generalize w5.heap.size = Y9 at *
  rintro V ⟨K, R, R2⟩
  have IG : Hid (IsW V (.agg #[.bool (decide (b + -a < 0)), .slice (some ⟨g1, 0, none⟩) 6 6]) (b + -a)) := ⟨g1, rfl, R.out⟩
  have IY : Hid (IsW V (.agg #[.bool true, .slice (some ⟨g2, 0, none⟩) 6 6]) s) := ⟨g2, by rw [HDT.out], R2.out⟩
  clear R R2
  obtain ⟨c0, c1⟩ := (show Bx V Y9 [_, _] from bo1 K).c2
  obtain ⟨d0, d1⟩ := (show Bx V G [_, _] from bo2 K).c2
  obtain ⟨e0, e1⟩ := (show Bx V G [_, _] from bo2 K).f2
  obtain ⟨sx0, hsx0⟩ : ∃ q, decide (b + -a < 0) = q := ⟨_, rfl⟩
  rw [hsx0] at d0 IG
  clear hsx0
  go_wp2_with fail
  refine (wminus _ _ _ IG.out).mono ?_
  rintro e w6 ⟨v6, rfl, W6, b6⟩
  have K6 := bsb K b6
  have IY6 : Hid (IsW w6 (.agg #[.bool true, .slice (some ⟨g2, 0, none⟩) 6 6]) s) := IY.out.below b6
  clear b6 K IG IY c0 c1 d0 d1 e0 e1
  obtain ⟨g3, rfl, R3⟩ := W6
  obtain ⟨sx1, hsx1⟩ : ∃ q, decide (-(b + -a) < 0) = q := ⟨_, rfl⟩
  rw [hsx1]
  have HSX : Hid (decide (-(b + -a) < 0) = sx1) := hsx1
  clear hsx1
  obtain ⟨d0, d1⟩ := (show Bx w6 G [_, _] from bo2 K6).c2
  obtain ⟨e0, e1⟩ := (show Bx w6 G [_, _] from bo2 K6).f2
  have Mz : Hid (BS w [(G, wB sx1 g3), (Y9, wB true g2)] (w6.setCells G 0 (wB sx1 g3))) := K6.out.swap.set (wB sx1 g3) rfl (by intro z hz; simp only [List.mem_cons, List.not_mem_nil, or_false] at hz; subst hz; simp only []; omega)
  simp only [World.setCells, wB, Nat.zero_add] at Mz
  have IG : Hid (IsW ((w6.setCell ⟨G, 0, none⟩ (.bool sx1)).setCell ⟨G, 1, none⟩ (.slice (some ⟨g3, 0, none⟩) 6 6)) (.agg #[.bool sx1, .slice (some ⟨g3, 0, none⟩) 6 6]) (-(b + -a))) := isW_set ⟨g3, by rw [← HSX.out], R3⟩ d0 _ _
  have IY : Hid (IsW ((w6.setCell ⟨G, 0, none⟩ (.bool sx1)).setCell ⟨G, 1, none⟩ (.slice (some ⟨g3, 0, none⟩) 6 6)) (.agg #[.bool true, .slice (some ⟨g2, 0, none⟩) 6 6]) s) := isW_set IY6.out d0 _ _
  go_upto_region 7 with fail
  refine gen_to (fun V => Hid (BS w [(G, wB sx1 g3), (Y9, wB true g2)] V) ∧ Hid (IsW V (.agg #[.bool sx1, .slice (some ⟨g3, 0, none⟩) 6 6]) (-(b + -a))) ∧ Hid (IsW V (.agg #[.bool true, .slice (some ⟨g2, 0, none⟩) 6 6]) s)) ⟨Mz, IG, IY⟩ ?_
  clear Mz IG IY K6 IY6 R3 d0 d1 e0 e1
  rintro V6 ⟨K, IG, IY⟩
  obtain ⟨c0, c1⟩ := (show Bx V6 Y9 [_, _] from bo2 K).c2
  go_wp2_with fail
  refine (wminus _ _ _ IY.out).mono ?_
  rintro e w6 ⟨v6, rfl, W6, b6⟩
  have K6 := bsb K b6
  have IG6 : Hid (IsW w6 (.agg #[.bool sx1, .slice (some ⟨g3, 0, none⟩) 6 6]) (-(b + -a))) := IG.out.below b6
  clear b6 K IG IY c0 c1
  obtain ⟨g4, rfl, R4⟩ := W6
  obtain ⟨sy1, hsy1⟩ : ∃ q, decide (-s < 0) = q := ⟨_, rfl⟩
  rw [hsy1]
  have HSY1 : Hid (decide (-s < 0) = sy1) := hsy1
  clear hsy1
  obtain ⟨d0, d1⟩ := (show Bx w6 Y9 [_, _] from bo2 K6).c2
  obtain ⟨e0, e1⟩ := (show Bx w6 Y9 [_, _] from bo2 K6).f2
  have Mz : Hid (BS w [(Y9, wB sy1 g4), (G, wB sx1 g3)] (w6.setCells Y9 0 (wB sy1 g4))) := K6.out.swap.set (wB sy1 g4) rfl (by intro z hz; simp only [List.mem_cons, List.not_mem_nil, or_false] at hz; subst hz; simp only []; omega)
  simp only [World.setCells, wB, Nat.zero_add] at Mz
  have IY : Hid (IsW ((w6.setCell ⟨Y9, 0, none⟩ (.bool sy1)).setCell ⟨Y9, 1, none⟩ (.slice (some ⟨g4, 0, none⟩) 6 6)) (.agg #[.bool sy1, .slice (some ⟨g4, 0, none⟩) 6 6]) (-s)) := isW_set ⟨g4, by rw [← HSY1.out], R4⟩ d0 _ _
  have IG : Hid (IsW ((w6.setCell ⟨Y9, 0, none⟩ (.bool sy1)).setCell ⟨Y9, 1, none⟩ (.slice (some ⟨g4, 0, none⟩) 6 6)) (.agg #[.bool sx1, .slice (some ⟨g3, 0, none⟩) 6 6]) (-(b + -a))) := isW_set IG6.out d0 _ _
  go_upto_region 8 with fail
  refine gen_to (fun V => Hid (BS w [(Y9, wB sy1 g4), (G, wB sx1 g3)] V) ∧ Hid (IsW V (.agg #[.bool sx1, .slice (some ⟨g3, 0, none⟩) 6 6]) (-(b + -a))) ∧ Hid (IsW V (.agg #[.bool sy1, .slice (some ⟨g4, 0, none⟩) 6 6]) (-s))) ⟨Mz, IG, IY⟩ ?_
  clear Mz IG IY K6 IG6 R4 d0 d1 e0 e1
  rintro V6 ⟨K, IG, IY⟩
  obtain ⟨c0, c1⟩ := (show Bx V6 Y9 [_, _] from bo1 K).c2
  obtain ⟨d0, d1⟩ := (show Bx V6 G [_, _] from bo2 K).c2
  have hsx9 := HSX.out
  have hsx2 : sx1 = false := by rw [← hsx9]; exact decide_eq_false (by omega)
  subst hsx2
  clear hsx9
  have HQ1 : Hid ((-(b + -a)).natAbs < 4294967296 ^ 5) := Nat.lt_of_le_of_lt (show (-(b + -a)).natAbs ≤ 36893488147419103232 by omega) (by decide)
  go_wp2_with fail
  refine (wover _ _ (-(b + -a)) (-s) _ IG.out IY.out (by omega) HQ1.out (by omega)).mono ?_
  rintro e w7 ⟨v7, rfl, W7, b7⟩
  have K7 := bsb K b7
  clear b7 K IG IY c0 c1 d0 d1
  go_wp2_with fail
  refine (wof 1 (by decide) (by decide) _).mono ?_
  rintro e w8 ⟨v8, rfl, W8, b8⟩
  have K8 := bsb K7 b8
  have W78 := W7.below b8
  clear b8 K7 W7
  have HQ : Hid (((-(b + -a)).fdiv (-s)).natAbs + (1 : Int).natAbs < 4294967296 ^ 6) := by
    have hN := HN.out; generalize (-(b + -a)).fdiv (-s) = q at *; exact Nat.lt_of_le_of_lt (show q.natAbs + (1 : Int).natAbs ≤ 79228162514264337593543950340 by omega) (by decide)
  go_wp2_with fail
  refine (wplus v7 v8 _ 1 _ W78 W8 HQ.out).mono ?_
  rintro e w9 ⟨v9, rfl, W9, b9⟩
  have K9 := bsb K8 b9
  rw [HN.out] at W9
  clear b9 K8 W78 W8 HQ
  obtain ⟨g9, rfl, R9⟩ := W9
  rw [Int.natAbs_natCast] at R9
  rw [show decide ((n : Int) < 0) = false from decide_eq_false (by omega)]
  have Mz := bsn K9 [.bool false, .slice (some ⟨g9, 0, none⟩) 6 6] 40
  go_upto_region 11 with fail
  refine gen_to (fun V => Hid (Below w.heap.size w V ∧ Bx V w9.heap.size [.bool false, .slice (some ⟨g9, 0, none⟩) 6 6]) ∧ Hid (Row V g9 n)) ⟨⟨Mz.out.1, Mz.out.first⟩, R9.alloc _⟩ ?_
  clear Mz K9 R9
  generalize w9.heap.size = N9 at *
  rintro U ⟨KB, RN⟩
  obtain ⟨m0, m1⟩ := KB.out.2.c2
  have HB : Hid (Below w.heap.size w U) := KB.out.1
  clear KB
  have r2 := RN.out.2.2 2 (by decide)
  rw [HD.out.1] at r2
  have c0 := RN.out.2.2 0 (by decide)
  have c1 := RN.out.2.2 1 (by decide)
  have d0 := Wd.dg_lt n 0
  have d1 := Wd.dg_lt n 1
  have hor := low_two d1 d0
  rw [HD.out.2] at hor
  rw [← HU.out] at hor
  obtain ⟨x0, hx0⟩ : ∃ x : Int, x = ((Wd.dg n 0 : Nat) : Int) := ⟨_, rfl⟩
  obtain ⟨x1, hx1⟩ : ∃ x : Int, x = ((Wd.dg n 1 : Nat) : Int) := ⟨_, rfl⟩
  rw [← hx0] at c0 hor
  rw [← hx1] at c1 hor
  have b00 : 0 ≤ x0 := by omega
  have b01 : x0 < 4294967296 := by omega
  have b10 : 0 ≤ x1 := by omega
  have b11 : x1 < 4294967296 := by omega
  have bu0 : 0 ≤ u := by have := HU.out; omega
  have bu1 : u < 18446744073709551616 := by have := HU.out; omega
  clear HD RN HN hx0 hx1 d0 d1 hb
  go_wp2_with fail
  go_quiet (fail)
  go_wp2
  go_ret2
  exact ⟨rfl, wbelow_drewN HB.out nq⟩

set_option maxRecDepth 100000 in
set_option maxHeartbeats 8000000 in
theorem rcount_dnb (a b s x y : Int) (a1 : -9223372036854775808 ≤ a) (a2 : a ≤ 9223372036854775807) (b1 : -9223372036854775808 ≤ b) (b2 : b ≤ 9223372036854775807) (s1 : -9223372036854775808 ≤ s) (s2 : s ≤ 9223372036854775807) (hs : s < 0) (n : Nat) (hx : ¬ -(b + -a) < 0) (hn : (-(b + -a)).fdiv (-s) + 1 = (n : Int)) (hb : 18446744073709551616 ≤ n ∧ n < 79228162514264337593543950336) (w : World) :
    Calls Tryd.prog 8 #[.int .i64 a, .int .i64 b, .int .i64 s] w fun r w' => r = .returned (.tuple #[.int .u64 0, .int .i64 10]) ∧ Below w.heap.size w w' := by
  have hs0 : (s == 0) = false := by simpa using (show ¬ s = 0 by omega)
  have hbig : (b + -a).natAbs ≤ 36893488147419103232 := by omega
  have HS1 : Hid (b.natAbs + (-a).natAbs < 4294967296 ^ 6) := Nat.lt_of_le_of_lt (show b.natAbs + (-a).natAbs ≤ 36893488147419103232 by omega) (by decide)
  have HN : Hid ((-(b + -a)).fdiv (-s) + 1 = (n : Int)) := hn
  clear hn
  have HD : Hid (¬ Wd.dg n 2 = 0) := by show ¬ _; unfold Wd.dg; rw [show (4294967296 : Nat) ^ 2 = 18446744073709551616 from rfl]; omega
  go_enter Tryd.func8, Tryd.ntmps8
  go_wp2_with fail
  refine (wof b b1 b2 _).mono ?_
  rintro e w1 ⟨v1, rfl, W1, B1⟩
  go_wp2_with fail
  refine (wof a a1 a2 _).mono ?_
  rintro e w2 ⟨v2, rfl, W2, b2'⟩
  have W1' := W1.below b2'
  have B2 := B1.trans (b2'.mono B1.size)
  clear W1 b2' B1
  go_wp2_with fail
  refine (wminus v2 a _ W2).mono ?_
  rintro e w3 ⟨v3, rfl, W3, b3⟩
  have W13 := W1'.below b3
  have B3 := B2.trans (b3.mono B2.size)
  clear W2 b3 B2 W1'
  go_wp2_with fail
  refine (wplus v1 v3 b (-a) _ W13 W3 HS1.out).mono ?_
  rintro e w4 ⟨v4, rfl, W4, b4⟩
  have B4 := B3.trans (b4.mono B3.size)
  clear b4 B3 W13 W3
  obtain ⟨g1, rfl, R1⟩ := W4
  have K4 : Hid (BS w [] w4) := ⟨B4, fun x h => by cases h⟩
  have Mz := bsn K4 (wC (b + -a) g1) 40
  unfold wC at Mz
  go_upto_region 4 with fail
  refine gen_to (fun V => Hid (BS w [(w4.heap.size, wC (b + -a) g1)] V) ∧ Hid (Row V g1 (b + -a).natAbs)) ⟨Mz, R1.alloc _⟩ ?_
  clear Mz K4 R1 B4
  generalize w4.heap.size = G
  rintro V ⟨K, R⟩
  go_wp2_with fail
  refine (wof s s1 s2 _).mono ?_
  rintro e w5 ⟨v5, rfl, W5, b5⟩
  have K5 := bsb K b5
  have R5 : Hid (Row w5 g1 (b + -a).natAbs) := R.out.below b5 R.out.2.1
  clear b5 K R
  obtain ⟨g2, rfl, R2⟩ := W5
  have HDT : Hid (decide (s < 0) = true) := decide_eq_true hs
  rw [HDT.out]
  have hG := (bo1 K5).1
  have Mz := bsn K5 (wB true g2) 40
  unfold wB at Mz
  go_upto_region 5 with fail
  refine gen_to (fun V => Hid (BS w [(w5.heap.size, wB true g2), (G, wC (b + -a) g1)] V) ∧ Hid (Row V g1 (b + -a).natAbs) ∧ Hid (Row V g2 s.natAbs)) ⟨Mz, R5.out.alloc _, R2.alloc _⟩ ?_
  clear Mz K5 R5 R2
  generalize w5.heap.size = Y9 at *
  rintro V ⟨K, R, R2⟩
  have IG : Hid (IsW V (.agg #[.bool (decide (b + -a < 0)), .slice (some ⟨g1, 0, none⟩) 6 6]) (b + -a)) := ⟨g1, rfl, R.out⟩
  have IY : Hid (IsW V (.agg #[.bool true, .slice (some ⟨g2, 0, none⟩) 6 6]) s) := ⟨g2, by rw [HDT.out], R2.out⟩
  clear R R2
  obtain ⟨c0, c1⟩ := (show Bx V Y9 [_, _] from bo1 K).c2
  obtain ⟨d0, d1⟩ := (show Bx V G [_, _] from bo2 K).c2
  obtain ⟨e0, e1⟩ := (show Bx V G [_, _] from bo2 K).f2
  obtain ⟨sx0, hsx0⟩ : ∃ q, decide (b + -a < 0) = q := ⟨_, rfl⟩
  rw [hsx0] at d0 IG
  clear hsx0
  go_wp2_with fail
  refine (wminus _ _ _ IG.out).mono ?_
  rintro e w6 ⟨v6, rfl, W6, b6⟩
  have K6 := bsb K b6
  have IY6 : Hid (IsW w6 (.agg #[.bool true, .slice (some ⟨g2, 0, none⟩) 6 6]) s) := IY.out.below b6
  clear b6 K IG IY c0 c1 d0 d1 e0 e1
  obtain ⟨g3, rfl, R3⟩ := W6
  obtain ⟨sx1, hsx1⟩ : ∃ q, decide (-(b + -a) < 0) = q := ⟨_, rfl⟩
  rw [hsx1]
  have HSX : Hid (decide (-(b + -a) < 0) = sx1) := hsx1
  clear hsx1
  obtain ⟨d0, d1⟩ := (show Bx w6 G [_, _] from bo2 K6).c2
  obtain ⟨e0, e1⟩ := (show Bx w6 G [_, _] from bo2 K6).f2
  have Mz : Hid (BS w [(G, wB sx1 g3), (Y9, wB true g2)] (w6.setCells G 0 (wB sx1 g3))) := K6.out.swap.set (wB sx1 g3) rfl (by intro z hz; simp only [List.mem_cons, List.not_mem_nil, or_false] at hz; subst hz; simp only []; omega)
  simp only [World.setCells, wB, Nat.zero_add] at Mz
  have IG : Hid (IsW ((w6.setCell ⟨G, 0, none⟩ (.bool sx1)).setCell ⟨G, 1, none⟩ (.slice (some ⟨g3, 0, none⟩) 6 6)) (.agg #[.bool sx1, .slice (some ⟨g3, 0, none⟩) 6 6]) (-(b + -a))) := isW_set ⟨g3, by rw [← HSX.out], R3⟩ d0 _ _
  have IY : Hid (IsW ((w6.setCell ⟨G, 0, none⟩ (.bool sx1)).setCell ⟨G, 1, none⟩ (.slice (some ⟨g3, 0, none⟩) 6 6)) (.agg #[.bool true, .slice (some ⟨g2, 0, none⟩) 6 6]) s) := isW_set IY6.out d0 _ _
  go_upto_region 7 with fail
  refine gen_to (fun V => Hid (BS w [(G, wB sx1 g3), (Y9, wB true g2)] V) ∧ Hid (IsW V (.agg #[.bool sx1, .slice (some ⟨g3, 0, none⟩) 6 6]) (-(b + -a))) ∧ Hid (IsW V (.agg #[.bool true, .slice (some ⟨g2, 0, none⟩) 6 6]) s)) ⟨Mz, IG, IY⟩ ?_
  clear Mz IG IY K6 IY6 R3 d0 d1 e0 e1
  rintro V6 ⟨K, IG, IY⟩
  obtain ⟨c0, c1⟩ := (show Bx V6 Y9 [_, _] from bo2 K).c2
  go_wp2_with fail
  refine (wminus _ _ _ IY.out).mono ?_
  rintro e w6 ⟨v6, rfl, W6, b6⟩
  have K6 := bsb K b6
  have IG6 : Hid (IsW w6 (.agg #[.bool sx1, .slice (some ⟨g3, 0, none⟩) 6 6]) (-(b + -a))) := IG.out.below b6
  clear b6 K IG IY c0 c1
  obtain ⟨g4, rfl, R4⟩ := W6
  obtain ⟨sy1, hsy1⟩ : ∃ q, decide (-s < 0) = q := ⟨_, rfl⟩
  rw [hsy1]
  have HSY1 : Hid (decide (-s < 0) = sy1) := hsy1
  clear hsy1
  obtain ⟨d0, d1⟩ := (show Bx w6 Y9 [_, _] from bo2 K6).c2
  obtain ⟨e0, e1⟩ := (show Bx w6 Y9 [_, _] from bo2 K6).f2
  have Mz : Hid (BS w [(Y9, wB sy1 g4), (G, wB sx1 g3)] (w6.setCells Y9 0 (wB sy1 g4))) := K6.out.swap.set (wB sy1 g4) rfl (by intro z hz; simp only [List.mem_cons, List.not_mem_nil, or_false] at hz; subst hz; simp only []; omega)
  simp only [World.setCells, wB, Nat.zero_add] at Mz
  have IY : Hid (IsW ((w6.setCell ⟨Y9, 0, none⟩ (.bool sy1)).setCell ⟨Y9, 1, none⟩ (.slice (some ⟨g4, 0, none⟩) 6 6)) (.agg #[.bool sy1, .slice (some ⟨g4, 0, none⟩) 6 6]) (-s)) := isW_set ⟨g4, by rw [← HSY1.out], R4⟩ d0 _ _
  have IG : Hid (IsW ((w6.setCell ⟨Y9, 0, none⟩ (.bool sy1)).setCell ⟨Y9, 1, none⟩ (.slice (some ⟨g4, 0, none⟩) 6 6)) (.agg #[.bool sx1, .slice (some ⟨g3, 0, none⟩) 6 6]) (-(b + -a))) := isW_set IG6.out d0 _ _
  go_upto_region 8 with fail
  refine gen_to (fun V => Hid (BS w [(Y9, wB sy1 g4), (G, wB sx1 g3)] V) ∧ Hid (IsW V (.agg #[.bool sx1, .slice (some ⟨g3, 0, none⟩) 6 6]) (-(b + -a))) ∧ Hid (IsW V (.agg #[.bool sy1, .slice (some ⟨g4, 0, none⟩) 6 6]) (-s))) ⟨Mz, IG, IY⟩ ?_
  clear Mz IG IY K6 IG6 R4 d0 d1 e0 e1
  rintro V6 ⟨K, IG, IY⟩
  obtain ⟨c0, c1⟩ := (show Bx V6 Y9 [_, _] from bo1 K).c2
  obtain ⟨d0, d1⟩ := (show Bx V6 G [_, _] from bo2 K).c2
  have hsx9 := HSX.out
  have hsx2 : sx1 = false := by rw [← hsx9]; exact decide_eq_false (by omega)
  subst hsx2
  clear hsx9
  have HQ1 : Hid ((-(b + -a)).natAbs < 4294967296 ^ 5) := Nat.lt_of_le_of_lt (show (-(b + -a)).natAbs ≤ 36893488147419103232 by omega) (by decide)
  go_wp2_with fail
  refine (wover _ _ (-(b + -a)) (-s) _ IG.out IY.out (by omega) HQ1.out (by omega)).mono ?_
  rintro e w7 ⟨v7, rfl, W7, b7⟩
  have K7 := bsb K b7
  clear b7 K IG IY c0 c1 d0 d1
  go_wp2_with fail
  refine (wof 1 (by decide) (by decide) _).mono ?_
  rintro e w8 ⟨v8, rfl, W8, b8⟩
  have K8 := bsb K7 b8
  have W78 := W7.below b8
  clear b8 K7 W7
  have HQ : Hid (((-(b + -a)).fdiv (-s)).natAbs + (1 : Int).natAbs < 4294967296 ^ 6) := by
    have hN := HN.out; generalize (-(b + -a)).fdiv (-s) = q at *; exact Nat.lt_of_le_of_lt (show q.natAbs + (1 : Int).natAbs ≤ 79228162514264337593543950340 by omega) (by decide)
  go_wp2_with fail
  refine (wplus v7 v8 _ 1 _ W78 W8 HQ.out).mono ?_
  rintro e w9 ⟨v9, rfl, W9, b9⟩
  have K9 := bsb K8 b9
  rw [HN.out] at W9
  clear b9 K8 W78 W8 HQ
  obtain ⟨g9, rfl, R9⟩ := W9
  rw [Int.natAbs_natCast] at R9
  rw [show decide ((n : Int) < 0) = false from decide_eq_false (by omega)]
  have Mz := bsn K9 [.bool false, .slice (some ⟨g9, 0, none⟩) 6 6] 40
  go_upto_region 11 with fail
  refine gen_to (fun V => Hid (Below w.heap.size w V ∧ Bx V w9.heap.size [.bool false, .slice (some ⟨g9, 0, none⟩) 6 6]) ∧ Hid (Row V g9 n)) ⟨⟨Mz.out.1, Mz.out.first⟩, R9.alloc _⟩ ?_
  clear Mz K9 R9
  generalize w9.heap.size = N9 at *
  rintro U ⟨KB, RN⟩
  obtain ⟨m0, m1⟩ := KB.out.2.c2
  have HB : Hid (Below w.heap.size w U) := KB.out.1
  clear KB
  have r2 := RN.out.2.2 2 (by decide)
  have hd : (((Wd.dg n 2 : Nat) : Int) != 0) = true := by rw [bne_iff_ne]; have := HD.out; omega
  generalize Wd.dg n 2 = z2 at *
  clear HD RN HN
  go_wp2_with fail
  go_ret2
  exact ⟨rfl, HB.out⟩


end Go.Proofs.YtoglkfchiidmmaaDoor
