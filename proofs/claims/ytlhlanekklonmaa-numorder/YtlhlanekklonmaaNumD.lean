/- The contract of math/bits.Div64: quotient and remainder of a number of two words by one. -/
import Derived.Test.YtlhlanekklonmaaNumC
import Derived.Test.YtlhlanekklonmaaDivMath
import Derived.Lib.ItoaNum
namespace Go.Proofs.Ytlhlanekklonmaa
open Go.RowKit
set_option linter.unusedVariables false

/-- what holds of a guess of one digit: with what is left it makes the number; it is not below the digit. -/
def Dg (U D Y Y1 Q R : Nat) : Prop := Q * Y1 + R = U ∧ (U * 4294967296 + D) / Y ≤ Q ∧ Q ≤ 4294967297 ∧ R < 4294967296

theorem dg_next {Q R Y1 U q r : Nat} (a : Q * Y1 + R = U) (hp : 0 < Q) (eq : (Q : Int) - 1 = q) (er : (R : Int) + Y1 = r) : q * Y1 + r = U := by
  obtain rfl : Q = q + 1 := by omega
  rw [Nat.add_mul] at a
  omega

theorem dg_down {U D Y Y1 Q R q r : Nat} (h : Dg U D Y Y1 Q R) (hl : (U * 4294967296 + D) / Y < Q) (eq : (Q : Int) - 1 = q) (er : (R : Int) + Y1 = r) (hr : r < 4294967296) : Dg U D Y Y1 q r := by
  have hp : 0 < Q := Nat.lt_of_le_of_lt (Nat.zero_le _) hl
  refine ⟨dg_next h.1 hp eq er, ?_, by have := h.2.2.1; omega, hr⟩
  obtain rfl : Q = q + 1 := by omega
  exact Nat.le_of_lt_succ hl

theorem dg_break {U D Y Y1 Y0 Q R q r : Nat} (hY : Y = Y1 * 4294967296 + Y0) (hp : 0 < Y) (h0 : Y0 < 4294967296) (h : Dg U D Y Y1 Q R) (hl : (U * 4294967296 + D) / Y < Q) (eq : (Q : Int) - 1 = q) (er : (R : Int) + Y1 = r) (hr : 4294967296 ≤ r) : (U * 4294967296 + D) / Y = q := by
  have hq : 0 < Q := Nat.lt_of_le_of_lt (Nat.zero_le _) hl
  refine Dv.exit_break U D Y Y1 Y0 q r hY hp h0 (dg_next h.1 hq eq er) ?_ (by have := h.2.2.1; omega) hr
  obtain rfl : Q = q + 1 := by omega
  exact Nat.le_of_lt_succ hl

theorem wrapMul (a b : Nat) (h : a * b < 18446744073709551616) : IntKind.u64.wrap ((a : Int) * (b : Int)) = ((a * b : Nat) : Int) := by
  rw [← Int.natCast_mul, castWrap _ h]

theorem dg_init (U D Y Y1 Y0 : Nat) (hY : Y = Y1 * 4294967296 + Y0) (b3 : Y0 < 4294967296) (b1 : 2147483648 ≤ Y1) (b2 : Y1 < 4294967296) (hU : U < Y) (hD : D < 4294967296) : Dg U D Y Y1 (U / Y1) (U % Y1) := by
  obtain ⟨g1, g2, g3, _⟩ := Dv.guess U D Y Y1 Y0 hY b3 b1 hU hD
  exact ⟨g3, g1, g2, Nat.lt_trans (Nat.mod_lt _ (by omega)) b2⟩

theorem quo_eq (U Y1 : Nat) (hU : U < 18446744073709551616) : IntKind.u64.wrap ((U : Int) / (Y1 : Int)) = ((U / Y1 : Nat) : Int) := by
  rw [← Int.natCast_ediv]
  exact castWrap _ (Nat.lt_of_le_of_lt (Nat.div_le_self _ _) hU)

theorem rem_eq (U Y1 q : Nat) (hU : U < 18446744073709551616) (hq : q = U / Y1) : IntKind.u64.wrap ((U : Int) - IntKind.u64.wrap ((q : Int) * (Y1 : Int))) = ((U % Y1 : Nat) : Int) := by
  have e := Nat.div_add_mod U Y1
  rw [Nat.mul_comm, ← hq] at e
  rw [wrapMul q Y1 (by omega), IntKind.wrap_u64]
  generalize q * Y1 = P at *
  omega

theorem left_eq (U D Y q r : Nat) (e : U * 4294967296 + D = q * Y + r) (hr : r < 18446744073709551616) :
    IntKind.u64.wrap (IntKind.u64.wrap (IntKind.u64.wrap ((U : Int) * 4294967296) + (D : Int)) - IntKind.u64.wrap ((q : Int) * (Y : Int))) = (r : Int) := by
  simp only [IntKind.wrap_u64]
  rw [← Int.natCast_mul]
  generalize q * Y = P at *
  omega

theorem fin_q {N Y q r : Nat} (h : N / Y = q * 4294967296 + r) : (q : Int) * 4294967296 + (r : Int) = (N : Int) / (Y : Int) := by
  rw [← Int.natCast_ediv, h]
  omega
theorem fin_r {N Y r s : Nat} (h : N % Y = r) : (r : Int) / 2 ^ s = (N : Int) % (Y : Int) / 2 ^ s := by
  rw [← Int.natCast_emod, h]

theorem mul_lt {a b : Nat} (ha : a < 4294967296) (hb : b < 4294967296) : a * b < 18446744073709551616 := by
  have := Lib.half_mul_le (a := a) (b := b) (by omega) (by omega)
  omega

set_option maxRecDepth 100000 in
set_option maxHeartbeats 4000000 in
theorem div64_core (hi lo y s Y Y1 Y0 Hs U Lw D1 D0 Q0 R0 N : Nat) (hh : hi < y) (h : 0 < hi) (hs : s < 64) (w : World)
   (H1 : Hid (∀ w : World, Calls Try.prog 16 #[.int .u64 y] w fun e w' => e = .returned (.int .i64 (s : Int)) ∧ w' = w))
   (eY : IntKind.u64.wrap ((y : Int) * 2 ^ s) = (Y : Int)) (eY1 : (Y : Int) / 4294967296 = (Y1 : Int)) (eY0 : bits .and .u64 (Y : Int) 4294967295 = (Y0 : Int))
   (eH : IntKind.u64.wrap ((hi : Int) * 2 ^ s) = (Hs : Int)) (eU : bits .or .u64 (Hs : Int) ((lo : Int) / 2 ^ (64 - s)) = (U : Int))
   (eL : IntKind.u64.wrap ((lo : Int) * 2 ^ s) = (Lw : Int)) (eD1 : (Lw : Int) / 4294967296 = (D1 : Int)) (eD0 : bits .and .u64 (Lw : Int) 4294967295 = (D0 : Int))
   (eQ : IntKind.u64.wrap ((U : Int) / (Y1 : Int)) = (Q0 : Int)) (eR : IntKind.u64.wrap ((U : Int) - IntKind.u64.wrap ((Q0 : Int) * (Y1 : Int))) = (R0 : Int))
   (b0 : Y < 18446744073709551616) (b1 : 2147483648 ≤ Y1) (b2 : Y1 < 4294967296) (b3 : Y0 < 4294967296) (b4 : D1 < 4294967296) (b5 : D0 < 4294967296) (b6 : U < Y)
   (hY : Hid (Y = Y1 * 4294967296 + Y0)) (hG : Dg U D1 Y Y1 Q0 R0) (hN : Hid (N = U * (4294967296 * 4294967296) + (D1 * 4294967296 + D0))) :
    Calls Try.prog 13 #[.int .u64 hi, .int .u64 lo, .int .u64 y] w fun e w' => e = .returned (.tuple #[.int .u64 ((N / Y : Nat) : Int), .int .u64 ((N % Y / 2 ^ s : Nat) : Int)]) ∧ w' = w := by
  have h0 : ((y : Int) == 0) = false := by rw [beq_eq_false_iff_ne]; omega
  have h1 : ¬ (y : Int) ≤ hi := by omega
  have h2 : ((hi : Int) == 0) = false := by rw [beq_eq_false_iff_ne]; omega
  have y1 : ¬ (Y1 : Int) = 0 := by omega
  go_enter Try.func13, Try.ntmps13
  go_wp2_with fail
  refine (H1.out _).mono ?_
  rintro e w1 ⟨rfl, rfl⟩
  go_wp2_with fail
  clear eY eY1 eY0 eH eU eL eD1 eD0 eQ eR
  go_loop [15, 16] (fun q r => ∃ Q R : Nat, q = .int .u64 Q ∧ r = .int .u64 R ∧ Dg U D1 Y Y1 Q R) (fun q _ => (intOf q).toNat)
  case atStart => exact ⟨Q0, R0, rfl, rfl, hG⟩
  case round =>
    obtain ⟨Q, R, rfl, rfl, hD⟩ := hrel
    have bR : R < 4294967296 := hD.2.2.2
    have bQ : Q ≤ 4294967297 := hD.2.2.1
    clear hG
    obtain ⟨R1, e16⟩ : ∃ R1 : Nat, (R : Int) + Y1 = R1 := ⟨R + Y1, by omega⟩
    by_cases c1 : (4294967296 : Int) ≤ Q
    · have hl := Dv.step_big U D1 Y Q b6 b4 (by omega)
      obtain ⟨Q1, e15⟩ : ∃ Q1 : Nat, (Q : Int) - 1 = Q1 := ⟨Q - 1, by omega⟩
      by_cases c3 : (4294967296 : Int) ≤ R1
      · have hq : (U * 4294967296 + D1) / Y = Q1 := dg_break hY.out (by omega) b3 hD hl e15 e16 (by omega)
        obtain ⟨q1, rfl⟩ : ∃ q1, q1 = Q1 := ⟨_, rfl⟩
        obtain ⟨Rn, hRn⟩ : ∃ Rn : Nat, (U * 4294967296 + D1) % Y = Rn := ⟨_, rfl⟩
        have e1 : U * 4294967296 + D1 = q1 * Y + Rn := by rw [← hq, ← hRn]; exact (Nat.div_add_mod' _ _).symm
        have b7 : Rn < Y := by rw [← hRn]; exact Nat.mod_lt _ (by omega)
        have l1 : (U * 4294967296 + D1) / Y < 4294967296 := (Dv.guess U D1 Y Y1 Y0 hY.out b3 b1 b6 b4).2.2.2
        have l2 : (q1 : Int) < 4294967296 := by rw [hq] at l1; omega
        have e93 := left_eq U D1 Y q1 Rn e1 (by omega)
        have hR : Hid (U * 4294967296 + D1 = q1 * Y + Rn) := e1
        have e96 := quo_eq Rn Y1 (by omega)
        have e101 := rem_eq Rn Y1 (Rn / Y1) (by omega) rfl
        have hG2 := dg_init Rn D0 Y Y1 Y0 hY.out b3 b1 b2 b7 b5
        generalize Rn / Y1 = P0 at *
        generalize Rn % Y1 = S0 at *
        clear hq hRn e1 l1 hD
        go_wp2_with fail
        clear e93 e96 e101
        go_loop [18, 16] (fun q r => ∃ Q R : Nat, q = .int .u64 Q ∧ r = .int .u64 R ∧ Dg Rn D0 Y Y1 Q R) (fun q _ => (intOf q).toNat)
        case atStart => exact ⟨P0, S0, rfl, rfl, hG2⟩
        case round =>
          obtain ⟨Q, R, rfl, rfl, hD⟩ := hrel
          have bR : R < 4294967296 := hD.2.2.2
          have bQ : Q ≤ 4294967297 := hD.2.2.1
          clear hG2
          obtain ⟨R1, e16⟩ : ∃ R1 : Nat, (R : Int) + Y1 = R1 := ⟨R + Y1, by omega⟩
          by_cases c1 : (4294967296 : Int) ≤ Q
          · have hl := Dv.step_big Rn D0 Y Q b7 b5 (by omega)
            obtain ⟨Q1, e15⟩ : ∃ Q1 : Nat, (Q : Int) - 1 = Q1 := ⟨Q - 1, by omega⟩
            by_cases c3 : (4294967296 : Int) ≤ R1
            · have hq : (Rn * 4294967296 + D0) / Y = Q1 := dg_break hY.out (by omega) b3 hD hl e15 e16 (by omega)
              have e2 : Rn * 4294967296 + D0 = Q1 * Y + (Rn * 4294967296 + D0) % Y := by rw [← hq]; exact (Nat.div_add_mod' _ _).symm
              have lr : (Rn * 4294967296 + D0) % Y < Y := Nat.mod_lt _ (by omega)
              obtain ⟨z1, z2⟩ := Dv.two 4294967296 U D1 D0 Y q1 Q1 Rn _ hR.out e2 lr
              obtain ⟨Rm, hRm⟩ : ∃ Rm : Nat, (Rn * 4294967296 + D0) % Y = Rm := ⟨_, rfl⟩
              rw [hRm] at e2 z2 lr
              have e132 := left_eq Rn D0 Y Q1 Rm e2 (by omega)
              have lq : (Rn * 4294967296 + D0) / Y < 4294967296 := (Dv.guess Rn D0 Y Y1 Y0 hY.out b3 b1 b7 b5).2.2.2
              have lq' : (Q1 : Int) < 4294967296 := by rw [hq] at lq; omega
              rw [← hN.out] at z1 z2
              have Z1 : Hid (N / Y = q1 * 4294967296 + Q1) := z1
              have Z2 : Hid (N % Y = Rm) := z2
              clear hl hD hq e2 z1 z2 hRm lq
              go_wp2
              go_ret2
              exact ⟨ret_two (fin_q Z1.out) (fin_r Z2.out), rfl⟩
            · have hn : Hid (Dg Rn D0 Y Y1 Q1 R1) := dg_down hD hl e15 e16 (by omega)
              clear hl hD
              go_wp2
              go_round
              case rel => exact ⟨Q1, R1, rfl, rfl, hn.out⟩
              case measure => simp [intOf]; omega
          · obtain ⟨M, hM⟩ : ∃ M : Nat, Q * Y0 = M := ⟨_, rfl⟩
            have eM : IntKind.u64.wrap ((Q : Int) * (Y0 : Int)) = (M : Int) := by rw [wrapMul Q Y0 (mul_lt (by omega) b3), hM]
            by_cases c2 : (4294967296 : Int) * R + D0 < M
            · have hl := Dv.step_less Rn D0 Y Y1 Y0 Q R hY.out (by omega) hD.1 (by rw [hM]; omega)
              clear hM
              have p1 : 0 < Q := Nat.lt_of_le_of_lt (Nat.zero_le _) hl
              obtain ⟨Q1, e15⟩ : ∃ Q1 : Nat, (Q : Int) - 1 = Q1 := ⟨Q - 1, by omega⟩
              by_cases c3 : (4294967296 : Int) ≤ R1
              · have hq : (Rn * 4294967296 + D0) / Y = Q1 := dg_break hY.out (by omega) b3 hD hl e15 e16 (by omega)
                have e2 : Rn * 4294967296 + D0 = Q1 * Y + (Rn * 4294967296 + D0) % Y := by rw [← hq]; exact (Nat.div_add_mod' _ _).symm
                have lr : (Rn * 4294967296 + D0) % Y < Y := Nat.mod_lt _ (by omega)
                obtain ⟨z1, z2⟩ := Dv.two 4294967296 U D1 D0 Y q1 Q1 Rn _ hR.out e2 lr
                obtain ⟨Rm, hRm⟩ : ∃ Rm : Nat, (Rn * 4294967296 + D0) % Y = Rm := ⟨_, rfl⟩
                rw [hRm] at e2 z2 lr
                have e132 := left_eq Rn D0 Y Q1 Rm e2 (by omega)
                have lq : (Rn * 4294967296 + D0) / Y < 4294967296 := (Dv.guess Rn D0 Y Y1 Y0 hY.out b3 b1 b7 b5).2.2.2
                have lq' : (Q1 : Int) < 4294967296 := by rw [hq] at lq; omega
                rw [← hN.out] at z1 z2
                have Z1 : Hid (N / Y = q1 * 4294967296 + Q1) := z1
                have Z2 : Hid (N % Y = Rm) := z2
                clear hl hD hq e2 z1 z2 hRm lq
                go_wp2
                go_ret2
                exact ⟨ret_two (fin_q Z1.out) (fin_r Z2.out), rfl⟩
              · have hn : Hid (Dg Rn D0 Y Y1 Q1 R1) := dg_down hD hl e15 e16 (by omega)
                clear hl hD
                go_wp2
                go_round
                case rel => exact ⟨Q1, R1, rfl, rfl, hn.out⟩
                case measure => simp [intOf]; omega
            · have hq : (Rn * 4294967296 + D0) / Y = Q := Dv.exit_no Rn D0 Y Y1 Y0 Q R hY.out (by omega) hD.1 hD.2.1 (by rw [hM]; omega)
              clear hM
              have e2 : Rn * 4294967296 + D0 = Q * Y + (Rn * 4294967296 + D0) % Y := by rw [← hq]; exact (Nat.div_add_mod' _ _).symm
              have lr : (Rn * 4294967296 + D0) % Y < Y := Nat.mod_lt _ (by omega)
              obtain ⟨z1, z2⟩ := Dv.two 4294967296 U D1 D0 Y q1 Q Rn _ hR.out e2 lr
              obtain ⟨Rm, hRm⟩ : ∃ Rm : Nat, (Rn * 4294967296 + D0) % Y = Rm := ⟨_, rfl⟩
              rw [hRm] at e2 z2 lr
              have e132 := left_eq Rn D0 Y Q Rm e2 (by omega)
              have lq : (Rn * 4294967296 + D0) / Y < 4294967296 := (Dv.guess Rn D0 Y Y1 Y0 hY.out b3 b1 b7 b5).2.2.2
              have lq' : (Q : Int) < 4294967296 := by rw [hq] at lq; omega
              rw [← hN.out] at z1 z2
              have Z1 : Hid (N / Y = q1 * 4294967296 + Q) := z1
              have Z2 : Hid (N % Y = Rm) := z2
              clear hD hq e2 z1 z2 hRm lq
              go_wp2
              go_ret2
              exact ⟨ret_two (fin_q Z1.out) (fin_r Z2.out), rfl⟩
      · have hn : Hid (Dg U D1 Y Y1 Q1 R1) := dg_down hD hl e15 e16 (by omega)
        clear hl hD
        go_wp2
        go_round
        case rel => exact ⟨Q1, R1, rfl, rfl, hn.out⟩
        case measure => simp [intOf]; omega
    · obtain ⟨M, hM⟩ : ∃ M : Nat, Q * Y0 = M := ⟨_, rfl⟩
      have eM : IntKind.u64.wrap ((Q : Int) * (Y0 : Int)) = (M : Int) := by rw [wrapMul Q Y0 (mul_lt (by omega) b3), hM]
      by_cases c2 : (4294967296 : Int) * R + D1 < M
      · have hl := Dv.step_less U D1 Y Y1 Y0 Q R hY.out (by omega) hD.1 (by rw [hM]; omega)
        clear hM
        have p1 : 0 < Q := Nat.lt_of_le_of_lt (Nat.zero_le _) hl
        obtain ⟨Q1, e15⟩ : ∃ Q1 : Nat, (Q : Int) - 1 = Q1 := ⟨Q - 1, by omega⟩
        by_cases c3 : (4294967296 : Int) ≤ R1
        · have hq : (U * 4294967296 + D1) / Y = Q1 := dg_break hY.out (by omega) b3 hD hl e15 e16 (by omega)
          obtain ⟨q1, rfl⟩ : ∃ q1, q1 = Q1 := ⟨_, rfl⟩
          obtain ⟨Rn, hRn⟩ : ∃ Rn : Nat, (U * 4294967296 + D1) % Y = Rn := ⟨_, rfl⟩
          have e1 : U * 4294967296 + D1 = q1 * Y + Rn := by rw [← hq, ← hRn]; exact (Nat.div_add_mod' _ _).symm
          have b7 : Rn < Y := by rw [← hRn]; exact Nat.mod_lt _ (by omega)
          have l1 : (U * 4294967296 + D1) / Y < 4294967296 := (Dv.guess U D1 Y Y1 Y0 hY.out b3 b1 b6 b4).2.2.2
          have l2 : (q1 : Int) < 4294967296 := by rw [hq] at l1; omega
          have e93 := left_eq U D1 Y q1 Rn e1 (by omega)
          have hR : Hid (U * 4294967296 + D1 = q1 * Y + Rn) := e1
          have e96 := quo_eq Rn Y1 (by omega)
          have e101 := rem_eq Rn Y1 (Rn / Y1) (by omega) rfl
          have hG2 := dg_init Rn D0 Y Y1 Y0 hY.out b3 b1 b2 b7 b5
          generalize Rn / Y1 = P0 at *
          generalize Rn % Y1 = S0 at *
          clear hq hRn e1 l1 hD
          go_wp2_with fail
          clear e93 e96 e101
          go_loop [18, 16] (fun q r => ∃ Q R : Nat, q = .int .u64 Q ∧ r = .int .u64 R ∧ Dg Rn D0 Y Y1 Q R) (fun q _ => (intOf q).toNat)
          case atStart => exact ⟨P0, S0, rfl, rfl, hG2⟩
          case round =>
            obtain ⟨Q, R, rfl, rfl, hD⟩ := hrel
            have bR : R < 4294967296 := hD.2.2.2
            have bQ : Q ≤ 4294967297 := hD.2.2.1
            clear hG2
            obtain ⟨R1, e16⟩ : ∃ R1 : Nat, (R : Int) + Y1 = R1 := ⟨R + Y1, by omega⟩
            by_cases c1 : (4294967296 : Int) ≤ Q
            · have hl := Dv.step_big Rn D0 Y Q b7 b5 (by omega)
              obtain ⟨Q1, e15⟩ : ∃ Q1 : Nat, (Q : Int) - 1 = Q1 := ⟨Q - 1, by omega⟩
              by_cases c3 : (4294967296 : Int) ≤ R1
              · have hq : (Rn * 4294967296 + D0) / Y = Q1 := dg_break hY.out (by omega) b3 hD hl e15 e16 (by omega)
                have e2 : Rn * 4294967296 + D0 = Q1 * Y + (Rn * 4294967296 + D0) % Y := by rw [← hq]; exact (Nat.div_add_mod' _ _).symm
                have lr : (Rn * 4294967296 + D0) % Y < Y := Nat.mod_lt _ (by omega)
                obtain ⟨z1, z2⟩ := Dv.two 4294967296 U D1 D0 Y q1 Q1 Rn _ hR.out e2 lr
                obtain ⟨Rm, hRm⟩ : ∃ Rm : Nat, (Rn * 4294967296 + D0) % Y = Rm := ⟨_, rfl⟩
                rw [hRm] at e2 z2 lr
                have e132 := left_eq Rn D0 Y Q1 Rm e2 (by omega)
                have lq : (Rn * 4294967296 + D0) / Y < 4294967296 := (Dv.guess Rn D0 Y Y1 Y0 hY.out b3 b1 b7 b5).2.2.2
                have lq' : (Q1 : Int) < 4294967296 := by rw [hq] at lq; omega
                rw [← hN.out] at z1 z2
                have Z1 : Hid (N / Y = q1 * 4294967296 + Q1) := z1
                have Z2 : Hid (N % Y = Rm) := z2
                clear hl hD hq e2 z1 z2 hRm lq
                go_wp2
                go_ret2
                exact ⟨ret_two (fin_q Z1.out) (fin_r Z2.out), rfl⟩
              · have hn : Hid (Dg Rn D0 Y Y1 Q1 R1) := dg_down hD hl e15 e16 (by omega)
                clear hl hD
                go_wp2
                go_round
                case rel => exact ⟨Q1, R1, rfl, rfl, hn.out⟩
                case measure => simp [intOf]; omega
            · obtain ⟨M, hM⟩ : ∃ M : Nat, Q * Y0 = M := ⟨_, rfl⟩
              have eM : IntKind.u64.wrap ((Q : Int) * (Y0 : Int)) = (M : Int) := by rw [wrapMul Q Y0 (mul_lt (by omega) b3), hM]
              by_cases c2 : (4294967296 : Int) * R + D0 < M
              · have hl := Dv.step_less Rn D0 Y Y1 Y0 Q R hY.out (by omega) hD.1 (by rw [hM]; omega)
                clear hM
                have p1 : 0 < Q := Nat.lt_of_le_of_lt (Nat.zero_le _) hl
                obtain ⟨Q1, e15⟩ : ∃ Q1 : Nat, (Q : Int) - 1 = Q1 := ⟨Q - 1, by omega⟩
                by_cases c3 : (4294967296 : Int) ≤ R1
                · have hq : (Rn * 4294967296 + D0) / Y = Q1 := dg_break hY.out (by omega) b3 hD hl e15 e16 (by omega)
                  have e2 : Rn * 4294967296 + D0 = Q1 * Y + (Rn * 4294967296 + D0) % Y := by rw [← hq]; exact (Nat.div_add_mod' _ _).symm
                  have lr : (Rn * 4294967296 + D0) % Y < Y := Nat.mod_lt _ (by omega)
                  obtain ⟨z1, z2⟩ := Dv.two 4294967296 U D1 D0 Y q1 Q1 Rn _ hR.out e2 lr
                  obtain ⟨Rm, hRm⟩ : ∃ Rm : Nat, (Rn * 4294967296 + D0) % Y = Rm := ⟨_, rfl⟩
                  rw [hRm] at e2 z2 lr
                  have e132 := left_eq Rn D0 Y Q1 Rm e2 (by omega)
                  have lq : (Rn * 4294967296 + D0) / Y < 4294967296 := (Dv.guess Rn D0 Y Y1 Y0 hY.out b3 b1 b7 b5).2.2.2
                  have lq' : (Q1 : Int) < 4294967296 := by rw [hq] at lq; omega
                  rw [← hN.out] at z1 z2
                  have Z1 : Hid (N / Y = q1 * 4294967296 + Q1) := z1
                  have Z2 : Hid (N % Y = Rm) := z2
                  clear hl hD hq e2 z1 z2 hRm lq
                  go_wp2
                  go_ret2
                  exact ⟨ret_two (fin_q Z1.out) (fin_r Z2.out), rfl⟩
                · have hn : Hid (Dg Rn D0 Y Y1 Q1 R1) := dg_down hD hl e15 e16 (by omega)
                  clear hl hD
                  go_wp2
                  go_round
                  case rel => exact ⟨Q1, R1, rfl, rfl, hn.out⟩
                  case measure => simp [intOf]; omega
              · have hq : (Rn * 4294967296 + D0) / Y = Q := Dv.exit_no Rn D0 Y Y1 Y0 Q R hY.out (by omega) hD.1 hD.2.1 (by rw [hM]; omega)
                clear hM
                have e2 : Rn * 4294967296 + D0 = Q * Y + (Rn * 4294967296 + D0) % Y := by rw [← hq]; exact (Nat.div_add_mod' _ _).symm
                have lr : (Rn * 4294967296 + D0) % Y < Y := Nat.mod_lt _ (by omega)
                obtain ⟨z1, z2⟩ := Dv.two 4294967296 U D1 D0 Y q1 Q Rn _ hR.out e2 lr
                obtain ⟨Rm, hRm⟩ : ∃ Rm : Nat, (Rn * 4294967296 + D0) % Y = Rm := ⟨_, rfl⟩
                rw [hRm] at e2 z2 lr
                have e132 := left_eq Rn D0 Y Q Rm e2 (by omega)
                have lq : (Rn * 4294967296 + D0) / Y < 4294967296 := (Dv.guess Rn D0 Y Y1 Y0 hY.out b3 b1 b7 b5).2.2.2
                have lq' : (Q : Int) < 4294967296 := by rw [hq] at lq; omega
                rw [← hN.out] at z1 z2
                have Z1 : Hid (N / Y = q1 * 4294967296 + Q) := z1
                have Z2 : Hid (N % Y = Rm) := z2
                clear hD hq e2 z1 z2 hRm lq
                go_wp2
                go_ret2
                exact ⟨ret_two (fin_q Z1.out) (fin_r Z2.out), rfl⟩
        · have hn : Hid (Dg U D1 Y Y1 Q1 R1) := dg_down hD hl e15 e16 (by omega)
          clear hl hD
          go_wp2
          go_round
          case rel => exact ⟨Q1, R1, rfl, rfl, hn.out⟩
          case measure => simp [intOf]; omega
      · have hq : (U * 4294967296 + D1) / Y = Q := Dv.exit_no U D1 Y Y1 Y0 Q R hY.out (by omega) hD.1 hD.2.1 (by rw [hM]; omega)
        clear hM
        obtain ⟨q1, rfl⟩ : ∃ q1, q1 = Q := ⟨_, rfl⟩
        obtain ⟨Rn, hRn⟩ : ∃ Rn : Nat, (U * 4294967296 + D1) % Y = Rn := ⟨_, rfl⟩
        have e1 : U * 4294967296 + D1 = q1 * Y + Rn := by rw [← hq, ← hRn]; exact (Nat.div_add_mod' _ _).symm
        have b7 : Rn < Y := by rw [← hRn]; exact Nat.mod_lt _ (by omega)
        have l1 : (U * 4294967296 + D1) / Y < 4294967296 := (Dv.guess U D1 Y Y1 Y0 hY.out b3 b1 b6 b4).2.2.2
        have l2 : (q1 : Int) < 4294967296 := by rw [hq] at l1; omega
        have e93 := left_eq U D1 Y q1 Rn e1 (by omega)
        have hR : Hid (U * 4294967296 + D1 = q1 * Y + Rn) := e1
        have e96 := quo_eq Rn Y1 (by omega)
        have e101 := rem_eq Rn Y1 (Rn / Y1) (by omega) rfl
        have hG2 := dg_init Rn D0 Y Y1 Y0 hY.out b3 b1 b2 b7 b5
        generalize Rn / Y1 = P0 at *
        generalize Rn % Y1 = S0 at *
        clear hq hRn e1 l1 hD
        go_wp2_with fail
        clear e93 e96 e101
        go_loop [18, 16] (fun q r => ∃ Q R : Nat, q = .int .u64 Q ∧ r = .int .u64 R ∧ Dg Rn D0 Y Y1 Q R) (fun q _ => (intOf q).toNat)
        case atStart => exact ⟨P0, S0, rfl, rfl, hG2⟩
        case round =>
          obtain ⟨Q, R, rfl, rfl, hD⟩ := hrel
          have bR : R < 4294967296 := hD.2.2.2
          have bQ : Q ≤ 4294967297 := hD.2.2.1
          clear hG2
          obtain ⟨R1, e16⟩ : ∃ R1 : Nat, (R : Int) + Y1 = R1 := ⟨R + Y1, by omega⟩
          by_cases c1 : (4294967296 : Int) ≤ Q
          · have hl := Dv.step_big Rn D0 Y Q b7 b5 (by omega)
            obtain ⟨Q1, e15⟩ : ∃ Q1 : Nat, (Q : Int) - 1 = Q1 := ⟨Q - 1, by omega⟩
            by_cases c3 : (4294967296 : Int) ≤ R1
            · have hq : (Rn * 4294967296 + D0) / Y = Q1 := dg_break hY.out (by omega) b3 hD hl e15 e16 (by omega)
              have e2 : Rn * 4294967296 + D0 = Q1 * Y + (Rn * 4294967296 + D0) % Y := by rw [← hq]; exact (Nat.div_add_mod' _ _).symm
              have lr : (Rn * 4294967296 + D0) % Y < Y := Nat.mod_lt _ (by omega)
              obtain ⟨z1, z2⟩ := Dv.two 4294967296 U D1 D0 Y q1 Q1 Rn _ hR.out e2 lr
              obtain ⟨Rm, hRm⟩ : ∃ Rm : Nat, (Rn * 4294967296 + D0) % Y = Rm := ⟨_, rfl⟩
              rw [hRm] at e2 z2 lr
              have e132 := left_eq Rn D0 Y Q1 Rm e2 (by omega)
              have lq : (Rn * 4294967296 + D0) / Y < 4294967296 := (Dv.guess Rn D0 Y Y1 Y0 hY.out b3 b1 b7 b5).2.2.2
              have lq' : (Q1 : Int) < 4294967296 := by rw [hq] at lq; omega
              rw [← hN.out] at z1 z2
              have Z1 : Hid (N / Y = q1 * 4294967296 + Q1) := z1
              have Z2 : Hid (N % Y = Rm) := z2
              clear hl hD hq e2 z1 z2 hRm lq
              go_wp2
              go_ret2
              exact ⟨ret_two (fin_q Z1.out) (fin_r Z2.out), rfl⟩
            · have hn : Hid (Dg Rn D0 Y Y1 Q1 R1) := dg_down hD hl e15 e16 (by omega)
              clear hl hD
              go_wp2
              go_round
              case rel => exact ⟨Q1, R1, rfl, rfl, hn.out⟩
              case measure => simp [intOf]; omega
          · obtain ⟨M, hM⟩ : ∃ M : Nat, Q * Y0 = M := ⟨_, rfl⟩
            have eM : IntKind.u64.wrap ((Q : Int) * (Y0 : Int)) = (M : Int) := by rw [wrapMul Q Y0 (mul_lt (by omega) b3), hM]
            by_cases c2 : (4294967296 : Int) * R + D0 < M
            · have hl := Dv.step_less Rn D0 Y Y1 Y0 Q R hY.out (by omega) hD.1 (by rw [hM]; omega)
              clear hM
              have p1 : 0 < Q := Nat.lt_of_le_of_lt (Nat.zero_le _) hl
              obtain ⟨Q1, e15⟩ : ∃ Q1 : Nat, (Q : Int) - 1 = Q1 := ⟨Q - 1, by omega⟩
              by_cases c3 : (4294967296 : Int) ≤ R1
              · have hq : (Rn * 4294967296 + D0) / Y = Q1 := dg_break hY.out (by omega) b3 hD hl e15 e16 (by omega)
                have e2 : Rn * 4294967296 + D0 = Q1 * Y + (Rn * 4294967296 + D0) % Y := by rw [← hq]; exact (Nat.div_add_mod' _ _).symm
                have lr : (Rn * 4294967296 + D0) % Y < Y := Nat.mod_lt _ (by omega)
                obtain ⟨z1, z2⟩ := Dv.two 4294967296 U D1 D0 Y q1 Q1 Rn _ hR.out e2 lr
                obtain ⟨Rm, hRm⟩ : ∃ Rm : Nat, (Rn * 4294967296 + D0) % Y = Rm := ⟨_, rfl⟩
                rw [hRm] at e2 z2 lr
                have e132 := left_eq Rn D0 Y Q1 Rm e2 (by omega)
                have lq : (Rn * 4294967296 + D0) / Y < 4294967296 := (Dv.guess Rn D0 Y Y1 Y0 hY.out b3 b1 b7 b5).2.2.2
                have lq' : (Q1 : Int) < 4294967296 := by rw [hq] at lq; omega
                rw [← hN.out] at z1 z2
                have Z1 : Hid (N / Y = q1 * 4294967296 + Q1) := z1
                have Z2 : Hid (N % Y = Rm) := z2
                clear hl hD hq e2 z1 z2 hRm lq
                go_wp2
                go_ret2
                exact ⟨ret_two (fin_q Z1.out) (fin_r Z2.out), rfl⟩
              · have hn : Hid (Dg Rn D0 Y Y1 Q1 R1) := dg_down hD hl e15 e16 (by omega)
                clear hl hD
                go_wp2
                go_round
                case rel => exact ⟨Q1, R1, rfl, rfl, hn.out⟩
                case measure => simp [intOf]; omega
            · have hq : (Rn * 4294967296 + D0) / Y = Q := Dv.exit_no Rn D0 Y Y1 Y0 Q R hY.out (by omega) hD.1 hD.2.1 (by rw [hM]; omega)
              clear hM
              have e2 : Rn * 4294967296 + D0 = Q * Y + (Rn * 4294967296 + D0) % Y := by rw [← hq]; exact (Nat.div_add_mod' _ _).symm
              have lr : (Rn * 4294967296 + D0) % Y < Y := Nat.mod_lt _ (by omega)
              obtain ⟨z1, z2⟩ := Dv.two 4294967296 U D1 D0 Y q1 Q Rn _ hR.out e2 lr
              obtain ⟨Rm, hRm⟩ : ∃ Rm : Nat, (Rn * 4294967296 + D0) % Y = Rm := ⟨_, rfl⟩
              rw [hRm] at e2 z2 lr
              have e132 := left_eq Rn D0 Y Q Rm e2 (by omega)
              have lq : (Rn * 4294967296 + D0) / Y < 4294967296 := (Dv.guess Rn D0 Y Y1 Y0 hY.out b3 b1 b7 b5).2.2.2
              have lq' : (Q : Int) < 4294967296 := by rw [hq] at lq; omega
              rw [← hN.out] at z1 z2
              have Z1 : Hid (N / Y = q1 * 4294967296 + Q) := z1
              have Z2 : Hid (N % Y = Rm) := z2
              clear hD hq e2 z1 z2 hRm lq
              go_wp2
              go_ret2
              exact ⟨ret_two (fin_q Z1.out) (fin_r Z2.out), rfl⟩

/-- the shifted numbers: the divisor's highest bit is set, and the shifted number's parts make it. -/
theorem norm (y : Nat) (hp : y ≠ 0) (hy : y < 18446744073709551616) : ∃ s : Nat, s < 64 ∧ (64 - (Lib.bitLen y : Int)) = (s : Int) ∧ 9223372036854775808 ≤ y * 2 ^ s ∧ y * 2 ^ s < 18446744073709551616 := by
  obtain ⟨l1, l2, l3⟩ := Lib.bitLenAux_bounds 64 y hy hp
  have l4 : Lib.bitLen y ≤ 64 := Lib.bitLen_le y 64 (by decide) hy
  have e : Lib.bitLen y = Lib.bitLenAux 64 y := rfl
  rw [← e] at l1 l2 l3
  generalize Lib.bitLen y = n at *
  refine ⟨64 - n, by omega, by omega, ?_, ?_⟩
  · have : 2 ^ (n - 1) * 2 ^ (64 - n) = 9223372036854775808 := by
      rw [← Nat.pow_add, show n - 1 + (64 - n) = 63 by omega]
    rw [← this]
    exact Nat.mul_le_mul_right _ l2
  · have : 2 ^ n * 2 ^ (64 - n) = 18446744073709551616 := by
      rw [← Nat.pow_add, show n + (64 - n) = 64 by omega]
    rw [← this]
    exact Nat.mul_lt_mul_of_pos_right l3 (Nat.two_pow_pos _)

end Go.Proofs.Ytlhlanekklonmaa
