/- Contracts, more: the reference's Of and Small. -/
import Derived.Test.YtghfgabajdghiabWideD
import Derived.Deep.QuietTactic
import Derived.BigQuiet
namespace Go.Proofs.Ytghfgabajdghiab
open Go.RowKit
set_option linter.unusedVariables false

theorem wbelow_drewN {B : Nat} {a w : World} (h : Below B a w) (n : Nat) : Below B a (w.drewN n) := h.trans ⟨rfl, rfl, rfl, Nat.le_refl _, fun _ _ => rfl⟩

theorem of_row (w : World) (v : Nat) (hv : v < 18446744073709551616) (o : Obj) (a b : Int) (ha : a = ((v % 4294967296 : Nat) : Int)) (hb : b = ((v / 4294967296 : Nat) : Int)) :
    Row ((w.alloc o).alloc (.cells #[.int .u64 a, .int .u64 b, .int .u64 0, .int .u64 0, .int .u64 0, .int .u64 0] 65)) (w.heap.size + 1) v := by
  refine ⟨Nat.lt_of_lt_of_le hv (show 18446744073709551616 ≤ 4294967296 ^ 6 by decide), by simp, fun i hi => ?_⟩
  rw [World.cell?_alloc_at _ _ _ _ (by simp)]
  subst ha hb
  have h0 : v / 18446744073709551616 = 0 := Nat.div_eq_of_lt hv
  have z : ∀ k, 2 ≤ k → v / 4294967296 ^ k = 0 := fun k hk => Nat.div_eq_of_lt (Nat.lt_of_lt_of_le hv (Nat.le_trans (show 18446744073709551616 ≤ 4294967296 ^ 2 by decide) (Nat.pow_le_pow_right (show 0 < 4294967296 by decide) hk)))
  match i, hi with
  | 0, _ => simp [Wd.dg]
  | 1, _ => simp [Wd.dg]; omega
  | 2, _ => simp [Wd.dg, z 2 (by omega)]
  | 3, _ => simp [Wd.dg, z 3 (by omega)]
  | 4, _ => simp [Wd.dg, z 4 (by omega)]
  | 5, _ => simp [Wd.dg, z 5 (by omega)]

set_option maxRecDepth 100000 in
set_option maxHeartbeats 2000000 in
theorem of_pos (n : Int) (v : Nat) (h0 : ¬ n < 0) (hv : n = (v : Int)) (h2 : v < 9223372036854775808) (w : World) :
    Calls Try.prog 49 #[.int .i64 n] w fun e w' => ∃ b, e = .returned (.agg #[.bool false, .slice (some ⟨b, 0, none⟩) 6 6]) ∧ Below w.heap.size w w' ∧ w.heap.size ≤ b ∧ Row w' b v := by
  have hmk := make_six
  have n1 : 0 ≤ n := by omega
  have n2 : n ≤ 9223372036854775807 := by omega
  have e1 : bits .and .u64 n 4294967295 = n % 4294967296 := by rw [hv, andLow v (by omega)]; omega
  have HV : Hid (n = (v : Int)) := hv
  clear hv
  go_enter Try.func49, Try.ntmps49
  go_wp2_with fail
  refine bodyPost_ret (v := .agg #[.bool false, .slice (some ⟨w.heap.size + 1, 0, none⟩) 6 6]) (by simp [results, Try.results49, go_sem]) rfl ⟨_, rfl, (by repeat' (first | assumption | exact Below.refl _ _ | exact Nat.le_refl _ | refine Below.alloc ?_ ?_ _ | (simp; done) | (simp; omega) | omega)), by omega, ?_⟩
  have hv := HV.out
  exact of_row w v (by omega) _ _ _ (by omega) (by omega)

set_option maxRecDepth 100000 in
set_option maxHeartbeats 2000000 in
theorem of_neg (n : Int) (v : Nat) (h0 : n < 0) (hv : -n = (v : Int)) (h2 : v ≤ 9223372036854775808) (w : World) :
    Calls Try.prog 49 #[.int .i64 n] w fun e w' => ∃ b, e = .returned (.agg #[.bool true, .slice (some ⟨b, 0, none⟩) 6 6]) ∧ Below w.heap.size w w' ∧ w.heap.size ≤ b ∧ Row w' b v := by
  have hmk := make_six
  obtain ⟨u, hu⟩ : ∃ u : Int, u = (v : Int) := ⟨_, rfl⟩
  have n1 : 0 ≤ u := by omega
  have n2 : u ≤ 9223372036854775808 := by omega
  have n3 : -9223372036854775808 ≤ n := by omega
  have e0 : IntKind.u64.wrap (-(IntKind.u64.wrap n)) = u := by rw [IntKind.wrap_u64, IntKind.wrap_u64]; omega
  have e1 : bits .and .u64 u 4294967295 = u % 4294967296 := by rw [hu, andLow v (by omega)]; omega
  have HV : Hid (u = (v : Int)) := hu
  clear hv hu h2
  go_enter Try.func49, Try.ntmps49
  go_wp2_with fail
  refine bodyPost_ret (v := .agg #[.bool true, .slice (some ⟨w.heap.size + 1, 0, none⟩) 6 6]) (by simp [results, Try.results49, go_sem]) rfl ⟨_, rfl, (by repeat' (first | assumption | exact Below.refl _ _ | exact Nat.le_refl _ | refine Below.alloc ?_ ?_ _ | (simp; done) | (simp; omega) | omega)), by omega, ?_⟩
  have hv := HV.out
  exact of_row w v (by omega) _ _ _ (by omega) (by omega)

theorem rof_any (n : Int) (h1 : -9223372036854775808 ≤ n) (h2 : n ≤ 9223372036854775807) (w : World) :
    Calls Try.prog 49 #[.int .i64 n] w fun e w' => ∃ b, e = .returned (.agg #[.bool (decide (n < 0)), .slice (some ⟨b, 0, none⟩) 6 6]) ∧ Below w.heap.size w w' ∧ w.heap.size ≤ b ∧ Row w' b n.natAbs := by
  by_cases h : n < 0
  · rw [decide_eq_true h]; exact of_neg n n.natAbs h (by omega) (by omega) w
  · rw [decide_eq_false h]; exact of_pos n n.natAbs h (by omega) (by omega) w

theorem wdg_big {v j : Nat} (hj : 2 ≤ j) (h : ¬ Wd.dg v j = 0) : 18446744073709551616 ≤ v := by
  rcases Nat.lt_or_ge v 18446744073709551616 with hv | hv
  · exfalso
    apply h
    unfold Wd.dg
    rw [Nat.div_eq_of_lt (Nat.lt_of_lt_of_le hv (Nat.le_trans (show 18446744073709551616 ≤ 4294967296 ^ 2 by decide) (Nat.pow_le_pow_right (show 0 < 4294967296 by decide) hj)))]
  · exact hv
theorem wdg_down {v k : Nat} (hv : v < 4294967296 ^ (k + 1)) (h : Wd.dg v k = 0) : v < 4294967296 ^ k := by
  unfold Wd.dg at h
  have p := Wd.pw_pos k
  have q : v / 4294967296 ^ k < 4294967296 := (Nat.div_lt_iff_lt_mul p).2 (by rw [Nat.mul_comm, ← Nat.pow_succ]; exact hv)
  rw [Nat.mod_eq_of_lt q] at h
  rcases Nat.lt_or_ge v (4294967296 ^ k) with g | g
  · exact g
  · have := Nat.div_pos g p; omega
theorem wdg_small {v : Nat} (hv : v < 4294967296 ^ 6) (h : ∀ k, 2 ≤ k → k < 6 → Wd.dg v k = 0) : v < 18446744073709551616 := by
  have a := wdg_down (k := 5) hv (h 5 (by omega) (by omega))
  have b := wdg_down (k := 4) a (h 4 (by omega) (by omega))
  have c := wdg_down (k := 3) b (h 3 (by omega) (by omega))
  exact wdg_down (k := 2) c (h 2 (by omega) (by omega))

/-- the two lowest parts together. -/
theorem low_two {a b : Nat} (ha : a < 4294967296) (hb : b < 4294967296) : bits .or .u64 ((a : Int) * 4294967296) (b : Int) = ((a * 4294967296 + b : Nat) : Int) := by
  have h := bits_or_u64_nat (a * 4294967296) b (by omega) (by omega)
  have e : a * 4294967296 ||| b = a * 4294967296 + b := by
    have q := Nat.shiftLeft_add_eq_or_of_lt (i := 32) (show b < 2 ^ 32 by simpa using hb) a
    rw [Nat.shiftLeft_eq] at q
    exact q.symm
  rw [e] at h
  rw [show (a : Int) * 4294967296 = ((a * 4294967296 : Nat) : Int) by omega]
  exact h

set_option maxRecDepth 100000 in
set_option maxHeartbeats 2000000 in
theorem small_any (n : Bool) (b v : Nat) (w : World) (hb : Row w b v) :
    Calls Try.prog 48 #[.agg #[.bool n, .slice (some ⟨b, 0, none⟩) 6 6]] w fun e w' => e = .returned (.tuple #[.int .i64 (smV (sgn n v)), .int .i64 (smE (sgn n v))]) ∧ Below w.heap.size w w' := by
  have R : Row (w.alloc (box n b)) b v := hb.alloc _
  obtain ⟨W, hW⟩ : ∃ W, W = w.alloc (box n b) := ⟨_, rfl⟩
  have k0 : W.cell? ⟨w.heap.size, 0, none⟩ = some (.bool n) := by rw [hW, World.cell?_alloc_at _ _ _ _ rfl]; rfl
  have k1 : W.cell? ⟨w.heap.size, 1, none⟩ = some (.slice (some ⟨b, 0, none⟩) 6 6) := by rw [hW, World.cell?_alloc_at _ _ _ _ rfl]; rfl
  have HB : Hid (Below w.heap.size w W) := by show Below _ _ _; rw [hW]; exact (Below.refl _ _).alloc (Nat.le_refl _) _
  rw [← hW] at R
  go_enter Try.func48, Try.ntmps48
  go_wp2_with fail
  refine wat_world hW.symm ?_
  clear hW
  go_loop [4] (fun i => ∃ j : Nat, 2 ≤ j ∧ j ≤ 6 ∧ i = .int .i64 (j : Int) ∧ ∀ k, 2 ≤ k → k < j → Wd.dg v k = 0) (fun i => 6 - (intOf i).toNat)
  case atStart => exact ⟨2, by omega, by omega, rfl, fun k h1 h2 => by omega⟩
  case round =>
    obtain ⟨j, j1, j2, rfl, hz⟩ := hrel
    by_cases hlt : j < 6
    · have hlt' : (j : Int) < 6 := by omega
      have j0 : (0 : Int) ≤ (j : Int) := by omega
      have c := R.2.2 j hlt
      by_cases hd : Wd.dg v j = 0
      · have HN : Hid (∀ k, 2 ≤ k → k < j + 1 → Wd.dg v k = 0) := fun k h1 h2 => by
          by_cases e : k = j
          · rw [e]; exact hd
          · exact hz k h1 (by omega)
        rw [hd] at c
        clear hz hd R
        go_wp2_with fail
        go_round
        case rel => exact ⟨j + 1, by omega, by omega, by go_num, HN.out⟩
        case measure => simp [intOf]; omega
      · have hd' : (((Wd.dg v j : Nat) : Int) != 0) = true := by rw [bne_iff_ne]; omega
        have HO : Hid (smV (sgn n v) = 0 ∧ smE (sgn n v) = 10) := by
          have hv : 18446744073709551616 ≤ v := wdg_big j1 hd
          have o : sgn n v < -9223372036854775808 ∨ 9223372036854775807 < sgn n v := by unfold sgn; cases n <;> simp <;> omega
          exact ⟨smV_out o, smE_out o⟩
        generalize Wd.dg v j = x at *
        clear hz hd R
        go_wp2_with fail
        go_ret2
        exact ⟨ret_two HO.out.1.symm HO.out.2.symm, HB.out⟩
    · have hv : v < 18446744073709551616 := wdg_small R.1 (fun k h1 h2 => hz k h1 (by omega))
      have hlt' : ¬ (j : Int) < 6 := by omega
      have c0 := R.2.2 0 (by omega)
      have c1 := R.2.2 1 (by omega)
      have d0 := Wd.dg_lt v 0
      have d1 := Wd.dg_lt v 1
      have hor := low_two d1 d0
      have hsum : Wd.dg v 1 * 4294967296 + Wd.dg v 0 = v := by unfold Wd.dg; simp; omega
      rw [hsum] at hor
      obtain ⟨u, hu⟩ : ∃ u : Int, u = (v : Int) := ⟨_, rfl⟩
      rw [← hu] at hor
      obtain ⟨x0, hx0⟩ : ∃ x : Int, x = ((Wd.dg v 0 : Nat) : Int) := ⟨_, rfl⟩
      obtain ⟨x1, hx1⟩ : ∃ x : Int, x = ((Wd.dg v 1 : Nat) : Int) := ⟨_, rfl⟩
      rw [← hx0] at c0 hor
      rw [← hx1] at c1 hor
      have b0 : 0 ≤ x0 ∧ x0 < 4294967296 := by omega
      have b1 : 0 ≤ x1 ∧ x1 < 4294967296 := by omega
      have bu : 0 ≤ u ∧ u < 18446744073709551616 := by omega
      have HU : Hid (u = (v : Int)) := hu
      obtain ⟨b00, b01⟩ := b0
      obtain ⟨b10, b11⟩ := b1
      obtain ⟨bu0, bu1⟩ := bu
      clear hz R hb hx0 hx1 d0 d1 hsum hu hv
      have fin : ∀ x y : Int, smV (sgn n v) = x ∧ smE (sgn n v) = y → Hid (smV (sgn n v) = x ∧ smE (sgn n v) = y) := fun _ _ h => h
      cases n
      · have es : sgn false v = u := by rw [HU.out]; rfl
        by_cases hu : 9223372036854775808 ≤ u
        · have HF := fin 0 10 (by rw [es]; exact ⟨smV_out (by omega), smE_out (by omega)⟩)
          clear fin es
          go_wp2_with fail
          go_quiet (fail)
          go_wp2
          go_ret2
          exact ⟨ret_two HF.out.1.symm HF.out.2.symm, wbelow_drewN HB.out nq⟩
        · have HF := fin u 0 (by rw [es]; exact ⟨smV_in (by omega) (by omega), smE_in (by omega) (by omega)⟩)
          clear fin es
          go_wp2_with fail
          go_quiet (fail)
          go_wp2
          go_ret2
          exact ⟨ret_two HF.out.1.symm HF.out.2.symm, wbelow_drewN HB.out nq⟩
      · have es : sgn true v = -u := by rw [HU.out]; rfl
        by_cases hu : u ≤ 9223372036854775808
        · have HF := fin (-u) 0 (by rw [es]; exact ⟨smV_in (by omega) (by omega), smE_in (by omega) (by omega)⟩)
          have e1 : wrap64 (IntKind.u64.wrap (-u)) = -u := by rw [IntKind.wrap_u64]; unfold wrap64; omega
          have e2 : IntKind.i64.wrap (IntKind.u64.wrap (-u)) = -u := by rw [IntKind.wrap_u64, IntKind.wrap_i64]; omega
          clear fin es
          go_wp2_with fail
          go_quiet (fail)
          go_wp2
          go_ret2
          exact ⟨ret_two HF.out.1.symm HF.out.2.symm, wbelow_drewN HB.out nq⟩
        · have HF := fin 0 10 (by rw [es]; exact ⟨smV_out (by omega), smE_out (by omega)⟩)
          clear fin es
          go_wp2_with fail
          go_quiet (fail)
          go_wp2
          go_ret2
          exact ⟨ret_two HF.out.1.symm HF.out.2.symm, wbelow_drewN HB.out nq⟩

end Go.Proofs.Ytghfgabajdghiab
