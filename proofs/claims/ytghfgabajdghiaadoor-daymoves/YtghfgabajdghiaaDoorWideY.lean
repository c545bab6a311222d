/- Contract of the reference's divide. -/
import Derived.Test.YtghfgabajdghiaaDoorWideX
namespace Go.Proofs.YtghfgabajdghiaaDoor
open Go.RowKit
set_option linter.unusedVariables false

theorem Part.keep {w wr wr' : World} {N : Nat} {f : Nat → Nat} (h : Part w wr N f) (b : Below (N + 1) wr wr') : Part w wr' N f :=
  ⟨h.below.trans (b.mono (by omega)), Nat.lt_of_lt_of_le h.size b.size, fun j hj => (b.cell (p := ⟨N, j, none⟩) (Nat.lt_succ_self _)).trans (h.cell j hj), fun j hj => (b.frozen (p := ⟨N, j, none⟩) (Nat.lt_succ_self _)).trans (h.free j hj)⟩

set_option maxRecDepth 1000000 in
set_option maxHeartbeats 4000000 in
theorem divide_any (ba bb va vb : Nat) (w : World) (ha : Row w ba va) (hb : Row w bb vb) (hpos : 0 < vb) (hvb : vb < 18446744073709551616) :
    Calls Tryd.prog 84 #[.slice (some ⟨ba, 0, none⟩) 6 6, .slice (some ⟨bb, 0, none⟩) 6 6] w fun e w' => ∃ bq br, e = .returned (.tuple #[.slice (some ⟨bq, 0, none⟩) 6 6, .slice (some ⟨br, 0, none⟩) 6 6]) ∧ Below w.heap.size w w' ∧ w.heap.size ≤ bq ∧ w.heap.size ≤ br ∧ Row w' bq (va / vb) ∧ Row w' br (va % vb) := by
  have hmk := make_six
  go_enter Tryd.func84, Tryd.ntmps84
  go_wp2_with fail
  clear hmk
  go_loopw [7, 8] (fun r i wr => ∃ (n br : Nat), n ≤ 192 ∧ i = .int .i64 ((n : Int) - 1) ∧ r = .slice (some ⟨br, 0, none⟩) 6 6 ∧ w.heap.size < br ∧ Row wr br (va / 2 ^ n % vb) ∧ Part w wr w.heap.size (fun j => Wd.dg (va / 2 ^ n / vb * 2 ^ n) j)) (fun _ i _ => (intOf i + 1).toNat)
  case atStart =>
    have hz : va / 2 ^ 192 = 0 := Nat.div_eq_of_lt (Nat.lt_of_lt_of_le ha.1 (by decide))
    refine ⟨192, w.heap.size + 1, by omega, rfl, rfl, by omega, ?_, ?_⟩
    · rw [hz, Nat.zero_mod]
      have z := zeros (w.alloc (.cells #[.int .u64 0, .int .u64 0, .int .u64 0, .int .u64 0, .int .u64 0, .int .u64 0] 71)) 71
      have r := Part.row (v := 0) (z.congr (fun j _ => by simp [Wd.dg])) (by decide)
      simpa using r
    · rw [hz, Nat.zero_div, Nat.zero_mul]
      have z := zeros w 71
      have b := (Below.refl (w.heap.size + 1) (w.alloc (.cells #[.int .u64 0, .int .u64 0, .int .u64 0, .int .u64 0, .int .u64 0, .int .u64 0] 71))).alloc (by simp) (.cells #[.int .u64 0, .int .u64 0, .int .u64 0, .int .u64 0, .int .u64 0, .int .u64 0] 71)
      exact (z.keep b).congr (fun j _ => by simp [Wd.dg])
  case round =>
    obtain ⟨n, br, hn, hi, rfl, hbr, hR, hP⟩ := hrel
    rcases n with _ | k
    · rw [show (((0 : Nat) : Int) - 1) = -1 from rfl] at hi
      subst hi
      rw [Nat.pow_zero, Nat.div_one] at hR
      simp only [Nat.pow_zero, Nat.div_one, Nat.mul_one] at hP
      have HP : Hid (Part w wr w.heap.size (fun j => Wd.dg (va / vb) j)) := hP
      have HR : Hid (Row wr br (va % vb)) := hR
      clear hP hR
      go_wp2
      go_ret2
      exact ⟨_, _, rfl, HP.out.below, by omega, by omega, HP.out.row (Nat.lt_of_le_of_lt (Nat.div_le_self _ _) ha.1), HR.out⟩
    · rw [show (((k + 1 : Nat) : Int) - 1) = (k : Int) by omega] at hi
      subst hi
      have k0 : (0 : Int) ≤ (k : Int) := by omega
      have kk : (k : Int) < 192 := by omega
      obtain ⟨W, hWW⟩ : ∃ W, W = wr := ⟨wr, rfl⟩
      subst hWW
      obtain ⟨T, hT⟩ : ∃ T, T = va / 2 ^ (k + 1) := ⟨_, rfl⟩
      rw [← hT] at hR hP
      have HT : Hid (T = va / 2 ^ (k + 1)) := hT
      have HP : Hid (Part w W w.heap.size (fun j => Wd.dg (T / vb * 2 ^ (k + 1)) j)) := hP
      have HR : Hid (Row W br (T % vb)) := hR
      have HW : Hid (w.heap.size + 1 < W.heap.size) := by have := hR.2.1; show _ < _; omega
      have C1 := radd_any br br _ _ W hR hR
      rw [← Nat.two_mul] at C1
      have HC1 : Hid (Calls Tryd.prog 78 #[.slice (some ⟨br, 0, none⟩) 6 6, .slice (some ⟨br, 0, none⟩) 6 6] W fun e w' => e = .returned (.slice (some ⟨W.heap.size, 0, none⟩) 6 6) ∧ Part W w' W.heap.size (fun j => Wd.dg (2 * (T % vb)) j)) := C1
      clear C1 hT hR hP
      go_wp2_with fail
      refine HC1.out.mono ?_
      rintro e w1 ⟨rfl, hP1⟩
      obtain ⟨d, hd⟩ : ∃ d, d = k / 32 := ⟨_, rfl⟩
      obtain ⟨m, hm⟩ : ∃ m, m = k % 32 := ⟨_, rfl⟩
      have eA : w1.cell? ⟨ba, d, none⟩ = some (.int .u64 ((Wd.dg va d : Nat) : Int)) := (hP1.below.cell (p := ⟨ba, d, none⟩) (Nat.lt_trans ha.2.1 (by have := HW.out; omega))).trans ((HP.out.below.cell (p := ⟨ba, d, none⟩) ha.2.1).trans (ha.2.2 d (by omega)))
      have cR := hP1.cell 0 (by omega)
      have fR := hP1.free 0 (by omega)
      have HP1 : Hid (Part W w1 W.heap.size (fun j => Wd.dg (2 * (T % vb)) j)) := hP1
      clear hP1
      have HD : Hid (d = k / 32) := hd
      have HM : Hid (m = k % 32) := hm
      have q1 : (k : Int) / 32 = (d : Int) := by omega
      have q2 : (k : Int) % 32 = (m : Int) := by omega
      have q3 : Int.tdiv (k : Int) 32 = (d : Int) := by rw [Int.tdiv_eq_ediv_of_nonneg k0]; exact q1
      have q4 : Int.tmod (k : Int) 32 = (m : Int) := by rw [Int.tmod_eq_emod_of_nonneg k0]; exact q2
      have d6 : (d : Int) < 6 := by omega
      have d0 : (0 : Int) ≤ (d : Int) := by omega
      have m32 : (m : Int) < 32 := by omega
      have m0 : (0 : Int) ≤ (m : Int) := by omega
      clear hd hm
      generalize hgx : Wd.dg va d = x at *
      generalize hgy : Wd.dg (2 * (T % vb)) 0 = y at *
      have HX : Hid (Wd.dg va d = x) := hgx
      have HY : Hid (Wd.dg (2 * (T % vb)) 0 = y) := hgy
      have lx : x < 4294967296 := by rw [← hgx]; exact Wd.dg_lt _ _
      have ly : y < 4294967296 := by rw [← hgy]; exact Wd.dg_lt _ _
      clear hgx hgy
      obtain ⟨t, ht⟩ : ∃ t, t = va / 2 ^ k % 2 := ⟨_, rfl⟩
      have t1 : t ≤ 1 := by omega
      have HTk : Hid (va / 2 ^ k = 2 * T + t) := by show _ = _; rw [HT.out, ht]; exact top_bit va k
      have hxt : x / 2 ^ m % 2 = t := by rw [← HX.out, HD.out, HM.out, dg_bit]; exact ht.symm
      obtain ⟨z, hz⟩ : ∃ z, z = Wd.dg (2 * (T % vb) + t) 0 := ⟨_, rfl⟩
      have hv : bits .or .u64 (y : Int) (bits .and .u64 ((x : Int) / 2 ^ m) 1) = (z : Int) := by
        rw [castDivPow, show bits .and .u64 ((x / 2 ^ m : Nat) : Int) 1 = ((x / 2 ^ m &&& 1 : Nat) : Int) from bits_and_u64_nat _ 1 (Nat.lt_of_le_of_lt (Nat.div_le_self _ _) (by omega)) (by omega), Nat.and_one_is_mod, hxt, bits_or_u64_nat y t (by omega) (by omega), hz, rest_dg _ t 0 t1, if_pos rfl, HY.out]
      have HS : Hid (Part W (w1.setCell ⟨W.heap.size, 0, none⟩ (.int .u64 (z : Int))).drew W.heap.size (fun j => Wd.dg (2 * (T % vb) + t) j)) := ((HP1.out.set (k := 0) (x := z) (by omega)).congr (fun j _ => by
        rw [rest_dg _ t j t1]
        by_cases g : j = 0
        · subst g; rw [if_pos rfl, if_pos rfl, hz, rest_dg _ t 0 t1, if_pos rfl]
        · rw [if_neg g, if_neg g])).drew
      clear ht hxt hz
      go_wp2
      go_region
      all_goals (try go_wp2_with fail)
      obtain ⟨w2, hw2⟩ : ∃ w2, w2 = (w1.setCell ⟨W.heap.size, 0, none⟩ (.int .u64 (z : Int))).drew := ⟨_, rfl⟩
      rw [← hw2] at HS ⊢
      clear hw2 eA cR fR hv HP1
      have hlt := Nat.mod_lt T hpos
      have rows : Row w2 W.heap.size (2 * (T % vb) + t) := HS.out.row (Nat.lt_trans (show _ < 4294967296 ^ 3 by omega) (by decide))
      have rowb : Row w2 bb vb := (hb.below HP.out.below hb.2.1).below HS.out.below (Nat.lt_trans hb.2.1 (by have := HW.out; omega))
      have HP2 : Hid (Part w w2 w.heap.size (fun j => Wd.dg (T / vb * 2 ^ (k + 1)) j)) := HP.out.keep (HS.out.below.mono (by have := HW.out; omega))
      refine (rcmp_any _ _ _ _ w2 rows rowb).mono ?_
      rintro e w3 ⟨rfl, hB3⟩
      have HP3 : Hid (Part w w3 w.heap.size (fun j => Wd.dg (T / vb * 2 ^ (k + 1)) j)) := HP2.out.keep (hB3.mono (by have := HW.out; have := HS.out.size; omega))
      have HR3 : Hid (Row w3 W.heap.size (2 * (T % vb) + t)) := rows.below hB3 HS.out.size
      have HB3 : Hid (Row w3 bb vb) := rowb.below hB3 (Nat.lt_trans hb.2.1 (by have := HW.out; have := HS.out.size; omega))
      clear rows rowb hB3
      by_cases hge : vb ≤ 2 * (T % vb) + t
      · obtain ⟨e1, e2⟩ := long_ge T vb t hpos t1 hge
        obtain ⟨c, hc, c0⟩ : ∃ c, c = wcmpV (2 * (T % vb) + t) vb ∧ 0 ≤ c := ⟨_, rfl, by unfold wcmpV; split; omega; split <;> omega⟩
        rw [← hc]
        have HC4 : Hid (Calls Tryd.prog 80 #[.slice (some ⟨W.heap.size, 0, none⟩) 6 6, .slice (some ⟨bb, 0, none⟩) 6 6] w3 fun e w' => e = .returned (.slice (some ⟨w3.heap.size, 0, none⟩) 6 6) ∧ Part w3 w' w3.heap.size (fun j => Wd.dg (2 * (T % vb) + t - vb) j)) := rless_any _ _ _ _ w3 HR3.out HB3.out hge
        clear hc
        go_wp2_with fail
        refine HC4.out.mono ?_
        rintro e w4 ⟨rfl, hP4⟩
        have HP4 : Hid (Part w w4 w.heap.size (fun j => Wd.dg (T / vb * 2 ^ (k + 1)) j)) := HP3.out.keep (hP4.below.mono HP3.out.size)
        have cQ := HP4.out.cell d (by omega)
        have fQ := HP4.out.free d (by omega)
        have HR4 : Hid (Row w4 w3.heap.size (2 * (T % vb) + t - vb)) := hP4.row (Nat.lt_trans (show _ < 4294967296 ^ 3 by omega) (by decide))
        have HE : Hid ((2 * T + t) % vb = 2 * (T % vb) + t - vb ∧ (2 * T + t) / vb = 2 * (T / vb) + 1) := ⟨e1, e2⟩
        clear hP4 e1 e2 hge
        generalize hgu : Wd.dg (T / vb * 2 ^ (k + 1)) d = u at *
        have HU : Hid (Wd.dg (T / vb * 2 ^ (k + 1)) d = u) := hgu
        have lu : u < 4294967296 := by rw [← hgu]; exact Wd.dg_lt _ _
        clear hgu
        have lm : 2 ^ m < 4294967296 := Nat.lt_of_lt_of_le (Nat.pow_lt_pow_right (by decide) (show m < 32 by omega)) (by decide)
        have HQ : Hid (bits .or .u64 (u : Int) (IntKind.u64.wrap (2 ^ m)) = ((u ||| 2 ^ m : Nat) : Int)) := by
          show _ = _
          rw [show ((2 : Int) ^ m) = ((2 ^ m : Nat) : Int) by simp, castWrap _ (by omega), bits_or_u64_nat _ _ (by omega) (by omega)]
        go_wp2
        rw [HQ.out]
        refine ⟨⟨k, w3.heap.size, by omega, rfl, rfl, by have := HP3.out.size; omega, ?_, ?_⟩, by simp [intOf] <;> omega⟩
        · rw [HTk.out, HE.out.1]
          exact HR4.out.setCell (a := ⟨w.heap.size, d, none⟩) (Nat.ne_of_lt HP3.out.size) _
        · rw [HTk.out, HE.out.2]
          refine (HP4.out.set (k := d) (x := u ||| 2 ^ m) (by omega)).congr (fun j _ => ?_)
          rw [quo_dg, ← HD.out, ← HM.out]
          by_cases g : j = d
          · subst g; rw [if_pos rfl, if_pos rfl, HU.out]
          · rw [if_neg g, if_neg g]
      · obtain ⟨e1, e2⟩ := long_lt T vb t hpos t1 (by omega)
        have HE : Hid ((2 * T + t) % vb = 2 * (T % vb) + t ∧ (2 * T + t) / vb = 2 * (T / vb)) := ⟨e1, e2⟩
        rw [cmpV_lt (by omega)]
        clear e1 e2 hge
        go_wp2
        refine ⟨⟨k, W.heap.size, by omega, by go_num, rfl, by have := HW.out; omega, ?_, ?_⟩, by simp [intOf]⟩
        · rw [HTk.out, HE.out.1]; exact HR3.out
        · rw [HTk.out, HE.out.2, quo_same]; exact HP3.out

end Go.Proofs.YtghfgabajdghiaaDoor
