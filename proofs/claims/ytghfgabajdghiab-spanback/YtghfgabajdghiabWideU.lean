/- Contract of the reference's Times. -/
import Derived.Test.YtghfgabajdghiabWideT
namespace Go.Proofs.Ytghfgabajdghiab
open Go.RowKit
set_option linter.unusedVariables false

abbrev tw (w : World) (n m : Bool) (ba bb : Nat) : World := ((w.alloc (box n ba)).alloc (box m bb)).alloc nobox

set_option maxRecDepth 1000000 in
set_option maxHeartbeats 4000000 in
theorem times_any (n m : Bool) (ba bb va vb : Nat) (w : World) (ha : Row w ba va) (hb : Row w bb vb) (hva : va < 18446744073709551616) (hvb : vb < 18446744073709551616) :
    Calls Try.prog 52 #[.agg #[.bool n, .slice (some ⟨ba, 0, none⟩) 6 6], .agg #[.bool m, .slice (some ⟨bb, 0, none⟩) 6 6]] w fun e w' => ∃ b, e = .returned (.agg #[.bool ((n != m) && !decide (va * vb = 0)), .slice (some ⟨b, 0, none⟩) 6 6]) ∧ Below w.heap.size w w' ∧ w.heap.size ≤ b ∧ Row w' b (va * vb) := by
  have hmk := make_six
  go_enter Try.func52, Try.ntmps52
  go_wp2_with fail
  go_loopw [5, 6] (fun o i wr => ∃ (k bo : Nat), k ≤ 2 ∧ i = .int .i64 k ∧ o = .slice (some ⟨bo, 0, none⟩) 6 6 ∧ w.heap.size + 1 + 1 + 1 ≤ bo ∧ Row wr bo ((va % 4294967296 ^ k) * vb) ∧ Below (w.heap.size + 1 + 1 + 1) (tw w n m ba bb) wr) (fun _ i _ => 2 - (intOf i).toNat)
  case atStart =>
    refine ⟨0, w.heap.size + 1 + 1 + 1, by omega, rfl, rfl, by omega, ?_, ?_⟩
    · have z := zeros (tw w n m ba bb) 65
      have r := Part.row (v := 0) (z.congr (fun j _ => by simp [Wd.dg])) (by decide)
      rw [Nat.pow_zero, Nat.mod_one, Nat.zero_mul]
      simpa using r
    · have b : Below (w.heap.size + 1 + 1 + 1) (tw w n m ba bb) (tw w n m ba bb) := Below.refl _ _
      exact b.alloc (by simp) _
  case round =>
    obtain ⟨i, bo, hi, rfl, rfl, hbo, hR, hB⟩ := hrel
    have la := ha.2.1
    have lb := hb.2.1
    have hW0 : (tw w n m ba bb).heap.size = w.heap.size + 1 + 1 + 1 := by simp
    have hz := hB.size
    rw [hW0] at hz
    have HA : Hid (Row wr ba va) := (((ha.alloc _).alloc _).alloc _).below hB (by omega)
    have HA2 : Hid (Row wr bb vb) := (((hb.alloc _).alloc _).alloc _).below hB (by omega)
    have HR : Hid (Row wr bo ((va % 4294967296 ^ i) * vb)) := hR
    have HB : Hid (Below (w.heap.size + 1 + 1 + 1) (tw w n m ba bb) wr) := hB
    obtain ⟨c1, c2, c3, c4, c5, c6, f5, f6⟩ := boxes hB
    clear hR hB hW0
    by_cases hlt : i < 2
    · have hlt' : (i : Int) < 2 := by omega
      have i0 : (0 : Int) ≤ (i : Int) := by omega
      have HX : Hid (Wd.dg va i < 4294967296) := Wd.dg_lt va i
      have HC : Hid (wr.cell? ⟨ba, i, none⟩ = some (.int .u64 ((Wd.dg va i : Nat) : Int))) := HA.out.2.2 i (by omega)
      obtain ⟨x, hx⟩ : ∃ x, x = Wd.dg va i := ⟨_, rfl⟩
      rw [← hx] at HX HC
      have HX0 : Hid (x = Wd.dg va i) := hx
      clear hx
      go_wp2_with fail
      clear hmk
      obtain ⟨W, hWW⟩ : ∃ W, W = wr := ⟨wr, rfl⟩
      subst hWW
      go_loopw [8, 9] (fun c k wr2 => ∃ t : Nat, t ≤ 3 ∧ k = .int .i64 t ∧ c = .int .u64 ((mc x vb t : Nat) : Int) ∧ Part W wr2 W.heap.size (fun j => if i ≤ j ∧ j < i + t then Wd.dg (x * vb) (j - i) else 0)) (fun _ k _ => 3 - (intOf k).toNat)
      case atStart => exact ⟨0, by omega, rfl, by rw [mc_zero]; rfl, (zeros W _).congr (fun j _ => by rw [if_neg (by omega)])⟩
      case round =>
        obtain ⟨t, ht, rfl, rfl, hP⟩ := hrel
        by_cases tlt : t < 3
        · have tlt' : (t : Int) < 3 := by omega
          have t0 : (0 : Int) ≤ (t : Int) := by omega
          have e2 : wr.cell? ⟨w.heap.size, 1, none⟩ = some (.slice (some ⟨ba, 0, none⟩) 6 6) := (hP.below.cell (p := ⟨w.heap.size, 1, none⟩) (show w.heap.size < W.heap.size by omega)).trans c2
          have e4 : wr.cell? ⟨w.heap.size + 1, 1, none⟩ = some (.slice (some ⟨bb, 0, none⟩) 6 6) := (hP.below.cell (p := ⟨w.heap.size + 1, 1, none⟩) (show w.heap.size + 1 < W.heap.size by omega)).trans c4
          have ex : wr.cell? ⟨ba, i, none⟩ = some (.int .u64 (x : Int)) := (hP.below.cell (p := ⟨ba, i, none⟩) HA.out.2.1).trans HC.out
          have ey : wr.cell? ⟨bb, t, none⟩ = some (.int .u64 ((Wd.dg vb t : Nat) : Int)) := (hP.below.cell (p := ⟨bb, t, none⟩) HA2.out.2.1).trans (HA2.out.2.2 t (by omega))
          have cN := hP.cell (i + t) (by omega)
          have fN := hP.free (i + t) (by omega)
          obtain ⟨q0, q1, q2⟩ := mul_cells x vb t HX.out
          have hS := Part.set (x := Wd.dg (x * vb) t) (k := i + t) hP.drew (by omega)
          have HS : Hid (Part W (wr.drew.setCell ⟨W.heap.size, i + t, none⟩ (.int .u64 ((Wd.dg (x * vb) t : Nat) : Int))) W.heap.size (fun j => if i ≤ j ∧ j < i + (t + 1) then Wd.dg (x * vb) (j - i) else 0)) := hS.congr (fun j _ => by
            by_cases g : j = i + t
            · subst g
              rw [if_pos rfl, if_pos (by omega), Nat.add_sub_cancel_left]
            · rw [if_neg g]
              by_cases g2 : i ≤ j ∧ j < i + t
              · rw [if_pos g2, if_pos (by omega)]
              · rw [if_neg g2, if_neg (by omega)])
          have l0 := mc_le x vb t
          have l2 := Wd.dg_lt vb t
          have hx' := HX.out
          generalize hC' : mc x vb (t + 1) = C' at *
          have HC' : Hid (mc x vb (t + 1) = C') := hC'
          generalize mc x vb t = C at *
          generalize Wd.dg vb t = y at *
          generalize Wd.dg (x * vb) t = z at *
          have hxy : (x : Int) * (y : Int) = ((x * y : Nat) : Int) := by simp
          generalize x * y = p at *
          rw [if_neg (by omega)] at cN
          clear hS hP hC'
          go_wp2
          go_region
          all_goals (try go_wp2)
          exact ⟨⟨t + 1, by omega, by go_num, by rw [HC'.out], HS.out⟩, by simp [intOf]; omega⟩
        · have ht3 : t = 3 := by omega
          have tge : ¬ (t : Int) < 3 := by omega
          have hm : x * vb < 4294967296 ^ 3 := Nat.lt_of_lt_of_le (Nat.mul_lt_mul'' HX.out hvb) (by decide)
          have hpw : 4294967296 ^ i ≤ 4294967296 ^ 1 := Nat.pow_le_pow_right (by decide) (by omega)
          have hm2 : x * vb * 4294967296 ^ i < 4294967296 ^ 5 := Nat.lt_of_le_of_lt (Nat.mul_le_mul_left _ hpw) (by omega)
          have hm3 : va % 4294967296 ^ (i + 1) * vb < 4294967296 ^ 6 := Nat.lt_of_le_of_lt (Nat.mul_le_mul_right _ (Nat.mod_le _ _)) (Nat.lt_of_lt_of_le (Nat.mul_lt_mul'' hva hvb) (by decide))
          have hR2 : Row wr W.heap.size (x * vb * 4294967296 ^ i) := (hP.congr (g := fun j => Wd.dg (x * vb * 4294967296 ^ i) j) (fun j hj => by rw [ht3]; exact row_part x vb i j (by omega) hj hm)).row (by omega)
          have hR1 := HR.out.below hP.below HR.out.2.1
          have C1 := radd_any bo W.heap.size _ _ wr hR1 hR2
          rw [HX0.out, out_step] at C1
          have HC1 : Hid (Calls Try.prog 55 #[.slice (some ⟨bo, 0, none⟩) 6 6, .slice (some ⟨W.heap.size, 0, none⟩) 6 6] wr fun e w' => e = .returned (.slice (some ⟨wr.heap.size, 0, none⟩) 6 6) ∧ Part wr w' wr.heap.size (fun j => Wd.dg (va % 4294967296 ^ (i + 1) * vb) j)) := C1
          have HP0 : Hid (Below W.heap.size W wr) := hP.below
          have hs := hP.size
          have HM : Hid (va % 4294967296 ^ (i + 1) * vb < 4294967296 ^ 6) := hm3
          clear C1 hR1 hR2 hm hm2 hm3 hpw hP
          go_wp2_with fail
          refine HC1.out.mono ?_
          rintro e w1 ⟨rfl, hP2⟩
          have HP2 : Hid (Part wr w1 wr.heap.size (fun j => Wd.dg (va % 4294967296 ^ (i + 1) * vb) j)) := hP2
          clear hP2
          go_wp2
          exact ⟨⟨i + 1, wr.heap.size, by omega, by go_num, rfl, by omega, HP2.out.row HM.out, (HB.out.trans (HP0.out.mono hz)).trans (HP2.out.below.mono (by omega))⟩, by simp [intOf]; omega⟩
    · have hge : ¬ (i : Int) < 2 := by omega
      have hv : va % 4294967296 ^ i * vb = va * vb := by rw [show i = 2 by omega, Nat.mod_eq_of_lt (Nat.lt_of_lt_of_le hva (by decide))]
      have HR' : Hid (Row wr bo (va * vb)) := hv ▸ HR.out
      have HZ : Hid (Calls Try.prog 58 #[.slice (some ⟨bo, 0, none⟩) 6 6] wr fun e w' => e = .returned (.bool (decide (va * vb = 0))) ∧ Below wr.heap.size wr w') := rzero_any bo _ wr HR'.out
      have hbo' : w.heap.size ≤ bo := by omega
      clear hv hmk HA HA2
      obtain ⟨Z, hZ⟩ : ∃ Z, Z = decide (va * vb = 0) := ⟨_, rfl⟩
      rw [← hZ] at HZ
      have HZ0 : Hid (Z = decide (va * vb = 0)) := hZ
      clear hZ
      by_cases hnm : n = m
      · subst hnm
        go_wp2
        refine bodyPost_ret (v := .agg #[.bool false, .slice (some ⟨bo, 0, none⟩) 6 6]) (by simp [results, Try.results52, go_sem, c5, c6]) rfl ⟨bo, ?_, ?_, hbo', ?_⟩
        · cases n <;> rfl
        · exact (((three _ _ _).trans (HB.out.mono (by omega))).setCell (Nat.le_trans (Nat.le_add_right _ 2) (Nat.le_refl _)) _).setCell (Nat.le_trans (Nat.le_add_right _ 2) (Nat.le_refl _)) _
        · exact (HR'.out.setCell (a := ⟨w.heap.size + 1 + 1, 0, none⟩) (show w.heap.size + 1 + 1 ≠ bo by omega) _).setCell (a := ⟨w.heap.size + 1 + 1, 1, none⟩) (show w.heap.size + 1 + 1 ≠ bo by omega) _
      · have hnm' : (n == m) = false := by cases n <;> cases m <;> simp_all
        have hnn : (n != m) = true := by cases n <;> cases m <;> simp_all
        go_wp2_with fail
        refine HZ.out.mono ?_
        rintro e w1 ⟨rfl, hB1⟩
        have HB1 : Hid (Below (w.heap.size + 1 + 1 + 1) (tw w n m ba bb) w1) := HB.out.trans (hB1.mono hz)
        have HR1 : Hid (Row w1 bo (va * vb)) := HR'.out.below hB1 HR'.out.2.1
        clear c1 c2 c3 c4 c5 c6 f5 f6 hB1
        obtain ⟨c1, c2, c3, c4, c5, c6, f5, f6⟩ := boxes HB1.out
        go_wp2
        refine bodyPost_ret (v := .agg #[.bool (!Z), .slice (some ⟨bo, 0, none⟩) 6 6]) (by simp [results, Try.results52, go_sem, c5, c6]) rfl ⟨bo, ?_, ?_, hbo', ?_⟩
        · rw [hnn, ← HZ0.out]; rfl
        · exact (((three _ _ _).trans (HB1.out.mono (by omega))).setCell (Nat.le_trans (Nat.le_add_right _ 2) (Nat.le_refl _)) _).setCell (Nat.le_trans (Nat.le_add_right _ 2) (Nat.le_refl _)) _
        · exact (HR1.out.setCell (a := ⟨w.heap.size + 1 + 1, 0, none⟩) (show w.heap.size + 1 + 1 ≠ bo by omega) _).setCell (a := ⟨w.heap.size + 1 + 1, 1, none⟩) (show w.heap.size + 1 + 1 ≠ bo by omega) _

end Go.Proofs.Ytghfgabajdghiab
