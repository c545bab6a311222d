import Derived.Test.YtklehbmghjcmaaaGreatDoorSz
import Derived.Test.YtklehbmghjcmaaaGreatDoorS4
import Derived.Test.YtklehbmghjcmaaaGreatDoorS10
import Derived.Test.YtklehbmghjcmaaaGreatDoorS32
import Derived.Test.YtklehbmghjcmaaaGreatDoorS33
import Derived.Test.YtklehbmghjcmaaaGreatDoorS6
import Derived.Test.YtklehbmghjcmaaaGreatDoorS20
import Derived.Test.YtklehbmghjcmaaaGreatDoorS29
import Derived.Test.YtklehbmghjcmaaaGreatDoorS30
open Go.Value renaming int → vi
open Go.IntKind renaming i64 → ki
open List renaming setIfInBounds_toArray → zb, set_cons_zero → zc, set_cons_succ → zd
open Go.Act renaming put → za
open Go.Ending renaming returned → zr
set_option maxRecDepth 100000
set_option maxHeartbeats 16000000
set_option linter.unusedVariables false
namespace Go.Proofs.YtklehbmghjcmaaaGreatDoor
open Go.RowKit Sr
theorem rright_none (nm : ByteArray) (f : TrR) (sv : Value) (FL : List Value) (hF : FL.length = 19) (L : List TrR) (h0 : f.at_ = 0) (h1 : offR f.off = true) (h4 : L.length ≤ 4096) (hok : ∀ j, j < L.length → OkR L j) (z : Bool) (f0 : FL[0]? = some (.bool false)) (EQ : Hid (∀ W : World, (Op.equalIn 10000 32 (.agg FL.toArray) (.agg zeF.toArray)).run Tryz.prog W = .ok z W)) (w : World) (HT : Hid (TrAt w sv L)) :
  Calls Tryz.prog 21 #[.agg (tbF nm f sv FL).toArray] w fun r w' => r = zr (.bool z) ∧ Below w.heap.size w w' := by
 have X1 : Hid (Bx (w.alloc (.cells (tbF nm f sv FL).toArray 34)) w.heap.size (tbF nm f sv FL)) := Bx.new w _ _
 have B1 : Hid (Below w.heap.size w (w.alloc (.cells (tbF nm f sv FL).toArray 34))) := (Below.refl _ _).alloc (Nat.le_refl _) _
 have OF : Hid (∀ W : World, Calls Tryz.prog 53 #[.agg #[vi ki 0, vi ki f.off, .bool f.dst, .string f.ab]] W fun r w' => r = zr (.bool true) ∧ Below W.heap.size W w') := fun W => roff_run ⟨0, f.off, f.dst, f.ab⟩ true h1.symm W
 have HALL : Hid (∀ j, j < L.length → OkR L j) := hok
 obtain ⟨⟨ao, c, hsv⟩, hml, _⟩ := HT.out
 obtain ⟨n, hn⟩ : ∃ n, L.length = n := ⟨_, rfl⟩
 rw [hn] at hsv h4
 clear hml h1 hok
 go_enter Tryz.func21, Tryz.ntmps21
 generalize hUA : (tbF nm f sv FL).toArray = UA at *
 go_upto_region 1 with fail
 refine gen_code (fun V => Bx V w.heap.size (tbF nm f sv FL) ∧ Below w.heap.size w V) ⟨X1.out, B1.out⟩ ?_
 clear X1 B1
 rintro V ⟨XV, BV⟩
 have r1 : V.cell? ⟨w.heap.size, 1, none⟩ = some (vi ki 0) := by have := XV.c 1 (v := vi ki f.at_) rfl; rw [h0] at this; exact this
 have r2 : V.cell? ⟨w.heap.size, 2, none⟩ = some (vi ki f.off) := XV.c 2 rfl
 have r3 : V.cell? ⟨w.heap.size, 3, none⟩ = some (.bool f.dst) := XV.c 3 rfl
 have r4 : V.cell? ⟨w.heap.size, 4, none⟩ = some (.string f.ab) := XV.c 4 rfl
 have HX : Hid (Bx V w.heap.size (tbF nm f sv FL)) := XV
 have HB : Hid (Below w.heap.size w V) := BV
 clear XV BV
 go_wp2_with fail
 refine (OF.out _).mono ?_
 rintro e v1 ⟨rfl, hb⟩
 have HX1 : Hid (Bx v1 w.heap.size (tbF nm f sv FL)) := HX.out.below hb
 have HB1 : Hid (Below w.heap.size w v1) := HB.out.trans (hb.mono HB.out.size)
 clear hb HX HB r1 r2 r3 r4 OF
 have q1 : v1.cell? ⟨w.heap.size, 1, none⟩ = some (vi ki 0) := by have := HX1.out.c 1 (v := vi ki f.at_) rfl; rw [h0] at this; exact this
 have q5 : v1.cell? ⟨w.heap.size, 5, none⟩ = some (.slice ao n c) := by have := HX1.out.c 5 (v := sv) rfl; rw [hsv] at this; exact this
 go_wp2_with fail
 go_loopw [3, 4] (fun lv iv wr => ∃ i : Nat, i ≤ n ∧ iv = vi ki (i : Int) ∧ lv = vi ki (lastA L i) ∧ Hid (∀ j, j < i → OkR L j) ∧ Hid (Bx wr w.heap.size (tbF nm f sv FL)) ∧ Hid (Below w.heap.size w wr)) (fun _ iv _ => n - (intOf iv).toNat)
 case atStart => exact ⟨0, Nat.zero_le _, rfl, rfl, fun j hj => absurd hj (Nat.not_lt_zero _), HX1, HB1⟩
 case round =>
  clear HX1 HB1 q1 q5
  obtain ⟨i, hi, rfl, rfl, HOK, HX, HB⟩ := hrel
  have q5 : wr.cell? ⟨w.heap.size, 5, none⟩ = some (.slice ao n c) := by have := HX.out.c 5 (v := sv) rfl; rw [hsv] at this; exact this
  by_cases hin : i < n
  ·obtain ⟨x, hx, ho, h5', h6⟩ := HALL.out i (by omega)
   obtain ⟨g, o, c', hsv', hrg⟩ := (HT.out.mv HB.out).row hx
   rw [hn, hsv] at hsv'
   simp only [Value.slice.injEq, true_and] at hsv'
   obtain ⟨rfl, rfl⟩ := hsv'
   have HRG : Hid (wr.rangeAt g (o + i * 4) (trC x)) := hrg
   have HXn : Hid (Bx (wr.alloc (.cells #[vi ki x.at_, vi ki x.off, .bool x.dst, .string x.ab] 23)) w.heap.size (tbF nm f sv FL)) := HX.out.alloc _
   have HZn : Hid (Bx (wr.alloc (.cells #[vi ki x.at_, vi ki x.off, .bool x.dst, .string x.ab] 23)) wr.heap.size [vi ki x.at_, vi ki x.off, .bool x.dst, .string x.ab]) := Bx.new wr [vi ki x.at_, vi ki x.off, .bool x.dst, .string x.ab] _
   have HBn : Hid (Below w.heap.size w (wr.alloc (.cells #[vi ki x.at_, vi ki x.off, .bool x.dst, .string x.ab] 23))) := HB.out.alloc HB.out.size _
   have HLS : Hid (lastA L (i + 1) = x.at_) := lastA_succ hx
   have HOI : Hid (OkR L i) := ⟨x, hx, ho, h5', h6⟩
   obtain ⟨la, hla⟩ : ∃ la, la = lastA L i := ⟨_, rfl⟩
   rw [← hla] at h5' ⊢
   clear hrg hx HX HB hla
   go_upto_region 8 with (first | (refine wpList_load_mid rfl 23 _ rfl g (o + i * 4) rfl [vi ki x.at_, vi ki x.off, .bool x.dst, .string x.ab] _ HRG.out Tryz.underlying23 rfl (by kernel_rfl) ?_) | fail)
   refine gen_code (fun V => Bx V w.heap.size (tbF nm f sv FL) ∧ Bx V wr.heap.size [vi ki x.at_, vi ki x.off, .bool x.dst, .string x.ab] ∧ Below w.heap.size w V) ⟨HXn.out, HZn.out, HBn.out⟩ ?_
   clear HXn HZn HBn HRG q5
   rintro V9 ⟨XV, ZV, BV⟩
   have OX : Hid (∀ W : World, Calls Tryz.prog 53 #[.agg #[vi ki x.at_, vi ki x.off, .bool x.dst, .string x.ab]] W fun r w' => r = zr (.bool true) ∧ Below W.heap.size W w') := fun W => roff_run x true ho.symm W
   have z0 : V9.cell? ⟨wr.heap.size, 0, none⟩ = some (vi ki x.at_) := ZV.c 0 rfl
   have z1 : V9.cell? ⟨wr.heap.size, 1, none⟩ = some (vi ki x.off) := ZV.c 1 rfl
   have z2 : V9.cell? ⟨wr.heap.size, 2, none⟩ = some (.bool x.dst) := ZV.c 2 rfl
   have z3 : V9.cell? ⟨wr.heap.size, 3, none⟩ = some (.string x.ab) := ZV.c 3 rfl
   have HX9 : Hid (Bx V9 w.heap.size (tbF nm f sv FL)) := XV
   have HZ9 : Hid (Bx V9 wr.heap.size [vi ki x.at_, vi ki x.off, .bool x.dst, .string x.ab]) := ZV
   have HB9 : Hid (Below w.heap.size w V9) := BV
   clear XV ZV BV
   go_wp2_with fail
   refine (OX.out _).mono ?_
   rintro e v2 ⟨rfl, hb⟩
   have HX2 : Hid (Bx v2 w.heap.size (tbF nm f sv FL)) := HX9.out.below hb
   have y0 : v2.cell? ⟨wr.heap.size, 0, none⟩ = some (vi ki x.at_) := (HZ9.out.below hb).c 0 rfl
   have HB2 : Hid (Below w.heap.size w v2) := HB9.out.trans (hb.mono HB9.out.size)
   clear hb HX9 HZ9 HB9 z0 z1 z2 z3 OX
   have h5 : ¬ x.at_ ≤ la := by omega
   have h7 : ¬ 1125899906842624 < x.at_ := by omega
   have HOK' : Hid (∀ j, j < i + 1 → OkR L j) := fun j hj => by
    by_cases e : j = i
    ·rw [e]; exact HOI.out
    ·exact HOK.out j (by omega)
   clear HOI HOK ho h5' h6
   go_wp2_with fail
   exact ⟨⟨i + 1, by omega, by simp, by rw [HLS.out], HOK', HX2, HB2⟩, by simp [intOf]; omega⟩
  ·have q6 : wr.cell? ⟨w.heap.size, 6, none⟩ = some (.bool false) := HX.out.c 6 ((tbF_foot 0).trans f0)
   have Y0 : Hid (Bx (wr.alloc (.cells zeF.toArray 32)) w.heap.size (tbF nm f sv FL)) := HX.out.alloc _
   have Y1 : Hid (Bx (wr.alloc (.cells zeF.toArray 32)) wr.heap.size zeF) := Bx.new wr zeF _
   have YB : Hid (Below w.heap.size w (wr.alloc (.cells zeF.toArray 32))) := HB.out.alloc HB.out.size _
   clear HOK HALL
   go_upto_region 13 with fail
   refine gen_code (fun V => Bx V w.heap.size (tbF nm f sv FL) ∧ Bx V wr.heap.size zeF ∧ Below w.heap.size w V) ⟨Y0.out, Y1.out, YB.out⟩ ?_
   clear Y0 Y1 YB HX HB q5 q6
   rintro V5 ⟨XV, ZV, BV⟩
   have HR : Hid (V5.rangeAt w.heap.size 6 FL) := fun j v hv => (XV.2 (6 + j) v ((tbF_foot j).trans hv)).1
   obtain ⟨ZF, hZF⟩ : ∃ ZF, zeF = ZF := ⟨_, rfl⟩
   have hz19 : ZF.length = 19 := by rw [← hZF]; rfl
   rw [hZF] at ZV EQ
   have HZ : Hid (V5.rangeAt wr.heap.size 0 ZF) := ZV.all
   have HB5 : Hid (Below w.heap.size w V5) := BV
   have hEQ := EQ.out
   clear XV ZV BV hZF EQ
   go_wp2_with (first | (refine wpList_load_mid rfl 32 _ rfl w.heap.size 6 rfl FL _ HR.out Tryz.underlying32 rfl (by rw [hF]; kernel_rfl) ?_) | (refine wpList_load_mid rfl 32 _ rfl wr.heap.size 0 rfl ZF _ HZ.out Tryz.underlying32 rfl (by rw [hz19]; kernel_rfl) ?_) | fail)
   go_ret
   exact ⟨rfl, HB5.out⟩
end Go.Proofs.YtklehbmghjcmaaaGreatDoor
namespace Go.Proofs.YtklehbmghjcmaaaGreatDoor
open Go.RowKit Sr
open _root_.Go.Proofs.YtklehbmghjcmaaaGreatDoor.Fn
theorem far_gt {f : Ft} (L : LH f) {t j : Int} (hS : St f t j) {i : Int} (h1 : j < i) (h2 : i ≤ 588563) : t < (gs f i).t := by
 obtain ⟨a, b, c, d⟩ := hS
 by_cases e : i = j + 1
 ·rw [e]; exact d
 ·have := gs_lt L (i := j + 1) (j := i) (by omega) (by omega) h2; omega
theorem rfat_any (f : Ft) (t : Int) (t1 : -9223372036854775808 ≤ t) (t2 : t ≤ 9223372036854775807) :
  ∃ p er, FAt f t p er ∧ ∀ w : World, Cvl.Lens w → Clk.Tab w → Calls Tryz.prog 55 #[.agg (fL f).toArray, vi ki t] w fun e w' => e = zr (.tuple #[.agg #[vi ki p.t, vi ki p.o, .bool p.d, .string p.a], vi ki er]) ∧ Below w.heap.size w w' := by
 cases hf : okF f with
 | false =>
  have RC : ∀ w : World, Calls Tryz.prog 151 #[.agg (fL f).toArray] w fun e w' => e = zr (.bool false) ∧ Below w.heap.size w w' := fun w => by have R := rcan_any f w; rw [hf] at R; exact R
  have N := near_arg f t RC
  exact ⟨z9, 1, .inr ⟨by decide, rfl, .inl hf⟩, fun w _ _ => rat_no f t 1 N w⟩
 | true =>
  have RC : ∀ w : World, Calls Tryz.prog 151 #[.agg (fL f).toArray] w fun e w' => e = zr (.bool true) ∧ Below w.heap.size w w' := fun w => by have R := rcan_any f w; rw [hf] at R; exact R
  obtain ⟨y, hy⟩ := yat_is t
  have YA := ryat_any t y hy t1 t2
  by_cases h : -4714 ≤ y ∧ y ≤ 294278
  ·have L := lh_of hf
   obtain ⟨K, k1, k2, hK, hlo, hS⟩ := findK L hy h.1 h.2
   have NR : ∀ w : World, Cvl.Lens w → Clk.Tab w → Calls Tryz.prog 107 #[.agg (fL f).toArray, vi ki t] w fun e w' => ∃ g cap, e = zr (.tuple #[.slice (some ⟨g, 0, none⟩) 10 cap, vi ki 0]) ∧ Fn.Bx w' g (rowsK f (y - 2) 10) ∧ Below w.heap.size w w' := fun w hL hT => by
    refine (near_ok f t y h.1 h.2 RC YA (fun i hi w hL hT => ryear_ok f (y - 2 + i) hf (by unfold dyY; omega) w hL hT) w hL hT).mono ?_
    rintro e w' ⟨v, rfl, hr, hb⟩
    obtain ⟨g, cap, rfl, _, hx, _⟩ := bx_of_own hr (by omega)
    exact ⟨g, cap, rfl, hx, hb⟩
   have e1 : gs f (2 * (y - 1) + K - 1) = shK f (y - 2) (K + 1) := by rw [shK_gs]; congr 1; omega
   have RA := rat_run f t (y - 2) (K + 1) (by omega) (by rw [← e1]; exact hS.2.2.1) (fun k a b => by rw [shK_gs]; exact far_gt L hS (by omega) (by omega)) NR
   rw [← e1] at RA
   exact ⟨_, 0, .inl ⟨rfl, hf, y, _, hy, h.1, h.2, hS, rfl⟩, fun w hL hT => RA w hL hT⟩
  ·have N := near_range f t y (by omega) RC YA
   exact ⟨z9, 10, .inr ⟨by decide, rfl, .inr ⟨y, hy, by omega⟩⟩, fun w _ _ => rat_no f t 10 N w⟩
theorem okR_tr {L : List TrR} : (∀ j, j < L.length → OkR L j) ↔ ∀ j, j < L.length → OkTr L j := by
 have off : ∀ o, offR o = true ↔ offB o = true := fun o => by unfold offR offB; simp
 have la : ∀ (j : Nat) (p : TrR), L[j]? = some p → lastA L (j + 1) = p.at_ := fun j p h => lastA_succ h
 constructor
 ·intro h
  have low : ∀ (j : Nat) (x : TrR), L[j]? = some x → -1125899906842624 ≤ x.at_ := by
   intro j
   induction j with
   | zero =>
    intro x hx
    obtain ⟨x', e, _, a, _⟩ := h 0 (List.getElem?_eq_some_iff.1 hx).1
    rw [hx] at e; cases e
    have : lastA L 0 = -1125899906842625 := rfl
    omega
   | succ j ih =>
    intro x hx
    have hl := (List.getElem?_eq_some_iff.1 hx).1
    obtain ⟨x', e, _, a, _⟩ := h (j + 1) hl
    rw [hx] at e; cases e
    have hp := List.getElem?_eq_getElem (l := L) (i := j) (by omega)
    rw [la j _ hp] at a
    have := ih _ hp
    omega
  intro j hj
  obtain ⟨x, e, o, a, b⟩ := h j hj
  refine ⟨x, e, (off _).1 o, low j x e, b, ?_⟩
  cases j with
  | zero => exact .inl rfl
  | succ j =>
   have hp := List.getElem?_eq_getElem (l := L) (i := j) (by omega)
   rw [la j _ hp] at a
   exact .inr ⟨_, hp, a⟩
 ·intro h j hj
  obtain ⟨x, e, o, l, b, c⟩ := h j hj
  refine ⟨x, e, (off _).2 o, ?_, b⟩
  cases j with
  | zero => show (-1125899906842625 : Int) < x.at_; omega
  | succ j =>
   rcases c with c | ⟨p, hp, a⟩
   ·omega
   ·rw [Nat.add_sub_cancel] at hp
    rw [la j _ hp]; exact a
theorem has_fl (f : Ft) : (fL f)[0]? = some (.bool f.h) ∧ (fL f)[1]? = some (vi ki f.fr) ∧ (fL f).length = 19 := ⟨rfl, rfl, rfl⟩
theorem rright_any (t : TbR) (sv : Value) (f1 : -9223372036854775808 ≤ t.foot.fr) (f2 : t.foot.fr ≤ 9223372036854775807) :
  ∃ b, RightIs t b ∧ ∀ w : World, Cvl.Lens w → Clk.Tab w → TrAt w sv t.trs → Calls Tryz.prog 21 #[.agg (tbL t sv).toArray] w fun e w' => e = zr (.bool b) ∧ Below w.heap.size w w' := by
 obtain ⟨y, hy⟩ := yat_is t.foot.fr
 obtain ⟨p, er, hp, FA⟩ := rfat_any t.foot t.foot.fr f1 f2
 obtain ⟨r, hr⟩ : ∃ r, r = (decide (1800 ≤ y) && decide (y ≤ 2110) && lastB t.trs t.foot.fr && (decide (er = 0) && decide (p.t = t.foot.fr))) := ⟨_, rfl⟩
 have RI : RfIs t r := ⟨y, p, er, hy, hp, hr⟩
 have off : ∀ o, offR o = offB o := fun o => by unfold offR offB; simp [Bool.decide_and]
 cases h1 : offR t.first.off
 ·refine ⟨false, ⟨r, RI, fun h => (nomatch h), fun h => ?_⟩, fun w _ _ hA => ?_⟩
  ·rw [← off, h1] at h; exact absurd h.2.1 (by decide)
  ·obtain ⟨⟨ao, c, hsv⟩, _, _⟩ := hA
   exact rright_no1 t.nm t.first sv (fL t.foot) rfl h1 ao _ c hsv w
 rcases (Classical.em (t.first.at_ = 0)).symm with h0 | h0
 ·refine ⟨false, ⟨r, RI, fun h => (nomatch h), fun h => absurd h.1 h0⟩, fun w _ _ hA => ?_⟩
  obtain ⟨⟨ao, c, hsv⟩, _, _⟩ := hA
  exact rright_no2 t.nm t.first sv (fL t.foot) rfl h1 h0 ao _ c hsv w
 rcases (Classical.em (t.trs.length ≤ 4096)).symm with h4 | h4
 ·refine ⟨false, ⟨r, RI, fun h => (nomatch h), fun h => absurd h.2.2.1 h4⟩, fun w _ _ hA => ?_⟩
  obtain ⟨⟨ao, c, hsv⟩, hm, _⟩ := hA
  exact rright_no3 t.nm t.first sv (fL t.foot) rfl h1 h0 t.trs (by omega) hm ao _ c hsv rfl w
 rcases (Classical.em (∀ j, j < t.trs.length → OkR t.trs j)).symm with hk | hk
 ·refine ⟨false, ⟨r, RI, fun h => (nomatch h), fun h => absurd (okR_tr.2 h.2.2.2.1) hk⟩, fun w _ _ hA => ?_⟩
  refine rright_bad t.nm t.first sv (fL t.foot) rfl t.trs h0 h1 h4 ?_ w hA
  rcases Classical.em (∃ j, j < t.trs.length ∧ ¬ OkR t.trs j) with h | h
  ·exact h
  ·exact absurd (fun j hj => Classical.byContradiction fun q => h ⟨j, hj, q⟩) hk
 cases hh : t.foot.h
 ·have hf : okF t.foot = false := by unfold okF; rw [hh]; rfl
  have hrf : r = false := by
   rcases hp with ⟨_, k, _⟩ | ⟨k, _⟩
   ·rw [hf] at k; cases k
   ·rw [hr, decide_eq_false k, Bool.false_and, Bool.and_false]
  refine ⟨footZ t.foot, ⟨r, RI, fun h => ⟨h0, by rw [← off]; exact h1, h4, okR_tr.1 hk, .inl h⟩, fun h => ?_⟩, fun w _ _ hA => ?_⟩
  ·rcases h.2.2.2.2 with h | h
   ·exact h
   ·rw [hrf] at h; cases h
  ·exact rright_none t.nm t.first sv (fL t.foot) rfl t.trs h0 h1 h4 hk _ (by rw [(has_fl t.foot).1, hh]) (fun W => rfoot_eq t.foot W) w hA
 ·have hz : footZ t.foot = false := by unfold footZ; rw [hh]; rfl
  refine ⟨decide (er = 0 ∧ p.t = t.foot.fr ∧ lastA t.trs t.trs.length < t.foot.fr ∧ 1800 ≤ y ∧ y ≤ 2110), ⟨r, RI, ?_⟩, fun w hL hT hA => ?_⟩
  ·have e : r = decide (er = 0 ∧ p.t = t.foot.fr ∧ lastA t.trs t.trs.length < t.foot.fr ∧ 1800 ≤ y ∧ y ≤ 2110) := by
    rw [hr]
    have lst : 1800 ≤ y → y ≤ 2110 → (lastB t.trs t.foot.fr = true ↔ lastA t.trs t.trs.length < t.foot.fr) := fun y1 y2 => by
     unfold lastB
     cases hl : t.trs.length with
     | zero =>
      rw [List.getElem?_eq_none (by omega)]
      have : -1125899906842625 < t.foot.fr := by
       rcases hy with ⟨k, _⟩ | ⟨_, _, k⟩ | ⟨_, _, k⟩
       ·have := Cvl.of_can k; omega
       ·omega
       ·omega
      exact ⟨fun _ => this, fun _ => rfl⟩
     | succ n =>
      have hx := List.getElem?_eq_getElem (l := t.trs) (i := n) (by omega)
      rw [Nat.add_sub_cancel, hx, lastA_succ hx]
      exact decide_eq_true_iff
    rw [Bool.eq_iff_iff, Bool.and_eq_true, Bool.and_eq_true, Bool.and_eq_true, Bool.and_eq_true, decide_eq_true_iff, decide_eq_true_iff, decide_eq_true_iff, decide_eq_true_iff, decide_eq_true_iff]
    constructor
    ·rintro ⟨⟨⟨a, b⟩, c⟩, d, e⟩; exact ⟨d, e, (lst a b).1 c, a, b⟩
    ·rintro ⟨d, e, c, a, b⟩; exact ⟨⟨⟨a, b⟩, (lst a b).2 c⟩, d, e⟩
   rw [← e]
   exact ⟨fun h => ⟨h0, by rw [← off]; exact h1, h4, okR_tr.1 hk, .inr h⟩, fun h => h.2.2.2.2.elim (fun q => by rw [hz] at q; cases q) id⟩
  ·have YA := ryat_any t.foot.fr y hy f1 f2
   exact rright_has t.nm t.first sv (fL t.foot) rfl t.trs h0 h1 h4 hk t.foot.fr y er ⟨p.t, p.o, p.d, p.a⟩ _ rfl (by rw [(has_fl t.foot).1, hh]) (has_fl t.foot).2.1 w hA
    (fun W hb => (YA W).mono fun r W' h => ⟨h.1, by rw [h.2]; exact Below.refl _ _⟩) (fun W hb => FA W (Lens_below hL hb (Lens_lt hL)) (hT.below hb))
theorem yat_one {t y z : Int} (a : YAt t y) (b : YAt t z) : y = z := by
 rcases a with ⟨a, a1, a2⟩ | ⟨a, a1, a2⟩ | ⟨a, a1, a2⟩ <;> rcases b with ⟨b, b1, b2⟩ | ⟨b, b1, b2⟩ | ⟨b, b1, b2⟩
 ·exact Cv.year_one a1 a2 b1 b2
 ·rw [a] at b; cases b
 ·rw [a] at b; cases b
 ·rw [a] at b; cases b
 ·omega
 ·omega
 ·rw [a] at b; cases b
 ·omega
 ·omega
theorem fat_one {f : Ft} {t : Int} {p q : Tr} {e g : Int} (a : FAt f t p e) (b : FAt f t q g) : (e = 0 ↔ g = 0) ∧ p = q := by
 rcases a with ⟨a, hf, y, j, hy, y1, y2, hS, rfl⟩ | ⟨a, rfl, a'⟩ <;> rcases b with ⟨b, hf', z, k, hz, z1, z2, hS', rfl⟩ | ⟨b, rfl, b'⟩
 ·obtain rfl := hS.one (lh_of hf) hS'
  exact ⟨⟨fun _ => b, fun _ => a⟩, rfl⟩
 ·exfalso
  rcases b' with b' | ⟨z, hz, b'⟩
  ·rw [hf] at b'; cases b'
  ·have := yat_one hy hz; omega
 ·exfalso
  rcases a' with a' | ⟨y, hy, a'⟩
  ·rw [hf'] at a'; cases a'
  ·have := yat_one hy hz; omega
 ·exact ⟨⟨fun h => absurd h a, fun h => absurd h b⟩, rfl⟩
theorem rf_one {t : TbR} {r s : Bool} (a : RfIs t r) (b : RfIs t s) : r = s := by
 obtain ⟨y, p, e, hy, hp, rfl⟩ := a
 obtain ⟨z, q, g, hz, hq, rfl⟩ := b
 obtain rfl := yat_one hy hz
 obtain ⟨h, rfl⟩ := fat_one hp hq
 rw [show decide (e = 0) = decide (g = 0) from decide_eq_decide.2 h]
theorem right_one {t : TbR} {b c : Bool} (hb : RightIs t b) (hc : RightIs t c) : b = c := by
 obtain ⟨r, R, hr⟩ := hb
 obtain ⟨s, S, hs⟩ := hc
 obtain rfl := rf_one R S
 rw [Bool.eq_iff_iff, hr, hs]
end Go.Proofs.YtklehbmghjcmaaaGreatDoor
namespace Go.Proofs.YtklehbmghjcmaaaGreatDoor
open Go.RowKit Sr
attribute [local go_sem] Oper.semAt_some
theorem gTab9 : Tryz.prog.globalNamed "internal/strconv.uint64pow10" = some 2 := by kernel_rfl
theorem tab_keep {W W' : World} (h : Clk.Tab W) (hk : W'.heap[(2 : Nat)]? = W.heap[(2 : Nat)]?) : Clk.Tab W' := by
 unfold Clk.Tab Lib.TabIs World.var? at *
 rw [gTab9] at h ⊢
 simp only [Option.bind_some] at h ⊢
 rw [hk]
 exact h
theorem tab_lt {W : World} (h : Clk.Tab W) : (2 : Nat) < W.heap.size := by
 unfold Clk.Tab Lib.TabIs World.var? at h
 rw [gTab9] at h
 simp only [Option.bind_some] at h
 rcases Nat.lt_or_ge (2 : Nat) W.heap.size with h' | h'
 ·exact h'
 ·rw [Array.getElem?_eq_none h'] at h; simp at h
def OkF (sv : Value) (L : List TrR) (W : World) : Prop := OkN sv L W ∧ Clk.Tab W
theorem OkF.okS (sv : Value) (L : List TrR) : OkS ((2 : Nat) :: 1 :: bkS sv L) (OkF sv L) := by
 have h := OkN.okS sv L
 refine ⟨fun W W' hW hs hk => ⟨h.keep W W' hW.1 hs (fun k hk' => hk k (List.mem_cons_of_mem _ hk')), tab_keep hW.2 (hk _ List.mem_cons_self)⟩, fun W hW k hk => ?_, fun W hW => hW⟩
 rcases List.mem_cons.1 hk with rfl | hk
 ·exact tab_lt hW.2
 ·exact h.lt W hW.1 k hk
theorem OkF.below {sv : Value} {L : List TrR} {W W' : World} (h : OkF sv L W) (hb : Below W.heap.size W W') : OkF sv L W' := (OkF.okS sv L).below h hb
def Near (x : Int) (g : Zm.Gr) : Prop := 0 ≤ g.n ∧ (0 < g.n → x - 57600 ≤ g.f ∧ g.f ≤ x + 57600 ∧ x - 57600 ≤ g.l ∧ g.l ≤ x + 57600)
theorem Near.more {x : Int} {g : Zm.Gr} (h : Near x g) {o : Int} (h1 : -57600 ≤ o) (h2 : o ≤ 57600) : Near x (g.more (x - o)) ∧ 0 < (g.more (x - o)).n := by
 unfold Near Zm.Gr.more at *
 obtain ⟨a, b⟩ := h
 refine ⟨⟨by show 0 ≤ g.n + 1; omega, fun _ => ?_⟩, by show 0 < g.n + 1; omega⟩
 simp only []
 by_cases k : g.n = 0
 ·rw [if_pos k]; omega
 ·rw [if_neg k]; have := b (by omega); omega
theorem ask_oz {x t : Int} (h : Dy.dok (x / 86400000000) = true) (h1 : x / 1000000 + 946684800 - 57600 ≤ t) (h2 : t ≤ x / 1000000 + 946684800 + 57600) : ask t := by
 have k := Dy.dok_yes h
 have e : -2451508 ≤ t / 86400 - 10957 ∧ t / 86400 - 10957 ≤ 106751983 := by omega
 obtain ⟨y, hy⟩ := Fn.yat_is t
 refine ⟨by omega, by omega, y, hy, ?_⟩
 have c1 : Cvl.can (t / 86400 - 10957) = true := by unfold Cvl.can; exact decide_eq_true (by omega)
 rcases hy with ⟨_, b, c⟩ | ⟨a, _⟩ | ⟨a, _⟩
 ·unfold askY
  refine decide_eq_true ⟨?_, ?_⟩
  ·have : Cv.S (-4714) ≤ t / 86400 - 10957 := by rw [show Cv.S (-4714) = -2452237 by decide +kernel]; omega
   have := Cv.S_lt (show Cv.S (-4714) < Cv.S (y + 1) by omega)
   omega
  ·have : t / 86400 - 10957 < Cv.S 294279 := by rw [show Cv.S 294279 = 106752713 by decide +kernel]; omega
   have := Cv.S_lt (show Cv.S y < Cv.S 294279 by omega)
   omega
 ·rw [c1] at a; cases a
 ·rw [c1] at a; cases a
def OkZ : World → Prop := OkN (.slice none 0 0) []
theorem okZ_of {w : World} (h : Cvl.Lens w) : OkZ w := ⟨⟨⟨none, 0, rfl⟩, by unfold maxLen; simp, .inl rfl⟩, h⟩
theorem moz9 {u : Int} (h : Dy.dok (u / 86400000000) = true) : moV u 0 = u ∧ moE u 0 = 0 := by
 unfold moV moE
 rw [Int.add_zero, if_pos h, if_pos h]
 exact ⟨rfl, rfl⟩
theorem zulocal (u : Int) (hu : Dy.dok (u / 86400000000) = true) (w : World) (HO : OkZ w) : Calls Tryz.prog 10 #[.agg utL.toArray, .agg #[vi ki 0, vi ki u]] w fun r w' => r = zr (.tuple #[.agg #[vi ki 0, vi ki u], vi ki 0]) ∧ Below w.heap.size w w' := by
 have h := nlocal nmU fU none 0 0 [] noU u _ 0 hu rfl (ask_oz hu (by omega) (by omega)) (by simp [curT, fU]) w HO
 rw [(moz9 hu).1, (moz9 hu).2] at h
 exact h
theorem zustretch (s : Int) : Zm.pGo s (stsN fU [] s) (⟨0, 0, 0⟩, ⟨0, 0, 0⟩) = (⟨0, 0, 0⟩, ⟨1, s, s⟩) := by
 have e : stsN fU [] s = [⟨s - 57600, s + 57600 + 1, 0⟩] := by
  simp [stsN, Zm.strs, Zm.chg, curT, fU]
 rw [e]
 unfold Zm.pGo
 rw [if_neg (by unfold Zm.less; simp only []; omega), if_pos (by unfold Zm.says; simp only []; omega)]
 simp [Zm.pGo, Zm.Gr.more]
theorem zuinst (u : Int) (hu : Dy.dok (u / 86400000000) = true) (w : World) (HO : OkZ w) : Calls Tryz.prog 12 #[.agg utL.toArray, .agg #[vi ki 0, vi ki u]] w fun r w' => r = zr (.tuple #[.agg #[vi ki 0, vi ki u], vi ki 0, vi ki 0]) ∧ Below w.heap.size w w' := by
 have e := zustretch (u / 1000000 + 946684800)
 exact ninst nmU fU none 0 0 (Nat.le_refl _) [] rfl noU u (u / 1000000 + 946684800) (u / 1000000 + 946684800) 0 0 u hu rfl (ask_oz hu (by omega) (by omega)) (ask_oz hu (by omega) (by omega)) (ask_oz hu (by omega) (by omega)) (by rw [e]; rfl) (by rw [e]; rfl) (by omega) (by decide) (by decide) (by rw [Int.zero_mul, Int.add_zero]; exact hu) (by omega) w HO
theorem mdk_d {u y p q D : Int} : mdk (u / 86400000000) y p q 0 D = Dy.dok (u / 86400000000 + D) ∧ mdv u y p q 0 D = u + D * 86400000000 := by
 refine ⟨?_, ?_⟩
 ·unfold mdk s1k s1v
  rw [if_pos rfl, if_pos rfl, Bool.true_and]
 ·unfold mdv s1v
  rw [if_pos rfl]
  omega
theorem mo_yes {u n : Int} (h : moE u n = 0) : moV u n = u + n ∧ Dy.dok ((u + n) / 86400000000) = true := by
 unfold moE at h
 unfold moV
 by_cases k : Dy.dok ((u + n) / 86400000000) = true
 ·rw [if_pos k]; exact ⟨rfl, k⟩
 ·rw [if_neg k] at h; omega
theorem add_d {u D n V E : Int} (hu : Dy.dok (u / 86400000000) = true) (h : AddIs 0 u 0 0 D n 0 V E) (hp : Sp.pR 0 0 D n = true) : (Dy.dok (u / 86400000000 + D) = true ∧ V = moV (u + D * 86400000000) n ∧ E = moE (u + D * 86400000000) n) ∨ (Dy.dok (u / 86400000000 + D) = false ∧ V = 0 ∧ E = 10) := by
 rcases h with ⟨h, _⟩ | ⟨_, _, h, _⟩ | ⟨_, _, _, _, y, p, q, hq, _, hV, hE⟩
 ·exact absurd ⟨hu, hp⟩ h
 ·exact absurd ⟨rfl, rfl⟩ h
 ·obtain ⟨k1, k2⟩ := mdk_d (u := u) (y := y) (p := p) (q := q) (D := D)
  rw [k1, k2] at hV hE
  cases hd : Dy.dok (u / 86400000000 + D)
  ·rw [hd, if_neg (by decide)] at hV hE
   exact .inr ⟨rfl, hV, hE⟩
  ·rw [hd, if_pos rfl] at hV hE
   exact .inl ⟨rfl, hV, hE⟩
theorem flat_own (Ok : World → Prop) (T : List Value) (hT : T.length = 25) (hl : ∀ W, Ok W → Cvl.Lens W) (hOk : ∀ W V : World, Ok W → Below W.heap.size W V → Ok V) (RT : ∀ w : World, Ok w → Calls Tryz.prog 31 #[.agg T.toArray] w fun r' w' => r' = zr (.bool true) ∧ Below w.heap.size w w')
  (i u n I V E : Int) (u1 : -9223372036854775808 ≤ u) (u2 : u ≤ 9223372036854775807) (n1 : -9223372036854775808 < n) (n2 : n ≤ 9223372036854775807) (h : AddIs i u 0 0 0 n I V E) : FlatIs T Ok i u n I V E := by
 intro w hw
 have bel := fun (W : World) (hb : Below w.heap.size w W) => hOk w W hw hb
 have RR : ∀ c, Dy.sR i u = c → ∀ w : World, Ok w → Calls Tryz.prog 32 #[.agg #[vi ki i, vi ki u]] w fun r' w' => r' = zr (.bool c) ∧ Below w.heap.size w w' := fun c hc w hw => by rw [← hc]; exact Dy.rst_any i u u1 u2 w (hl w hw)
 have hp : Sp.pR 0 0 0 n = true := pR_of (by omega)
 have PR := fun w => pr_yes hp w
 have K0 := fun w => kind_b 0 w
 rcases h with ⟨h, rfl, rfl, rfl⟩ | ⟨h1, h2, h3, rfl, rfl, rfl⟩ | h
 ·have h1 : Dy.sR i u = false := by cases hc : Dy.sR i u; rfl; exact absurd ⟨hc, hp⟩ h
  exact az_no2 Ok T hT i u 0 0 0 n RT (RR _ h1) w bel
 ·have hi : i ≠ 0 := fun q => h3 ⟨q, rfl⟩
  have k0 : tgI i 0 ≠ 0 := by unfold tgI; rw [if_neg hi, if_neg (by omega)]; exact hi
  exact az_infi Ok T hT i u 0 0 0 n _ _ _ _ k0 RT (RR _ h1) PR (fun w => kind_b i w) K0 (fun w => tog_any i 0 (inf3 h1) (.inr (.inl rfl)) w) w bel
 ·obtain ⟨rfl, _, h1, _⟩ := id h
  obtain ⟨_, _, _, _, _, _, _, _, rfl, _, _⟩ := id h
  rcases add_d h1 (.inr (.inr h)) hp with ⟨_, rfl, rfl⟩ | ⟨k, _⟩
  ·rw [Int.zero_mul, Int.add_zero]
   exact az_none Ok T hT 0 u 0 n _ _ (kdV 0) (kdV 0) RT (fun w hw => rst_yes h1 w (hl w hw)) PR K0 K0 (fun w => tog_any 0 0 (.inr (.inl rfl)) (.inr (.inl rfl)) w) (fun w hw => more_any 0 u n u1 u2 (by omega) n2 w (hl w hw)) w bel
  ·rw [Int.add_zero, h1] at k; cases k
theorem flat_utc (i u D : Int) (u1 : -9223372036854775808 ≤ u) (u2 : u ≤ 9223372036854775807) (hD : -10000 < D ∧ D < 10000) : ∃ J X G, (∀ w : World, Cvl.Lens w → Calls Tryz.prog 19 #[.agg utL.toArray, .agg #[vi ki i, vi ki u], .agg #[vi ki 0, vi ki 0, vi ki D, vi ki 0]] w fun r w' => r = zr (.tuple #[.agg #[vi ki J, vi ki X], vi ki G]) ∧ Below w.heap.size w w') ∧
  ∀ L Y H, AddIs i u 0 0 0 (D * 86400000000) L Y H → G ≠ 0 ∨ H ≠ 0 ∨ (L = J ∧ Y = X) := by
 have RT := fun w (hw : OkZ w) => nright nmU fU (.slice none 0 0) [] noU w hw.1
 have bel := fun (w : World) (hw : OkZ w) (W : World) (hb : Below w.heap.size w W) => (OkN.below hw hb : OkZ W)
 have RR : ∀ c, Dy.sR i u = c → ∀ w : World, OkZ w → Calls Tryz.prog 32 #[.agg #[vi ki i, vi ki u]] w fun r' w' => r' = zr (.bool c) ∧ Below w.heap.size w w' := fun c hc w hw => by rw [← hc]; exact Dy.rst_any i u u1 u2 w hw.2
 have hp : Sp.pR 0 0 D 0 = true := pR_of (by omega)
 have hN : Sp.pR 0 0 0 (D * 86400000000) = true := pR_of (by omega)
 have PR := fun w => pr_yes hp w
 have K0 := fun w => kind_b 0 w
 have T0 := fun w => tog_any 0 0 (.inr (.inl rfl)) (.inr (.inl rfl)) w
 cases hs : Dy.sR i u
 ·exact ⟨0, 0, 1, fun w hL => az_no2 OkZ utL rfl i u 0 0 D 0 RT (RR _ hs) w (bel w (okZ_of hL)), fun L Y H _ => .inl (by decide)⟩
 by_cases hi : i = 0
 ·subst hi
  have hu : Dy.dok (u / 86400000000) = true := hs
  have RS := fun w (hw : OkZ w) => rst_yes hu w hw.2
  have fin : ∀ X, X = u + D * 86400000000 → ∀ L Y H, AddIs 0 u 0 0 0 (D * 86400000000) L Y H → (0 : Int) ≠ 0 ∨ H ≠ 0 ∨ (L = 0 ∧ Y = X) := fun X hX L Y H h => by
   have hL0 : L = 0 := by
    rcases h with ⟨h, _⟩ | ⟨_, _, h, _⟩ | ⟨_, _, _, _, _, _, _, _, h, _⟩
    ·exact absurd ⟨hs, hN⟩ h
    ·exact absurd ⟨rfl, rfl⟩ h
    ·exact h
   subst hL0
   rcases Classical.em (H = 0) with rfl | hH
   ·rcases add_d hu h hN with ⟨_, hY, hE⟩ | ⟨_, _, hE⟩
    ·rw [Int.zero_mul, Int.add_zero] at hY hE
     exact .inr (.inr ⟨rfl, by rw [hY, (mo_yes hE.symm).1, hX]⟩)
    ·cases hE
   ·exact .inr (.inl hH)
  by_cases hz : D = 0
  ·subst hz
   refine ⟨0, u, 0, fun w hL => ?_, fin u (by omega)⟩
   have R := az_none OkZ utL rfl 0 u 0 0 _ _ (kdV 0) (kdV 0) RT RS PR K0 K0 T0 (fun w hw => more_any 0 u 0 u1 u2 (by decide) (by decide) w hw.2) w (bel w (okZ_of hL))
   rw [(moz9 hu).1, (moz9 hu).2] at R
   exact R
  ·obtain ⟨I2, V2, E2, hA⟩ := add_is 0 u 0 0 D 0
   have hI2 : I2 = 0 := by
    rcases hA with ⟨h, _⟩ | ⟨_, _, h, _⟩ | ⟨_, _, _, _, _, _, _, _, h, _⟩
    ·exact absurd ⟨hs, hp⟩ h
    ·exact absurd ⟨rfl, rfl⟩ h
    ·exact h
   subst hI2
   have AD := fun w (hw : OkZ w) => sadd_any 0 u 0 0 D 0 0 V2 E2 hA u1 u2 (by decide) (by decide) w hw.2
   have LO := fun w (hw : OkZ w) => zulocal u hu w hw
   by_cases h2 : E2 = 0
   ·subst h2
    have hV2 : V2 = u + D * 86400000000 ∧ Dy.dok (V2 / 86400000000) = true := by
     rcases add_d hu hA hp with ⟨_, hY, hE⟩ | ⟨_, _, hE⟩
     ·have := mo_yes hE.symm
      rw [Int.add_zero] at this
      rw [hY, this.1]
      exact ⟨rfl, this.2⟩
     ·cases hE
    have IN := fun w (hw : OkZ w) => zuinst V2 hV2.2 w hw
    have MB := fun w (hw : OkZ w) => mb_ok OkZ utL rfl u 0 0 D 0 u V2 V2 0 0 LO AD IN w (bel w hw)
    obtain ⟨v1, v2⟩ := dok_bd hV2.2
    have MO := fun w (hw : OkZ w) => more_any 0 V2 0 v1 v2 (by decide) (by decide) w hw.2
    rw [(moz9 hV2.2).1, (moz9 hV2.2).2] at MO
    exact ⟨0, V2, 0, fun w hL => az_okd OkZ utL rfl 0 u 0 D 0 V2 _ _ (kdV 0) (kdV 0) hz RT RS PR K0 K0 T0 MB MO w (bel w (okZ_of hL)), fin V2 hV2.1⟩
   ·have MB := fun w (hw : OkZ w) => mb_err2 OkZ utL rfl u 0 0 D 0 u V2 E2 h2 LO AD w (bel w hw)
    exact ⟨0, 0, E2, fun w hL => az_errd OkZ utL rfl 0 u 0 D 0 0 E2 (kdV 0) (kdV 0) h2 hz RT RS PR K0 K0 T0 MB w (bel w (okZ_of hL)), fun L Y H _ => .inl h2⟩
 ·have k0 : tgI i 0 = i := by unfold tgI; rw [if_neg hi, if_neg (by omega)]
  have k1 : tgE i 0 = 0 := by unfold tgE; rw [if_neg hi, if_neg (by omega)]
  have TG := fun w => tog_any i 0 (inf3 hs) (.inr (.inl rfl)) w
  rw [k0, k1] at TG
  refine ⟨i, 0, 0, fun w hL => az_infi OkZ utL rfl i u 0 0 D 0 _ _ _ _ hi RT (RR _ hs) PR (fun w => kind_b i w) K0 TG w (bel w (okZ_of hL)), fun L Y H h => ?_⟩
  rcases h with ⟨h, _⟩ | ⟨_, _, _, rfl, rfl, _⟩ | ⟨h, _⟩
  ·exact absurd ⟨hs, hN⟩ h
  ·exact .inr (.inr ⟨k0, rfl⟩)
  ·exact absurd h hi
theorem gf_any (t : TbR) (sv : Value) (rb : Bool) (hrb : RightIs t rb) (f1 : -9223372036854775808 ≤ t.foot.fr) (f2 : t.foot.fr ≤ 9223372036854775807) (h40 : t.trs.length * 40 ≤ 140737488355328) (i u n I V E : Int) (u1 : -9223372036854775808 ≤ u) (u2 : u ≤ 9223372036854775807) (n1 : -9223372036854775808 ≤ n) (n2 : n ≤ 9223372036854775807) (hAd : AddIs i u 0 0 0 n I V E)
  (w : World) (HL : Cvl.Lens w) (HT : Clk.Tab w) (HA : TransA w sv t.trs) (hg : ∀ a n c, sv = .slice (some a) n c → a.block < w.heap.size ∧ a.spot = none) :
  Calls Tryz.prog 9 #[.agg (tbL t sv).toArray] w fun e w' => ∃ (T : List Value) (Ok : World → Prop), e = zr (.agg T.toArray) ∧ T.length = 25 ∧ T.toArray.all (·.oneCell') = true ∧ Ok w' ∧ (∀ A B : World, Ok A → Below A.heap.size A B → Ok B) ∧ (∀ A : World, Ok A → Ok A.drew) ∧ Below w.heap.size w w' ∧ (rb = true → n ≠ -9223372036854775808 → FlatIs T Ok i u n I V E) := by
 refine (given_any17 t sv w HA h40 hg).mono ?_
 rintro e W ⟨sv', rfl, hT, hb, hcap⟩
 obtain ⟨⟨ao, c, rfl⟩, hlen, _⟩ := id hT
 have HL' : Cvl.Lens W := (Dy.lens_of HL).out W hb
 have HT' : Clk.Tab W := HT.below hb
 obtain ⟨bb, hR, RT⟩ := right_any t (.slice ao t.trs.length c) f1 f2
 refine ⟨tbL t (.slice ao t.trs.length c), OkF (.slice ao t.trs.length c) t.trs, rfl, by simp [tbL, trC, Fn.fL], one_tf t.nm t.first ao _ c t.foot, ⟨⟨hT, HL'⟩, HT'⟩, fun A B h k => h.below k, fun A h => h.below ((Below.refl _ _).drew), hb, fun hr hn => ?_⟩
 obtain rfl := right_one hrb hR
 subst hr
 exact flat_own _ _ (by simp [tbL, trC, Fn.fL]) (fun W h => h.1.2) (fun A B h k => h.below k) (fun w hw => RT w hw.1.2 hw.2 hw.1.1) i u n I V E u1 u2 (by omega) n2 hAd
end Go.Proofs.YtklehbmghjcmaaaGreatDoor
