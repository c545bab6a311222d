import Derived.Test.YtklehbmghjcmaaaGreatDoorQz
import Derived.Test.YtklehbmghjcmaaaGreatDoorQ11
import Derived.Test.YtklehbmghjcmaaaGreatDoorQ1
import Derived.Test.YtklehbmghjcmaaaGreatDoorQ2
import Derived.Test.YtklehbmghjcmaaaGreatDoorQ4
import Derived.Test.YtklehbmghjcmaaaGreatDoorQ0
import Derived.Test.YtklehbmghjcmaaaGreatDoorQ10
import Derived.Test.YtklehbmghjcmaaaGreatDoorQ9
import Derived.Shelf.Abstract
import Derived.Deep.Cut
import Derived.Deep.DeepCutAuto
import Derived.Deep.CutRange
open Go.Value renaming int → vi
open Go.IntKind renaming i64 → ki
open List renaming setIfInBounds_toArray → zb, set_cons_zero → zc, set_cons_succ → zd
open Go.Act renaming put → za
open Go.Ending renaming returned → zr
set_option maxRecDepth 100000
set_option maxHeartbeats 16000000
set_option linter.unusedVariables false
namespace Go.Proofs.YtklehbmghjcmaaaGreatDoor
open Go.RowKit Sr
open _root_.Go.Proofs.YtklehbmghjcmaaaGreatDoor.Fn
theorem far_gt {f : Ft} (L : LH f) {t j : Int} (hS : St f t j) {i : Int} (h1 : j < i) (h2 : i ≤ 588563) : t < (gs f i).t := by
 obtain ⟨a, b, c, d⟩ := hS
 by_cases e : i = j + 1
 ·rw [e]; exact d
 ·have := gs_lt L (i := j + 1) (j := i) (by omega) (by omega) h2; omega
theorem rfat_any (f : Ft) (t : Int) (t1 : -9223372036854775808 ≤ t) (t2 : t ≤ 9223372036854775807) :
  ∃ p er, FAt f t p er ∧ ∀ w : World, Cvl.Lens w → Clk.Tab w → Calls Tryz.prog 55 #[.agg (fL f).toArray, vi ki t] w fun e w' => e = zr (.tuple #[.agg #[vi ki p.t, vi ki p.o, .bool p.d, .string p.a], vi ki er]) ∧ Below w.heap.size w w' := by
 cases hf : okF f with
 | false =>
  have RC : ∀ w : World, Calls Tryz.prog 151 #[.agg (fL f).toArray] w fun e w' => e = zr (.bool false) ∧ Below w.heap.size w w' := fun w => by have R := rcan_any f w; rw [hf] at R; exact R
  have N := near_arg f t RC
  exact ⟨z9, 1, .inr ⟨by decide, rfl, .inl hf⟩, fun w _ _ => rat_no f t 1 N w⟩
 | true =>
  have RC : ∀ w : World, Calls Tryz.prog 151 #[.agg (fL f).toArray] w fun e w' => e = zr (.bool true) ∧ Below w.heap.size w w' := fun w => by have R := rcan_any f w; rw [hf] at R; exact R
  obtain ⟨y, hy⟩ := yat_is t
  have YA := ryat_any t y hy t1 t2
  by_cases h : -4714 ≤ y ∧ y ≤ 294278
  ·have L := lh_of hf
   obtain ⟨K, k1, k2, hK, hlo, hS⟩ := findK L hy h.1 h.2
   have NR : ∀ w : World, Cvl.Lens w → Clk.Tab w → Calls Tryz.prog 107 #[.agg (fL f).toArray, vi ki t] w fun e w' => ∃ g cap, e = zr (.tuple #[.slice (some ⟨g, 0, none⟩) 10 cap, vi ki 0]) ∧ Fn.Bx w' g (rowsK f (y - 2) 10) ∧ Below w.heap.size w w' := fun w hL hT => by
    refine (near_ok f t y h.1 h.2 RC YA (fun i hi w hL hT => ryear_ok f (y - 2 + i) hf (by unfold dyY; omega) w hL hT) w hL hT).mono ?_
    rintro e w' ⟨v, rfl, hr, hb⟩
    obtain ⟨g, cap, rfl, _, hx, _⟩ := bx_of_own hr (by omega)
    exact ⟨g, cap, rfl, hx, hb⟩
   have e1 : gs f (2 * (y - 1) + K - 1) = shK f (y - 2) (K + 1) := by rw [shK_gs]; congr 1; omega
   have RA := rat_run f t (y - 2) (K + 1) (by omega) (by rw [← e1]; exact hS.2.2.1) (fun k a b => by rw [shK_gs]; exact far_gt L hS (by omega) (by omega)) NR
   rw [← e1] at RA
   exact ⟨_, 0, .inl ⟨rfl, hf, y, _, hy, h.1, h.2, hS, rfl⟩, fun w hL hT => RA w hL hT⟩
  ·have N := near_range f t y (by omega) RC YA
   exact ⟨z9, 10, .inr ⟨by decide, rfl, .inr ⟨y, hy, by omega⟩⟩, fun w _ _ => rat_no f t 10 N w⟩
theorem okR_tr {L : List TrR} : (∀ j, j < L.length → OkR L j) ↔ ∀ j, j < L.length → OkTr L j := by
 have off : ∀ o, offR o = true ↔ offB o = true := fun o => by unfold offR offB; simp
 have la : ∀ (j : Nat) (p : TrR), L[j]? = some p → lastA L (j + 1) = p.at_ := fun j p h => lastA_succ h
 constructor
 ·intro h
  have low : ∀ (j : Nat) (x : TrR), L[j]? = some x → -1125899906842624 ≤ x.at_ := by
   intro j
   induction j with
   | zero =>
    intro x hx
    obtain ⟨x', e, _, a, _⟩ := h 0 (List.getElem?_eq_some_iff.1 hx).1
    rw [hx] at e; cases e
    have : lastA L 0 = -1125899906842625 := rfl
    omega
   | succ j ih =>
    intro x hx
    have hl := (List.getElem?_eq_some_iff.1 hx).1
    obtain ⟨x', e, _, a, _⟩ := h (j + 1) hl
    rw [hx] at e; cases e
    have hp := List.getElem?_eq_getElem (l := L) (i := j) (by omega)
    rw [la j _ hp] at a
    have := ih _ hp
    omega
  intro j hj
  obtain ⟨x, e, o, a, b⟩ := h j hj
  refine ⟨x, e, (off _).1 o, low j x e, b, ?_⟩
  cases j with
  | zero => exact .inl rfl
  | succ j =>
   have hp := List.getElem?_eq_getElem (l := L) (i := j) (by omega)
   rw [la j _ hp] at a
   exact .inr ⟨_, hp, a⟩
 ·intro h j hj
  obtain ⟨x, e, o, l, b, c⟩ := h j hj
  refine ⟨x, e, (off _).2 o, ?_, b⟩
  cases j with
  | zero => show (-1125899906842625 : Int) < x.at_; omega
  | succ j =>
   rcases c with c | ⟨p, hp, a⟩
   ·omega
   ·rw [Nat.add_sub_cancel] at hp
    rw [la j _ hp]; exact a
theorem has_fl (f : Ft) : (fL f)[0]? = some (.bool f.h) ∧ (fL f)[1]? = some (vi ki f.fr) ∧ (fL f).length = 19 := ⟨rfl, rfl, rfl⟩
theorem rright_any (t : TbR) (sv : Value) (f1 : -9223372036854775808 ≤ t.foot.fr) (f2 : t.foot.fr ≤ 9223372036854775807) :
  ∃ b, RightIs t b ∧ ∀ w : World, Cvl.Lens w → Clk.Tab w → TrAt w sv t.trs → Calls Tryz.prog 21 #[.agg (tbL t sv).toArray] w fun e w' => e = zr (.bool b) ∧ Below w.heap.size w w' := by
 obtain ⟨y, hy⟩ := yat_is t.foot.fr
 obtain ⟨p, er, hp, FA⟩ := rfat_any t.foot t.foot.fr f1 f2
 obtain ⟨r, hr⟩ : ∃ r, r = (decide (1800 ≤ y) && decide (y ≤ 2110) && lastB t.trs t.foot.fr && (decide (er = 0) && decide (p.t = t.foot.fr))) := ⟨_, rfl⟩
 have RI : RfIs t r := ⟨y, p, er, hy, hp, hr⟩
 have off : ∀ o, offR o = offB o := fun o => by unfold offR offB; simp [Bool.decide_and]
 cases h1 : offR t.first.off
 ·refine ⟨false, ⟨r, RI, fun h => (nomatch h), fun h => ?_⟩, fun w _ _ hA => ?_⟩
  ·rw [← off, h1] at h; exact absurd h.2.1 (by decide)
  ·obtain ⟨⟨ao, c, hsv⟩, _, _⟩ := hA
   exact rright_no1 t.nm t.first sv (fL t.foot) rfl h1 ao _ c hsv w
 rcases (Classical.em (t.first.at_ = 0)).symm with h0 | h0
 ·refine ⟨false, ⟨r, RI, fun h => (nomatch h), fun h => absurd h.1 h0⟩, fun w _ _ hA => ?_⟩
  obtain ⟨⟨ao, c, hsv⟩, _, _⟩ := hA
  exact rright_no2 t.nm t.first sv (fL t.foot) rfl h1 h0 ao _ c hsv w
 rcases (Classical.em (t.trs.length ≤ 4096)).symm with h4 | h4
 ·refine ⟨false, ⟨r, RI, fun h => (nomatch h), fun h => absurd h.2.2.1 h4⟩, fun w _ _ hA => ?_⟩
  obtain ⟨⟨ao, c, hsv⟩, hm, _⟩ := hA
  exact rright_no3 t.nm t.first sv (fL t.foot) rfl h1 h0 t.trs (by omega) hm ao _ c hsv rfl w
 rcases (Classical.em (∀ j, j < t.trs.length → OkR t.trs j)).symm with hk | hk
 ·refine ⟨false, ⟨r, RI, fun h => (nomatch h), fun h => absurd (okR_tr.2 h.2.2.2.1) hk⟩, fun w _ _ hA => ?_⟩
  refine rright_bad t.nm t.first sv (fL t.foot) rfl t.trs h0 h1 h4 ?_ w hA
  rcases Classical.em (∃ j, j < t.trs.length ∧ ¬ OkR t.trs j) with h | h
  ·exact h
  ·exact absurd (fun j hj => Classical.byContradiction fun q => h ⟨j, hj, q⟩) hk
 cases hh : t.foot.h
 ·have hf : okF t.foot = false := by unfold okF; rw [hh]; rfl
  have hrf : r = false := by
   rcases hp with ⟨_, k, _⟩ | ⟨k, _⟩
   ·rw [hf] at k; cases k
   ·rw [hr, decide_eq_false k, Bool.false_and, Bool.and_false]
  refine ⟨footZ t.foot, ⟨r, RI, fun h => ⟨h0, by rw [← off]; exact h1, h4, okR_tr.1 hk, .inl h⟩, fun h => ?_⟩, fun w _ _ hA => ?_⟩
  ·rcases h.2.2.2.2 with h | h
   ·exact h
   ·rw [hrf] at h; cases h
  ·exact rright_none t.nm t.first sv (fL t.foot) rfl t.trs h0 h1 h4 hk _ (by rw [(has_fl t.foot).1, hh]) (fun W => rfoot_eq t.foot W) w hA
 ·have hz : footZ t.foot = false := by unfold footZ; rw [hh]; rfl
  refine ⟨decide (er = 0 ∧ p.t = t.foot.fr ∧ lastA t.trs t.trs.length < t.foot.fr ∧ 1800 ≤ y ∧ y ≤ 2110), ⟨r, RI, ?_⟩, fun w hL hT hA => ?_⟩
  ·have e : r = decide (er = 0 ∧ p.t = t.foot.fr ∧ lastA t.trs t.trs.length < t.foot.fr ∧ 1800 ≤ y ∧ y ≤ 2110) := by
    rw [hr]
    have lst : 1800 ≤ y → y ≤ 2110 → (lastB t.trs t.foot.fr = true ↔ lastA t.trs t.trs.length < t.foot.fr) := fun y1 y2 => by
     unfold lastB
     cases hl : t.trs.length with
     | zero =>
      rw [List.getElem?_eq_none (by omega)]
      have : -1125899906842625 < t.foot.fr := by
       rcases hy with ⟨k, _⟩ | ⟨_, _, k⟩ | ⟨_, _, k⟩
       ·have := Cvl.of_can k; omega
       ·omega
       ·omega
      exact ⟨fun _ => this, fun _ => rfl⟩
     | succ n =>
      have hx := List.getElem?_eq_getElem (l := t.trs) (i := n) (by omega)
      rw [Nat.add_sub_cancel, hx, lastA_succ hx]
      exact decide_eq_true_iff
    rw [Bool.eq_iff_iff, Bool.and_eq_true, Bool.and_eq_true, Bool.and_eq_true, Bool.and_eq_true, decide_eq_true_iff, decide_eq_true_iff, decide_eq_true_iff, decide_eq_true_iff, decide_eq_true_iff]
    constructor
    ·rintro ⟨⟨⟨a, b⟩, c⟩, d, e⟩; exact ⟨d, e, (lst a b).1 c, a, b⟩
    ·rintro ⟨d, e, c, a, b⟩; exact ⟨⟨⟨a, b⟩, (lst a b).2 c⟩, d, e⟩
   rw [← e]
   exact ⟨fun h => ⟨h0, by rw [← off]; exact h1, h4, okR_tr.1 hk, .inr h⟩, fun h => h.2.2.2.2.elim (fun q => by rw [hz] at q; cases q) id⟩
  ·have YA := ryat_any t.foot.fr y hy f1 f2
   exact rright_has t.nm t.first sv (fL t.foot) rfl t.trs h0 h1 h4 hk t.foot.fr y er ⟨p.t, p.o, p.d, p.a⟩ _ rfl (by rw [(has_fl t.foot).1, hh]) (has_fl t.foot).2.1 w hA
    (fun W hb => (YA W).mono fun r W' h => ⟨h.1, by rw [h.2]; exact Below.refl _ _⟩) (fun W hb => FA W (Lens_below hL hb (Lens_lt hL)) (hT.below hb))
end Go.Proofs.YtklehbmghjcmaaaGreatDoor
namespace Go.Proofs.YtklehbmghjcmaaaGreatDoor
open Go.RowKit Sr
attribute [local go_sem] Oper.semAt_some
def stK (st : Int) (FT : List TrR) (k : Nat) : Int := if k = 0 then st else (FT.getD (k - 1) zTr).at_
theorem stK_succ {st : Int} {FT : List TrR} {k : Nat} {y : TrR} (h : FT[k]? = some y) : stK st FT (k + 1) = y.at_ := by
 unfold stK
 rw [if_neg (by omega), Nat.add_sub_cancel, List.getD_eq_getElem?_getD, h]
 rfl
theorem getD_app {X Y : List TrR} {k : Nat} (h : k < X.length) : (X ++ Y).getD k zTr = X.getD k zTr := by
 rw [List.getD_eq_getElem?_getD, List.getD_eq_getElem?_getD, List.getElem?_append_left h]
theorem chs_ft (T : List Value) (hT : T.length = 25) (S : List Nat) (Ok : World → Prop) (hOk : OkS S Ok) (a b : Int) (ao : Option Addr) (n c : Nat) (hnc : n ≤ c) (L : List TrR) (h5 : T[5]? = some (.slice ao n c)) (h6 : T[6]? = some (.bool true)) (fr : Int) (h7 : T[7]? = some (vi ki fr)) (f1 : -1000000000000000000 ≤ fr) (f2 : fr ≤ 1000000000000000000) (FL : List Value) (hFL : T.drop 6 = FL) (hF : FL.length = 19) (hr : Zm.Rises (L.map (·.at_))) (h4 : L.length ≤ 4096) (hn : L.length = n)
  (TR : ∀ W, Ok W → TrAt W (.slice ao n c) L)
  (st : Int) (hst : st = max a (fr - 1)) (FT : List TrR) (hLF : ∀ x ∈ L, b < x.at_ → FT = []) (hlt : ∀ k, k < FT.length → stK st FT k < b)
  (NX : ∀ k, k ≤ FT.length → stK st FT k < b → ∃ (y : TrR) (er : Int), (∀ V : World, Ok V → Calls Tryz.prog 206 #[.agg FL.toArray, vi ki (stK st FT k)] V fun r w' => r = zr (.tuple #[.agg #[vi ki y.at_, vi ki y.off, .bool y.dst, .string y.ab], vi ki er]) ∧ Below V.heap.size V w') ∧ stK st FT k < y.at_ ∧ (k < FT.length → FT[k]? = some y ∧ y.at_ ≤ b) ∧ (k = FT.length → b < y.at_))
  (w : World) (m : Nat) (bt bf bo : Nat) (X1 : Bx w bt T) (X2 : Bx w bf [vi ki a]) (X3 : Bx w bo [vi ki b]) (O : Ok w) :
  SeqB m Tryz.prog 205 #[.pointer (some ⟨bt, 0, none⟩), .pointer (some ⟨bf, 0, none⟩), .pointer (some ⟨bo, 0, none⟩)] (bt :: bf :: bo :: S) (fun k => trV ((Zm.chg a b L ++ FT).getD k zTr)) (Zm.chg a b L ++ FT).length w := by
 intro l M J W hb hM hSM hJ hY h0
 have HS0 : Hid (ChB W T bt bf bo a b Ok S W) :=
  ⟨⟨X1.below hb, X2.below hb, X3.below hb, hOk, hOk.below O hb, fun k hk => Nat.lt_of_lt_of_le (hOk.lt w O k hk) hb.size, ⟨Nat.lt_of_lt_of_le X1.1 hb.size, Nat.lt_of_lt_of_le X2.1 hb.size, Nat.lt_of_lt_of_le X3.1 hb.size⟩, Nat.le_refl _⟩, Below.refl _ _⟩
 have BH : Hid (∀ V : World, Ok V → Calls Tryz.prog 127 #[.agg T.toArray, vi ki a] V fun r w' => r = zr (vi ki ((Zm.cntLe a (L.map (·.at_)) : Nat) : Int)) ∧ Below V.heap.size V w') := fun V hV => behind_any T hT L _ h5 a hr h4 V (TR V hV)
 have hC0 : Zm.cntLe a (L.map (·.at_)) ≤ n := by have := Zm.cntLe_le a (L.map (·.at_)); rw [List.length_map, hn] at this; exact this
 have HLF : Hid (∀ x ∈ L.drop (Zm.cntLe a (L.map (·.at_))), b < x.at_ → FT = []) := fun x hx h => hLF x (List.mem_of_mem_drop hx) h
 have HNX : Hid (∀ k, k ≤ FT.length → stK st FT k < b → ∃ (y : TrR) (er : Int), (∀ V : World, Ok V → Calls Tryz.prog 206 #[.agg FL.toArray, vi ki (stK st FT k)] V fun r w' => r = zr (.tuple #[.agg #[vi ki y.at_, vi ki y.off, .bool y.dst, .string y.ab], vi ki er]) ∧ Below V.heap.size V w') ∧ stK st FT k < y.at_ ∧ (k < FT.length → FT[k]? = some y ∧ y.at_ ≤ b) ∧ (k = FT.length → b < y.at_)) := NX
 have HLT : Hid (∀ k, k < FT.length → stK st FT k < b) := hlt
 clear hLF NX hlt
 unfold Zm.chg at hY ⊢
 generalize Zm.cntLe a (L.map (·.at_)) = C at *
 have SL : Hid (∀ V : World, (Instr.sliceAt 24 (.slice ao n c) (some (vi ki (C : Int))) none none).run Tryz.prog V = .ok (.slice (if c = C then ao else ao.map (·.add (C * 4))) (n - C) (c - C)) V) := fun V => run_slT ao n c C hC0 V
 have TD : Hid (∀ V, Ok V → TrAt V (.slice (if c = C then ao else ao.map (·.add (C * 4))) (n - C) (c - C)) (L.drop C)) := fun V hV => (TR V hV).drop hnc hC0
 have hlen : (L.drop C).length = n - C := by rw [List.length_drop, hn]
 have hm4 : n - C ≤ 4096 := by omega
 generalize L.drop C = D at *
 generalize (if c = C then ao else ao.map (·.add (C * 4))) = a5 at *
 obtain ⟨m5, hm5⟩ : ∃ m5, n - C = m5 := ⟨_, rfl⟩
 rw [hm5] at SL TD hlen hm4
 generalize c - C = c5 at *
 refine callsIn_wide.2 ?_
 go_enter Tryz.func205, Tryz.ntmps205
 go_upto_region 0 with fail
 go_cut [15, 16, 17] (fun v15 v16 v17 wx => v15 = .slice a5 m5 c5 ∧ v16 = vi ki (m5 : Int) ∧ v17 = vi ki 0 ∧ Hid (ChB W T bt bf bo a b Ok S wx))
 case first =>
  refine wp_region_held_drew (S := ChB W T bt bf bo a b Ok S) (by kernel_rfl) HS0.out.drew (fun hHeld => ?_)
  refine tks 0 ⟨some 10, _, _, _, _, none⟩ rfl ?_
  simp only [za, zb, zc, zd]
  refine tk (v := ?_) 1 ⟨some 11, _, _, _, _, none⟩ rfl ?_ ?_
  case refine_2 => (intro w9 hSw; have l1 := hSw.cs.xf.c 0 rfl; have l2 := hSw.cs.xt.c 5 h5; clear hSw; go_simp; try with_reducible rfl)
  simp only [za, zb, zc, zd]
  refine wpAnyH_take (i := 2) (v := .agg T.toArray) (oi := ⟨some 12, _, _, _, _, none⟩) rfl (by kernel_rfl) (by kernel_rfl) (by kernel_rfl) (fun _ _ _ h => h) (Or.inl ⟨by kernel_rfl, ?_⟩) (by assumption) ?_
  case refine_1 => (intro w9 hSw; exact exec_row rfl rfl hSw.cs.xt.all Tryz.underlying44 rfl (by rw [hT]; kernel_rfl))
  simp only [za, zb, zc, zd]
  refine tk (v := ?_) 3 ⟨some 13, _, _, _, _, none⟩ rfl ?_ ?_
  case refine_2 => (intro w9 hSw; have l1 := hSw.cs.xf.c 0 rfl; have l2 := hSw.cs.xt.c 5 h5; clear hSw; go_simp; try with_reducible rfl)
  simp only [za, zb, zc, zd]
  refine tks 7 ⟨some 17, _, _, _, _, none⟩ rfl ?_
  simp only [za, zb, zc, zd]
  refine rd 4 ⟨some 14, _, _, _, _, none⟩ rfl (fun K hK => ?_)
  go_simp
  refine (BH.out _ hHeld.cs.ok).mono ?_
  rintro e v1 ⟨rfl, hb1⟩
  refine hK.out _ _ (hHeld.below hb1) (fun hHeld => ?_)
  clear hK K hb1
  refine wpAnyH_take (i := 5) (v := .slice a5 m5 c5) (oi := ⟨some 15, _, _, _, _, none⟩) rfl (by kernel_rfl) (by kernel_rfl) (by kernel_rfl) (fun _ _ _ h => h) (Or.inl ⟨by kernel_rfl, ?_⟩) (by assumption) ?_
  case refine_1 => (intro w9 hSw; exact exec_slice rfl rfl rfl (SL.out w9))
  simp only [za, zb, zc, zd]
  refine tks 6 ⟨some 16, _, _, _, _, none⟩ rfl ?_
  simp only [za, zb, zc, zd]
  refine wpAnyH_done (by kernel_rfl) ?_ _
  go_wp2_with fail
  go_meet
  case rel => exact ⟨rfl, rfl, rfl, hHeld⟩
 case rest =>
  obtain ⟨rfl, rfl, rfl, HS1⟩ := hcut
  have J1 : J 0 wc := hJ _ _ _ h0 HS1.out.bel
  have AL : Hid (∀ j x, D[j]? = some x → x.at_ ≤ b → j < (D.takeWhile (fun x => decide (x.at_ ≤ b))).length → (D.takeWhile (fun x => decide (x.at_ ≤ b))).getD j zTr = x) := fun j x hx _ hj => Zm.tw_get hx hj
  go_wp2_with fail
  go_loopw [17] (fun iv wr => ∃ i : Nat, iv = vi ki (i : Int) ∧ i ≤ m5 ∧ Hid (ChS W T bt bf bo a b Ok S wr ∧ J i wr ∧ ∀ j x, j < i → D[j]? = some x → x.at_ ≤ b)) (fun iv _ => m5 - (intOf iv).toNat)
  case atStart => exact ⟨0, rfl, Nat.zero_le _, HS1.out.cs, J1, fun j x hj => absurd hj (Nat.not_lt_zero _)⟩
  case round =>
   obtain ⟨i, rfl, hi, HR⟩ := hrel
   by_cases hlt : i < m5
   ·obtain ⟨x, hx⟩ : ∃ x, D[i]? = some x := ⟨_, List.getElem?_eq_getElem (by omega)⟩
    obtain ⟨g, o, c', hsv, hrg⟩ := (TD.out wr HR.out.1.ok).row hx
    rw [hlen] at hsv
    simp only [Value.slice.injEq, true_and] at hsv
    obtain ⟨rfl, rfl⟩ := hsv
    have HRG : Hid (wr.rangeAt g (o + i * 4) [vi ki x.at_, vi ki x.off, .bool x.dst, .string x.ab]) := hrg
    clear hrg
    have hlt' : (i : Int) < (m5 : Int) := by omega
    have hn5 := HR.out.1
    have hba : Below wr.heap.size wr (wr.alloc (.cells #[vi ki x.at_, vi ki x.off, .bool x.dst, .string x.ab] 23)) := (Below.refl _ _).alloc (Nat.le_refl _) _
    have HZ : Hid (ChS W T bt bf bo a b Ok S (wr.alloc (.cells #[vi ki x.at_, vi ki x.off, .bool x.dst, .string x.ab] 23)) ∧ J i (wr.alloc (.cells #[vi ki x.at_, vi ki x.off, .bool x.dst, .string x.ab] 23)) ∧ Bx (wr.alloc (.cells #[vi ki x.at_, vi ki x.off, .bool x.dst, .string x.ab] 23)) wr.heap.size [vi ki x.at_, vi ki x.off, .bool x.dst, .string x.ab]) := ⟨hn5.below hba, hJ _ _ _ HR.out.2.1 (hba.mono hn5.wsz), Bx.new wr [vi ki x.at_, vi ki x.off, .bool x.dst, .string x.ab] _⟩
    have hwr := hn5.wsz
    have HP : Hid (∀ j x, j < i → D[j]? = some x → x.at_ ≤ b) := HR.out.2.2
    clear hn5 HR hba
    go_upto_region 3 with (first | (refine wpList_load_mid rfl 23 _ rfl g (o + i * 4) rfl [vi ki x.at_, vi ki x.off, .bool x.dst, .string x.ab] _ HRG.out Tryz.underlying23 rfl (by kernel_rfl) ?_) | fail)
    refine gen_code (fun V => ChS W T bt bf bo a b Ok S V ∧ J i V ∧ Bx V wr.heap.size [vi ki x.at_, vi ki x.off, .bool x.dst, .string x.ab]) HZ.out ?_
    clear HZ HRG
    rintro V ⟨C1, J2, B1⟩
    have o0 := C1.xo.c 0 rfl
    have x0 := B1.c 0 rfl
    have x1 := B1.c 1 rfl
    have x2 := B1.c 2 rfl
    have x3 := B1.c 3 rfl
    by_cases hgt : b < x.at_
    ·have hN : (D.takeWhile (fun x => decide (x.at_ ≤ b))).length = i := Zm.tw_at (fun j y hj hy => decide_eq_true (HP.out j y hj hy)) hx (decide_eq_false (by omega))
     have hF0 : FT = [] := HLF.out x (List.mem_of_getElem? hx) hgt
     have HJ2 : Hid (J (D.takeWhile (fun x => decide (x.at_ ≤ b)) ++ FT).length V) := by rw [hF0, List.append_nil, hN]; exact J2
     clear hY C1 B1 J2 AL
     refine (wpIn_wide (n := 10)).1 ?_
     gi_wp2
     refine ⟨fun _ h => (by cases h), ?_⟩
     gi_wp2
     go_wp2_with fail
     refine bodyPost_ret (results_none rfl _ _ _) rfl ?_
     exact ⟨⟨_, rfl⟩, HJ2.out⟩
    ·have hle : x.at_ ≤ b := by omega
     have hiN := Zm.tw_lt (fun j y hj hy => decide_eq_true (HP.out j y hj hy)) hx (decide_eq_true hle)
     have hY1 := hY i V (by rw [List.length_append]; omega) C1.wsz J2
     rw [getD_app hiN, Zm.tw_get hx hiN] at hY1
     obtain ⟨fn, tmps, assign, body, hy, hR⟩ := YieldAt_wide (m' := 10 - 1) hY1
     simp only [trV] at hy
     have HR : Hid (RoundIn Fence.wide (10 - 1) Tryz.prog l fn tmps assign body V fun e W' => e = zr (.bool true) ∧ J (i + 1) W' ∧ Turns M V W') := hR
     clear hR hY1 J2 B1
     refine (wpIn_wide (n := 10)).1 ?_
     gi_wp2
     refine HR.out.mono ?_
     rintro e' V7 ⟨rfl, hJ7, ht7⟩
     have C7 := C1.turns ht7 hSM
     clear HR hy C1 o0 x0 x1 x2 x3
     gi_wp2
     go_wp2_with fail
     exact ⟨⟨i + 1, by simp, by omega, C7, hJ7, fun j y hj hy => by
      by_cases hji : j = i
      ·subst hji; rw [hx] at hy; cases hy; exact hle
      ·exact HP.out j y (by omega) hy⟩, by simp [intOf]; omega⟩
   ·obtain rfl : i = m5 := by omega
    have hN : (D.takeWhile (fun x => decide (x.at_ ≤ b))).length = i := by
     rw [Zm.tw_all (fun j x hx => decide_eq_true (HR.out.2.2 j x (by have := (List.getElem?_eq_some_iff.1 hx).1; omega) hx))]; exact hlen
    have g6 : wr.cell? ⟨bt, 6, none⟩ = some (.bool true) := HR.out.1.xt.c 6 h6
    have g7 : wr.cell? ⟨bt, 7, none⟩ = some (vi ki fr) := HR.out.1.xt.c 7 h7
    have ga : wr.cell? ⟨bf, 0, none⟩ = some (vi ki a) := HR.out.1.xf.c 0 rfl
    have wf : IntKind.i64.wrap (fr - 1) = fr - 1 := by rw [IntKind.wrap_i64]; omega
    have HC : Hid (ChS W T bt bf bo a b Ok S wr) := HR.out.1
    have HJ : Hid (J (i + 0) wr) := HR.out.2.1
    have HL2 : Hid ((D.takeWhile (fun x => decide (x.at_ ≤ b)) ++ FT).length = i + FT.length) := by show _ = _; rw [List.length_append, hN]
    have HG : Hid (∀ k y, FT[k]? = some y → (D.takeWhile (fun x => decide (x.at_ ≤ b)) ++ FT).getD (i + k) zTr = y) := fun k y hk => by
     rw [List.getD_eq_getElem?_getD, List.getElem?_append_right (by omega), hN, Nat.add_sub_cancel_left, hk]; rfl
    clear HR hN AL
    go_wp2_with fail
    go_loopw [7] (fun av V => ∃ k : Nat, av = vi ki (stK st FT k) ∧ k ≤ FT.length ∧ Hid (ChS W T bt bf bo a b Ok S V) ∧ Hid (J (i + k) V)) (fun av _ => (b - intOf av).toNat)
    case atStart => exact ⟨0, by rw [show stK st FT 0 = st from rfl, hst], Nat.zero_le _, HC, HJ⟩
    case round =>
     clear HC HJ g6 g7 ga
     obtain ⟨k, rfl, hk, HC, HJ⟩ := hrel
     have gb : wr.cell? ⟨bo, 0, none⟩ = some (vi ki b) := HC.out.xo.c 0 rfl
     by_cases hlb : stK st FT k < b
     ·obtain ⟨y, er, hnx, hyl, hyk, hyf⟩ := HNX.out k hk hlb
      have HN1 : Hid (∀ V : World, Ok V → Calls Tryz.prog 206 #[.agg FL.toArray, vi ki (stK st FT k)] V fun r w' => r = zr (.tuple #[.agg #[vi ki y.at_, vi ki y.off, .bool y.dst, .string y.ab], vi ki er]) ∧ Below V.heap.size V w') := hnx
      have RG : Hid (wr.rangeAt bt 6 FL) := fun q x hx => HC.out.xt.c (6 + q) (by rw [← hFL, List.getElem?_drop] at hx; exact hx)
      clear hnx
      obtain ⟨s, hs⟩ : ∃ s, stK st FT k = s := ⟨_, rfl⟩
      rw [hs] at hlb hyl HN1 ⊢
      have HSK : Hid (stK st FT k = s) := hs
      clear hs
      generalize hFA : FL.toArray = FA at *
      go_wp2_with (first | (refine wpList_load_mid rfl 42 _ rfl bt 6 rfl FL _ RG.out Tryz.underlying42 rfl (by rw [hF]; kernel_rfl) ?_; rw [hFA]) | fail)
      refine (HN1.out _ HC.out.ok).mono ?_
      rintro e1 V1 ⟨rfl, hb1⟩
      have C1 := HC.out.below hb1
      have hwV := C1.wsz
      have hba : Below V1.heap.size V1 (V1.alloc (.cells #[vi ki y.at_, vi ki y.off, .bool y.dst, .string y.ab] 23)) := (Below.refl _ _).alloc (Nat.le_refl _) _
      have HZ : Hid (ChS W T bt bf bo a b Ok S (V1.alloc (.cells #[vi ki y.at_, vi ki y.off, .bool y.dst, .string y.ab] 23)) ∧ J (i + k) (V1.alloc (.cells #[vi ki y.at_, vi ki y.off, .bool y.dst, .string y.ab] 23)) ∧ Bx (V1.alloc (.cells #[vi ki y.at_, vi ki y.off, .bool y.dst, .string y.ab] 23)) V1.heap.size [vi ki y.at_, vi ki y.off, .bool y.dst, .string y.ab]) :=
       ⟨C1.below hba, hJ _ _ _ (hJ _ _ _ HJ.out (hb1.mono HC.out.wsz)) (hba.mono C1.wsz), Bx.new V1 [vi ki y.at_, vi ki y.off, .bool y.dst, .string y.ab] 23⟩
      clear C1 hba hb1 HC HJ RG HN1 gb
      go_upto_region 9 with fail
      refine gen_code (fun V => ChS W T bt bf bo a b Ok S V ∧ J (i + k) V ∧ Bx V V1.heap.size [vi ki y.at_, vi ki y.off, .bool y.dst, .string y.ab]) HZ.out ?_
      clear HZ
      rintro V ⟨C2, J2, B2⟩
      have o0 := C2.xo.c 0 rfl
      have x0 := B2.c 0 rfl
      have x1 := B2.c 1 rfl
      have x2 := B2.c 2 rfl
      have x3 := B2.c 3 rfl
      by_cases hkl : k < FT.length
      ·obtain ⟨hy1, hy2⟩ := hyk hkl
       have hY1 := hY (i + k) V (by rw [HL2.out]; omega) C2.wsz J2
       rw [HG.out k y hy1] at hY1
       obtain ⟨fn, tmps, assign, body, hy, hR⟩ := YieldAt_wide (m' := 10 - 1) hY1
       simp only [trV] at hy
       have HR : Hid (RoundIn Fence.wide (10 - 1) Tryz.prog l fn tmps assign body V fun e W' => e = zr (.bool true) ∧ J (i + k + 1) W' ∧ Turns M V W') := hR
       have HB2 : Hid (Bx V V1.heap.size [vi ki y.at_, vi ki y.off, .bool y.dst, .string y.ab]) := B2
       have HY1 : Hid (FT[k]? = some y) := hy1
       clear hR hY1 J2 B2 hyk hyf hy1
       refine (wpIn_wide (n := 10)).1 ?_
       gi_wp2
       refine HR.out.mono ?_
       rintro e' V7 ⟨rfl, hJ7, ht7⟩
       have C7 := C2.turns ht7 hSM
       have B7 : Bx V7 V1.heap.size [vi ki y.at_, vi ki y.off, .bool y.dst, .string y.ab] := bx_turns HB2.out ht7 (fun q => by have := hM _ q; omega)
       have z0 := B7.c 0 rfl
       clear HR hy C2 o0 x0 x1 x2 x3 HB2
       gi_wp2
       go_wp2_with fail
       exact ⟨⟨k + 1, by rw [stK_succ HY1.out], by omega, C7, hJ7⟩, by simp [intOf]; omega⟩
      ·have hkF : k = FT.length := by omega
       have hgt := hyf hkF
       have HJ2 : Hid (J (D.takeWhile (fun x => decide (x.at_ ≤ b)) ++ FT).length V) := by rw [HL2.out, ← hkF]; exact J2
       clear hY C2 B2 J2 hyk hyf
       refine (wpIn_wide (n := 10)).1 ?_
       gi_wp2
       refine ⟨fun _ h => (by cases h), ?_⟩
       gi_wp2
       go_wp2_with fail
       refine bodyPost_ret (results_none rfl _ _ _) rfl ?_
       exact ⟨⟨_, rfl⟩, HJ2.out⟩
     ·have hkF : k = FT.length := by
       rcases Nat.lt_or_ge k FT.length with g | g
       ·exact absurd (HLT.out k g) hlb
       ·omega
      have HJ2 : Hid (J (D.takeWhile (fun x => decide (x.at_ ≤ b)) ++ FT).length wr) := by rw [HL2.out, ← hkF]; exact HJ.out
      obtain ⟨s, hs⟩ : ∃ s, stK st FT k = s := ⟨_, rfl⟩
      rw [hs] at hlb ⊢
      clear hY HJ hs
      go_wp2_with fail
      refine bodyPost_end (results_none rfl _ _ _) rfl ?_
      exact ⟨⟨_, rfl⟩, by have := HJ2.out; rw [List.length_append] at this; exact this⟩
def trT (p : Fn.Tr) : TrR := ⟨p.t, p.o, p.d, p.a⟩
def ftL (f : Fn.Ft) (js : Int) (n : Nat) : List TrR := (List.range n).map fun i : Nat => trT (Fn.gs f (js + 1 + (i : Int)))
theorem ftL_len (f : Fn.Ft) (js : Int) (n : Nat) : (ftL f js n).length = n := by simp [ftL]
theorem ftL_get {f : Fn.Ft} {js : Int} {n k : Nat} (h : k < n) : (ftL f js n)[k]? = some (trT (Fn.gs f (js + 1 + (k : Int)))) := by simp [ftL, h]
theorem stK_ft {f : Fn.Ft} {st js : Int} {n k : Nat} (h : k < n) : stK st (ftL f js n) (k + 1) = (Fn.gs f (js + 1 + (k : Int))).t := stK_succ (ftL_get h)
theorem gs_off {f : Fn.Ft} (hf : Fn.okF f = true) (j : Int) : -57600 ≤ (Fn.gs f j).o ∧ (Fn.gs f j).o ≤ 57600 := by
 obtain ⟨o1, o2, hA, hB, _⟩ := Fn.okF_of hf
 have a := of_decide_eq_true hA
 have b := of_decide_eq_true hB
 have ka : ∀ y, -57600 ≤ (Fn.trOf f.off f.A f.B y).o ∧ (Fn.trOf f.off f.A f.B y).o ≤ 57600 := fun y => by
  show -57600 ≤ f.off + f.A.v ∧ f.off + f.A.v ≤ 57600
  have := a.2.2; omega
 have kb : ∀ y, -57600 ≤ (Fn.trOf f.off f.B f.A y).o ∧ (Fn.trOf f.off f.B f.A y).o ≤ 57600 := fun y => by
  show -57600 ≤ f.off + f.B.v ∧ f.off + f.B.v ≤ 57600
  have := b.2.2; omega
 unfold Fn.gs Fn.sh1 Fn.sh2
 split <;> split <;> first | exact ka _ | exact kb _
theorem st_le {f : Fn.Ft} (L : Fn.LH f) {s b i j : Int} (a : Fn.St f s i) (c : Fn.St f b j) (h : s ≤ b) : i ≤ j := by
 obtain ⟨a1, a2, a3, a4⟩ := a
 obtain ⟨c1, c2, c3, c4⟩ := c
 rcases Int.lt_or_le j i with g | g
 ·exfalso
  rcases Int.lt_or_eq_of_le (show j + 1 ≤ i by omega) with k | k
  ·have := Fn.gs_lt L (i := j + 1) (j := i) (by omega) k (by omega); omega
  ·rw [k] at c4; omega
 ·exact g
theorem gs_le {f : Fn.Ft} (L : Fn.LH f) {i j : Int} (hi : -9434 ≤ i) (h : i ≤ j) (hj : j ≤ 588563) : (Fn.gs f i).t ≤ (Fn.gs f j).t := by
 rcases Int.lt_or_eq_of_le h with k | k
 ·exact Int.le_of_lt (Fn.gs_lt L hi k hj)
 ·rw [k]; exact Int.le_refl _
theorem ft_at {f : Fn.Ft} (L : Fn.LH f) {st b js jb : Int} (hS : Fn.St f st js) (hB : Fn.St f b jb) (hsb : st < b) {k : Nat} (hk : k ≤ (jb - js).toNat) :
  Fn.St f (stK st (ftL f js (jb - js).toNat) k) (js + k) ∧ st ≤ stK st (ftL f js (jb - js).toNat) k ∧ (stK st (ftL f js (jb - js).toNat) k) ≤ b := by
 have hle := st_le L hS hB (by omega)
 cases k with
 | zero =>
  rw [show stK st (ftL f js (jb - js).toNat) 0 = st from rfl, show js + ((0 : Nat) : Int) = js by omega]
  exact ⟨hS, by omega, by omega⟩
 | succ k =>
  rw [stK_ft (by omega), show js + ((k + 1 : Nat) : Int) = js + 1 + (k : Int) by omega]
  obtain ⟨s1, s2, s3, s4⟩ := hS
  obtain ⟨b1, b2, b3, b4⟩ := hB
  have e1 := Fn.gs_lt L (i := js + 1 + (k : Int)) (j := js + 1 + (k : Int) + 1) (by omega) (by omega) (by omega)
  have e2 := gs_le L (i := js + 1) (j := js + 1 + (k : Int)) (by omega) (by omega) (by omega)
  have e3 := gs_le L (i := js + 1 + (k : Int)) (j := jb) (by omega) (by omega) (by omega)
  exact ⟨⟨by omega, by omega, Int.le_refl _, e1⟩, by omega, by omega⟩
theorem ask_mid {a b t : Int} (ha : ask a) (hb : ask b) (h1 : a ≤ t) (h2 : t ≤ b) : ask t := by
 obtain ⟨a1, a2, ya, hya, ka⟩ := ha
 obtain ⟨b1, b2, yb, hyb, kb⟩ := hb
 obtain ⟨y, hy⟩ := Fn.yat_is t
 have ka' : -4714 ≤ ya ∧ ya ≤ 294278 := of_decide_eq_true ka
 have kb' : -4714 ≤ yb ∧ yb ≤ 294278 := of_decide_eq_true kb
 refine ⟨by omega, by omega, y, hy, ?_⟩
 rcases hya with ⟨ca, pa, qa⟩ | ⟨_, _, rfl⟩ | ⟨_, _, rfl⟩
 ·rcases hyb with ⟨cb, pb, qb⟩ | ⟨_, _, rfl⟩ | ⟨_, _, rfl⟩
  ·have na := Cvl.of_can ca
   have nb := Cvl.of_can cb
   have ct : Cvl.can (t / 86400 - 10957) = true := by unfold Cvl.can; exact decide_eq_true (by omega)
   rcases hy with ⟨_, p, q⟩ | ⟨c, _⟩ | ⟨c, _⟩
   ·have l1 := Cv.S_lt (show Cv.S ya < Cv.S (y + 1) by omega)
    have l2 := Cv.S_lt (show Cv.S y < Cv.S (yb + 1) by omega)
    exact decide_eq_true (by omega)
   ·rw [ct] at c; cases c
   ·rw [ct] at c; cases c
  ·omega
  ·omega
 ·omega
 ·omega
theorem ask_y {t : Int} (h : ask t) : ∃ y, Fn.YAt t y ∧ -4714 ≤ y ∧ y ≤ 294278 ∧ -9223372036854775808 ≤ t ∧ t ≤ 9223372036854775807 := by
 obtain ⟨t1, t2, y, hy, k⟩ := h
 have := of_decide_eq_true k
 exact ⟨y, hy, this.1, this.2, t1, t2⟩
theorem gTab9 : Tryz.prog.globalNamed "internal/strconv.uint64pow10" = some 2 := by kernel_rfl
theorem tab_keep {W W' : World} (h : Clk.Tab W) (hk : W'.heap[(2 : Nat)]? = W.heap[(2 : Nat)]?) : Clk.Tab W' := by
 unfold Clk.Tab Lib.TabIs World.var? at *
 rw [gTab9] at h ⊢
 simp only [Option.bind_some] at h ⊢
 rw [hk]
 exact h
theorem tab_lt {W : World} (h : Clk.Tab W) : (2 : Nat) < W.heap.size := by
 unfold Clk.Tab Lib.TabIs World.var? at h
 rw [gTab9] at h
 simp only [Option.bind_some] at h
 rcases Nat.lt_or_ge (2 : Nat) W.heap.size with h' | h'
 ·exact h'
 ·rw [Array.getElem?_eq_none h'] at h; simp at h
def OkF (sv : Value) (L : List TrR) (W : World) : Prop := OkN sv L W ∧ Clk.Tab W
theorem OkF.okS (sv : Value) (L : List TrR) : OkS ((2 : Nat) :: 1 :: bkS sv L) (OkF sv L) := by
 have h := OkN.okS sv L
 refine ⟨fun W W' hW hs hk => ⟨h.keep W W' hW.1 hs (fun k hk' => hk k (List.mem_cons_of_mem _ hk')), tab_keep hW.2 (hk _ List.mem_cons_self)⟩, fun W hW k hk => ?_, fun W hW => hW⟩
 rcases List.mem_cons.1 hk with rfl | hk
 ·exact tab_lt hW.2
 ·exact h.lt W hW.1 k hk
theorem OkF.below {sv : Value} {L : List TrR} {W W' : World} (h : OkF sv L W) (hb : Below W.heap.size W W') : OkF sv L W' := (OkF.okS sv L).below h hb
def Near (x : Int) (g : Zm.Gr) : Prop := 0 ≤ g.n ∧ (0 < g.n → x - 57600 ≤ g.f ∧ g.f ≤ x + 57600 ∧ x - 57600 ≤ g.l ∧ g.l ≤ x + 57600)
theorem Near.more {x : Int} {g : Zm.Gr} (h : Near x g) {o : Int} (h1 : -57600 ≤ o) (h2 : o ≤ 57600) : Near x (g.more (x - o)) ∧ 0 < (g.more (x - o)).n := by
 unfold Near Zm.Gr.more at *
 obtain ⟨a, b⟩ := h
 refine ⟨⟨by show 0 ≤ g.n + 1; omega, fun _ => ?_⟩, by show 0 < g.n + 1; omega⟩
 simp only []
 by_cases k : g.n = 0
 ·rw [if_pos k]; omega
 ·rw [if_neg k]; have := b (by omega); omega
theorem pGo_near (x : Int) : ∀ (l : List Zm.St) (gl gs : Zm.Gr), (∀ s ∈ l, -57600 ≤ s.o ∧ s.o ≤ 57600) → Near x gl → Near x gs → Near x (Zm.pGo x l (gl, gs)).1 ∧ Near x (Zm.pGo x l (gl, gs)).2 ∧ (0 < gl.n ∨ 0 < gs.n → 0 < (Zm.pGo x l (gl, gs)).1.n ∨ 0 < (Zm.pGo x l (gl, gs)).2.n)
 | [], gl, gs, _, h1, h2 => ⟨h1, h2, fun h => h⟩
 | s :: l, gl, gs, ho, h1, h2 => by
  have os := ho s List.mem_cons_self
  have ol : ∀ s ∈ l, -57600 ≤ s.o ∧ s.o ≤ 57600 := fun s hs => ho s (List.mem_cons_of_mem _ hs)
  unfold Zm.pGo
  by_cases k1 : Zm.less x s
  ·rw [if_pos k1]
   obtain ⟨a, b⟩ := h1.more os.1 os.2
   obtain ⟨p, q, r⟩ := pGo_near x l _ gs ol a h2
   exact ⟨p, q, fun _ => r (.inl b)⟩
  ·rw [if_neg k1]
   by_cases k2 : Zm.says x s
   ·rw [if_pos k2]
    obtain ⟨a, b⟩ := h2.more os.1 os.2
    obtain ⟨p, q, r⟩ := pGo_near x l gl _ ol h1 a
    exact ⟨p, q, fun _ => r (.inr b)⟩
   ·rw [if_neg k2]
    exact pGo_near x l gl gs ol h1 h2
theorem inV_near {x e o : Int} {r : List Zm.St} (he : x - 57600 ≤ e) (ho : ∀ s ∈ (⟨x - 57600, e, o⟩ : Zm.St) :: r, -57600 ≤ s.o ∧ s.o ≤ 57600) : x - 57600 ≤ inV (Zm.pGo x (⟨x - 57600, e, o⟩ :: r) (⟨0, 0, 0⟩, ⟨0, 0, 0⟩)) ∧ inV (Zm.pGo x (⟨x - 57600, e, o⟩ :: r) (⟨0, 0, 0⟩, ⟨0, 0, 0⟩)) ≤ x + 57600 := by
 have z : Near x ⟨0, 0, 0⟩ := ⟨Int.le_refl _, fun h => absurd h (by decide)⟩
 have oo := ho _ List.mem_cons_self
 have ol : ∀ s ∈ r, -57600 ≤ s.o ∧ s.o ≤ 57600 := fun s hs => ho s (List.mem_cons_of_mem _ hs)
 simp only [] at oo
 have key : ∀ gl gs : Zm.Gr, Near x gl → Near x gs → (0 < gl.n ∨ 0 < gs.n) → x - 57600 ≤ inV (Zm.pGo x r (gl, gs)) ∧ inV (Zm.pGo x r (gl, gs)) ≤ x + 57600 := fun gl gs h1 h2 h3 => by
  obtain ⟨p, q, k⟩ := pGo_near x r gl gs ol h1 h2
  have k := k h3
  unfold inV
  split
  ·have := p.2 (by have := q.1; omega); omega
  ·have := q.2 (by have := q.1; omega); omega
 unfold Zm.pGo
 by_cases k1 : Zm.less x ⟨x - 57600, e, o⟩
 ·rw [if_pos k1]
  obtain ⟨a, b⟩ := z.more oo.1 oo.2
  exact key _ _ a z (.inl b)
 ·rw [if_neg k1]
  have k2 : Zm.says x ⟨x - 57600, e, o⟩ := by unfold Zm.says; unfold Zm.less at k1; simp only [] at k1 ⊢; omega
  rw [if_pos k2]
  obtain ⟨a, b⟩ := z.more oo.1 oo.2
  exact key _ _ z a (.inr b)
theorem strs_head (a e o : Int) (l : List (Int × Int)) (ha : a ≤ e) (hl : ∀ c ∈ l, a ≤ c.1) : ∃ e' r, Zm.strs a e o l = ⟨a, e', o⟩ :: r ∧ a ≤ e' := by
 cases l with
 | nil => exact ⟨e, [], rfl, ha⟩
 | cons c l => exact ⟨c.1, _, rfl, hl c List.mem_cons_self⟩
def stsC (x0 : TrR) (ch : List TrR) (x : Int) : List Zm.St := Zm.strs (x - 57600) (x + 57600 + 1) x0.off (ch.map fun c => (c.at_, c.off))
theorem fin_ (nm : ByteArray) (f : TrR) (ft : Fn.Ft) (ao : Option Addr) (n c : Nat) (hnc : n ≤ c) (L : List TrR) (hn : L.length = n) (h : NoF f L) (hf : Fn.okF ft = true) (hla : ∀ x ∈ L, x.at_ < ft.fr) (f1 : -1000000000000000000 ≤ ft.fr) (f2 : ft.fr ≤ 1000000000000000000)
  (RT : ∀ w : World, OkF (.slice ao n c) L w → Calls Tryz.prog 31 #[.agg (tbF nm f (.slice ao n c) (Fn.fL ft)).toArray] w fun r' w' => r' = zr (.bool true) ∧ Below w.heap.size w w')
  (x : Int) (h0 : ask x) (h1 : ask (x - 57600)) (h2 : ask (x + 57600)) (x1 : -1000000000000000 ≤ x) (x2 : x ≤ 1000000000000000) :
  ∃ (x0 : TrR) (FT : List TrR), (-57600 ≤ x0.off ∧ x0.off ≤ 57600) ∧ (∀ c ∈ Zm.chg (x - 57600) (x + 57600) L ++ FT, (-57600 ≤ c.off ∧ c.off ≤ 57600) ∧ x - 57600 < c.at_) ∧
   (∃ ja, Fn.St ft (x - 57600) ja ∧ x0 = if ft.h = true ∧ ft.fr ≤ x - 57600 then trT (Fn.gs ft ja) else curT f L (Zm.cntLe (x - 57600) (L.map (·.at_)))) ∧
   ((x + 57600 ≤ max (x - 57600) (ft.fr - 1) ∧ FT = []) ∨ ∃ js jb, Fn.St ft (max (x - 57600) (ft.fr - 1)) js ∧ Fn.St ft (x + 57600) jb ∧ max (x - 57600) (ft.fr - 1) < x + 57600 ∧ FT = ftL ft js (jb - js).toNat) ∧ ∀ w : World, OkF (.slice ao n c) L w →
   Calls Tryz.prog 40 #[.agg (tbF nm f (.slice ao n c) (Fn.fL ft)).toArray, vi ki x] w fun r w' => r = zr (.tuple #[vi ki (inV (Zm.pGo x (stsC x0 (Zm.chg (x - 57600) (x + 57600) L ++ FT) x) (⟨0, 0, 0⟩, ⟨0, 0, 0⟩))), vi ki (inH (Zm.pGo x (stsC x0 (Zm.chg (x - 57600) (x + 57600) L ++ FT) x) (⟨0, 0, 0⟩, ⟨0, 0, 0⟩))), vi ki 0]) ∧ Below w.heap.size w w' := by
 have LHf := Fn.lh_of hf
 have hh : ft.h = true := by have := hf; unfold Fn.okF at this; simp at this; exact this.1.1.1.1.1
 have hS := OkF.okS (.slice ao n c) L
 have hF : (Fn.fL ft).length = 19 := rfl
 obtain ⟨ya, hya, ya1, ya2, ta1, ta2⟩ := ask_y h1
 obtain ⟨ja, hja, FA, _⟩ := Fn.stand_ok ft (x - 57600) ya hf hya ya1 ya2 ta1 ta2
 obtain ⟨yb, hyb, yb1, yb2, tb1, tb2⟩ := ask_y h2
 obtain ⟨jb, hjb, _, _⟩ := Fn.stand_ok ft (x + 57600) yb hf hyb yb1 yb2 tb1 tb2
 have hx0 : ∃ x0 : TrR, (-57600 ≤ x0.off ∧ x0.off ≤ 57600) ∧ (x0 = if ft.h = true ∧ ft.fr ≤ x - 57600 then trT (Fn.gs ft ja) else curT f L (Zm.cntLe (x - 57600) (L.map (·.at_)))) ∧ ∀ w : World, OkF (.slice ao n c) L w → Calls Tryz.prog 79 #[.agg (tbF nm f (.slice ao n c) (Fn.fL ft)).toArray, vi ki (x - 57600)] w fun r w' => r = zr (.agg #[vi ki x0.at_, vi ki x0.off, .bool x0.dst, .string x0.ab]) ∧ Below w.heap.size w w' := by
  refine ⟨if ft.h = true ∧ ft.fr ≤ x - 57600 then trT (Fn.gs ft ja) else curT f L (Zm.cntLe (x - 57600) (L.map (·.at_))), ?_, rfl, fun w hw => ?_⟩
  ·split
   ·exact gs_off hf ja
   ·exact h.cur _
  ·exact stand_any nm f (.slice ao n c) (Fn.fL ft) hF ft.h ft.fr (x - 57600) rfl rfl L h.rises h.h3 (trT (Fn.gs ft ja)) 0 w hw.1.1 (fun _ _ W hb => FA W (hw.below hb).1.2 (hw.below hb).2)
 obtain ⟨x0, hx0o, hx0e, ST⟩ := hx0
 have hFT : ∃ FT : List TrR, ((x + 57600 ≤ max (x - 57600) (ft.fr - 1) ∧ FT = []) ∨ ∃ js jb, Fn.St ft (max (x - 57600) (ft.fr - 1)) js ∧ Fn.St ft (x + 57600) jb ∧ max (x - 57600) (ft.fr - 1) < x + 57600 ∧ FT = ftL ft js (jb - js).toNat) ∧ (∀ c ∈ FT, (-57600 ≤ c.off ∧ c.off ≤ 57600) ∧ x - 57600 < c.at_) ∧ FT.length ≤ 600000 ∧ (∀ y ∈ L, x + 57600 < y.at_ → FT = []) ∧ (∀ k, k < FT.length → stK (max (x - 57600) (ft.fr - 1)) FT k < x + 57600) ∧
   (∀ k, k ≤ FT.length → stK (max (x - 57600) (ft.fr - 1)) FT k < x + 57600 → ∃ (y : TrR) (er : Int), (∀ V : World, OkF (.slice ao n c) L V → Calls Tryz.prog 206 #[.agg (Fn.fL ft).toArray, vi ki (stK (max (x - 57600) (ft.fr - 1)) FT k)] V fun r w' => r = zr (.tuple #[.agg #[vi ki y.at_, vi ki y.off, .bool y.dst, .string y.ab], vi ki er]) ∧ Below V.heap.size V w') ∧ stK (max (x - 57600) (ft.fr - 1)) FT k < y.at_ ∧ (k < FT.length → FT[k]? = some y ∧ y.at_ ≤ x + 57600) ∧ (k = FT.length → x + 57600 < y.at_)) := by
  obtain ⟨st, hst⟩ : ∃ st, max (x - 57600) (ft.fr - 1) = st := ⟨_, rfl⟩
  rw [hst]
  have hst1 : x - 57600 ≤ st ∧ ft.fr - 1 ≤ st ∧ (st = x - 57600 ∨ st = ft.fr - 1) := by omega
  by_cases hsb : st < x + 57600
  ·obtain ⟨ys, hys, ys1, ys2, ts1, ts2⟩ := ask_y (ask_mid h1 h2 hst1.1 (by omega))
   obtain ⟨js, hjs, _, _⟩ := Fn.stand_ok ft st ys hf hys ys1 ys2 ts1 ts2
   have hle := st_le LHf hjs hjb (by omega)
   have A : ∀ k, k ≤ (jb - js).toNat → _ := fun k hk => ft_at LHf hjs hjb hsb (k := k) hk
   have b3 := hjb.2.2.1
   have b4 := hjb.2.2.2
   have jr : -9434 ≤ js ∧ jb ≤ 588562 := ⟨hjs.1, hjb.2.1⟩
   refine ⟨ftL ft js (jb - js).toNat, .inr ⟨js, jb, hjs, hjb, hsb, rfl⟩, ?_, by rw [ftL_len]; omega, fun y hy hgt => ?_, fun k hk => ?_, fun k hk hlt => ?_⟩
   ·intro c hc
    obtain ⟨k, hk⟩ := List.getElem?_of_mem hc
    have hk2 : k < (jb - js).toNat := by have := (List.getElem?_eq_some_iff.1 hk).1; rwa [ftL_len] at this
    rw [ftL_get hk2] at hk
    obtain rfl : trT (Fn.gs ft (js + 1 + (k : Int))) = c := by simpa using hk
    have e := A (k + 1) (by omega)
    rw [stK_ft hk2] at e
    have e2 := (A 0 (by omega)).1.2.2.2
    rw [show stK st (ftL ft js (jb - js).toNat) 0 = st from rfl, show js + ((0 : Nat) : Int) + 1 = js + 1 by omega] at e2
    have e3 := gs_le LHf (i := js + 1) (j := js + 1 + (k : Int)) (by omega) (by omega) (by omega)
    exact ⟨gs_off hf _, by show x - 57600 < (Fn.gs ft (js + 1 + (k : Int))).t; omega⟩
   ·have := hla y hy; omega
   ·rw [ftL_len] at hk
    cases k with
    | zero => exact hsb
    | succ k =>
     rw [stK_ft (by omega)]
     have := Fn.gs_lt LHf (i := js + 1 + (k : Int)) (j := jb) (by omega) (by omega) (by omega)
     omega
   ·rw [ftL_len] at hk
    obtain ⟨a1, a2, a3⟩ := A k hk
    obtain ⟨s, hs⟩ : ∃ s, stK st (ftL ft js (jb - js).toNat) k = s := ⟨_, rfl⟩
    rw [hs] at a1 a2 a3 hlt ⊢
    obtain ⟨y9, hy9, q1, q2, q3, q4⟩ := ask_y (ask_mid h1 h2 (show x - 57600 ≤ s by omega) a3)
    obtain ⟨j, hj, _, NXT⟩ := Fn.stand_ok ft s y9 hf hy9 q1 q2 q3 q4
    obtain rfl := Fn.St.one LHf hj a1
    refine ⟨trT (Fn.gs ft (js + (k : Int) + 1)), 0, fun V hV => NXT V hV.1.2 hV.2, hj.2.2.2, fun hkl => ?_, fun hke => ?_⟩
    ·rw [ftL_len] at hkl
     rw [ftL_get hkl, show js + (k : Int) + 1 = js + 1 + (k : Int) by omega]
     refine ⟨rfl, ?_⟩
     have := gs_le LHf (i := js + 1 + (k : Int)) (j := jb) (by omega) (by omega) (by omega)
     show (Fn.gs ft (js + 1 + (k : Int))).t ≤ _
     omega
    ·rw [ftL_len] at hke
     show _ < (Fn.gs ft (js + (k : Int) + 1)).t
     rw [show js + (k : Int) + 1 = jb + 1 by omega]
     exact b4
  ·refine ⟨[], .inl ⟨by omega, rfl⟩, (fun c hc => by cases hc), by simp, (fun _ _ _ => rfl), (fun k hk => by simp at hk), fun k hk hlt => ?_⟩
   have hk0 : k = 0 := by simpa using hk
   subst hk0
   exact absurd hlt hsb
 obtain ⟨FT, hFTi, hFTo, hFTl, hLF, hlt, NX⟩ := hFT
 have hcl : (Zm.chg (x - 57600) (x + 57600) L).length ≤ L.length := Nat.le_trans (tw_sub _).1 (by rw [List.length_drop]; omega)
 have hcm : ∀ c ∈ Zm.chg (x - 57600) (x + 57600) L, c ∈ L := fun c hc => List.mem_of_mem_drop ((tw_sub _).2 c hc)
 have hcg : ∀ c ∈ Zm.chg (x - 57600) (x + 57600) L, x - 57600 < c.at_ := fun c hc => by
  unfold Zm.chg at hc
  rw [Zm.drop_take (fun y : TrR => y.at_) _ _ L h.rises] at hc
  have := (List.mem_filter.1 hc).2
  simp at this
  exact this.1
 have hch : ∀ c ∈ Zm.chg (x - 57600) (x + 57600) L ++ FT, (-57600 ≤ c.off ∧ c.off ≤ 57600) ∧ x - 57600 < c.at_ := fun c hc => by
  rcases List.mem_append.1 hc with hc | hc
  ·exact ⟨h.off (hcm c hc), hcg c hc⟩
  ·exact hFTo c hc
 refine ⟨x0, FT, hx0o, hch, ⟨ja, hja, hx0e⟩, hFTi, fun w HO => ?_⟩
 have AS : ∀ t, ask t → ∀ W : World, Below w.heap.size w W → Calls Tryz.prog 78 #[vi ki t] W fun r w' => r = zr (.bool true) ∧ w' = W := fun t ⟨t1, t2, y, hy, ha⟩ W hb => by
  have R := asked_any t y W (Fn.yat_any t y hy t1 t2 W (HO.below hb).1.2)
  rw [ha] at R
  exact R
 refine zin_yes _ (tbF_len hF) x x1 x2 _ w (fun W hb => RT W (HO.below hb)) (AS _ h0) (AS _ h1) (AS _ h2) (fun W hb => ?_)
 have hl : (stsC x0 (Zm.chg (x - 57600) (x + 57600) L ++ FT) x).length = (Zm.chg (x - 57600) (x + 57600) L ++ FT).length + 1 := by unfold stsC; rw [strs_len, List.length_map]
 refine hear_any _ (tbF_len hF) _ _ hS x x1 x2 (stsC x0 (Zm.chg (x - 57600) (x + 57600) L ++ FT) x) (by rw [hl, List.length_append]; have := h.h3; omega) ?_ ?_ W (HO.below hb)
 ·exact strs_off _ (fun o => -57600 ≤ o ∧ o ≤ 57600) _ _ _ hx0o (fun c hc => by obtain ⟨d, hd, rfl⟩ := List.mem_map.1 hc; exact (hch d hd).1)
 ·intro V b m hm hV X1 X2 X3
  rw [hl]
  refine strs_seq _ (tbF_len hF) _ _ hS (x - 57600) (x + 57600 + 1) (by omega) (by omega) x0 (Zm.chg (x - 57600) (x + 57600) L ++ FT) (fun U hU => ST U hU) (fun U b m hU Z1 Z2 Z3 => ?_) V m hm _ _ _ X1 X2 X3 hV
  rw [show x + 57600 + 1 - 1 = x + 57600 by omega] at Z3
  exact chs_ft _ (tbF_len hF) _ _ hS (x - 57600) (x + 57600) ao n c hnc L rfl (by rw [← hh]; rfl) ft.fr rfl f1 f2 (Fn.fL ft) rfl hF h.rises h.h3 hn (fun V hV => hV.1.1) _ rfl FT hLF hlt NX U m b (b + 1) (b + 2) Z1 Z2 Z3 hU
end Go.Proofs.YtklehbmghjcmaaaGreatDoor
namespace Go.Proofs.YtklehbmghjcmaaaGreatDoor
open Go.RowKit
theorem sec_run (i u q e : Int) (q1 : -10000000000000 ≤ q) (q2 : q ≤ 10000000000000)
  (D : Hid (∀ w : World, Calls Tryz.prog 80 #[vi ki u, vi ki 1000000] w fun r' w' => r' = zr (.tuple #[vi ki q, vi ki e]) ∧ w' = w))
  (w : World) :
  Calls Tryz.prog 34 #[.agg #[vi ki i, vi ki u]] w fun r' w' => r' = zr (vi ki (q + 946684800)) ∧ Below w.heap.size w w' := by
 have K0 := bsn1 w [vi ki i, vi ki u] 36
 go_enter Tryz.func34, Tryz.ntmps34
 go_wp2_with fail
 refine (D.out _).mono ?_
 rintro e W1 ⟨rfl, rfl⟩
 go_wp2
 go_ret
 exact ⟨rfl, K0.out.1⟩
theorem more_bad (i u n v e : Int) (he : e ≠ 0)
  (D : Hid (∀ w : World, Calls Tryz.prog 81 #[vi ki u, vi ki n] w fun r' w' => r' = zr (.tuple #[vi ki v, vi ki e]) ∧ w' = w))
  (w : World) :
  Calls Tryz.prog 35 #[.agg #[vi ki i, vi ki u], vi ki n] w fun r' w' => r' = zr (.tuple #[.agg #[vi ki 0, vi ki 0], vi ki 10]) ∧ Below w.heap.size w w' := by
 have e1 : (e != 0) = true := bne_iff_ne.2 he
 have K0 := bsn2 w [vi ki i, vi ki u] 36 [vi ki 0, vi ki 0] 36
 go_enter Tryz.func35, Tryz.ntmps35
 go_wp2_with fail
 refine (D.out _).mono ?_
 rintro e W1 ⟨rfl, rfl⟩
 go_wp2
 exact bodyPost_ret (v := .tuple #[.agg #[vi ki 0, vi ki 0], vi ki 10]) (by simp [results, Tryz.results35, go_sem]) rfl ⟨rfl, (by repeat' (first | assumption | exact Below.refl _ _ | exact Nat.le_refl _ | refine Below.alloc ?_ ?_ _ | (simp; done) | (simp; omega) | omega))⟩
theorem more_true (i u n v : Int)
  (D : Hid (∀ w : World, Calls Tryz.prog 81 #[vi ki u, vi ki n] w fun r' w' => r' = zr (.tuple #[vi ki v, vi ki 0]) ∧ w' = w))
  (R : Hid (∀ w : World, Cvl.Lens w → Calls Tryz.prog 32 #[.agg #[vi ki 0, vi ki v]] w fun r' w' => r' = zr (.bool true) ∧ Below w.heap.size w w'))
  (w : World) (hL : Hid (∀ W : World, Below w.heap.size w W → Cvl.Lens W)) :
  Calls Tryz.prog 35 #[.agg #[vi ki i, vi ki u], vi ki n] w fun r' w' => r' = zr (.tuple #[.agg #[vi ki 0, vi ki v], vi ki 0]) ∧ Below w.heap.size w w' := by
 have K0 := bsn2 w [vi ki i, vi ki u] 36 [vi ki 0, vi ki 0] 36
 go_enter Tryz.func35, Tryz.ntmps35
 go_wp2_with fail
 refine (D.out _).mono ?_
 rintro e W1 ⟨rfl, rfl⟩
 go_wp2_with fail
 refine (R.out _ (hL.out _ K0.out.1)).mono ?_
 rintro e W2 ⟨rfl, hb⟩
 have K2 := bsb K0 hb
 clear hb K0
 obtain ⟨c2_0_0, c2_0_1⟩ := (bo1 K2).c2
 obtain ⟨z2_0_0, z2_0_1⟩ := (bo1 K2).f2
 obtain ⟨c2_1_0, c2_1_1⟩ := (bo2 K2).c2
 have XF : Hid (Bx (W2.setCells (w.heap.size + 1) 0 [vi ki 0, vi ki v]) (w.heap.size + 1) [vi ki 0, vi ki v]) := (K2.out.at (w.heap.size + 1) [vi ki 0, vi ki 0] (by simp)).setAll _ rfl
 have BF : Hid (Below w.heap.size w (W2.setCells (w.heap.size + 1) 0 [vi ki 0, vi ki v])) := below_setCells (by omega) _ _ _ K2.out.1
 have y0 := XF.out.c 0 rfl
 have y1 := XF.out.c 1 rfl
 simp only [World.setCells, Nat.zero_add] at y0 y1
 clear XF
 go_wp2
 exact bodyPost_ret (v := .tuple #[.agg #[vi ki 0, vi ki v], vi ki 0]) (by simp [results, Tryz.results35, go_sem, y0, y1]) rfl ⟨rfl, BF.out⟩
theorem more_false (i u n v : Int)
  (D : Hid (∀ w : World, Calls Tryz.prog 81 #[vi ki u, vi ki n] w fun r' w' => r' = zr (.tuple #[vi ki v, vi ki 0]) ∧ w' = w))
  (R : Hid (∀ w : World, Cvl.Lens w → Calls Tryz.prog 32 #[.agg #[vi ki 0, vi ki v]] w fun r' w' => r' = zr (.bool false) ∧ Below w.heap.size w w'))
  (w : World) (hL : Hid (∀ W : World, Below w.heap.size w W → Cvl.Lens W)) :
  Calls Tryz.prog 35 #[.agg #[vi ki i, vi ki u], vi ki n] w fun r' w' => r' = zr (.tuple #[.agg #[vi ki 0, vi ki 0], vi ki 10]) ∧ Below w.heap.size w w' := by
 have K0 := bsn2 w [vi ki i, vi ki u] 36 [vi ki 0, vi ki 0] 36
 go_enter Tryz.func35, Tryz.ntmps35
 go_wp2_with fail
 refine (D.out _).mono ?_
 rintro e W1 ⟨rfl, rfl⟩
 go_wp2_with fail
 refine (R.out _ (hL.out _ K0.out.1)).mono ?_
 rintro e W2 ⟨rfl, hb⟩
 have K2 := bsb K0 hb
 clear hb K0
 obtain ⟨c2_0_0, c2_0_1⟩ := (bo1 K2).c2
 obtain ⟨z2_0_0, z2_0_1⟩ := (bo1 K2).f2
 obtain ⟨c2_1_0, c2_1_1⟩ := (bo2 K2).c2
 have XF : Hid (Bx (W2.setCells (w.heap.size + 1) 0 [vi ki 0, vi ki 0]) (w.heap.size + 1) [vi ki 0, vi ki 0]) := (K2.out.at (w.heap.size + 1) [vi ki 0, vi ki 0] (by simp)).setAll _ rfl
 have BF : Hid (Below w.heap.size w (W2.setCells (w.heap.size + 1) 0 [vi ki 0, vi ki 0])) := below_setCells (by omega) _ _ _ K2.out.1
 have y0 := XF.out.c 0 rfl
 have y1 := XF.out.c 1 rfl
 simp only [World.setCells, Nat.zero_add] at y0 y1
 clear XF
 go_wp2
 exact bodyPost_ret (v := .tuple #[.agg #[vi ki 0, vi ki 0], vi ki 10]) (by simp [results, Tryz.results35, go_sem, y0, y1]) rfl ⟨rfl, BF.out⟩
theorem dok_in {s : Int} (h : Dy.dok (s / 86400000000) = true) : -9223372036854775808 ≤ s ∧ s ≤ 9223372036854775807 := by
 unfold Dy.dok at h
 have := of_decide_eq_true h
 omega
def moV (u n : Int) : Int := if Dy.dok ((u + n) / 86400000000) = true then u + n else 0
def moE (u n : Int) : Int := if Dy.dok ((u + n) / 86400000000) = true then 0 else 10
theorem more_any (i u n : Int) (u1 : -9223372036854775808 ≤ u) (u2 : u ≤ 9223372036854775807) (n1 : -9223372036854775808 ≤ n) (n2 : n ≤ 9223372036854775807) (w : World) (hL : Cvl.Lens w) :
  Calls Tryz.prog 35 #[.agg #[vi ki i, vi ki u], vi ki n] w fun r w' => r = zr (.tuple #[.agg #[vi ki 0, vi ki (moV u n)], vi ki (moE u n)]) ∧ Below w.heap.size w w' := by
 unfold moV moE
 by_cases h : -9223372036854775808 ≤ u + n ∧ u + n ≤ 9223372036854775807
 ·have D : ∀ w : World, Calls Tryz.prog 81 #[vi ki u, vi ki n] w fun r w' => r = zr (.tuple #[vi ki (u + n), vi ki 0]) ∧ w' = w := fun w => by
   have R := add_any u n u1 u2 n1 n2 w
   rw [smV_in h.1 h.2, smE_in h.1 h.2] at R
   exact R
  have RR : ∀ w : World, Cvl.Lens w → Calls Tryz.prog 32 #[.agg #[vi ki 0, vi ki (u + n)]] w fun r w' => r = zr (.bool (Dy.dok ((u + n) / 86400000000))) ∧ Below w.heap.size w w' := fun w hw => Dy.rst_any 0 (u + n) h.1 h.2 w hw
  cases hd : Dy.dok ((u + n) / 86400000000)
  ·rw [hd] at RR; rw [if_neg (by decide), if_neg (by decide)]; exact more_false i u n (u + n) D RR w (Dy.lens_of hL)
  ·rw [hd] at RR; rw [if_pos rfl, if_pos rfl]; exact more_true i u n (u + n) D RR w (Dy.lens_of hL)
 ·have hd : ¬ Dy.dok ((u + n) / 86400000000) = true := fun q => h (dok_in q)
  rw [if_neg hd, if_neg hd]
  have R := fun w => add_any u n u1 u2 n1 n2 w
  have e10 : smE (u + n) ≠ 0 := by unfold smE; rw [if_neg h]; decide
  exact more_bad i u n _ _ e10 R w
theorem sec_any (i u : Int) (u1 : -9223372036854775808 ≤ u) (u2 : u ≤ 9223372036854775807) (w : World) :
  Calls Tryz.prog 34 #[.agg #[vi ki i, vi ki u]] w fun r w' => r = zr (vi ki (u / 1000000 + 946684800)) ∧ Below w.heap.size w w' := by
 have R := fun w => div_any u 1000000 u1 u2 (by decide) (by decide) (by decide) w
 have e : u.fdiv 1000000 = u / 1000000 := Int.fdiv_eq_ediv_of_nonneg _ (by decide)
 rw [e] at R
 have b1 : -10000000000000 ≤ u / 1000000 := by omega
 have b2 : u / 1000000 ≤ 10000000000000 := by omega
 rw [smV_in (by omega) (by omega)] at R
 exact sec_run i u _ _ b1 b2 R w
theorem lo_ok (Ok : World → Prop) (T : List Value) (hT : T.length = 25) (u s p o9 o6 V E : Int) (dd : Bool) (ab : ByteArray) (h6 : IntKind.i64.wrap (o9 * 1000000) = o6)
  (RT : Hid (∀ w : World, Ok w → Calls Tryz.prog 31 #[.agg T.toArray] w fun r' w' => r' = zr (.bool true) ∧ Below w.heap.size w w'))
  (R : Hid (∀ w : World, Ok w → Calls Tryz.prog 32 #[.agg #[vi ki 0, vi ki u]] w fun r' w' => r' = zr (.bool true) ∧ Below w.heap.size w w'))
  (SE : Hid (∀ w : World, Calls Tryz.prog 34 #[.agg #[vi ki 0, vi ki u]] w fun r' w' => r' = zr (vi ki s) ∧ Below w.heap.size w w'))
  (AT : Hid (∀ w : World, Ok w → Calls Tryz.prog 33 #[.agg T.toArray, vi ki s] w fun r' w' => r' = zr (.tuple #[.agg #[vi ki p, vi ki o9, .bool dd, .string ab], vi ki 0]) ∧ Below w.heap.size w w'))
  (MO : Hid (∀ w : World, Ok w → Calls Tryz.prog 35 #[.agg #[vi ki 0, vi ki u], vi ki o6] w fun r' w' => r' = zr (.tuple #[.agg #[vi ki 0, vi ki V], vi ki E]) ∧ Below w.heap.size w w'))
  (w : World) (hL : Hid (∀ W : World, Below w.heap.size w W → Ok W)) :
  Calls Tryz.prog 10 #[.agg T.toArray, .agg #[vi ki 0, vi ki u]] w fun r' w' => r' = zr (.tuple #[.agg #[vi ki 0, vi ki V], vi ki E]) ∧ Below w.heap.size w w' := by
 have K0 := bsn3 w T 44 [vi ki 0, vi ki u] 36 [vi ki 0, vi ki 0] 36
 go_enter Tryz.func10, Tryz.ntmps10
 generalize hUA : T.toArray = UA at *
 go_upto_region 1 with fail
 refine gen_to (BS w [(w.heap.size + 2, [vi ki 0, vi ki 0]), (w.heap.size + 1, [vi ki 0, vi ki u]), (w.heap.size, T)]) K0.out ?_
 clear K0
 intro W0 K0'
 have K0 : Hid (BS w [(w.heap.size + 2, [vi ki 0, vi ki 0]), (w.heap.size + 1, [vi ki 0, vi ki u]), (w.heap.size, T)] W0) := K0'
 clear K0'
 obtain ⟨c0_0_0, c0_0_1⟩ := (bo1 K0).c2
 obtain ⟨c0_1_0, c0_1_1⟩ := (bo2 K0).c2
 go_wp2_with (first | (refine wpList_load_mid rfl 44 _ rfl (w.heap.size) 0 rfl T _ (K0.out.at (w.heap.size) T (by simp)).all Tryz.underlying44 rfl (by rw [hT]; kernel_rfl) ?_; rw [hUA]) | fail)
 refine (RT.out _ (hL.out _ K0.out.1)).mono ?_
 rintro e W1 ⟨rfl, hb⟩
 have K1 := bsb K0 hb
 clear c0_0_0 c0_0_1 c0_1_0 c0_1_1
 clear hb K0
 obtain ⟨c1_0_0, c1_0_1⟩ := (bo1 K1).c2
 obtain ⟨c1_1_0, c1_1_1⟩ := (bo2 K1).c2
 go_wp2_with (first | (refine wpList_load_mid rfl 44 _ rfl (w.heap.size) 0 rfl T _ (K1.out.at (w.heap.size) T (by simp)).all Tryz.underlying44 rfl (by rw [hT]; kernel_rfl) ?_; rw [hUA]) | fail)
 refine (R.out _ (hL.out _ K1.out.1)).mono ?_
 rintro e W2 ⟨rfl, hb⟩
 have K2 := bsb K1 hb
 clear c1_0_0 c1_0_1 c1_1_0 c1_1_1
 clear hb K1
 obtain ⟨c2_0_0, c2_0_1⟩ := (bo1 K2).c2
 obtain ⟨c2_1_0, c2_1_1⟩ := (bo2 K2).c2
 go_wp2_with fail
 go_cut [6, 7] (fun v0 v1 wx => ∃ nb, v0 = .pointer (some ⟨nb, 0, none⟩) ∧ v1 = vi ki 0 ∧ Hid (BS w ((nb, [vi ki p, vi ki o9, .bool dd, .string ab]) :: [(w.heap.size + 2, [vi ki 0, vi ki 0]), (w.heap.size + 1, [vi ki 0, vi ki u]), (w.heap.size, T)]) wx ∧ (∀ x ∈ [(w.heap.size + 2, [vi ki 0, vi ki 0]), (w.heap.size + 1, [vi ki 0, vi ki u]), (w.heap.size, T)], x.1 ≠ nb)))
 case first =>
  refine wp_region_held_drew (S := BS w [(w.heap.size + 2, [vi ki 0, vi ki 0]), (w.heap.size + 1, [vi ki 0, vi ki u]), (w.heap.size, T)]) (by kernel_rfl) K2.out.drew (fun hHeld => ?_)
  refine wpAnyH_take (i := 0) (v := .agg UA) (oi := ⟨some 22, _, _, _, _, none⟩) rfl (by kernel_rfl) (by kernel_rfl) (by kernel_rfl) (fun _ _ _ h => h) (Or.inl ⟨by kernel_rfl, ?_⟩) (by assumption) ?_
  case refine_1 => (intro w9 hSw; rw [← hUA]; exact exec_row9 rfl rfl (hSw.at (w.heap.size) T (by simp)).all Tryz.underlying44 rfl (by rw [hT]; kernel_rfl))
  simp only [za, zb, zc, zd]
  refine tk (v := ?_) 1 ⟨some 23, _, _, _, _, none⟩ rfl ?_ ?_
  case refine_2 => (intro w9 hSw; obtain ⟨l0_0, l0_1⟩ := (hSw.at (w.heap.size + 2) [vi ki 0, vi ki 0] (by simp)).c2; obtain ⟨l1_0, l1_1⟩ := (hSw.at (w.heap.size + 1) [vi ki 0, vi ki u] (by simp)).c2; clear hSw; go_simp; try with_reducible rfl)
  simp only [za, zb, zc, zd]
  refine wpAnyH_ready (rs := [2, 7]) (by kernel_rfl) (by simp) (AllReadyH.cons (o := ⟨some 24, _, _, _, _, none⟩) rfl (fun K hK => ?_) (AllReadyH.cons (o := ⟨some 6, _, _, _, _, none⟩) rfl (fun K hK => ?_) AllReadyH.nil))
  ·
   go_simp
   refine (SE.out _).mono ?_
   rintro e v1 ⟨rfl, hb1⟩
   refine hK.out _ _ (hHeld.below hb1) (fun hHeld => ?_)
   try (have HN2 := HN.out.below hb1; clear HN; have HN : Hid (NB _ _ _ _ _) := HN2; clear HN2)
   clear hK K hb1
   refine wpAnyH_ready (rs := [3, 7]) (by kernel_rfl) (by simp) (AllReadyH.cons (o := ⟨some 25, _, _, _, _, none⟩) rfl (fun K hK => ?_) (AllReadyH.cons (o := ⟨some 6, _, _, _, _, none⟩) rfl (fun K hK => ?_) AllReadyH.nil))
   ·
    go_simp
    refine (AT.out _ (hL.out _ hHeld.1)).mono ?_
    rintro e v2 ⟨rfl, hb2⟩
    refine hK.out _ _ (hHeld.below hb2) (fun hHeld => ?_)
    try (have HN2 := HN.out.below hb2; clear HN; have HN : Hid (NB _ _ _ _ _) := HN2; clear HN2)
    clear hK K hb2
    refine tks 4 ⟨some 21, _, _, _, _, none⟩ rfl ?_
    simp only [za, zb, zc, zd]
    refine tks 5 ⟨some 26, _, _, _, _, none⟩ rfl ?_
    simp only [za, zb, zc, zd]
    refine tks 6 ⟨some 27, _, _, _, _, none⟩ rfl ?_
    simp only [za, zb, zc, zd]
    refine rd 7 ⟨some 6, _, _, _, _, none⟩ rfl (fun K hK => ?_)
    go_simp
    have hH0 := hHeld
    refine hK.out _ _ (hHeld.alloc _) (fun hHeld => ?_)
    have HN : Hid (NB _ _ _ _ [vi ki 0, vi ki 0, .bool false, .string ⟨#[]⟩]) := hH0.nb hHeld
    clear hK K hH0
    refine rd 8 ⟨none, _, _, _, _, none⟩ rfl (fun K hK => ?_)
    refine (if_pos (by kernel_rfl)).mpr (wp_store_mid 23 _ _ rfl _ 0 #[vi ki p, vi ki o9, .bool dd, .string ab] rfl rfl HN.out.1.there (by kernel_rfl) (by simp [Value.oneCell']) (hK.out _ _ (hHeld.off HN.out.2.1 HN.out.2.2 _) (fun hHeld => ?_)))
    have HN2 : Hid (BS w ((_, [vi ki p, vi ki o9, .bool dd, .string ab]) :: [(w.heap.size + 2, [vi ki 0, vi ki 0]), (w.heap.size + 1, [vi ki 0, vi ki u]), (w.heap.size, T)]) _ ∧ _) := ⟨⟨hHeld.1, fun x hx => by rcases List.mem_cons.1 hx with rfl | hx; exact ⟨HN.out.2.1, HN.out.1.setAll _ rfl⟩; exact hHeld.2 x hx⟩, HN.out.2.2⟩
    clear hK K HN
    refine tks 9 ⟨some 7, _, _, _, _, none⟩ rfl ?_
    simp only [za, zb, zc, zd]
    refine wpAnyH_done (by kernel_rfl) ?_ _
    go_wp2_with fail
    go_meet
    case rel => exact ⟨_, rfl, rfl, HN2.out⟩
   ·
    go_simp
    have hH0 := hHeld
    refine hK.out _ _ (hHeld.alloc _) (fun hHeld => ?_)
    have HN : Hid (NB _ _ _ _ [vi ki 0, vi ki 0, .bool false, .string ⟨#[]⟩]) := hH0.nb hHeld
    clear hK K hH0
    refine rd 3 ⟨some 25, _, _, _, _, none⟩ rfl (fun K hK => ?_)
    go_simp
    refine (AT.out _ (hL.out _ hHeld.1)).mono ?_
    rintro e v6 ⟨rfl, hb6⟩
    refine hK.out _ _ (hHeld.below hb6) (fun hHeld => ?_)
    try (have HN2 := HN.out.below hb6; clear HN; have HN : Hid (NB _ _ _ _ _) := HN2; clear HN2)
    clear hK K hb6
    refine tks 4 ⟨some 21, _, _, _, _, none⟩ rfl ?_
    simp only [za, zb, zc, zd]
    refine tks 5 ⟨some 26, _, _, _, _, none⟩ rfl ?_
    simp only [za, zb, zc, zd]
    refine tks 6 ⟨some 27, _, _, _, _, none⟩ rfl ?_
    simp only [za, zb, zc, zd]
    refine rd 8 ⟨none, _, _, _, _, none⟩ rfl (fun K hK => ?_)
    refine (if_pos (by kernel_rfl)).mpr (wp_store_mid 23 _ _ rfl _ 0 #[vi ki p, vi ki o9, .bool dd, .string ab] rfl rfl HN.out.1.there (by kernel_rfl) (by simp [Value.oneCell']) (hK.out _ _ (hHeld.off HN.out.2.1 HN.out.2.2 _) (fun hHeld => ?_)))
    have HN2 : Hid (BS w ((_, [vi ki p, vi ki o9, .bool dd, .string ab]) :: [(w.heap.size + 2, [vi ki 0, vi ki 0]), (w.heap.size + 1, [vi ki 0, vi ki u]), (w.heap.size, T)]) _ ∧ _) := ⟨⟨hHeld.1, fun x hx => by rcases List.mem_cons.1 hx with rfl | hx; exact ⟨HN.out.2.1, HN.out.1.setAll _ rfl⟩; exact hHeld.2 x hx⟩, HN.out.2.2⟩
    clear hK K HN
    refine tks 9 ⟨some 7, _, _, _, _, none⟩ rfl ?_
    simp only [za, zb, zc, zd]
    refine wpAnyH_done (by kernel_rfl) ?_ _
    go_wp2_with fail
    go_meet
    case rel => exact ⟨_, rfl, rfl, HN2.out⟩
  ·
   go_simp
   have hH0 := hHeld
   refine hK.out _ _ (hHeld.alloc _) (fun hHeld => ?_)
   have HN : Hid (NB _ _ _ _ [vi ki 0, vi ki 0, .bool false, .string ⟨#[]⟩]) := hH0.nb hHeld
   clear hK K hH0
   refine rd 2 ⟨some 24, _, _, _, _, none⟩ rfl (fun K hK => ?_)
   go_simp
   refine (SE.out _).mono ?_
   rintro e v9 ⟨rfl, hb9⟩
   refine hK.out _ _ (hHeld.below hb9) (fun hHeld => ?_)
   try (have HN2 := HN.out.below hb9; clear HN; have HN : Hid (NB _ _ _ _ _) := HN2; clear HN2)
   clear hK K hb9
   refine rd 3 ⟨some 25, _, _, _, _, none⟩ rfl (fun K hK => ?_)
   go_simp
   refine (AT.out _ (hL.out _ hHeld.1)).mono ?_
   rintro e v10 ⟨rfl, hb10⟩
   refine hK.out _ _ (hHeld.below hb10) (fun hHeld => ?_)
   try (have HN2 := HN.out.below hb10; clear HN; have HN : Hid (NB _ _ _ _ _) := HN2; clear HN2)
   clear hK K hb10
   refine tks 4 ⟨some 21, _, _, _, _, none⟩ rfl ?_
   simp only [za, zb, zc, zd]
   refine tks 5 ⟨some 26, _, _, _, _, none⟩ rfl ?_
   simp only [za, zb, zc, zd]
   refine tks 6 ⟨some 27, _, _, _, _, none⟩ rfl ?_
   simp only [za, zb, zc, zd]
   refine rd 8 ⟨none, _, _, _, _, none⟩ rfl (fun K hK => ?_)
   refine (if_pos (by kernel_rfl)).mpr (wp_store_mid 23 _ _ rfl _ 0 #[vi ki p, vi ki o9, .bool dd, .string ab] rfl rfl HN.out.1.there (by kernel_rfl) (by simp [Value.oneCell']) (hK.out _ _ (hHeld.off HN.out.2.1 HN.out.2.2 _) (fun hHeld => ?_)))
   have HN2 : Hid (BS w ((_, [vi ki p, vi ki o9, .bool dd, .string ab]) :: [(w.heap.size + 2, [vi ki 0, vi ki 0]), (w.heap.size + 1, [vi ki 0, vi ki u]), (w.heap.size, T)]) _ ∧ _) := ⟨⟨hHeld.1, fun x hx => by rcases List.mem_cons.1 hx with rfl | hx; exact ⟨HN.out.2.1, HN.out.1.setAll _ rfl⟩; exact hHeld.2 x hx⟩, HN.out.2.2⟩
   clear hK K HN
   refine tks 9 ⟨some 7, _, _, _, _, none⟩ rfl ?_
   simp only [za, zb, zc, zd]
   refine wpAnyH_done (by kernel_rfl) ?_ _
   go_wp2_with fail
   go_meet
   case rel => exact ⟨_, rfl, rfl, HN2.out⟩
 case rest =>
  clear c2_0_0 c2_0_1 c2_1_0 c2_1_1
  obtain ⟨nb2, rfl, rfl, KK⟩ := hcut
  clear K2
  have K3 : Hid (BS w [(nb2, [vi ki p, vi ki o9, .bool dd, .string ab]), (w.heap.size + 2, [vi ki 0, vi ki 0]), (w.heap.size + 1, [vi ki 0, vi ki u]), (w.heap.size, T)] wc) := KK.out.1
  have ne3_0 : w.heap.size + 2 ≠ nb2 := KK.out.2 (w.heap.size + 2, [vi ki 0, vi ki 0]) (by simp)
  have ne3_1 : w.heap.size + 1 ≠ nb2 := KK.out.2 (w.heap.size + 1, [vi ki 0, vi ki u]) (by simp)
  have ne3_2 : w.heap.size ≠ nb2 := KK.out.2 (w.heap.size, T) (by simp)
  clear KK
  obtain ⟨c3_0_0, c3_0_1, c3_0_2, c3_0_3⟩ := (bo1 K3).c4
  obtain ⟨c3_1_0, c3_1_1⟩ := (bo2 K3).c2
  obtain ⟨c3_2_0, c3_2_1⟩ := (bo3 K3).c2
  go_wp2_with (first | (refine wpList_load_mid rfl 44 _ rfl (w.heap.size) 0 rfl T _ (K3.out.at (w.heap.size) T (by simp)).all Tryz.underlying44 rfl (by rw [hT]; kernel_rfl) ?_; rw [hUA]) | fail)
  refine (MO.out _ (hL.out _ K3.out.1)).mono ?_
  rintro e W4 ⟨rfl, hb⟩
  have K4 := bsb K3 hb
  clear c3_0_0 c3_0_1 c3_0_2 c3_0_3 c3_1_0 c3_1_1 c3_2_0 c3_2_1
  clear hb K3
  obtain ⟨c4_0_0, c4_0_1, c4_0_2, c4_0_3⟩ := (bo1 K4).c4
  obtain ⟨c4_1_0, c4_1_1⟩ := (bo2 K4).c2
  obtain ⟨z4_1_0, z4_1_1⟩ := (bo2 K4).f2
  obtain ⟨c4_2_0, c4_2_1⟩ := (bo3 K4).c2
  have XF : Hid (Bx (W4.setCells (w.heap.size + 2) 0 [vi ki 0, vi ki V]) (w.heap.size + 2) [vi ki 0, vi ki V]) := (K4.out.at (w.heap.size + 2) [vi ki 0, vi ki 0] (by simp)).setAll _ rfl
  have BF : Hid (Below w.heap.size w (W4.setCells (w.heap.size + 2) 0 [vi ki 0, vi ki V])) := below_setCells (by omega) _ _ _ K4.out.1
  have y0 := XF.out.c 0 rfl
  have y1 := XF.out.c 1 rfl
  simp only [World.setCells, Nat.zero_add] at y0 y1
  clear XF
  go_wp2
  exact bodyPost_ret (v := .tuple #[.agg #[vi ki 0, vi ki V], vi ki E]) (by simp [results, Tryz.results10, go_sem, y0, y1]) rfl ⟨rfl, BF.out⟩
theorem in_err2 (Ok : World → Prop) (T : List Value) (hT : T.length = 25) (u s a9 how d9 d6 V e : Int) (h9 : IntKind.i64.wrap (a9 - s) = d9) (h6 : IntKind.i64.wrap (d9 * 1000000) = d6) (he : e ≠ 0)
  (RT : Hid (∀ w : World, Ok w → Calls Tryz.prog 31 #[.agg T.toArray] w fun r' w' => r' = zr (.bool true) ∧ Below w.heap.size w w'))
  (R : Hid (∀ w : World, Ok w → Calls Tryz.prog 32 #[.agg #[vi ki 0, vi ki u]] w fun r' w' => r' = zr (.bool true) ∧ Below w.heap.size w w'))
  (SE : Hid (∀ w : World, Calls Tryz.prog 34 #[.agg #[vi ki 0, vi ki u]] w fun r' w' => r' = zr (vi ki s) ∧ Below w.heap.size w w'))
  (IN : Hid (∀ w : World, Ok w → Calls Tryz.prog 40 #[.agg T.toArray, vi ki s] w fun r' w' => r' = zr (.tuple #[vi ki a9, vi ki how, vi ki 0]) ∧ Below w.heap.size w w'))
  (MO : Hid (∀ w : World, Ok w → Calls Tryz.prog 35 #[.agg #[vi ki 0, vi ki u], vi ki d6] w fun r' w' => r' = zr (.tuple #[.agg #[vi ki 0, vi ki V], vi ki e]) ∧ Below w.heap.size w w'))
  (w : World) (hL : Hid (∀ W : World, Below w.heap.size w W → Ok W)) :
  Calls Tryz.prog 12 #[.agg T.toArray, .agg #[vi ki 0, vi ki u]] w fun r' w' => r' = zr (.tuple #[.agg #[vi ki 0, vi ki 0], vi ki 0, vi ki e]) ∧ Below w.heap.size w w' := by
 have e1 : (e != 0) = true := bne_iff_ne.2 he
 have K0 := bsn3 w T 44 [vi ki 0, vi ki u] 36 [vi ki 0, vi ki 0] 36
 go_enter Tryz.func12, Tryz.ntmps12
 generalize hUA : T.toArray = UA at *
 go_upto_region 1 with fail
 refine gen_to (BS w [(w.heap.size + 2, [vi ki 0, vi ki 0]), (w.heap.size + 1, [vi ki 0, vi ki u]), (w.heap.size, T)]) K0.out ?_
 clear K0
 intro W0 K0'
 have K0 : Hid (BS w [(w.heap.size + 2, [vi ki 0, vi ki 0]), (w.heap.size + 1, [vi ki 0, vi ki u]), (w.heap.size, T)] W0) := K0'
 clear K0'
 obtain ⟨c0_0_0, c0_0_1⟩ := (bo1 K0).c2
 obtain ⟨c0_1_0, c0_1_1⟩ := (bo2 K0).c2
 go_wp2_with (first | (refine wpList_load_mid rfl 44 _ rfl (w.heap.size) 0 rfl T _ (K0.out.at (w.heap.size) T (by simp)).all Tryz.underlying44 rfl (by rw [hT]; kernel_rfl) ?_; rw [hUA]) | fail)
 refine (RT.out _ (hL.out _ K0.out.1)).mono ?_
 rintro e W1 ⟨rfl, hb⟩
 have K1 := bsb K0 hb
 clear c0_0_0 c0_0_1 c0_1_0 c0_1_1
 clear hb K0
 obtain ⟨c1_0_0, c1_0_1⟩ := (bo1 K1).c2
 obtain ⟨c1_1_0, c1_1_1⟩ := (bo2 K1).c2
 go_wp2_with (first | (refine wpList_load_mid rfl 44 _ rfl (w.heap.size) 0 rfl T _ (K1.out.at (w.heap.size) T (by simp)).all Tryz.underlying44 rfl (by rw [hT]; kernel_rfl) ?_; rw [hUA]) | fail)
 refine (R.out _ (hL.out _ K1.out.1)).mono ?_
 rintro e W2 ⟨rfl, hb⟩
 have K2 := bsb K1 hb
 clear c1_0_0 c1_0_1 c1_1_0 c1_1_1
 clear hb K1
 obtain ⟨c2_0_0, c2_0_1⟩ := (bo1 K2).c2
 obtain ⟨c2_1_0, c2_1_1⟩ := (bo2 K2).c2
 go_wp2_with fail
 go_cut [7, 8, 9] (fun v0 v1 v2 wx => v0 = vi ki a9 ∧ v1 = vi ki how ∧ v2 = vi ki 0 ∧ Hid (BS w [(w.heap.size + 2, [vi ki 0, vi ki 0]), (w.heap.size + 1, [vi ki 0, vi ki u]), (w.heap.size, T)] wx))
 case first =>
  refine wp_region_held_drew (S := BS w [(w.heap.size + 2, [vi ki 0, vi ki 0]), (w.heap.size + 1, [vi ki 0, vi ki u]), (w.heap.size, T)]) (by kernel_rfl) K2.out.drew (fun hHeld => ?_)
  refine wpAnyH_take (i := 0) (v := .agg UA) (oi := ⟨some 25, _, _, _, _, none⟩) rfl (by kernel_rfl) (by kernel_rfl) (by kernel_rfl) (fun _ _ _ h => h) (Or.inl ⟨by kernel_rfl, ?_⟩) (by assumption) ?_
  case refine_1 => (intro w9 hSw; rw [← hUA]; exact exec_row9 rfl rfl (hSw.at (w.heap.size) T (by simp)).all Tryz.underlying44 rfl (by rw [hT]; kernel_rfl))
  simp only [za, zb, zc, zd]
  refine tk (v := ?_) 1 ⟨some 26, _, _, _, _, none⟩ rfl ?_ ?_
  case refine_2 => (intro w9 hSw; obtain ⟨l0_0, l0_1⟩ := (hSw.at (w.heap.size + 2) [vi ki 0, vi ki 0] (by simp)).c2; obtain ⟨l1_0, l1_1⟩ := (hSw.at (w.heap.size + 1) [vi ki 0, vi ki u] (by simp)).c2; clear hSw; go_simp; try with_reducible rfl)
  simp only [za, zb, zc, zd]
  refine rd 2 ⟨some 27, _, _, _, _, none⟩ rfl (fun K hK => ?_)
  go_simp
  refine (SE.out _).mono ?_
  rintro e v1 ⟨rfl, hb1⟩
  refine hK.out _ _ (hHeld.below hb1) (fun hHeld => ?_)
  clear hK K hb1
  refine rd 3 ⟨some 28, _, _, _, _, none⟩ rfl (fun K hK => ?_)
  go_simp
  refine (IN.out _ (hL.out _ hHeld.1)).mono ?_
  rintro e v2 ⟨rfl, hb2⟩
  refine hK.out _ _ (hHeld.below hb2) (fun hHeld => ?_)
  clear hK K hb2
  refine tks 4 ⟨some 24, _, _, _, _, none⟩ rfl ?_
  simp only [za, zb, zc, zd]
  refine tks 5 ⟨some 29, _, _, _, _, none⟩ rfl ?_
  simp only [za, zb, zc, zd]
  refine tks 6 ⟨some 30, _, _, _, _, none⟩ rfl ?_
  simp only [za, zb, zc, zd]
  refine tks 7 ⟨some 31, _, _, _, _, none⟩ rfl ?_
  simp only [za, zb, zc, zd]
  refine tks 8 ⟨some 7, _, _, _, _, none⟩ rfl ?_
  simp only [za, zb, zc, zd]
  refine tks 9 ⟨some 8, _, _, _, _, none⟩ rfl ?_
  simp only [za, zb, zc, zd]
  refine tks 10 ⟨some 9, _, _, _, _, none⟩ rfl ?_
  simp only [za, zb, zc, zd]
  refine wpAnyH_done (by kernel_rfl) ?_ _
  go_wp2_with fail
  go_meet
  case rel => exact ⟨rfl, rfl, rfl, hHeld⟩
 case rest =>
  clear c2_0_0 c2_0_1 c2_1_0 c2_1_1
  obtain ⟨rfl, rfl, rfl, K3⟩ := hcut
  clear K2
  skip
  obtain ⟨c3_0_0, c3_0_1⟩ := (bo1 K3).c2
  obtain ⟨c3_1_0, c3_1_1⟩ := (bo2 K3).c2
  go_wp2_with fail
  go_cut [10, 9] (fun v0 v1 wx => ∃ nb, v0 = .pointer (some ⟨nb, 0, none⟩) ∧ v1 = vi ki e ∧ Hid (BS w ((nb, [vi ki 0, vi ki V]) :: [(w.heap.size + 2, [vi ki 0, vi ki 0]), (w.heap.size + 1, [vi ki 0, vi ki u]), (w.heap.size, T)]) wx ∧ (∀ x ∈ [(w.heap.size + 2, [vi ki 0, vi ki 0]), (w.heap.size + 1, [vi ki 0, vi ki u]), (w.heap.size, T)], x.1 ≠ nb)))
  case first =>
   refine wp_region_held_drew (S := BS w [(w.heap.size + 2, [vi ki 0, vi ki 0]), (w.heap.size + 1, [vi ki 0, vi ki u]), (w.heap.size, T)]) (by kernel_rfl) K3.out.drew (fun hHeld => ?_)
   refine tk (v := ?_) 0 ⟨some 37, _, _, _, _, none⟩ rfl ?_ ?_
   case refine_2 => (intro w9 hSw; obtain ⟨l0_0, l0_1⟩ := (hSw.at (w.heap.size + 2) [vi ki 0, vi ki 0] (by simp)).c2; obtain ⟨l1_0, l1_1⟩ := (hSw.at (w.heap.size + 1) [vi ki 0, vi ki u] (by simp)).c2; clear hSw; go_simp; try with_reducible rfl)
   simp only [za, zb, zc, zd]
   refine tks 1 ⟨some 38, _, _, _, _, none⟩ rfl ?_
   simp only [za, zb, zc, zd]
   refine tk (v := ?_) 2 ⟨some 39, _, _, _, _, none⟩ rfl ?_ ?_
   case refine_2 => (intro w9 hSw; obtain ⟨l0_0, l0_1⟩ := (hSw.at (w.heap.size + 2) [vi ki 0, vi ki 0] (by simp)).c2; obtain ⟨l1_0, l1_1⟩ := (hSw.at (w.heap.size + 1) [vi ki 0, vi ki u] (by simp)).c2; clear hSw; go_simp; try with_reducible rfl)
   simp only [za, zb, zc, zd]
   refine wpAnyH_ready (rs := [3, 10]) (by kernel_rfl) (by simp) (AllReadyH.cons (o := ⟨some 40, _, _, _, _, none⟩) rfl (fun K hK => ?_) (AllReadyH.cons (o := ⟨some 10, _, _, _, _, none⟩) rfl (fun K hK => ?_) AllReadyH.nil))
   ·
    go_simp
    refine (SE.out _).mono ?_
    rintro e v1 ⟨rfl, hb1⟩
    refine hK.out _ _ (hHeld.below hb1) (fun hHeld => ?_)
    try (have HN2 := HN.out.below hb1; clear HN; have HN : Hid (NB _ _ _ _ _) := HN2; clear HN2)
    clear hK K hb1
    refine tks 4 ⟨some 41, _, _, _, _, none⟩ rfl ?_
    simp only [za, zb, zc, zd]
    refine tks 5 ⟨some 42, _, _, _, _, none⟩ rfl ?_
    simp only [za, zb, zc, zd]
    refine wpAnyH_ready (rs := [6, 10]) (by kernel_rfl) (by simp) (AllReadyH.cons (o := ⟨some 43, _, _, _, _, none⟩) rfl (fun K hK => ?_) (AllReadyH.cons (o := ⟨some 10, _, _, _, _, none⟩) rfl (fun K hK => ?_) AllReadyH.nil))
    ·
     go_simp
     refine (MO.out _ (hL.out _ hHeld.1)).mono ?_
     rintro e v2 ⟨rfl, hb2⟩
     refine hK.out _ _ (hHeld.below hb2) (fun hHeld => ?_)
     try (have HN2 := HN.out.below hb2; clear HN; have HN : Hid (NB _ _ _ _ _) := HN2; clear HN2)
     clear hK K hb2
     refine tks 7 ⟨some 36, _, _, _, _, none⟩ rfl ?_
     simp only [za, zb, zc, zd]
     refine tks 8 ⟨some 44, _, _, _, _, none⟩ rfl ?_
     simp only [za, zb, zc, zd]
     refine tks 9 ⟨some 45, _, _, _, _, none⟩ rfl ?_
     simp only [za, zb, zc, zd]
     refine rd 10 ⟨some 10, _, _, _, _, none⟩ rfl (fun K hK => ?_)
     go_simp
     have hH0 := hHeld
     refine hK.out _ _ (hHeld.alloc _) (fun hHeld => ?_)
     have HN : Hid (NB _ _ _ _ [vi ki 0, vi ki 0]) := hH0.nb hHeld
     clear hK K hH0
     refine rd 11 ⟨none, _, _, _, _, none⟩ rfl (fun K hK => ?_)
     refine (if_pos (by kernel_rfl)).mpr (wp_store_mid 36 _ _ rfl _ 0 #[vi ki 0, vi ki V] rfl rfl HN.out.1.there (by kernel_rfl) (by simp [Value.oneCell']) (hK.out _ _ (hHeld.off HN.out.2.1 HN.out.2.2 _) (fun hHeld => ?_)))
     have HN2 : Hid (BS w ((_, [vi ki 0, vi ki V]) :: [(w.heap.size + 2, [vi ki 0, vi ki 0]), (w.heap.size + 1, [vi ki 0, vi ki u]), (w.heap.size, T)]) _ ∧ _) := ⟨⟨hHeld.1, fun x hx => by rcases List.mem_cons.1 hx with rfl | hx; exact ⟨HN.out.2.1, HN.out.1.setAll _ rfl⟩; exact hHeld.2 x hx⟩, HN.out.2.2⟩
     clear hK K HN
     refine tks 12 ⟨some 9, _, _, _, _, none⟩ rfl ?_
     simp only [za, zb, zc, zd]
     refine wpAnyH_done (by kernel_rfl) ?_ _
     go_wp2_with fail
     go_meet
     case rel => exact ⟨_, rfl, rfl, HN2.out⟩
    ·
     go_simp
     have hH0 := hHeld
     refine hK.out _ _ (hHeld.alloc _) (fun hHeld => ?_)
     have HN : Hid (NB _ _ _ _ [vi ki 0, vi ki 0]) := hH0.nb hHeld
     clear hK K hH0
     refine rd 6 ⟨some 43, _, _, _, _, none⟩ rfl (fun K hK => ?_)
     go_simp
     refine (MO.out _ (hL.out _ hHeld.1)).mono ?_
     rintro e v6 ⟨rfl, hb6⟩
     refine hK.out _ _ (hHeld.below hb6) (fun hHeld => ?_)
     try (have HN2 := HN.out.below hb6; clear HN; have HN : Hid (NB _ _ _ _ _) := HN2; clear HN2)
     clear hK K hb6
     refine tks 7 ⟨some 36, _, _, _, _, none⟩ rfl ?_
     simp only [za, zb, zc, zd]
     refine tks 8 ⟨some 44, _, _, _, _, none⟩ rfl ?_
     simp only [za, zb, zc, zd]
     refine tks 9 ⟨some 45, _, _, _, _, none⟩ rfl ?_
     simp only [za, zb, zc, zd]
     refine rd 11 ⟨none, _, _, _, _, none⟩ rfl (fun K hK => ?_)
     refine (if_pos (by kernel_rfl)).mpr (wp_store_mid 36 _ _ rfl _ 0 #[vi ki 0, vi ki V] rfl rfl HN.out.1.there (by kernel_rfl) (by simp [Value.oneCell']) (hK.out _ _ (hHeld.off HN.out.2.1 HN.out.2.2 _) (fun hHeld => ?_)))
     have HN2 : Hid (BS w ((_, [vi ki 0, vi ki V]) :: [(w.heap.size + 2, [vi ki 0, vi ki 0]), (w.heap.size + 1, [vi ki 0, vi ki u]), (w.heap.size, T)]) _ ∧ _) := ⟨⟨hHeld.1, fun x hx => by rcases List.mem_cons.1 hx with rfl | hx; exact ⟨HN.out.2.1, HN.out.1.setAll _ rfl⟩; exact hHeld.2 x hx⟩, HN.out.2.2⟩
     clear hK K HN
     refine tks 12 ⟨some 9, _, _, _, _, none⟩ rfl ?_
     simp only [za, zb, zc, zd]
     refine wpAnyH_done (by kernel_rfl) ?_ _
     go_wp2_with fail
     go_meet
     case rel => exact ⟨_, rfl, rfl, HN2.out⟩
   ·
    go_simp
    have hH0 := hHeld
    refine hK.out _ _ (hHeld.alloc _) (fun hHeld => ?_)
    have HN : Hid (NB _ _ _ _ [vi ki 0, vi ki 0]) := hH0.nb hHeld
    clear hK K hH0
    refine rd 3 ⟨some 40, _, _, _, _, none⟩ rfl (fun K hK => ?_)
    go_simp
    refine (SE.out _).mono ?_
    rintro e v9 ⟨rfl, hb9⟩
    refine hK.out _ _ (hHeld.below hb9) (fun hHeld => ?_)
    try (have HN2 := HN.out.below hb9; clear HN; have HN : Hid (NB _ _ _ _ _) := HN2; clear HN2)
    clear hK K hb9
    refine tks 4 ⟨some 41, _, _, _, _, none⟩ rfl ?_
    simp only [za, zb, zc, zd]
    refine tks 5 ⟨some 42, _, _, _, _, none⟩ rfl ?_
    simp only [za, zb, zc, zd]
    refine rd 6 ⟨some 43, _, _, _, _, none⟩ rfl (fun K hK => ?_)
    go_simp
    refine (MO.out _ (hL.out _ hHeld.1)).mono ?_
    rintro e v10 ⟨rfl, hb10⟩
    refine hK.out _ _ (hHeld.below hb10) (fun hHeld => ?_)
    try (have HN2 := HN.out.below hb10; clear HN; have HN : Hid (NB _ _ _ _ _) := HN2; clear HN2)
    clear hK K hb10
    refine tks 7 ⟨some 36, _, _, _, _, none⟩ rfl ?_
    simp only [za, zb, zc, zd]
    refine tks 8 ⟨some 44, _, _, _, _, none⟩ rfl ?_
    simp only [za, zb, zc, zd]
    refine tks 9 ⟨some 45, _, _, _, _, none⟩ rfl ?_
    simp only [za, zb, zc, zd]
    refine rd 11 ⟨none, _, _, _, _, none⟩ rfl (fun K hK => ?_)
    refine (if_pos (by kernel_rfl)).mpr (wp_store_mid 36 _ _ rfl _ 0 #[vi ki 0, vi ki V] rfl rfl HN.out.1.there (by kernel_rfl) (by simp [Value.oneCell']) (hK.out _ _ (hHeld.off HN.out.2.1 HN.out.2.2 _) (fun hHeld => ?_)))
    have HN2 : Hid (BS w ((_, [vi ki 0, vi ki V]) :: [(w.heap.size + 2, [vi ki 0, vi ki 0]), (w.heap.size + 1, [vi ki 0, vi ki u]), (w.heap.size, T)]) _ ∧ _) := ⟨⟨hHeld.1, fun x hx => by rcases List.mem_cons.1 hx with rfl | hx; exact ⟨HN.out.2.1, HN.out.1.setAll _ rfl⟩; exact hHeld.2 x hx⟩, HN.out.2.2⟩
    clear hK K HN
    refine tks 12 ⟨some 9, _, _, _, _, none⟩ rfl ?_
    simp only [za, zb, zc, zd]
    refine wpAnyH_done (by kernel_rfl) ?_ _
    go_wp2_with fail
    go_meet
    case rel => exact ⟨_, rfl, rfl, HN2.out⟩
  case rest =>
   clear c3_0_0 c3_0_1 c3_1_0 c3_1_1
   obtain ⟨nb3, rfl, rfl, KK⟩ := hcut
   clear K3
   have K4 : Hid (BS w [(nb3, [vi ki 0, vi ki V]), (w.heap.size + 2, [vi ki 0, vi ki 0]), (w.heap.size + 1, [vi ki 0, vi ki u]), (w.heap.size, T)] wc) := KK.out.1
   have ne4_0 : w.heap.size + 2 ≠ nb3 := KK.out.2 (w.heap.size + 2, [vi ki 0, vi ki 0]) (by simp)
   have ne4_1 : w.heap.size + 1 ≠ nb3 := KK.out.2 (w.heap.size + 1, [vi ki 0, vi ki u]) (by simp)
   have ne4_2 : w.heap.size ≠ nb3 := KK.out.2 (w.heap.size, T) (by simp)
   clear KK
   obtain ⟨c4_0_0, c4_0_1⟩ := (bo1 K4).c2
   obtain ⟨c4_1_0, c4_1_1⟩ := (bo2 K4).c2
   obtain ⟨c4_2_0, c4_2_1⟩ := (bo3 K4).c2
   clear c4_0_0 c4_0_1 c4_1_0 c4_1_1 c4_2_0 c4_2_1
   obtain ⟨c4_0_0, c4_0_1⟩ := (bo1 K4).c2
   obtain ⟨c4_1_0, c4_1_1⟩ := (bo2 K4).c2
   obtain ⟨z4_1_0, z4_1_1⟩ := (bo2 K4).f2
   obtain ⟨c4_2_0, c4_2_1⟩ := (bo3 K4).c2
   have XF : Hid (Bx (wc.setCells (w.heap.size + 2) 0 [vi ki 0, vi ki 0]) (w.heap.size + 2) [vi ki 0, vi ki 0]) := (K4.out.at (w.heap.size + 2) [vi ki 0, vi ki 0] (by simp)).setAll _ rfl
   have BF : Hid (Below w.heap.size w (wc.setCells (w.heap.size + 2) 0 [vi ki 0, vi ki 0])) := below_setCells (by omega) _ _ _ K4.out.1
   have y0 := XF.out.c 0 rfl
   have y1 := XF.out.c 1 rfl
   simp only [World.setCells, Nat.zero_add] at y0 y1
   clear XF
   go_wp2
   exact bodyPost_ret (v := .tuple #[.agg #[vi ki 0, vi ki 0], vi ki 0, vi ki e]) (by simp [results, Tryz.results12, go_sem, y0, y1]) rfl ⟨rfl, BF.out⟩
theorem in_ok (Ok : World → Prop) (T : List Value) (hT : T.length = 25) (u s a9 how d9 d6 V e : Int) (h9 : IntKind.i64.wrap (a9 - s) = d9) (h6 : IntKind.i64.wrap (d9 * 1000000) = d6)
  (RT : Hid (∀ w : World, Ok w → Calls Tryz.prog 31 #[.agg T.toArray] w fun r' w' => r' = zr (.bool true) ∧ Below w.heap.size w w'))
  (R : Hid (∀ w : World, Ok w → Calls Tryz.prog 32 #[.agg #[vi ki 0, vi ki u]] w fun r' w' => r' = zr (.bool true) ∧ Below w.heap.size w w'))
  (SE : Hid (∀ w : World, Calls Tryz.prog 34 #[.agg #[vi ki 0, vi ki u]] w fun r' w' => r' = zr (vi ki s) ∧ Below w.heap.size w w'))
  (IN : Hid (∀ w : World, Ok w → Calls Tryz.prog 40 #[.agg T.toArray, vi ki s] w fun r' w' => r' = zr (.tuple #[vi ki a9, vi ki how, vi ki 0]) ∧ Below w.heap.size w w'))
  (MO : Hid (∀ w : World, Ok w → Calls Tryz.prog 35 #[.agg #[vi ki 0, vi ki u], vi ki d6] w fun r' w' => r' = zr (.tuple #[.agg #[vi ki 0, vi ki V], vi ki 0]) ∧ Below w.heap.size w w'))
  (w : World) (hL : Hid (∀ W : World, Below w.heap.size w W → Ok W)) :
  Calls Tryz.prog 12 #[.agg T.toArray, .agg #[vi ki 0, vi ki u]] w fun r' w' => r' = zr (.tuple #[.agg #[vi ki 0, vi ki V], vi ki how, vi ki 0]) ∧ Below w.heap.size w w' := by
 have K0 := bsn3 w T 44 [vi ki 0, vi ki u] 36 [vi ki 0, vi ki 0] 36
 go_enter Tryz.func12, Tryz.ntmps12
 generalize hUA : T.toArray = UA at *
 go_upto_region 1 with fail
 refine gen_to (BS w [(w.heap.size + 2, [vi ki 0, vi ki 0]), (w.heap.size + 1, [vi ki 0, vi ki u]), (w.heap.size, T)]) K0.out ?_
 clear K0
 intro W0 K0'
 have K0 : Hid (BS w [(w.heap.size + 2, [vi ki 0, vi ki 0]), (w.heap.size + 1, [vi ki 0, vi ki u]), (w.heap.size, T)] W0) := K0'
 clear K0'
 obtain ⟨c0_0_0, c0_0_1⟩ := (bo1 K0).c2
 obtain ⟨c0_1_0, c0_1_1⟩ := (bo2 K0).c2
 go_wp2_with (first | (refine wpList_load_mid rfl 44 _ rfl (w.heap.size) 0 rfl T _ (K0.out.at (w.heap.size) T (by simp)).all Tryz.underlying44 rfl (by rw [hT]; kernel_rfl) ?_; rw [hUA]) | fail)
 refine (RT.out _ (hL.out _ K0.out.1)).mono ?_
 rintro e W1 ⟨rfl, hb⟩
 have K1 := bsb K0 hb
 clear c0_0_0 c0_0_1 c0_1_0 c0_1_1
 clear hb K0
 obtain ⟨c1_0_0, c1_0_1⟩ := (bo1 K1).c2
 obtain ⟨c1_1_0, c1_1_1⟩ := (bo2 K1).c2
 go_wp2_with (first | (refine wpList_load_mid rfl 44 _ rfl (w.heap.size) 0 rfl T _ (K1.out.at (w.heap.size) T (by simp)).all Tryz.underlying44 rfl (by rw [hT]; kernel_rfl) ?_; rw [hUA]) | fail)
 refine (R.out _ (hL.out _ K1.out.1)).mono ?_
 rintro e W2 ⟨rfl, hb⟩
 have K2 := bsb K1 hb
 clear c1_0_0 c1_0_1 c1_1_0 c1_1_1
 clear hb K1
 obtain ⟨c2_0_0, c2_0_1⟩ := (bo1 K2).c2
 obtain ⟨c2_1_0, c2_1_1⟩ := (bo2 K2).c2
 go_wp2_with fail
 go_cut [7, 8, 9] (fun v0 v1 v2 wx => v0 = vi ki a9 ∧ v1 = vi ki how ∧ v2 = vi ki 0 ∧ Hid (BS w [(w.heap.size + 2, [vi ki 0, vi ki 0]), (w.heap.size + 1, [vi ki 0, vi ki u]), (w.heap.size, T)] wx))
 case first =>
  refine wp_region_held_drew (S := BS w [(w.heap.size + 2, [vi ki 0, vi ki 0]), (w.heap.size + 1, [vi ki 0, vi ki u]), (w.heap.size, T)]) (by kernel_rfl) K2.out.drew (fun hHeld => ?_)
  refine wpAnyH_take (i := 0) (v := .agg UA) (oi := ⟨some 25, _, _, _, _, none⟩) rfl (by kernel_rfl) (by kernel_rfl) (by kernel_rfl) (fun _ _ _ h => h) (Or.inl ⟨by kernel_rfl, ?_⟩) (by assumption) ?_
  case refine_1 => (intro w9 hSw; rw [← hUA]; exact exec_row9 rfl rfl (hSw.at (w.heap.size) T (by simp)).all Tryz.underlying44 rfl (by rw [hT]; kernel_rfl))
  simp only [za, zb, zc, zd]
  refine tk (v := ?_) 1 ⟨some 26, _, _, _, _, none⟩ rfl ?_ ?_
  case refine_2 => (intro w9 hSw; obtain ⟨l0_0, l0_1⟩ := (hSw.at (w.heap.size + 2) [vi ki 0, vi ki 0] (by simp)).c2; obtain ⟨l1_0, l1_1⟩ := (hSw.at (w.heap.size + 1) [vi ki 0, vi ki u] (by simp)).c2; clear hSw; go_simp; try with_reducible rfl)
  simp only [za, zb, zc, zd]
  refine rd 2 ⟨some 27, _, _, _, _, none⟩ rfl (fun K hK => ?_)
  go_simp
  refine (SE.out _).mono ?_
  rintro e v1 ⟨rfl, hb1⟩
  refine hK.out _ _ (hHeld.below hb1) (fun hHeld => ?_)
  clear hK K hb1
  refine rd 3 ⟨some 28, _, _, _, _, none⟩ rfl (fun K hK => ?_)
  go_simp
  refine (IN.out _ (hL.out _ hHeld.1)).mono ?_
  rintro e v2 ⟨rfl, hb2⟩
  refine hK.out _ _ (hHeld.below hb2) (fun hHeld => ?_)
  clear hK K hb2
  refine tks 4 ⟨some 24, _, _, _, _, none⟩ rfl ?_
  simp only [za, zb, zc, zd]
  refine tks 5 ⟨some 29, _, _, _, _, none⟩ rfl ?_
  simp only [za, zb, zc, zd]
  refine tks 6 ⟨some 30, _, _, _, _, none⟩ rfl ?_
  simp only [za, zb, zc, zd]
  refine tks 7 ⟨some 31, _, _, _, _, none⟩ rfl ?_
  simp only [za, zb, zc, zd]
  refine tks 8 ⟨some 7, _, _, _, _, none⟩ rfl ?_
  simp only [za, zb, zc, zd]
  refine tks 9 ⟨some 8, _, _, _, _, none⟩ rfl ?_
  simp only [za, zb, zc, zd]
  refine tks 10 ⟨some 9, _, _, _, _, none⟩ rfl ?_
  simp only [za, zb, zc, zd]
  refine wpAnyH_done (by kernel_rfl) ?_ _
  go_wp2_with fail
  go_meet
  case rel => exact ⟨rfl, rfl, rfl, hHeld⟩
 case rest =>
  clear c2_0_0 c2_0_1 c2_1_0 c2_1_1
  obtain ⟨rfl, rfl, rfl, K3⟩ := hcut
  clear K2
  skip
  obtain ⟨c3_0_0, c3_0_1⟩ := (bo1 K3).c2
  obtain ⟨c3_1_0, c3_1_1⟩ := (bo2 K3).c2
  go_wp2_with fail
  go_cut [10, 9] (fun v0 v1 wx => ∃ nb, v0 = .pointer (some ⟨nb, 0, none⟩) ∧ v1 = vi ki 0 ∧ Hid (BS w ((nb, [vi ki 0, vi ki V]) :: [(w.heap.size + 2, [vi ki 0, vi ki 0]), (w.heap.size + 1, [vi ki 0, vi ki u]), (w.heap.size, T)]) wx ∧ (∀ x ∈ [(w.heap.size + 2, [vi ki 0, vi ki 0]), (w.heap.size + 1, [vi ki 0, vi ki u]), (w.heap.size, T)], x.1 ≠ nb)))
  case first =>
   refine wp_region_held_drew (S := BS w [(w.heap.size + 2, [vi ki 0, vi ki 0]), (w.heap.size + 1, [vi ki 0, vi ki u]), (w.heap.size, T)]) (by kernel_rfl) K3.out.drew (fun hHeld => ?_)
   refine tk (v := ?_) 0 ⟨some 37, _, _, _, _, none⟩ rfl ?_ ?_
   case refine_2 => (intro w9 hSw; obtain ⟨l0_0, l0_1⟩ := (hSw.at (w.heap.size + 2) [vi ki 0, vi ki 0] (by simp)).c2; obtain ⟨l1_0, l1_1⟩ := (hSw.at (w.heap.size + 1) [vi ki 0, vi ki u] (by simp)).c2; clear hSw; go_simp; try with_reducible rfl)
   simp only [za, zb, zc, zd]
   refine tks 1 ⟨some 38, _, _, _, _, none⟩ rfl ?_
   simp only [za, zb, zc, zd]
   refine tk (v := ?_) 2 ⟨some 39, _, _, _, _, none⟩ rfl ?_ ?_
   case refine_2 => (intro w9 hSw; obtain ⟨l0_0, l0_1⟩ := (hSw.at (w.heap.size + 2) [vi ki 0, vi ki 0] (by simp)).c2; obtain ⟨l1_0, l1_1⟩ := (hSw.at (w.heap.size + 1) [vi ki 0, vi ki u] (by simp)).c2; clear hSw; go_simp; try with_reducible rfl)
   simp only [za, zb, zc, zd]
   refine wpAnyH_ready (rs := [3, 10]) (by kernel_rfl) (by simp) (AllReadyH.cons (o := ⟨some 40, _, _, _, _, none⟩) rfl (fun K hK => ?_) (AllReadyH.cons (o := ⟨some 10, _, _, _, _, none⟩) rfl (fun K hK => ?_) AllReadyH.nil))
   ·
    go_simp
    refine (SE.out _).mono ?_
    rintro e v1 ⟨rfl, hb1⟩
    refine hK.out _ _ (hHeld.below hb1) (fun hHeld => ?_)
    try (have HN2 := HN.out.below hb1; clear HN; have HN : Hid (NB _ _ _ _ _) := HN2; clear HN2)
    clear hK K hb1
    refine tks 4 ⟨some 41, _, _, _, _, none⟩ rfl ?_
    simp only [za, zb, zc, zd]
    refine tks 5 ⟨some 42, _, _, _, _, none⟩ rfl ?_
    simp only [za, zb, zc, zd]
    refine wpAnyH_ready (rs := [6, 10]) (by kernel_rfl) (by simp) (AllReadyH.cons (o := ⟨some 43, _, _, _, _, none⟩) rfl (fun K hK => ?_) (AllReadyH.cons (o := ⟨some 10, _, _, _, _, none⟩) rfl (fun K hK => ?_) AllReadyH.nil))
    ·
     go_simp
     refine (MO.out _ (hL.out _ hHeld.1)).mono ?_
     rintro e v2 ⟨rfl, hb2⟩
     refine hK.out _ _ (hHeld.below hb2) (fun hHeld => ?_)
     try (have HN2 := HN.out.below hb2; clear HN; have HN : Hid (NB _ _ _ _ _) := HN2; clear HN2)
     clear hK K hb2
     refine tks 7 ⟨some 36, _, _, _, _, none⟩ rfl ?_
     simp only [za, zb, zc, zd]
     refine tks 8 ⟨some 44, _, _, _, _, none⟩ rfl ?_
     simp only [za, zb, zc, zd]
     refine tks 9 ⟨some 45, _, _, _, _, none⟩ rfl ?_
     simp only [za, zb, zc, zd]
     refine rd 10 ⟨some 10, _, _, _, _, none⟩ rfl (fun K hK => ?_)
     go_simp
     have hH0 := hHeld
     refine hK.out _ _ (hHeld.alloc _) (fun hHeld => ?_)
     have HN : Hid (NB _ _ _ _ [vi ki 0, vi ki 0]) := hH0.nb hHeld
     clear hK K hH0
     refine rd 11 ⟨none, _, _, _, _, none⟩ rfl (fun K hK => ?_)
     refine (if_pos (by kernel_rfl)).mpr (wp_store_mid 36 _ _ rfl _ 0 #[vi ki 0, vi ki V] rfl rfl HN.out.1.there (by kernel_rfl) (by simp [Value.oneCell']) (hK.out _ _ (hHeld.off HN.out.2.1 HN.out.2.2 _) (fun hHeld => ?_)))
     have HN2 : Hid (BS w ((_, [vi ki 0, vi ki V]) :: [(w.heap.size + 2, [vi ki 0, vi ki 0]), (w.heap.size + 1, [vi ki 0, vi ki u]), (w.heap.size, T)]) _ ∧ _) := ⟨⟨hHeld.1, fun x hx => by rcases List.mem_cons.1 hx with rfl | hx; exact ⟨HN.out.2.1, HN.out.1.setAll _ rfl⟩; exact hHeld.2 x hx⟩, HN.out.2.2⟩
     clear hK K HN
     refine tks 12 ⟨some 9, _, _, _, _, none⟩ rfl ?_
     simp only [za, zb, zc, zd]
     refine wpAnyH_done (by kernel_rfl) ?_ _
     go_wp2_with fail
     go_meet
     case rel => exact ⟨_, rfl, rfl, HN2.out⟩
    ·
     go_simp
     have hH0 := hHeld
     refine hK.out _ _ (hHeld.alloc _) (fun hHeld => ?_)
     have HN : Hid (NB _ _ _ _ [vi ki 0, vi ki 0]) := hH0.nb hHeld
     clear hK K hH0
     refine rd 6 ⟨some 43, _, _, _, _, none⟩ rfl (fun K hK => ?_)
     go_simp
     refine (MO.out _ (hL.out _ hHeld.1)).mono ?_
     rintro e v6 ⟨rfl, hb6⟩
     refine hK.out _ _ (hHeld.below hb6) (fun hHeld => ?_)
     try (have HN2 := HN.out.below hb6; clear HN; have HN : Hid (NB _ _ _ _ _) := HN2; clear HN2)
     clear hK K hb6
     refine tks 7 ⟨some 36, _, _, _, _, none⟩ rfl ?_
     simp only [za, zb, zc, zd]
     refine tks 8 ⟨some 44, _, _, _, _, none⟩ rfl ?_
     simp only [za, zb, zc, zd]
     refine tks 9 ⟨some 45, _, _, _, _, none⟩ rfl ?_
     simp only [za, zb, zc, zd]
     refine rd 11 ⟨none, _, _, _, _, none⟩ rfl (fun K hK => ?_)
     refine (if_pos (by kernel_rfl)).mpr (wp_store_mid 36 _ _ rfl _ 0 #[vi ki 0, vi ki V] rfl rfl HN.out.1.there (by kernel_rfl) (by simp [Value.oneCell']) (hK.out _ _ (hHeld.off HN.out.2.1 HN.out.2.2 _) (fun hHeld => ?_)))
     have HN2 : Hid (BS w ((_, [vi ki 0, vi ki V]) :: [(w.heap.size + 2, [vi ki 0, vi ki 0]), (w.heap.size + 1, [vi ki 0, vi ki u]), (w.heap.size, T)]) _ ∧ _) := ⟨⟨hHeld.1, fun x hx => by rcases List.mem_cons.1 hx with rfl | hx; exact ⟨HN.out.2.1, HN.out.1.setAll _ rfl⟩; exact hHeld.2 x hx⟩, HN.out.2.2⟩
     clear hK K HN
     refine tks 12 ⟨some 9, _, _, _, _, none⟩ rfl ?_
     simp only [za, zb, zc, zd]
     refine wpAnyH_done (by kernel_rfl) ?_ _
     go_wp2_with fail
     go_meet
     case rel => exact ⟨_, rfl, rfl, HN2.out⟩
   ·
    go_simp
    have hH0 := hHeld
    refine hK.out _ _ (hHeld.alloc _) (fun hHeld => ?_)
    have HN : Hid (NB _ _ _ _ [vi ki 0, vi ki 0]) := hH0.nb hHeld
    clear hK K hH0
    refine rd 3 ⟨some 40, _, _, _, _, none⟩ rfl (fun K hK => ?_)
    go_simp
    refine (SE.out _).mono ?_
    rintro e v9 ⟨rfl, hb9⟩
    refine hK.out _ _ (hHeld.below hb9) (fun hHeld => ?_)
    try (have HN2 := HN.out.below hb9; clear HN; have HN : Hid (NB _ _ _ _ _) := HN2; clear HN2)
    clear hK K hb9
    refine tks 4 ⟨some 41, _, _, _, _, none⟩ rfl ?_
    simp only [za, zb, zc, zd]
    refine tks 5 ⟨some 42, _, _, _, _, none⟩ rfl ?_
    simp only [za, zb, zc, zd]
    refine rd 6 ⟨some 43, _, _, _, _, none⟩ rfl (fun K hK => ?_)
    go_simp
    refine (MO.out _ (hL.out _ hHeld.1)).mono ?_
    rintro e v10 ⟨rfl, hb10⟩
    refine hK.out _ _ (hHeld.below hb10) (fun hHeld => ?_)
    try (have HN2 := HN.out.below hb10; clear HN; have HN : Hid (NB _ _ _ _ _) := HN2; clear HN2)
    clear hK K hb10
    refine tks 7 ⟨some 36, _, _, _, _, none⟩ rfl ?_
    simp only [za, zb, zc, zd]
    refine tks 8 ⟨some 44, _, _, _, _, none⟩ rfl ?_
    simp only [za, zb, zc, zd]
    refine tks 9 ⟨some 45, _, _, _, _, none⟩ rfl ?_
    simp only [za, zb, zc, zd]
    refine rd 11 ⟨none, _, _, _, _, none⟩ rfl (fun K hK => ?_)
    refine (if_pos (by kernel_rfl)).mpr (wp_store_mid 36 _ _ rfl _ 0 #[vi ki 0, vi ki V] rfl rfl HN.out.1.there (by kernel_rfl) (by simp [Value.oneCell']) (hK.out _ _ (hHeld.off HN.out.2.1 HN.out.2.2 _) (fun hHeld => ?_)))
    have HN2 : Hid (BS w ((_, [vi ki 0, vi ki V]) :: [(w.heap.size + 2, [vi ki 0, vi ki 0]), (w.heap.size + 1, [vi ki 0, vi ki u]), (w.heap.size, T)]) _ ∧ _) := ⟨⟨hHeld.1, fun x hx => by rcases List.mem_cons.1 hx with rfl | hx; exact ⟨HN.out.2.1, HN.out.1.setAll _ rfl⟩; exact hHeld.2 x hx⟩, HN.out.2.2⟩
    clear hK K HN
    refine tks 12 ⟨some 9, _, _, _, _, none⟩ rfl ?_
    simp only [za, zb, zc, zd]
    refine wpAnyH_done (by kernel_rfl) ?_ _
    go_wp2_with fail
    go_meet
    case rel => exact ⟨_, rfl, rfl, HN2.out⟩
  case rest =>
   clear c3_0_0 c3_0_1 c3_1_0 c3_1_1
   obtain ⟨nb3, rfl, rfl, KK⟩ := hcut
   clear K3
   have K4 : Hid (BS w [(nb3, [vi ki 0, vi ki V]), (w.heap.size + 2, [vi ki 0, vi ki 0]), (w.heap.size + 1, [vi ki 0, vi ki u]), (w.heap.size, T)] wc) := KK.out.1
   have ne4_0 : w.heap.size + 2 ≠ nb3 := KK.out.2 (w.heap.size + 2, [vi ki 0, vi ki 0]) (by simp)
   have ne4_1 : w.heap.size + 1 ≠ nb3 := KK.out.2 (w.heap.size + 1, [vi ki 0, vi ki u]) (by simp)
   have ne4_2 : w.heap.size ≠ nb3 := KK.out.2 (w.heap.size, T) (by simp)
   clear KK
   obtain ⟨c4_0_0, c4_0_1⟩ := (bo1 K4).c2
   obtain ⟨c4_1_0, c4_1_1⟩ := (bo2 K4).c2
   obtain ⟨c4_2_0, c4_2_1⟩ := (bo3 K4).c2
   clear c4_0_0 c4_0_1 c4_1_0 c4_1_1 c4_2_0 c4_2_1
   obtain ⟨c4_0_0, c4_0_1⟩ := (bo1 K4).c2
   obtain ⟨c4_1_0, c4_1_1⟩ := (bo2 K4).c2
   obtain ⟨z4_1_0, z4_1_1⟩ := (bo2 K4).f2
   obtain ⟨c4_2_0, c4_2_1⟩ := (bo3 K4).c2
   have XF : Hid (Bx (wc.setCells (w.heap.size + 2) 0 [vi ki 0, vi ki V]) (w.heap.size + 2) [vi ki 0, vi ki V]) := (K4.out.at (w.heap.size + 2) [vi ki 0, vi ki 0] (by simp)).setAll _ rfl
   have BF : Hid (Below w.heap.size w (wc.setCells (w.heap.size + 2) 0 [vi ki 0, vi ki V])) := below_setCells (by omega) _ _ _ K4.out.1
   have y0 := XF.out.c 0 rfl
   have y1 := XF.out.c 1 rfl
   simp only [World.setCells, Nat.zero_add] at y0 y1
   clear XF
   go_wp2
   exact bodyPost_ret (v := .tuple #[.agg #[vi ki 0, vi ki V], vi ki how, vi ki 0]) (by simp [results, Tryz.results12, go_sem, y0, y1]) rfl ⟨rfl, BF.out⟩
theorem dok_bd {u : Int} (h : Dy.dok (u / 86400000000) = true) : -9223372036854775808 ≤ u ∧ u ≤ 9223372036854775807 := by have := Dy.dok_yes h; omega
end Go.Proofs.YtklehbmghjcmaaaGreatDoor
namespace Go.Proofs.YtklehbmghjcmaaaGreatDoor
namespace Sm
end Sm
end Go.Proofs.YtklehbmghjcmaaaGreatDoor
namespace Go.Proofs.YtklehbmghjcmaaaGreatDoor
open Go.RowKit
theorem rst_yes {u : Int} (h : Dy.dok (u / 86400000000) = true) (w : World) (hw : Cvl.Lens w) : Calls Tryz.prog 32 #[.agg #[vi ki 0, vi ki u]] w fun r' w' => r' = zr (.bool true) ∧ Below w.heap.size w w' := by
 obtain ⟨u1, u2⟩ := dok_bd h
 have R := Dy.rst_any 0 u u1 u2 w hw
 rw [show Dy.sR 0 u = true from h] at R
 exact R
end Go.Proofs.YtklehbmghjcmaaaGreatDoor
namespace Go.Proofs.YtklehbmghjcmaaaGreatDoor
open Go.RowKit Sr
structure ZF (Ok : World → Prop) (T : List Value) : Prop where
 len : T.length = 25
 lens : ∀ W, Ok W → Cvl.Lens W
 below : ∀ W V : World, Ok W → Below W.heap.size W V → Ok V
 right : ∀ w : World, Ok w → Calls Tryz.prog 31 #[.agg T.toArray] w fun r' w' => r' = zr (.bool true) ∧ Below w.heap.size w w'
 at_ : ∀ t, ask t → ∃ x : TrR, (-57600 ≤ x.off ∧ x.off ≤ 57600) ∧ ∀ w : World, Ok w → Calls Tryz.prog 33 #[.agg T.toArray, vi ki t] w fun r w' => r = zr (.tuple #[trV x, vi ki 0]) ∧ Below w.heap.size w w'
 inst : ∀ x, ask x → ask (x - 57600) → ask (x + 57600) → -1000000000000000 ≤ x → x ≤ 1000000000000000 → ∃ a how : Int, (x - 57600 ≤ a ∧ a ≤ x + 57600) ∧ ∀ w : World, Ok w → Calls Tryz.prog 40 #[.agg T.toArray, vi ki x] w fun r w' => r = zr (.tuple #[vi ki a, vi ki how, vi ki 0]) ∧ Below w.heap.size w w'
theorem inV_sts {x : Int} {x0 : TrR} {ch : List TrR} (h0 : -57600 ≤ x0.off ∧ x0.off ≤ 57600) (hc : ∀ c ∈ ch, (-57600 ≤ c.off ∧ c.off ≤ 57600) ∧ x - 57600 < c.at_) : x - 57600 ≤ inV (Zm.pGo x (stsC x0 ch x) (⟨0, 0, 0⟩, ⟨0, 0, 0⟩)) ∧ inV (Zm.pGo x (stsC x0 ch x) (⟨0, 0, 0⟩, ⟨0, 0, 0⟩)) ≤ x + 57600 := by
 have ho : ∀ s ∈ stsC x0 ch x, -57600 ≤ s.o ∧ s.o ≤ 57600 := strs_off _ (fun o => -57600 ≤ o ∧ o ≤ 57600) _ _ _ h0 (fun c hc' => by obtain ⟨d, hd, rfl⟩ := List.mem_map.1 hc'; exact (hc d hd).1)
 obtain ⟨e, r, hs, he⟩ := strs_head (x - 57600) (x + 57600 + 1) x0.off (ch.map fun c => (c.at_, c.off)) (by omega) (fun c hc' => by obtain ⟨d, hd, rfl⟩ := List.mem_map.1 hc'; have := (hc d hd).2; simp only []; omega)
 have hs' : stsC x0 ch x = ⟨x - 57600, e, x0.off⟩ :: r := hs
 rw [hs'] at ho ⊢
 exact inV_near he ho
theorem zf_none (nm : ByteArray) (f : TrR) (ao : Option Addr) (n c : Nat) (hnc : n ≤ c) (L : List TrR) (hn : L.length = n) (h : NoF f L) : ZF (OkF (.slice ao n c) L) (tbF nm f (.slice ao n c) zeF) := by
 refine ⟨rfl, fun W h => h.1.2, fun W V hW hb => hW.below hb, fun w hw => nright nm f _ L h w hw.1.1, fun t ht => ⟨_, h.cur _, fun w hw => nat_ nm f _ L h t ht w hw.1⟩, fun x h0 h1 h2 x1 x2 => ?_⟩
 refine ⟨_, _, ?_, fun w hw => nin_ nm f ao n c hnc L hn h x h0 h1 h2 x1 x2 w hw.1⟩
 have hcm : ∀ c ∈ Zm.chg (x - 57600) (x + 57600) L, c ∈ L := fun c hc => List.mem_of_mem_drop ((tw_sub _).2 c hc)
 refine inV_sts (x0 := curT f L (Zm.cntLe (x - 57600) (L.map (·.at_)))) (ch := Zm.chg (x - 57600) (x + 57600) L) (h.cur _) (fun c hc => ⟨h.off (hcm c hc), ?_⟩)
 unfold Zm.chg at hc
 rw [Zm.drop_take (fun y : TrR => y.at_) _ _ L h.rises] at hc
 have := (List.mem_filter.1 hc).2
 simp at this
 exact this.1
theorem zf_foot (nm : ByteArray) (f : TrR) (ft : Fn.Ft) (ao : Option Addr) (n c : Nat) (hnc : n ≤ c) (L : List TrR) (hn : L.length = n) (h : NoF f L) (hf : Fn.okF ft = true) (hla : ∀ x ∈ L, x.at_ < ft.fr) (f1 : -1000000000000000000 ≤ ft.fr) (f2 : ft.fr ≤ 1000000000000000000)
  (RT : ∀ w : World, OkF (.slice ao n c) L w → Calls Tryz.prog 31 #[.agg (tbF nm f (.slice ao n c) (Fn.fL ft)).toArray] w fun r' w' => r' = zr (.bool true) ∧ Below w.heap.size w w') : ZF (OkF (.slice ao n c) L) (tbF nm f (.slice ao n c) (Fn.fL ft)) := by
 refine ⟨rfl, fun W h => h.1.2, fun W V hW hb => hW.below hb, RT, fun t ht => ?_, fun x h0 h1 h2 x1 x2 => ?_⟩
 ·obtain ⟨t1, t2, y, hy, ha⟩ := ht
  have hk := of_decide_eq_true ha
  obtain ⟨j, hj, FA, _⟩ := Fn.stand_ok ft t y hf hy hk.1 hk.2 t1 t2
  refine ⟨if ft.h = true ∧ ft.fr ≤ t then trT (Fn.gs ft j) else curT f L (Zm.cntLe t (L.map (·.at_))), ?_, fun w hw => ?_⟩
  ·split
   ·exact gs_off hf j
   ·exact h.cur _
  ·have R := zat_any nm f (.slice ao n c) (Fn.fL ft) rfl ft.h ft.fr t rfl rfl L true (fun _ => ⟨h.rises, h.h3⟩) y (trT (Fn.gs ft j)) 0 w hw.1.1
    (fun W hb => RT W (hw.below hb)) (fun W hb => Fn.yat_any t y hy t1 t2 W (hw.below hb).1.2) (fun _ _ _ _ W hb => FA W (hw.below hb).1.2 (hw.below hb).2)
   unfold atP atE at R
   rw [if_pos rfl, if_pos rfl, if_pos ha, if_pos ha] at R
   exact R
 ·obtain ⟨x0, FT, hx0, hch, _, _, C⟩ := fin_ nm f ft ao n c hnc L hn h hf hla f1 f2 RT x h0 h1 h2 x1 x2
  exact ⟨_, _, inV_sts hx0 hch, C⟩
theorem ba_nil {x : ByteArray} (h : x.toList = []) : x = ⟨#[]⟩ := by
 rw [ByteArray.toList_eq] at h
 obtain ⟨⟨l⟩⟩ := x
 simp at h
 rw [h]
theorem footZ_is {f : Fn.Ft} (h : footZ f = true) : Fn.fL f = zeF := by
 unfold footZ halfZ at h
 simp only [Bool.and_eq_true, Bool.not_eq_true', beq_iff_eq] at h
 obtain ⟨⟨⟨⟨a, b⟩, c⟩, ⟨⟨⟨⟨⟨⟨⟨d1, d2⟩, d3⟩, d4⟩, d5⟩, d6⟩, d7⟩, d8⟩⟩, ⟨⟨⟨⟨⟨⟨e1, e2⟩, e3⟩, e4⟩, e5⟩, e6⟩, e7⟩, e8⟩ := h
 unfold Fn.fL
 rw [a, b, c, d1, d2, d3, d4, d5, d6, d7, ba_nil d8, e1, e2, e3, e4, e5, e6, e7, ba_nil e8]
 rfl
theorem rises_last : ∀ {l : List TrR}, Zm.Rises (l.map (·.at_)) → ∀ {z : TrR}, l[l.length - 1]? = some z → ∀ x ∈ l, x.at_ ≤ z.at_ := by
 intro l hr z hz x hx
 obtain ⟨k, hk⟩ := List.getElem?_of_mem hx
 have hkl := (List.getElem?_eq_some_iff.1 hk).1
 have h1 := (Zm.cntLe_iff (x := z.at_) hr (l.length - 1) z.at_ (by simp [hz])).1 (Int.le_refl _)
 exact (Zm.cntLe_iff (x := z.at_) hr k x.at_ (by simp [hk])).2 (by omega)
theorem zf_any (t : TbR) (ao : Option Addr) (n c : Nat) (hnc : n ≤ c) (hn : t.trs.length = n) (hR : RightIs t true)
  (RT : ∀ w : World, Cvl.Lens w → Clk.Tab w → TrAt w (.slice ao n c) t.trs → Calls Tryz.prog 31 #[.agg (tbL t (.slice ao n c)).toArray] w fun e w' => e = zr (.bool true) ∧ Below w.heap.size w w') : ZF (OkF (.slice ao n c) t.trs) (tbL t (.slice ao n c)) := by
 obtain ⟨r, hrf, hiff⟩ := hR
 obtain ⟨h1, h2, h3, h4, h5⟩ := hiff.1 rfl
 have h : NoF t.first t.trs := ⟨h1, h2, h3, h4⟩
 rcases h5 with h5 | h5
 ·have e : tbL t (.slice ao n c) = tbF t.nm t.first (.slice ao n c) zeF := by unfold tbL tbF; rw [footZ_is h5]
  rw [e]
  exact zf_none t.nm t.first ao n c hnc t.trs hn h
 ·subst h5
  obtain ⟨y, p, er, hy, hfa, hb⟩ := hrf
  have hb2 : (decide (1800 ≤ y) && decide (y ≤ 2110) && lastB t.trs t.foot.fr && (decide (er = 0) && decide (p.t = t.foot.fr))) = true := hb.symm
  simp only [Bool.and_eq_true, decide_eq_true_eq] at hb2
  obtain ⟨⟨⟨y1, y2⟩, hl⟩, he, hp⟩ := hb2
  have hf : Fn.okF t.foot = true := by
   rcases hfa with ⟨_, k, _⟩ | ⟨k, _⟩
   ·exact k
   ·exact absurd he k
  have hfr : -1000000000000000000 ≤ t.foot.fr ∧ t.foot.fr ≤ 1000000000000000000 := by
   rcases hy with ⟨k, _⟩ | ⟨_, _, k⟩ | ⟨_, _, k⟩
   ·have := Cvl.of_can k; omega
   ·omega
   ·omega
  have hla : ∀ x ∈ t.trs, x.at_ < t.foot.fr := fun x hx => by
   unfold lastB at hl
   cases hz : t.trs[t.trs.length - 1]? with
   | none => have := List.getElem?_eq_none_iff.1 hz; have := List.length_pos_of_mem hx; omega
   | some z =>
    rw [hz] at hl
    have := of_decide_eq_true hl
    have := rises_last h.rises hz x hx
    omega
  exact zf_foot t.nm t.first t.foot ao n c hnc t.trs hn h hf hla hfr.1 hfr.2 (fun w hw => RT w hw.1.2 hw.2 hw.1.1)
theorem ask_st {u t : Int} (h : Dy.dok (u / 86400000000) = true) (h1 : u / 1000000 + 946684800 - 57600 ≤ t) (h2 : t ≤ u / 1000000 + 946684800 + 57600) : ask t := by
 have k := Dy.dok_yes h
 have e : -2451508 ≤ t / 86400 - 10957 ∧ t / 86400 - 10957 ≤ 106751983 := by omega
 obtain ⟨y, hy⟩ := Fn.yat_is t
 refine ⟨by omega, by omega, y, hy, ?_⟩
 have c1 : Cvl.can (t / 86400 - 10957) = true := by unfold Cvl.can; exact decide_eq_true (by omega)
 rcases hy with ⟨_, b, c⟩ | ⟨a, _⟩ | ⟨a, _⟩
 ·unfold askY
  refine decide_eq_true ⟨?_, ?_⟩
  ·have : Cv.S (-4714) ≤ t / 86400 - 10957 := by rw [show Cv.S (-4714) = -2452237 by decide +kernel]; omega
   have := Cv.S_lt (show Cv.S (-4714) < Cv.S (y + 1) by omega)
   omega
  ·have : t / 86400 - 10957 < Cv.S 294279 := by rw [show Cv.S 294279 = 106752713 by decide +kernel]; omega
   have := Cv.S_lt (show Cv.S y < Cv.S 294279 by omega)
   omega
 ·rw [c1] at a; cases a
 ·rw [c1] at a; cases a
theorem mo_val {u n : Int} (h : moE u n = 0) : Dy.dok (moV u n / 86400000000) = true := by
 unfold moE at h
 unfold moV
 by_cases k : Dy.dok ((u + n) / 86400000000) = true
 ·rw [if_pos k]; exact k
 ·rw [if_neg k] at h; omega
theorem zlocal {Ok : World → Prop} {T : List Value} (Z : ZF Ok T) (u : Int) (hu : Dy.dok (u / 86400000000) = true) : ∃ V E : Int, (E = 0 → Dy.dok (V / 86400000000) = true) ∧ ∀ w : World, Ok w → Calls Tryz.prog 10 #[.agg T.toArray, .agg #[vi ki 0, vi ki u]] w fun r w' => r = zr (.tuple #[.agg #[vi ki 0, vi ki V], vi ki E]) ∧ Below w.heap.size w w' := by
 obtain ⟨u1, u2⟩ := dok_bd hu
 obtain ⟨x, hx, AT⟩ := Z.at_ (u / 1000000 + 946684800) (ask_st hu (by omega) (by omega))
 exact ⟨moV u (x.off * 1000000), moE u (x.off * 1000000), mo_val, fun w hw => lo_ok Ok T Z.len u _ _ x.off (x.off * 1000000) _ _ x.dst x.ab (by rw [IntKind.wrap_i64]; omega) Z.right (fun w hw => rst_yes hu w (Z.lens w hw)) (fun w => sec_any 0 u u1 u2 w) AT (fun w hw => more_any 0 u _ u1 u2 (by omega) (by omega) w (Z.lens w hw)) w (fun W hb => Z.below w W hw hb)⟩
theorem zinst {Ok : World → Prop} {T : List Value} (Z : ZF Ok T) (u : Int) (hu : Dy.dok (u / 86400000000) = true) : ∃ V how E : Int, (E = 0 → Dy.dok (V / 86400000000) = true) ∧ ∀ w : World, Ok w → Calls Tryz.prog 12 #[.agg T.toArray, .agg #[vi ki 0, vi ki u]] w fun r w' => r = zr (.tuple #[.agg #[vi ki 0, vi ki V], vi ki how, vi ki E]) ∧ Below w.heap.size w w' := by
 obtain ⟨u1, u2⟩ := dok_bd hu
 have k := Dy.dok_yes hu
 obtain ⟨a9, how, ha, IN⟩ := Z.inst (u / 1000000 + 946684800) (ask_st hu (by omega) (by omega)) (ask_st hu (by omega) (by omega)) (ask_st hu (by omega) (by omega)) (by omega) (by omega)
 obtain ⟨s, hs⟩ : ∃ s, u / 1000000 + 946684800 = s := ⟨_, rfl⟩
 have SE := fun w => sec_any 0 u u1 u2 w
 rw [hs] at ha IN SE
 have MO := fun w (hw : Ok w) => more_any 0 u ((a9 - s) * 1000000) u1 u2 (by omega) (by omega) w (Z.lens w hw)
 by_cases hE : moE u ((a9 - s) * 1000000) = 0
 ·rw [hE] at MO
  exact ⟨_, how, 0, fun _ => mo_val hE, fun w hw => in_ok Ok T Z.len u s a9 how (a9 - s) ((a9 - s) * 1000000) _ 0 (by rw [IntKind.wrap_i64]; omega) (by rw [IntKind.wrap_i64]; omega) Z.right (fun w hw => rst_yes hu w (Z.lens w hw)) SE IN MO w (fun W hb => Z.below w W hw hb)⟩
 ·exact ⟨0, 0, moE u ((a9 - s) * 1000000), fun h => absurd h hE, fun w hw => in_err2 Ok T Z.len u s a9 how (a9 - s) ((a9 - s) * 1000000) _ _ (by rw [IntKind.wrap_i64]; omega) (by rw [IntKind.wrap_i64]; omega) hE Z.right (fun w hw => rst_yes hu w (Z.lens w hw)) SE IN MO w (fun W hb => Z.below w W hw hb)⟩
end Go.Proofs.YtklehbmghjcmaaaGreatDoor
namespace Go.Proofs.YtklehbmghjcmaaaGreatDoor
namespace Zm
def InstIs (A : Int → Int) (x a how : Int) : Prop :=
 ((how = 0 ∨ how = 1) ∧ (x - 57600 ≤ a ∧ a ≤ x + 57600) ∧ a + A a = x ∧ (∀ τ, x - 57600 ≤ τ → τ ≤ x + 57600 → τ + A τ = x → a ≤ τ) ∧ (how = 1 ↔ ∃ τ, x - 57600 ≤ τ ∧ τ ≤ x + 57600 ∧ τ ≠ a ∧ τ + A τ = x)) ∨
 (how = 2 ∧ (∀ τ, x - 57600 ≤ τ → τ ≤ x + 57600 → τ + A τ ≠ x) ∧ ∃ b, x - 57600 ≤ b ∧ b ≤ x + 57600 ∧ b + A b < x ∧ (∀ τ, b < τ → τ ≤ x + 57600 → x < τ + A τ) ∧ a = x - A b)
theorem InstIs.one {A : Int → Int} {x a b g h : Int} (p : InstIs A x a g) (q : InstIs A x b h) : a = b ∧ g = h := by
 rcases p with ⟨p1, p2, p3, p4, p5⟩ | ⟨p1, p2, c, c1, c2, c3, c4, c5⟩
 ·rcases q with ⟨q1, q2, q3, q4, q5⟩ | ⟨q1, q2, _⟩
  ·have e : a = b := Int.le_antisymm (p4 b q2.1 q2.2 q3) (q4 a p2.1 p2.2 p3)
   subst e
   refine ⟨rfl, ?_⟩
   have : g = 1 ↔ h = 1 := p5.trans q5.symm
   omega
  ·exact absurd p3 (q2 a p2.1 p2.2)
 ·rcases q with ⟨q1, q2, q3, _⟩ | ⟨q1, q2, d, d1, d2, d3, d4, d5⟩
  ·exact absurd q3 (p2 b q2.1 q2.2)
  ·have e : c = d := by
    rcases Int.lt_trichotomy c d with k | k | k
    ·have := c4 d k d2; omega
    ·exact k
    ·have := d4 c k c2; omega
   subst e
   exact ⟨by rw [c5, d5], by rw [p1, q1]⟩
structure InvP (A : Int → Int) (x lo a0 : Int) (gl gs : Gr) : Prop where
 n0 : 0 ≤ gs.n
 l0 : 0 ≤ gl.n
 none : gs.n = 0 → ∀ τ, lo ≤ τ → τ < a0 → τ + A τ ≠ x
 some : 0 < gs.n → lo ≤ gs.f ∧ gs.f < a0 ∧ gs.f + A gs.f = x ∧ ∀ τ, lo ≤ τ → τ < a0 → τ + A τ = x → gs.f ≤ τ
 one : gs.n = 1 → ∀ τ, lo ≤ τ → τ < a0 → τ + A τ = x → τ = gs.f
 two : 1 < gs.n → ∃ τ, lo ≤ τ ∧ τ < a0 ∧ τ ≠ gs.f ∧ τ + A τ = x
 less : gs.n = 0 → 0 < gl.n → ∃ b, lo ≤ b ∧ b < a0 ∧ b + A b < x ∧ (∀ τ, b < τ → τ < a0 → x < τ + A τ) ∧ gl.l = x - A b
 more : gs.n = 0 → gl.n = 0 → ∀ τ, lo ≤ τ → τ < a0 → x < τ + A τ
def endOf (a : Int) : List St → Int
 | [] => a
 | s :: l => endOf s.b l
theorem pgo_inv {A : Int → Int} {x lo : Int} : ∀ (l : List St) (a0 : Int) (gl gs : Gr), Chain a0 l → lo ≤ a0 → (∀ s ∈ l, ∀ τ, s.a ≤ τ → τ < s.b → A τ = s.o) → InvP A x lo a0 gl gs →
  InvP A x lo (endOf a0 l) (pGo x l (gl, gs)).1 (pGo x l (gl, gs)).2
 | [], a0, gl, gs, _, _, _, h => h
 | s :: l, a0, gl, gs, hc, hlo, hA, h => by
  obtain ⟨hc1, hc2, hc3⟩ := hc
  have hs := hA s List.mem_cons_self
  have hl : ∀ s ∈ l, ∀ τ, s.a ≤ τ → τ < s.b → A τ = s.o := fun s hs => hA s (List.mem_cons_of_mem _ hs)
  unfold pGo endOf
  by_cases k1 : Zm.less x s
  ·rw [if_pos k1]
   refine pgo_inv l s.b _ _ hc3 (by omega) hl ?_
   have k1' : s.b ≤ x - s.o := k1
   have all : ∀ τ, s.a ≤ τ → τ < s.b → τ + A τ < x := fun τ t1 t2 => by rw [hs τ t1 t2]; omega
   have old : ∀ τ, lo ≤ τ → τ < s.b → τ + A τ = x → τ < a0 := fun τ t1 t2 t3 => by
    rcases Int.lt_or_le τ a0 with k | k
    ·exact k
    ·have := all τ (by omega) t2; omega
   refine ⟨h.n0, ?_, fun hn τ t1 t2 t3 => h.none hn τ t1 (old τ t1 t2 t3) t3, fun hn => ?_, fun hn τ t1 t2 t3 => h.one hn τ t1 (old τ t1 t2 t3) t3, fun hn => ?_, fun hn _ => ?_, fun hn hg => ?_⟩
   ·show 0 ≤ gl.n + 1
    have := h.l0; omega
   ·obtain ⟨b1, b2, b3, b4⟩ := h.some hn
    exact ⟨b1, by omega, b3, fun τ t1 t2 t3 => b4 τ t1 (old τ t1 t2 t3) t3⟩
   ·obtain ⟨τ, t1, t2, t3⟩ := h.two hn
    exact ⟨τ, t1, by omega, t3⟩
   ·refine ⟨s.b - 1, by omega, by omega, all _ (by omega) (by omega), fun τ t1 t2 => by omega, ?_⟩
    show x - s.o = _
    rw [hs (s.b - 1) (by omega) (by omega)]
   ·have : gl.n + 1 = 0 := hg
    have := h.l0
    omega
  ·rw [if_neg k1]
   have k1' : ¬ s.b ≤ x - s.o := k1
   by_cases k2 : says x s
   ·rw [if_pos k2]
    refine pgo_inv l s.b _ _ hc3 (by omega) hl ?_
    have k2' : s.a ≤ x - s.o ∧ x - s.o < s.b := k2
    have now : (x - s.o) + A (x - s.o) = x := by rw [hs _ k2'.1 k2'.2]; omega
    have only : ∀ τ, s.a ≤ τ → τ < s.b → τ + A τ = x → τ = x - s.o := fun τ t1 t2 t3 => by rw [hs τ t1 t2] at t3; omega
    refine ⟨?_, h.l0, fun hn => ?_, fun hn => ?_, fun hn τ t1 t2 t3 => ?_, fun hn => ?_, fun hn => ?_, fun hn => ?_⟩
    ·show 0 ≤ gs.n + 1
     have := h.n0; omega
    ·exfalso
     have : gs.n + 1 = 0 := hn
     have := h.n0; omega
    ·show lo ≤ (if gs.n = 0 then x - s.o else gs.f) ∧ (if gs.n = 0 then x - s.o else gs.f) < s.b ∧ (if gs.n = 0 then x - s.o else gs.f) + A (if gs.n = 0 then x - s.o else gs.f) = x ∧ ∀ τ, lo ≤ τ → τ < s.b → τ + A τ = x → (if gs.n = 0 then x - s.o else gs.f) ≤ τ
     by_cases k : gs.n = 0
     ·rw [if_pos k]
      refine ⟨by omega, by omega, now, fun τ t1 t2 t3 => ?_⟩
      rcases Int.lt_or_le τ a0 with q | q
      ·exact absurd t3 (h.none k τ t1 q)
      ·have := only τ (by omega) t2 t3; omega
     ·rw [if_neg k]
      obtain ⟨b1, b2, b3, b4⟩ := h.some (by have := h.n0; omega)
      refine ⟨b1, by omega, b3, fun τ t1 t2 t3 => ?_⟩
      rcases Int.lt_or_le τ a0 with q | q
      ·exact b4 τ t1 q t3
      ·omega
    ·have k : gs.n = 0 := by
      have : gs.n + 1 = 1 := hn
      omega
     show τ = (if gs.n = 0 then x - s.o else gs.f)
     rw [if_pos k]
     rcases Int.lt_or_le τ a0 with q | q
     ·exact absurd t3 (h.none k τ t1 q)
     ·exact only τ (by omega) t2 t3
    ·have k : 0 < gs.n := by
      have : 1 < gs.n + 1 := hn
      omega
     obtain ⟨b1, b2, b3, b4⟩ := h.some k
     refine ⟨x - s.o, by omega, by omega, ?_, now⟩
     show x - s.o ≠ (if gs.n = 0 then x - s.o else gs.f)
     rw [if_neg (by omega)]
     omega
    ·exfalso
     have : gs.n + 1 = 0 := hn
     have := h.n0; omega
    ·exfalso
     have : gs.n + 1 = 0 := hn
     have := h.n0; omega
   ·rw [if_neg k2]
    refine pgo_inv l s.b _ _ hc3 (by omega) hl ?_
    have k2' : ¬ (s.a ≤ x - s.o ∧ x - s.o < s.b) := k2
    have all : ∀ τ, s.a ≤ τ → τ < s.b → x < τ + A τ := fun τ t1 t2 => by rw [hs τ t1 t2]; omega
    have old : ∀ τ, lo ≤ τ → τ < s.b → τ + A τ = x → τ < a0 := fun τ t1 t2 t3 => by
     rcases Int.lt_or_le τ a0 with k | k
     ·exact k
     ·have := all τ (by omega) t2; omega
    refine ⟨h.n0, h.l0, fun hn τ t1 t2 t3 => h.none hn τ t1 (old τ t1 t2 t3) t3, fun hn => ?_, fun hn τ t1 t2 t3 => h.one hn τ t1 (old τ t1 t2 t3) t3, fun hn => ?_, fun hn hg => ?_, fun hn hg τ t1 t2 => ?_⟩
    ·obtain ⟨b1, b2, b3, b4⟩ := h.some hn
     exact ⟨b1, by omega, b3, fun τ t1 t2 t3 => b4 τ t1 (old τ t1 t2 t3) t3⟩
    ·obtain ⟨τ, t1, t2, t3⟩ := h.two hn
     exact ⟨τ, t1, by omega, t3⟩
    ·obtain ⟨b, b1, b2, b3, b4, b5⟩ := h.less hn hg
     refine ⟨b, b1, by omega, b3, fun τ t1 t2 => ?_, b5⟩
     rcases Int.lt_or_le τ a0 with q | q
     ·exact b4 τ t1 q
     ·exact all τ (by omega) t2
    ·rcases Int.lt_or_le τ a0 with q | q
     ·exact h.more hn hg τ t1 q
     ·exact all τ (by omega) t2
theorem strs_end (e : Int) : ∀ (l : List (Int × Int)) (a o : Int), endOf a (strs a e o l) = e
 | [], a, o => rfl
 | c :: l, a, o => by unfold strs endOf; exact strs_end e l c.1 c.2
theorem strs_at {α : Type} (f g : α → Int) {e : Int} : ∀ (l : List α) (a : Int) (z : α), (∀ c ∈ l, a < f c) → Rises (l.map f) → ∀ s ∈ strs a e (g z) (l.map fun c => (f c, g c)), a ≤ s.a ∧ ∀ τ, s.a ≤ τ → τ < s.b → g (lastLe f τ z l) = s.o
 | [], a, z, _, _, s, hs => by
  obtain rfl : s = ⟨a, e, g z⟩ := by simpa [strs] using hs
  exact ⟨Int.le_refl _, fun τ _ _ => rfl⟩
 | c :: l, a, z, hl, hr, s, hs => by
  have hc := hl c List.mem_cons_self
  rw [List.map_cons, strs] at hs
  rcases List.mem_cons.1 hs with rfl | hs
  ·refine ⟨Int.le_refl _, fun τ t1 t2 => ?_⟩
   have t2' : τ < f c := t2
   unfold lastLe
   rw [if_neg (by omega)]
  ·have hr' : Rises (f c :: l.map f) := hr
   obtain ⟨k1, k2⟩ := strs_at f g l (f c) c (fun d hd => hr'.head_lt _ (List.mem_map_of_mem hd)) hr'.tail s hs
   refine ⟨by omega, fun τ t1 t2 => ?_⟩
   unfold lastLe
   rw [if_pos (by omega)]
   exact k2 τ t1 t2
structure PW {α : Type} (f : α → Int) (A : Int → α) (lo hi : Int) (z : α) (l : List α) : Prop where
 rises : Rises (l.map f)
 mem : ∀ c ∈ l, lo < f c ∧ f c ≤ hi
 at_ : ∀ τ, lo ≤ τ → τ ≤ hi → A τ = lastLe f τ z l
theorem PW.chain {α : Type} {f : α → Int} (g : α → Int) {A : Int → α} {lo hi : Int} {z : α} {l : List α} (h : PW f A lo hi z l) (hlh : lo ≤ hi) : Chain lo (strs lo (hi + 1) (g z) (l.map fun c => (f c, g c))) := by
 refine strs_chain _ _ _ (by omega) (fun c hc => ?_) ?_
 ·obtain ⟨d, hd, rfl⟩ := List.mem_map.1 hc
  have := h.mem d hd
  exact ⟨this.1, by show f d < hi + 1; omega⟩
 ·rw [List.map_map]
  exact h.rises
theorem PW.inst {α : Type} {f : α → Int} {g : α → Int} {A : Int → α} {x : Int} {z : α} {l : List α} (h : PW f A (x - 57600) (x + 57600) z l) (ho : ∀ τ, x - 57600 ≤ τ → τ ≤ x + 57600 → -57600 ≤ g (A τ) ∧ g (A τ) ≤ 57600)
  {P : Gr × Gr} (hP : pGo x (strs (x - 57600) (x + 57600 + 1) (g z) (l.map fun c => (f c, g c))) (⟨0, 0, 0⟩, ⟨0, 0, 0⟩) = P) :
  InstIs (fun τ => g (A τ)) x (if P.2.n = 0 then P.1.l else P.2.f) (if P.2.n = 0 then 2 else if P.2.n = 1 then 0 else 1) := by
 have I0 : InvP (fun τ => g (A τ)) x (x - 57600) (x - 57600) ⟨0, 0, 0⟩ ⟨0, 0, 0⟩ := ⟨Int.le_refl _, Int.le_refl _, fun _ τ t1 t2 => by omega, fun k => absurd k (by decide), fun k => absurd k (by decide), fun k => absurd k (by decide), fun _ k => absurd k (by decide), fun _ _ τ t1 t2 => by omega⟩
 have I := pgo_inv (A := fun τ => g (A τ)) (x := x) (lo := x - 57600) _ (x - 57600) _ _ (h.chain g (by omega)) (Int.le_refl _) (fun s hs τ t1 t2 => ?_) I0
 ·rw [strs_end, hP] at I
  by_cases k : P.2.n = 0
  ·rw [if_pos k, if_pos k]
   refine .inr ⟨rfl, fun τ t1 t2 => I.none k τ t1 (by omega), ?_⟩
   by_cases k2 : P.1.n = 0
   ·exfalso
    have h1 := I.more k k2 (x - 57600) (Int.le_refl _) (by omega)
    have h2 := ho (x - 57600) (Int.le_refl _) (by omega)
    have h3 : x < (x - 57600) + g (A (x - 57600)) := h1
    omega
   ·obtain ⟨b, b1, b2, b3, b4, b5⟩ := I.less k (by have := I.l0; omega)
    exact ⟨b, b1, by omega, b3, fun τ t1 t2 => b4 τ t1 (by omega), b5⟩
  ·rw [if_neg k, if_neg k]
   have hn : 0 < P.2.n := by have := I.n0; omega
   obtain ⟨b1, b2, b3, b4⟩ := I.some hn
   refine .inl ⟨by split <;> simp, ⟨b1, by omega⟩, b3, fun τ t1 t2 => b4 τ t1 (by omega), ?_⟩
   by_cases k1 : P.2.n = 1
   ·rw [if_pos k1]
    refine ⟨fun q => absurd q (by decide), fun ⟨τ, t1, t2, t3, t4⟩ => absurd (I.one k1 τ t1 (by omega) t4) t3⟩
   ·rw [if_neg k1]
    obtain ⟨τ, t1, t2, t3, t4⟩ := I.two (by omega)
    exact ⟨fun _ => ⟨τ, t1, by omega, t3, t4⟩, fun _ => rfl⟩
 ·obtain ⟨e1, e2⟩ := strs_at f g l (x - 57600) z (fun c hc => (h.mem c hc).1) h.rises s hs
  have hch := h.chain g (by omega : x - 57600 ≤ x + 57600)
  have : τ < x + 57600 + 1 := by
   have key : ∀ (m : List St) (a : Int), Chain a m → ∀ s ∈ m, s.b ≤ endOf a m := by
    intro m
    induction m with
    | nil => intro a _ s hs; cases hs
    | cons t m ih =>
     intro a hc s hs
     obtain ⟨c1, c2, c3⟩ := hc
     rcases List.mem_cons.1 hs with rfl | hs
     ·unfold endOf
      have mono : ∀ (m : List St) (a : Int), Chain a m → a ≤ endOf a m := by
       intro m
       induction m with
       | nil => intro a _; exact Int.le_refl _
       | cons t m ih =>
        intro a hc
        obtain ⟨c1, c2, c3⟩ := hc
        have := ih t.b c3
        unfold endOf
        omega
      exact mono m _ c3
     ·unfold endOf
      exact ih _ c3 s hs
   have := key _ _ hch s hs
   rw [strs_end] at this
   omega
  show g (A τ) = s.o
  rw [h.at_ τ (by omega) (by omega)]
  exact e2 τ t1 t2
end Zm
end Go.Proofs.YtklehbmghjcmaaaGreatDoor
namespace Go.Proofs.YtklehbmghjcmaaaGreatDoor
open Go.RowKit Sr
structure ZK (Ok : World → Prop) (T : List Value) (A : Int → TrR) : Prop where
 zf : ZF Ok T
 off : ∀ t, ask t → -57600 ≤ (A t).off ∧ (A t).off ≤ 57600
 at_ : ∀ t, ask t → ∀ w : World, Ok w → Calls Tryz.prog 33 #[.agg T.toArray, vi ki t] w fun r w' => r = zr (.tuple #[trV (A t), vi ki 0]) ∧ Below w.heap.size w w'
 inst : ∀ x, ask x → ask (x - 57600) → ask (x + 57600) → -1000000000000000 ≤ x → x ≤ 1000000000000000 → ∃ a how : Int, Zm.InstIs (fun τ => (A τ).off) x a how ∧ ∀ w : World, Ok w → Calls Tryz.prog 40 #[.agg T.toArray, vi ki x] w fun r w' => r = zr (.tuple #[vi ki a, vi ki how, vi ki 0]) ∧ Below w.heap.size w w'
theorem ZF.also {Ok Q : World → Prop} {T : List Value} (Z : ZF Ok T) (hQ : ∀ W V : World, Q W → Below W.heap.size W V → Q V) : ZF (fun W => Ok W ∧ Q W) T :=
 ⟨Z.len, fun W h => Z.lens W h.1, fun W V h b => ⟨Z.below W V h.1 b, hQ W V h.2 b⟩, fun w h => Z.right w h.1, fun t ht => by obtain ⟨x, hx, C⟩ := Z.at_ t ht; exact ⟨x, hx, fun w hw => C w hw.1⟩, fun x a b c d e => by obtain ⟨p, how, hp, C⟩ := Z.inst x a b c d e; exact ⟨p, how, hp, fun w hw => C w hw.1⟩⟩
theorem ZK.also {Ok Q : World → Prop} {T : List Value} {A : Int → TrR} (Z : ZK Ok T A) (hQ : ∀ W V : World, Q W → Below W.heap.size W V → Q V) : ZK (fun W => Ok W ∧ Q W) T A :=
 ⟨Z.zf.also hQ, Z.off, fun t ht w hw => Z.at_ t ht w hw.1, fun x a b c d e => by obtain ⟨p, how, hp, C⟩ := Z.inst x a b c d e; exact ⟨p, how, hp, fun w hw => C w hw.1⟩⟩
end Go.Proofs.YtklehbmghjcmaaaGreatDoor
