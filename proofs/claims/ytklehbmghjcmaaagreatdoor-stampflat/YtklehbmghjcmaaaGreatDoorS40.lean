import Derived.Test.YtklehbmghjcmaaaGreatDoorSz
import Derived.Test.YtklehbmghjcmaaaGreatDoorS39
import Derived.Test.YtklehbmghjcmaaaGreatDoorS23
import Derived.Test.YtklehbmghjcmaaaGreatDoorS4
import Derived.Test.YtklehbmghjcmaaaGreatDoorS21
import Derived.Test.YtklehbmghjcmaaaGreatDoorS37
open Go.Value renaming int → vi
open Go.IntKind renaming i64 → ki
open List renaming setIfInBounds_toArray → zb, set_cons_zero → zc, set_cons_succ → zd
open Go.Act renaming put → za
open Go.Ending renaming returned → zr
set_option maxRecDepth 100000
set_option maxHeartbeats 16000000
set_option linter.unusedVariables false
namespace Go.Proofs.YtklehbmghjcmaaaGreatDoor
open Go.RowKit Sr
open _root_.Go.Proofs.YtklehbmghjcmaaaGreatDoor.Fn
theorem far_gt {f : Ft} (L : LH f) {t j : Int} (hS : St f t j) {i : Int} (h1 : j < i) (h2 : i ≤ 588563) : t < (gs f i).t := by
 obtain ⟨a, b, c, d⟩ := hS
 by_cases e : i = j + 1
 ·rw [e]; exact d
 ·have := gs_lt L (i := j + 1) (j := i) (by omega) (by omega) h2; omega
theorem rfat_any (f : Ft) (t : Int) (t1 : -9223372036854775808 ≤ t) (t2 : t ≤ 9223372036854775807) :
  ∃ p er, FAt f t p er ∧ ∀ w : World, Cvl.Lens w → Clk.Tab w → Calls Tryz.prog 55 #[.agg (fL f).toArray, vi ki t] w fun e w' => e = zr (.tuple #[.agg #[vi ki p.t, vi ki p.o, .bool p.d, .string p.a], vi ki er]) ∧ Below w.heap.size w w' := by
 cases hf : okF f with
 | false =>
  have RC : ∀ w : World, Calls Tryz.prog 151 #[.agg (fL f).toArray] w fun e w' => e = zr (.bool false) ∧ Below w.heap.size w w' := fun w => by have R := rcan_any f w; rw [hf] at R; exact R
  have N := near_arg f t RC
  exact ⟨z9, 1, .inr ⟨by decide, rfl, .inl hf⟩, fun w _ _ => rat_no f t 1 N w⟩
 | true =>
  have RC : ∀ w : World, Calls Tryz.prog 151 #[.agg (fL f).toArray] w fun e w' => e = zr (.bool true) ∧ Below w.heap.size w w' := fun w => by have R := rcan_any f w; rw [hf] at R; exact R
  obtain ⟨y, hy⟩ := yat_is t
  have YA := ryat_any t y hy t1 t2
  by_cases h : -4714 ≤ y ∧ y ≤ 294278
  ·have L := lh_of hf
   obtain ⟨K, k1, k2, hK, hlo, hS⟩ := findK L hy h.1 h.2
   have NR : ∀ w : World, Cvl.Lens w → Clk.Tab w → Calls Tryz.prog 107 #[.agg (fL f).toArray, vi ki t] w fun e w' => ∃ g cap, e = zr (.tuple #[.slice (some ⟨g, 0, none⟩) 10 cap, vi ki 0]) ∧ Fn.Bx w' g (rowsK f (y - 2) 10) ∧ Below w.heap.size w w' := fun w hL hT => by
    refine (near_ok f t y h.1 h.2 RC YA (fun i hi w hL hT => ryear_ok f (y - 2 + i) hf (by unfold dyY; omega) w hL hT) w hL hT).mono ?_
    rintro e w' ⟨v, rfl, hr, hb⟩
    obtain ⟨g, cap, rfl, _, hx, _⟩ := bx_of_own hr (by omega)
    exact ⟨g, cap, rfl, hx, hb⟩
   have e1 : gs f (2 * (y - 1) + K - 1) = shK f (y - 2) (K + 1) := by rw [shK_gs]; congr 1; omega
   have RA := rat_run f t (y - 2) (K + 1) (by omega) (by rw [← e1]; exact hS.2.2.1) (fun k a b => by rw [shK_gs]; exact far_gt L hS (by omega) (by omega)) NR
   rw [← e1] at RA
   exact ⟨_, 0, .inl ⟨rfl, hf, y, _, hy, h.1, h.2, hS, rfl⟩, fun w hL hT => RA w hL hT⟩
  ·have N := near_range f t y (by omega) RC YA
   exact ⟨z9, 10, .inr ⟨by decide, rfl, .inr ⟨y, hy, by omega⟩⟩, fun w _ _ => rat_no f t 10 N w⟩
theorem okR_tr {L : List TrR} : (∀ j, j < L.length → OkR L j) ↔ ∀ j, j < L.length → OkTr L j := by
 have off : ∀ o, offR o = true ↔ offB o = true := fun o => by unfold offR offB; simp
 have la : ∀ (j : Nat) (p : TrR), L[j]? = some p → lastA L (j + 1) = p.at_ := fun j p h => lastA_succ h
 constructor
 ·intro h
  have low : ∀ (j : Nat) (x : TrR), L[j]? = some x → -1125899906842624 ≤ x.at_ := by
   intro j
   induction j with
   | zero =>
    intro x hx
    obtain ⟨x', e, _, a, _⟩ := h 0 (List.getElem?_eq_some_iff.1 hx).1
    rw [hx] at e; cases e
    have : lastA L 0 = -1125899906842625 := rfl
    omega
   | succ j ih =>
    intro x hx
    have hl := (List.getElem?_eq_some_iff.1 hx).1
    obtain ⟨x', e, _, a, _⟩ := h (j + 1) hl
    rw [hx] at e; cases e
    have hp := List.getElem?_eq_getElem (l := L) (i := j) (by omega)
    rw [la j _ hp] at a
    have := ih _ hp
    omega
  intro j hj
  obtain ⟨x, e, o, a, b⟩ := h j hj
  refine ⟨x, e, (off _).1 o, low j x e, b, ?_⟩
  cases j with
  | zero => exact .inl rfl
  | succ j =>
   have hp := List.getElem?_eq_getElem (l := L) (i := j) (by omega)
   rw [la j _ hp] at a
   exact .inr ⟨_, hp, a⟩
 ·intro h j hj
  obtain ⟨x, e, o, l, b, c⟩ := h j hj
  refine ⟨x, e, (off _).2 o, ?_, b⟩
  cases j with
  | zero => show (-1125899906842625 : Int) < x.at_; omega
  | succ j =>
   rcases c with c | ⟨p, hp, a⟩
   ·omega
   ·rw [Nat.add_sub_cancel] at hp
    rw [la j _ hp]; exact a
theorem has_fl (f : Ft) : (fL f)[0]? = some (.bool f.h) ∧ (fL f)[1]? = some (vi ki f.fr) ∧ (fL f).length = 19 := ⟨rfl, rfl, rfl⟩
theorem rright_any (t : TbR) (sv : Value) (f1 : -9223372036854775808 ≤ t.foot.fr) (f2 : t.foot.fr ≤ 9223372036854775807) :
  ∃ b, RightIs t b ∧ ∀ w : World, Cvl.Lens w → Clk.Tab w → TrAt w sv t.trs → Calls Tryz.prog 21 #[.agg (tbL t sv).toArray] w fun e w' => e = zr (.bool b) ∧ Below w.heap.size w w' := by
 obtain ⟨y, hy⟩ := yat_is t.foot.fr
 obtain ⟨p, er, hp, FA⟩ := rfat_any t.foot t.foot.fr f1 f2
 obtain ⟨r, hr⟩ : ∃ r, r = (decide (1800 ≤ y) && decide (y ≤ 2110) && lastB t.trs t.foot.fr && (decide (er = 0) && decide (p.t = t.foot.fr))) := ⟨_, rfl⟩
 have RI : RfIs t r := ⟨y, p, er, hy, hp, hr⟩
 have off : ∀ o, offR o = offB o := fun o => by unfold offR offB; simp [Bool.decide_and]
 cases h1 : offR t.first.off
 ·refine ⟨false, ⟨r, RI, fun h => (nomatch h), fun h => ?_⟩, fun w _ _ hA => ?_⟩
  ·rw [← off, h1] at h; exact absurd h.2.1 (by decide)
  ·obtain ⟨⟨ao, c, hsv⟩, _, _⟩ := hA
   exact rright_no1 t.nm t.first sv (fL t.foot) rfl h1 ao _ c hsv w
 rcases (Classical.em (t.first.at_ = 0)).symm with h0 | h0
 ·refine ⟨false, ⟨r, RI, fun h => (nomatch h), fun h => absurd h.1 h0⟩, fun w _ _ hA => ?_⟩
  obtain ⟨⟨ao, c, hsv⟩, _, _⟩ := hA
  exact rright_no2 t.nm t.first sv (fL t.foot) rfl h1 h0 ao _ c hsv w
 rcases (Classical.em (t.trs.length ≤ 4096)).symm with h4 | h4
 ·refine ⟨false, ⟨r, RI, fun h => (nomatch h), fun h => absurd h.2.2.1 h4⟩, fun w _ _ hA => ?_⟩
  obtain ⟨⟨ao, c, hsv⟩, hm, _⟩ := hA
  exact rright_no3 t.nm t.first sv (fL t.foot) rfl h1 h0 t.trs (by omega) hm ao _ c hsv rfl w
 rcases (Classical.em (∀ j, j < t.trs.length → OkR t.trs j)).symm with hk | hk
 ·refine ⟨false, ⟨r, RI, fun h => (nomatch h), fun h => absurd (okR_tr.2 h.2.2.2.1) hk⟩, fun w _ _ hA => ?_⟩
  refine rright_bad t.nm t.first sv (fL t.foot) rfl t.trs h0 h1 h4 ?_ w hA
  rcases Classical.em (∃ j, j < t.trs.length ∧ ¬ OkR t.trs j) with h | h
  ·exact h
  ·exact absurd (fun j hj => Classical.byContradiction fun q => h ⟨j, hj, q⟩) hk
 cases hh : t.foot.h
 ·have hf : okF t.foot = false := by unfold okF; rw [hh]; rfl
  have hrf : r = false := by
   rcases hp with ⟨_, k, _⟩ | ⟨k, _⟩
   ·rw [hf] at k; cases k
   ·rw [hr, decide_eq_false k, Bool.false_and, Bool.and_false]
  refine ⟨footZ t.foot, ⟨r, RI, fun h => ⟨h0, by rw [← off]; exact h1, h4, okR_tr.1 hk, .inl h⟩, fun h => ?_⟩, fun w _ _ hA => ?_⟩
  ·rcases h.2.2.2.2 with h | h
   ·exact h
   ·rw [hrf] at h; cases h
  ·exact rright_none t.nm t.first sv (fL t.foot) rfl t.trs h0 h1 h4 hk _ (by rw [(has_fl t.foot).1, hh]) (fun W => rfoot_eq t.foot W) w hA
 ·have hz : footZ t.foot = false := by unfold footZ; rw [hh]; rfl
  refine ⟨decide (er = 0 ∧ p.t = t.foot.fr ∧ lastA t.trs t.trs.length < t.foot.fr ∧ 1800 ≤ y ∧ y ≤ 2110), ⟨r, RI, ?_⟩, fun w hL hT hA => ?_⟩
  ·have e : r = decide (er = 0 ∧ p.t = t.foot.fr ∧ lastA t.trs t.trs.length < t.foot.fr ∧ 1800 ≤ y ∧ y ≤ 2110) := by
    rw [hr]
    have lst : 1800 ≤ y → y ≤ 2110 → (lastB t.trs t.foot.fr = true ↔ lastA t.trs t.trs.length < t.foot.fr) := fun y1 y2 => by
     unfold lastB
     cases hl : t.trs.length with
     | zero =>
      rw [List.getElem?_eq_none (by omega)]
      have : -1125899906842625 < t.foot.fr := by
       rcases hy with ⟨k, _⟩ | ⟨_, _, k⟩ | ⟨_, _, k⟩
       ·have := Cvl.of_can k; omega
       ·omega
       ·omega
      exact ⟨fun _ => this, fun _ => rfl⟩
     | succ n =>
      have hx := List.getElem?_eq_getElem (l := t.trs) (i := n) (by omega)
      rw [Nat.add_sub_cancel, hx, lastA_succ hx]
      exact decide_eq_true_iff
    rw [Bool.eq_iff_iff, Bool.and_eq_true, Bool.and_eq_true, Bool.and_eq_true, Bool.and_eq_true, decide_eq_true_iff, decide_eq_true_iff, decide_eq_true_iff, decide_eq_true_iff, decide_eq_true_iff]
    constructor
    ·rintro ⟨⟨⟨a, b⟩, c⟩, d, e⟩; exact ⟨d, e, (lst a b).1 c, a, b⟩
    ·rintro ⟨d, e, c, a, b⟩; exact ⟨⟨⟨a, b⟩, (lst a b).2 c⟩, d, e⟩
   rw [← e]
   exact ⟨fun h => ⟨h0, by rw [← off]; exact h1, h4, okR_tr.1 hk, .inr h⟩, fun h => h.2.2.2.2.elim (fun q => by rw [hz] at q; cases q) id⟩
  ·have YA := ryat_any t.foot.fr y hy f1 f2
   exact rright_has t.nm t.first sv (fL t.foot) rfl t.trs h0 h1 h4 hk t.foot.fr y er ⟨p.t, p.o, p.d, p.a⟩ _ rfl (by rw [(has_fl t.foot).1, hh]) (has_fl t.foot).2.1 w hA
    (fun W hb => (YA W).mono fun r W' h => ⟨h.1, by rw [h.2]; exact Below.refl _ _⟩) (fun W hb => FA W (Lens_below hL hb (Lens_lt hL)) (hT.below hb))
theorem yat_one {t y z : Int} (a : YAt t y) (b : YAt t z) : y = z := by
 rcases a with ⟨a, a1, a2⟩ | ⟨a, a1, a2⟩ | ⟨a, a1, a2⟩ <;> rcases b with ⟨b, b1, b2⟩ | ⟨b, b1, b2⟩ | ⟨b, b1, b2⟩
 ·exact Cv.year_one a1 a2 b1 b2
 ·rw [a] at b; cases b
 ·rw [a] at b; cases b
 ·rw [a] at b; cases b
 ·omega
 ·omega
 ·rw [a] at b; cases b
 ·omega
 ·omega
theorem fat_one {f : Ft} {t : Int} {p q : Tr} {e g : Int} (a : FAt f t p e) (b : FAt f t q g) : (e = 0 ↔ g = 0) ∧ p = q := by
 rcases a with ⟨a, hf, y, j, hy, y1, y2, hS, rfl⟩ | ⟨a, rfl, a'⟩ <;> rcases b with ⟨b, hf', z, k, hz, z1, z2, hS', rfl⟩ | ⟨b, rfl, b'⟩
 ·obtain rfl := hS.one (lh_of hf) hS'
  exact ⟨⟨fun _ => b, fun _ => a⟩, rfl⟩
 ·exfalso
  rcases b' with b' | ⟨z, hz, b'⟩
  ·rw [hf] at b'; cases b'
  ·have := yat_one hy hz; omega
 ·exfalso
  rcases a' with a' | ⟨y, hy, a'⟩
  ·rw [hf'] at a'; cases a'
  ·have := yat_one hy hz; omega
 ·exact ⟨⟨fun h => absurd h a, fun h => absurd h b⟩, rfl⟩
theorem rf_one {t : TbR} {r s : Bool} (a : RfIs t r) (b : RfIs t s) : r = s := by
 obtain ⟨y, p, e, hy, hp, rfl⟩ := a
 obtain ⟨z, q, g, hz, hq, rfl⟩ := b
 obtain rfl := yat_one hy hz
 obtain ⟨h, rfl⟩ := fat_one hp hq
 rw [show decide (e = 0) = decide (g = 0) from decide_eq_decide.2 h]
theorem right_one {t : TbR} {b c : Bool} (hb : RightIs t b) (hc : RightIs t c) : b = c := by
 obtain ⟨r, R, hr⟩ := hb
 obtain ⟨s, S, hs⟩ := hc
 obtain rfl := rf_one R S
 rw [Bool.eq_iff_iff, hr, hs]
end Go.Proofs.YtklehbmghjcmaaaGreatDoor
namespace Go.Proofs.YtklehbmghjcmaaaGreatDoor
open Go.RowKit Sr
theorem mdk_d {u y p q D : Int} (hu : Dy.dok (u / 86400000000) = true) : mdk (u / 86400000000) y p q 0 D = Dy.dok (u / 86400000000 + D) ∧ mdv u y p q 0 D = u + D * 86400000000 := by
 refine ⟨?_, ?_⟩
 ·unfold mdk s1k s1v
  rw [if_pos rfl, if_pos rfl, Bool.true_and]
 ·unfold mdv s1v
  rw [if_pos rfl]
  omega
theorem az_flat {A : Int → TrR} {i u n I V E : Int} (h : AddIs i u 0 0 0 n I V E) : AzIs A i u 0 0 0 n I V E := by
 rcases h with h | h | ⟨rfl, _, h1, h2, y, p, q, hq, rfl, rfl, rfl⟩
 ·exact .inl h
 ·exact .inr (.inl h)
 ·obtain ⟨k1, k2⟩ := mdk_d (y := y) (p := p) (q := q) (D := 0) h1
  rw [Int.add_zero, h1] at k1
  rw [if_pos k1, if_pos k1, k2]
  exact .inr (.inr ⟨rfl, rfl, h1, h2, rfl, .inl ⟨rfl, rfl, by rw [Int.zero_mul, Int.add_zero], by rw [Int.zero_mul, Int.add_zero]⟩⟩)
theorem zk_utc : ZK (OkF (.slice none 0 0) []) utL (fun _ => fU) := zk_none nmU fU none 0 0 (Nat.le_refl _) [] rfl noU (fun _ => fU) (fun τ => rfl)
theorem okf_utc {w : World} (HL : Cvl.Lens w) (HT : Clk.Tab w) : OkF (.slice none 0 0) [] w := ⟨⟨⟨⟨none, 0, rfl⟩, by decide, .inl rfl⟩, HL⟩, HT⟩
theorem utc_days {i u D N J X G L Y H : Int} (hD : -10000 < D ∧ D < 10000) (hN : N = D * 86400000000) (h1 : AzIs (fun _ => fU) i u 0 0 D 0 J X G) (h2 : AddIs i u 0 0 0 N L Y H) : G ≠ 0 ∨ H ≠ 0 ∨ (L = J ∧ Y = X) := by
 rcases Classical.em (G = 0) with hG | hG
 ·rcases Classical.em (H = 0) with hH | hH
  ·refine .inr (.inr ?_)
   have pN : Sp.pR 0 0 0 N = true := pR_of (by omega)
   rcases h1 with ⟨_, _, _, h⟩ | ⟨s1, _, hn, rfl, rfl, _⟩ | ⟨rfl, _, s1, _, rfl, h⟩
   ·omega
   ·rcases h2 with ⟨h, _⟩ | ⟨_, _, _, rfl, rfl, _⟩ | ⟨h, _⟩
    ·exact absurd ⟨s1, pN⟩ h
    ·exact ⟨rfl, rfl⟩
    ·exact absurd ⟨h, rfl⟩ hn
   ·rcases h2 with ⟨h', _⟩ | ⟨_, _, h', _⟩ | ⟨_, _, _, _, y, p, q, hq, rfl, hY, hH'⟩
    ·exact absurd ⟨s1, pN⟩ h'
    ·exact absurd ⟨rfl, rfl⟩ h'
    ·obtain ⟨k1, k2⟩ := mdk_d (y := y) (p := p) (q := q) (D := 0) s1
     rw [Int.add_zero, s1] at k1
     rw [Int.zero_mul, Int.add_zero] at k2
     rw [if_pos k1, k2] at hY hH'
     have hYe : Y = u + N := by rw [hY, mo_is (hH'.symm.trans hH)]
     refine ⟨rfl, ?_⟩
     rcases h with ⟨_, rfl, hX, hG'⟩ | ⟨_, h⟩
     ·rw [hX, mo_is (hG'.symm.trans hG)]; omega
     ·have e0 : (((fun _ => fU) (sc u) : TrR).off * 1000000) = 0 := rfl
      obtain ⟨z2, z1⟩ := mo_zero s1
      rcases h with ⟨h, _⟩ | ⟨_, V2, E2, hA, h⟩
      ·exact absurd z1 h
      ·have hA' : AddIs 0 u 0 0 D 0 0 V2 E2 := by rw [← z2]; exact hA
       rcases h with ⟨h, _, hE⟩ | ⟨rfl, a, how, hI, h⟩
       ·omega
       ·have pD : Sp.pR 0 0 D 0 = true := pR_of (by omega)
        have hv2 := addis_dok s1 pD hA'
        have eV2 : V2 = u + D * 86400000000 := by
         rcases hA' with ⟨_, _, _, h⟩ | ⟨_, _, h, _⟩ | ⟨_, _, _, _, y, p, q, hq, _, hV, hE⟩
         ·cases h
         ·exact absurd ⟨rfl, rfl⟩ h
         ·obtain ⟨k1, k2⟩ := mdk_d (y := y) (p := p) (q := q) (D := D) s1
          by_cases k : mdk (u / 86400000000) y p q 0 D = true
          ·rw [if_pos k, k2] at hV hE
           rw [hV, mo_is hE.symm, Int.add_zero]
          ·rw [if_neg k] at hE; cases hE
        obtain ⟨y2, y1⟩ := mo_zero hv2
        have ea : a = sc V2 := by
         rcases hI with ⟨_, _, h3, _⟩ | ⟨_, h3, _⟩
         ·have h3' : a + 0 = sc V2 := h3
          omega
         ·exact absurd (show sc V2 + 0 = sc V2 by omega) (h3 (sc V2) (by omega) (by omega))
        subst ea
        rw [show (sc V2 - sc V2) * 1000000 = 0 by omega, y1, y2] at h
        rcases h with ⟨h, _⟩ | ⟨_, hX, _⟩
        ·exact absurd rfl h
        ·rw [hX]; omega
  ·exact .inr (.inl hH)
 ·exact .inl hG
theorem gf_any (t : TbR) (sv : Value) (rb : Bool) (hrb : RightIs t rb) (f1 : -9223372036854775808 ≤ t.foot.fr) (f2 : t.foot.fr ≤ 9223372036854775807) (h40 : t.trs.length * 40 ≤ 140737488355328) (i u n I V E : Int) (u1 : -9223372036854775808 ≤ u) (u2 : u ≤ 9223372036854775807) (n1 : -9223372036854775808 ≤ n) (n2 : n ≤ 9223372036854775807) (hAd : AddIs i u 0 0 0 n I V E)
  (w : World) (HL : Cvl.Lens w) (HT : Clk.Tab w) (HA : TransA w sv t.trs) (hg : ∀ a n c, sv = .slice (some a) n c → a.block < w.heap.size ∧ a.spot = none) :
  Calls Tryz.prog 9 #[.agg (tbL t sv).toArray] w fun e w' => ∃ (T : List Value) (Ok : World → Prop), e = zr (.agg T.toArray) ∧ T.length = 25 ∧ T.toArray.all (·.oneCell') = true ∧ Ok w' ∧ (∀ A B : World, Ok A → Below A.heap.size A B → Ok B) ∧ (∀ A : World, Ok A → Ok A.drew) ∧ Below w.heap.size w w' ∧ (rb = true → n ≠ -9223372036854775808 → FlatIs T Ok i u n I V E) := by
 refine (given_any17 t sv w HA h40 hg).mono ?_
 rintro e W ⟨sv', rfl, hT, hb, hcap⟩
 obtain ⟨⟨ao, c, rfl⟩, hlen, _⟩ := id hT
 have HL' : Cvl.Lens W := (Dy.lens_of HL).out W hb
 have HT' : Clk.Tab W := HT.below hb
 obtain ⟨bb, hR, RT⟩ := right_any t (.slice ao t.trs.length c) f1 f2
 refine ⟨tbL t (.slice ao t.trs.length c), OkF (.slice ao t.trs.length c) t.trs, rfl, by simp [tbL, trC, Fn.fL], one_tf t.nm t.first ao _ c t.foot, ⟨⟨hT, HL'⟩, HT'⟩, fun A B h k => h.below k, fun A h => h.below ((Below.refl _ _).drew), hb, fun hr _ => ?_⟩
 obtain rfl := right_one hrb hR
 subst hr
 obtain ⟨A, hA⟩ := ck_any hR
 exact fun w hw => kaz (zk_any t ao _ c (hcap _ _ _ rfl) rfl hR hA RT) i u 0 0 0 n I V E (az_flat hAd) u1 u2 n1 n2 w hw
end Go.Proofs.YtklehbmghjcmaaaGreatDoor
