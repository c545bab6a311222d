import Derived.Test.YtklehbmghjcmaaaGreatDoorSz
import Derived.Test.YtklehbmghjcmaaaGreatDoorS36
import Derived.Test.YtklehbmghjcmaaaGreatDoorS11
import Derived.Test.YtklehbmghjcmaaaGreatDoorS19
import Derived.SizedLaws
import Derived.Test.YtklehbmghjcmaaaGreatDoorS22
open Go.Value renaming int → vi
open Go.IntKind renaming i64 → ki
open List renaming setIfInBounds_toArray → zb, set_cons_zero → zc, set_cons_succ → zd
open Go.Act renaming put → za
open Go.Ending renaming returned → zr
set_option maxRecDepth 100000
set_option maxHeartbeats 16000000
set_option linter.unusedVariables false
namespace Go.Proofs.YtklehbmghjcmaaaGreatDoor
open Go.RowKit Sr
theorem ftL_succ (f : Fn.Ft) (js : Int) (n : Nat) : ftL f js (n + 1) = trT (Fn.gs f (js + 1)) :: ftL f (js + 1) n := by
 unfold ftL
 rw [List.range_succ_eq_map, List.map_cons, List.map_map]
 congr 1
 ·rw [show js + 1 + ((0 : Nat) : Int) = js + 1 by omega]
 ·apply List.map_congr_left
  intro i _
  show trT (Fn.gs f (js + 1 + ((i + 1 : Nat) : Int))) = _
  rw [show js + 1 + ((i + 1 : Nat) : Int) = js + 1 + 1 + (i : Int) by omega]
theorem ft_run {f : Fn.Ft} (L : Fn.LH f) {τ j : Int} (hj : Fn.St f τ j) : ∀ (n : Nat) (js : Int), -9434 ≤ js → js ≤ j → j ≤ js + n → Zm.lastLe (fun c : TrR => c.at_) τ (trT (Fn.gs f js)) (ftL f js n) = trT (Fn.gs f j)
 | 0, js, _, h1, h2 => by
  obtain rfl : js = j := by omega
  rfl
 | n + 1, js, h0, h1, h2 => by
  obtain ⟨a1, a2, a3, a4⟩ := hj
  rw [ftL_succ]
  unfold Zm.lastLe
  by_cases k : js = j
  ·subst k
   rw [if_neg (by show ¬ (Fn.gs f (js + 1)).t ≤ τ; omega)]
  ·have := gs_le L (i := js + 1) (j := j) (by omega) (by omega) (by omega)
   rw [if_pos (by show (Fn.gs f (js + 1)).t ≤ τ; omega)]
   exact ft_run L ⟨a1, a2, a3, a4⟩ n (js + 1) (by omega) (by omega) (by omega)
def CkIs (f : TrR) (L : List TrR) (ft : Fn.Ft) (A : Int → TrR) : Prop :=
 (∀ τ, (ft.h = true → τ < ft.fr) → A τ = curT f L (Zm.cntLe τ (L.map (·.at_)))) ∧ ∀ τ j, ft.h = true → ft.fr ≤ τ → Fn.St ft τ j → A τ = trT (Fn.gs ft j)
theorem ck_pick {α β : Type} {P : α → β → Prop} (h : ∀ x, ∃ y, P x y) : ∃ f : α → β, ∀ x, P x (f x) := ⟨fun x => Classical.choose (h x), fun x => Classical.choose_spec (h x)⟩
theorem ck_ex (f : TrR) (L : List TrR) (ft : Fn.Ft) (hf : ft.h = true → Fn.okF ft = true) : ∃ A, CkIs f L ft A := by
 have key : ∀ τ : Int, ∃ v : TrR, ((ft.h = true → τ < ft.fr) → v = curT f L (Zm.cntLe τ (L.map (·.at_)))) ∧ ∀ j, ft.h = true → ft.fr ≤ τ → Fn.St ft τ j → v = trT (Fn.gs ft j) := fun τ => by
  rcases Classical.em (ft.h = true ∧ ft.fr ≤ τ) with k | k
  ·rcases Classical.em (∃ j, Fn.St ft τ j) with ⟨j, hj⟩ | q
   ·exact ⟨trT (Fn.gs ft j), fun h => by have := h k.1; omega, fun i _ _ hi => by rw [Fn.St.one (Fn.lh_of (hf k.1)) hi hj]⟩
   ·exact ⟨f, fun h => by have := h k.1; omega, fun i _ _ hi => absurd ⟨i, hi⟩ q⟩
  ·exact ⟨_, fun _ => rfl, fun i h1 h2 _ => absurd ⟨h1, h2⟩ k⟩
 obtain ⟨A, hA⟩ := ck_pick key
 exact ⟨A, fun τ => (hA τ).1, fun τ j => (hA τ).2 j⟩
theorem cur_last (f : TrR) (L : List TrR) (τ : Int) : curT f L (Zm.cntLe τ (L.map (·.at_))) = Zm.lastLe (fun c : TrR => c.at_) τ f L := by
 rw [Zm.lastLe_get]; rfl
theorem chg_mem {lo hi : Int} {L : List TrR} (hr : Zm.Rises (L.map (·.at_))) : ∀ c ∈ Zm.chg lo hi L, c ∈ L ∧ lo < c.at_ ∧ c.at_ ≤ hi := fun c hc => by
 unfold Zm.chg at hc
 rw [Zm.drop_take (fun y : TrR => y.at_) _ _ L hr] at hc
 have := List.mem_filter.1 hc
 simp at this
 exact this
theorem chg_rises {lo hi : Int} {L : List TrR} (hr : Zm.Rises (L.map (·.at_))) : Zm.Rises ((Zm.chg lo hi L).map (·.at_)) := by
 refine Zm.rises_sub hr (List.Sublist.map _ ?_)
 unfold Zm.chg
 exact (List.takeWhile_sublist _).trans (List.drop_sublist _ _)
theorem pw_list {f : TrR} {L : List TrR} (hr : Zm.Rises (L.map (·.at_))) {A : Int → TrR} {lo hi : Int} (hA : ∀ τ, lo ≤ τ → τ ≤ hi → A τ = curT f L (Zm.cntLe τ (L.map (·.at_)))) :
  Zm.PW (fun c : TrR => c.at_) A lo hi (curT f L (Zm.cntLe lo (L.map (·.at_)))) (Zm.chg lo hi L) := by
 refine ⟨chg_rises hr, fun c hc => (chg_mem hr c hc).2, fun τ t1 t2 => ?_⟩
 rw [hA τ t1 t2, cur_last, cur_last]
 exact Zm.lastLe_cut _ lo hi τ t1 t2 L f
theorem pw_foot {f : TrR} {L : List TrR} (hr : Zm.Rises (L.map (·.at_))) {ft : Fn.Ft} (hf : Fn.okF ft = true) (hh : ft.h = true) (hla : ∀ x ∈ L, x.at_ < ft.fr) (hp : ∃ j, Fn.St ft ft.fr j ∧ (Fn.gs ft j).t = ft.fr) {A : Int → TrR} (hA : CkIs f L ft A) {lo hi : Int} (hlh : lo < hi)
  (hst : ∀ τ, lo ≤ τ → τ ≤ hi → ∃ j, Fn.St ft τ j) {x0 : TrR} {FT : List TrR} {ja : Int} (hja : Fn.St ft lo ja) (hx0 : x0 = if ft.h = true ∧ ft.fr ≤ lo then trT (Fn.gs ft ja) else curT f L (Zm.cntLe lo (L.map (·.at_))))
  (hF : (hi ≤ max lo (ft.fr - 1) ∧ FT = []) ∨ ∃ js jb, Fn.St ft (max lo (ft.fr - 1)) js ∧ Fn.St ft hi jb ∧ max lo (ft.fr - 1) < hi ∧ FT = ftL ft js (jb - js).toNat) :
  Zm.PW (fun c : TrR => c.at_) A lo hi x0 (Zm.chg lo hi L ++ FT) := by
 have LHf := Fn.lh_of hf
 obtain ⟨hA1, hA2⟩ := hA
 have hFm : ∀ c ∈ FT, lo < c.at_ ∧ c.at_ ≤ hi ∧ ft.fr ≤ c.at_ := by
  rcases hF with ⟨_, rfl⟩ | ⟨js, jb, hjs, hjb, hsb, rfl⟩
  ·intro c hc; cases hc
  ·intro c hc
   obtain ⟨k, hk⟩ := List.getElem?_of_mem hc
   have hk2 : k < (jb - js).toNat := by have := (List.getElem?_eq_some_iff.1 hk).1; rwa [ftL_len] at this
   rw [ftL_get hk2] at hk
   obtain rfl : trT (Fn.gs ft (js + 1 + (k : Int))) = c := by simpa using hk
   obtain ⟨a1, a2, a3, a4⟩ := hjs
   obtain ⟨b1, b2, b3, b4⟩ := hjb
   have e1 := gs_le LHf (i := js + 1) (j := js + 1 + (k : Int)) (by omega) (by omega) (by omega)
   have e2 := gs_le LHf (i := js + 1 + (k : Int)) (j := jb) (by omega) (by omega) (by omega)
   show lo < (Fn.gs ft (js + 1 + (k : Int))).t ∧ (Fn.gs ft (js + 1 + (k : Int))).t ≤ hi ∧ ft.fr ≤ (Fn.gs ft (js + 1 + (k : Int))).t
   omega
 have hFr : Zm.Rises (FT.map (·.at_)) := by
  rcases hF with ⟨_, rfl⟩ | ⟨js, jb, hjs, hjb, hsb, rfl⟩
  ·trivial
  ·refine rises_of _ (fun k p q hp' hq => ?_)
   have hk : k + 1 < (jb - js).toNat := by have := (List.getElem?_eq_some_iff.1 hq).1; rwa [ftL_len] at this
   rw [ftL_get (by omega)] at hp'
   rw [ftL_get hk] at hq
   cases hp'; cases hq
   show (Fn.gs ft (js + 1 + (k : Int))).t < (Fn.gs ft (js + 1 + ((k + 1 : Nat) : Int))).t
   have := hjs.1; have := hjb.2.1
   exact Fn.gs_lt LHf (by omega) (by omega) (by omega)
 refine ⟨?_, fun c hc => ?_, fun τ t1 t2 => ?_⟩
 ·rw [List.map_append]
  refine Zm.rises_app (chg_rises hr) hFr (fun a ha b hb => ?_)
  obtain ⟨c, hc, rfl⟩ := List.mem_map.1 ha
  obtain ⟨d, hd, rfl⟩ := List.mem_map.1 hb
  have := hla c (chg_mem hr c hc).1
  have := (hFm d hd).2.2
  omega
 ·rcases List.mem_append.1 hc with hc | hc
  ·exact (chg_mem hr c hc).2
  ·exact ⟨(hFm c hc).1, (hFm c hc).2.1⟩
 ·rcases Int.lt_or_le τ ft.fr with k | k
  ·rw [hA1 τ (fun _ => k), Zm.lastLe_app_gt _ _ _ _ _ (fun c hc => by have := (hFm c hc).2.2; show τ < c.at_; omega), hx0, if_neg (by omega), cur_last, cur_last]
   exact Zm.lastLe_cut _ lo hi τ t1 t2 L f
  ·obtain ⟨j, hj⟩ := hst τ t1 t2
   rw [hA2 τ j hh k hj]
   obtain ⟨z', hz1, hz2, hz3⟩ := Zm.lastLe_app_le (fun c : TrR => c.at_) τ (Zm.chg lo hi L) FT x0 (fun c hc => by have := hla c (chg_mem hr c hc).1; show c.at_ ≤ τ; omega)
   rw [hz3]
   rcases hF with ⟨q, _⟩ | ⟨js, jb, hjs, hjb, hsb, rfl⟩
   ·exfalso; omega
   ·have hjb' := st_le LHf hj hjb t2
    rcases Int.lt_or_le lo ft.fr with m | m
    ·-- the foot begins within the time
     obtain ⟨jf, hjf, hjt⟩ := hp
     rw [show max lo (ft.fr - 1) = ft.fr - 1 by omega] at hjs
     have e : jf = js + 1 := by
      have l1 := st_le LHf hjs hjf (by omega)
      rcases Int.lt_or_le (js + 1) jf with g | g
      ·have := Fn.gs_lt LHf (i := js + 1) (j := jf) (by have := hjs.1; omega) g (by have := hjf.2.1; omega)
       have := hjs.2.2.2
       omega
      ·rcases Int.lt_or_le js jf with g' | g'
       ·omega
       ·have : js = jf := by omega
        subst this
        have := hjs.2.2.1
        omega
     subst e
     have l2 := st_le LHf hjf hj k
     have l3 : (jb - js).toNat = (jb - (js + 1)).toNat + 1 := by omega
     rw [l3, ftL_succ]
     unfold Zm.lastLe
     rw [if_pos (by show (Fn.gs ft (js + 1)).t ≤ τ; omega)]
     exact (ft_run LHf hj _ (js + 1) hjf.1 l2 (by omega)).symm
    ·rw [show max lo (ft.fr - 1) = lo by omega] at hjs
     obtain rfl := Fn.St.one LHf hja hjs
     have hn : Zm.chg lo hi L = [] := by
      cases hc : Zm.chg lo hi L with
      | nil => rfl
      | cons c l =>
       have hm := chg_mem hr c (show c ∈ Zm.chg lo hi L by rw [hc]; exact List.mem_cons_self)
       have := hla c hm.1
       omega
     rw [hz2 hn, hx0, if_pos ⟨hh, m⟩]
     have l2 := st_le LHf hja hj t1
     exact (ft_run LHf hj _ ja hja.1 l2 (by omega)).symm
structure ZK (Ok : World → Prop) (T : List Value) (A : Int → TrR) : Prop where
 zf : ZF Ok T
 off : ∀ t, ask t → -57600 ≤ (A t).off ∧ (A t).off ≤ 57600
 at_ : ∀ t, ask t → ∀ w : World, Ok w → Calls Tryz.prog 33 #[.agg T.toArray, vi ki t] w fun r w' => r = zr (.tuple #[trV (A t), vi ki 0]) ∧ Below w.heap.size w w'
 inst : ∀ x, ask x → ask (x - 57600) → ask (x + 57600) → -1000000000000000 ≤ x → x ≤ 1000000000000000 → ∃ a how : Int, Zm.InstIs (fun τ => (A τ).off) x a how ∧ ∀ w : World, Ok w → Calls Tryz.prog 40 #[.agg T.toArray, vi ki x] w fun r w' => r = zr (.tuple #[vi ki a, vi ki how, vi ki 0]) ∧ Below w.heap.size w w'
theorem zk_none (nm : ByteArray) (f : TrR) (ao : Option Addr) (n c : Nat) (hnc : n ≤ c) (L : List TrR) (hn : L.length = n) (h : NoF f L) (A : Int → TrR) (hA : ∀ τ, A τ = curT f L (Zm.cntLe τ (L.map (·.at_)))) : ZK (OkF (.slice ao n c) L) (tbF nm f (.slice ao n c) zeF) A := by
 refine ⟨zf_none nm f ao n c hnc L hn h, fun t _ => by rw [hA]; exact h.cur _, fun t ht w hw => by rw [hA]; exact nat_ nm f _ L h t ht w hw.1, fun x h0 h1 h2 x1 x2 => ?_⟩
 have P := (pw_list h.rises (lo := x - 57600) (hi := x + 57600) (fun τ _ _ => hA τ)).inst (g := fun c : TrR => c.off) (fun τ _ _ => by rw [hA]; exact h.cur _) (P := Zm.pGo x (stsN f L x) (⟨0, 0, 0⟩, ⟨0, 0, 0⟩)) rfl
 exact ⟨_, _, P, fun w hw => nin_ nm f ao n c hnc L hn h x h0 h1 h2 x1 x2 w hw.1⟩
theorem zk_foot (nm : ByteArray) (f : TrR) (ft : Fn.Ft) (ao : Option Addr) (n c : Nat) (hnc : n ≤ c) (L : List TrR) (hn : L.length = n) (h : NoF f L) (hf : Fn.okF ft = true) (hla : ∀ x ∈ L, x.at_ < ft.fr) (f1 : -1000000000000000000 ≤ ft.fr) (f2 : ft.fr ≤ 1000000000000000000) (hp : ∃ j, Fn.St ft ft.fr j ∧ (Fn.gs ft j).t = ft.fr)
  (RT : ∀ w : World, OkF (.slice ao n c) L w → Calls Tryz.prog 31 #[.agg (tbF nm f (.slice ao n c) (Fn.fL ft)).toArray] w fun r' w' => r' = zr (.bool true) ∧ Below w.heap.size w w') (A : Int → TrR) (hA : CkIs f L ft A) : ZK (OkF (.slice ao n c) L) (tbF nm f (.slice ao n c) (Fn.fL ft)) A := by
 have hh : ft.h = true := by have := hf; unfold Fn.okF at this; simp at this; exact this.1.1.1.1.1
 have stx : ∀ t, ask t → ∃ j, Fn.St ft t j := fun t ht => by
  obtain ⟨y, hy, y1, y2, t1, t2⟩ := ask_y ht
  obtain ⟨j, hj, _, _⟩ := Fn.stand_ok ft t y hf hy y1 y2 t1 t2
  exact ⟨j, hj⟩
 have off : ∀ t, ask t → -57600 ≤ (A t).off ∧ (A t).off ≤ 57600 := fun t ht => by
  rcases Int.lt_or_le t ft.fr with k | k
  ·rw [hA.1 t (fun _ => k)]; exact h.cur _
  ·obtain ⟨j, hj⟩ := stx t ht
   rw [hA.2 t j hh k hj]; exact gs_off hf j
 refine ⟨zf_foot nm f ft ao n c hnc L hn h hf hla f1 f2 RT, off, fun t ht w hw => ?_, fun x h0 h1 h2 x1 x2 => ?_⟩
 ·obtain ⟨t1, t2, y, hy, ha⟩ := ht
  have hk := of_decide_eq_true ha
  obtain ⟨j, hj, FA, _⟩ := Fn.stand_ok ft t y hf hy hk.1 hk.2 t1 t2
  have R := zat_any nm f (.slice ao n c) (Fn.fL ft) rfl ft.h ft.fr t rfl rfl L true (fun _ => ⟨h.rises, h.h3⟩) y (trT (Fn.gs ft j)) 0 w hw.1.1
   (fun W hb => RT W (hw.below hb)) (fun W hb => Fn.yat_any t y hy t1 t2 W (hw.below hb).1.2) (fun _ _ _ _ W hb => FA W (hw.below hb).1.2 (hw.below hb).2)
  unfold atP atE at R
  rw [if_pos rfl, if_pos rfl, if_pos ha, if_pos ha] at R
  by_cases k : ft.h = true ∧ ft.fr ≤ t
  ·rw [if_pos k] at R
   rw [hA.2 t j hh k.2 hj]
   exact R
  ·rw [if_neg k] at R
   rw [hA.1 t (fun q => (Int.lt_or_le t ft.fr).elim id (fun g => absurd ⟨q, g⟩ k))]
   exact R
 ·obtain ⟨x0, FT, _, _, ⟨ja, hja, hx0⟩, hF, C⟩ := fin_ nm f ft ao n c hnc L hn h hf hla f1 f2 RT x h0 h1 h2 x1 x2
  have P := (pw_foot h.rises hf hh hla hp hA (lo := x - 57600) (hi := x + 57600) (by omega) (fun τ t1 t2 => stx τ (ask_mid h1 h2 t1 t2)) hja hx0 hF).inst (g := fun c : TrR => c.off) (fun τ t1 t2 => off τ (ask_mid h1 h2 t1 t2)) (P := Zm.pGo x (stsC x0 (Zm.chg (x - 57600) (x + 57600) L ++ FT) x) (⟨0, 0, 0⟩, ⟨0, 0, 0⟩)) rfl
  exact ⟨_, _, P, C⟩
theorem right_is {t : TbR} (hR : RightIs t true) : NoF t.first t.trs ∧ ((t.foot.h = false ∧ Fn.fL t.foot = zeF) ∨ (Fn.okF t.foot = true ∧ t.foot.h = true ∧ (∀ x ∈ t.trs, x.at_ < t.foot.fr) ∧ (-1000000000000000000 ≤ t.foot.fr ∧ t.foot.fr ≤ 1000000000000000000) ∧ ∃ j, Fn.St t.foot t.foot.fr j ∧ (Fn.gs t.foot j).t = t.foot.fr)) := by
 obtain ⟨r, hrf, hiff⟩ := hR
 obtain ⟨h1, h2, h3, h4, h5⟩ := hiff.1 rfl
 have h : NoF t.first t.trs := ⟨h1, h2, h3, h4⟩
 refine ⟨h, ?_⟩
 rcases h5 with h5 | h5
 ·refine .inl ⟨?_, footZ_is h5⟩
  unfold footZ at h5
  cases hh : t.foot.h
  ·rfl
  ·rw [hh] at h5; simp at h5
 ·subst h5
  obtain ⟨y, p, er, hy, hfa, hb⟩ := hrf
  have hb2 : (decide (1800 ≤ y) && decide (y ≤ 2110) && lastB t.trs t.foot.fr && (decide (er = 0) && decide (p.t = t.foot.fr))) = true := hb.symm
  simp only [Bool.and_eq_true, decide_eq_true_eq] at hb2
  obtain ⟨⟨⟨y1, y2⟩, hl⟩, he, hp⟩ := hb2
  have hf : Fn.okF t.foot = true ∧ ∃ j, Fn.St t.foot t.foot.fr j ∧ (Fn.gs t.foot j).t = t.foot.fr := by
   rcases hfa with ⟨_, k, y', j, _, _, _, hS, rfl⟩ | ⟨k, _⟩
   ·exact ⟨k, j, hS, hp⟩
   ·exact absurd he k
  have hfr : -1000000000000000000 ≤ t.foot.fr ∧ t.foot.fr ≤ 1000000000000000000 := by
   rcases hy with ⟨k, _⟩ | ⟨_, _, k⟩ | ⟨_, _, k⟩
   ·have := Cvl.of_can k; omega
   ·omega
   ·omega
  have hla : ∀ x ∈ t.trs, x.at_ < t.foot.fr := fun x hx => by
   unfold lastB at hl
   cases hz : t.trs[t.trs.length - 1]? with
   | none => have := List.getElem?_eq_none_iff.1 hz; have := List.length_pos_of_mem hx; omega
   | some z =>
    rw [hz] at hl
    have := of_decide_eq_true hl
    have := rises_last h.rises hz x hx
    omega
  exact .inr ⟨hf.1, by have := hf.1; unfold Fn.okF at this; simp at this; exact this.1.1.1.1.1, hla, hfr, hf.2⟩
theorem ck_any {t : TbR} (hR : RightIs t true) : ∃ A, CkIs t.first t.trs t.foot A := by
 obtain ⟨_, h⟩ := right_is hR
 refine ck_ex _ _ _ (fun hh => ?_)
 rcases h with h | h
 ·rw [h.1] at hh; cases hh
 ·exact h.1
theorem zk_any (t : TbR) (ao : Option Addr) (n c : Nat) (hnc : n ≤ c) (hn : t.trs.length = n) (hR : RightIs t true) {A : Int → TrR} (hA : CkIs t.first t.trs t.foot A)
  (RT : ∀ w : World, Cvl.Lens w → Clk.Tab w → TrAt w (.slice ao n c) t.trs → Calls Tryz.prog 31 #[.agg (tbL t (.slice ao n c)).toArray] w fun e w' => e = zr (.bool true) ∧ Below w.heap.size w w') : ZK (OkF (.slice ao n c) t.trs) (tbL t (.slice ao n c)) A := by
 obtain ⟨h, h5⟩ := right_is hR
 rcases h5 with ⟨hh, h5⟩ | ⟨hf, hh, hla, hfr, hp⟩
 ·have e : tbL t (.slice ao n c) = tbF t.nm t.first (.slice ao n c) zeF := by unfold tbL tbF; rw [h5]
  rw [e]
  exact zk_none t.nm t.first ao n c hnc t.trs hn h A (fun τ => hA.1 τ (fun q => by rw [hh] at q; cases q))
 ·exact zk_foot t.nm t.first t.foot ao n c hnc t.trs hn h hf hla hfr.1 hfr.2 hp (fun w hw => RT w hw.1.2 hw.2 hw.1.1) A hA
def sc (u : Int) : Int := u / 1000000 + 946684800
theorem klocal {Ok : World → Prop} {T : List Value} {A : Int → TrR} (Z : ZK Ok T A) (u : Int) (hu : Dy.dok (u / 86400000000) = true) (w : World) (hw : Ok w) :
  Calls Tryz.prog 10 #[.agg T.toArray, .agg #[vi ki 0, vi ki u]] w fun r w' => r = zr (.tuple #[.agg #[vi ki 0, vi ki (moV u ((A (sc u)).off * 1000000))], vi ki (moE u ((A (sc u)).off * 1000000))]) ∧ Below w.heap.size w w' := by
 obtain ⟨u1, u2⟩ := dok_bd hu
 have ha : ask (sc u) := ask_st hu (by unfold sc; omega) (by unfold sc; omega)
 have hx := Z.off _ ha
 exact lo_ok Ok T Z.zf.len u _ (A (sc u)).at_ (A (sc u)).off ((A (sc u)).off * 1000000) _ _ (A (sc u)).dst (A (sc u)).ab (by rw [IntKind.wrap_i64]; omega) Z.zf.right (fun w hw => rst_yes hu w (Z.zf.lens w hw)) (fun w => sec_any 0 u u1 u2 w) (fun w hw => Z.at_ _ ha w hw) (fun w hw => more_any 0 u _ u1 u2 (by omega) (by omega) w (Z.zf.lens w hw)) w (fun W hb => Z.zf.below w W hw hb)
theorem kinst {Ok : World → Prop} {T : List Value} {A : Int → TrR} (Z : ZK Ok T A) (u : Int) (hu : Dy.dok (u / 86400000000) = true) :
  ∃ a how, Zm.InstIs (fun τ => (A τ).off) (sc u) a how ∧ (sc u - 57600 ≤ a ∧ a ≤ sc u + 57600) ∧ ∀ w : World, Ok w → Calls Tryz.prog 12 #[.agg T.toArray, .agg #[vi ki 0, vi ki u]] w fun r w' =>
   r = zr (.tuple #[.agg #[vi ki 0, vi ki (if moE u ((a - sc u) * 1000000) = 0 then moV u ((a - sc u) * 1000000) else 0)], vi ki (if moE u ((a - sc u) * 1000000) = 0 then how else 0), vi ki (moE u ((a - sc u) * 1000000))]) ∧ Below w.heap.size w w' := by
 obtain ⟨u1, u2⟩ := dok_bd hu
 have k := Dy.dok_yes hu
 have hs0 : u / 1000000 + 946684800 = sc u := rfl
 obtain ⟨a9, how, hI, IN⟩ := Z.inst (sc u) (ask_st hu (by unfold sc; omega) (by unfold sc; omega)) (ask_st hu (by unfold sc; omega) (by unfold sc; omega)) (ask_st hu (by unfold sc; omega) (by unfold sc; omega)) (by unfold sc; omega) (by unfold sc; omega)
 have hs : -1000000000000000 ≤ sc u ∧ sc u ≤ 1000000000000000 := by unfold sc; omega
 have ha : sc u - 57600 ≤ a9 ∧ a9 ≤ sc u + 57600 := by
  rcases hI with ⟨_, h, _⟩ | ⟨_, _, b, b1, b2, _, _, b5⟩
  ·exact h
  ·have hb := Z.off b (ask_st hu (by omega) (by omega))
   have b5' : a9 = sc u - (A b).off := b5
   omega
 refine ⟨a9, how, hI, ha, fun w hw => ?_⟩
 have SE := fun w => sec_any 0 u u1 u2 w
 rw [hs0] at SE
 have MO := fun w (hw : Ok w) => more_any 0 u ((a9 - sc u) * 1000000) u1 u2 (by omega) (by omega) w (Z.zf.lens w hw)
 by_cases hE : moE u ((a9 - sc u) * 1000000) = 0
 ·rw [if_pos hE, if_pos hE, hE]
  rw [hE] at MO
  exact in_ok Ok T Z.zf.len u (sc u) a9 how (a9 - sc u) ((a9 - sc u) * 1000000) _ 0 (by rw [IntKind.wrap_i64]; omega) (by rw [IntKind.wrap_i64]; omega) Z.zf.right (fun w hw => rst_yes hu w (Z.zf.lens w hw)) SE IN MO w (fun W hb => Z.zf.below w W hw hb)
 ·rw [if_neg hE, if_neg hE]
  exact in_err2 Ok T Z.zf.len u (sc u) a9 how (a9 - sc u) ((a9 - sc u) * 1000000) _ _ (by rw [IntKind.wrap_i64]; omega) (by rw [IntKind.wrap_i64]; omega) hE Z.zf.right (fun w hw => rst_yes hu w (Z.zf.lens w hw)) SE IN MO w (fun W hb => Z.zf.below w W hw hb)
theorem mo_is {u n : Int} (h : moE u n = 0) : moV u n = u + n := by
 unfold moE at h
 unfold moV
 by_cases k : Dy.dok ((u + n) / 86400000000) = true
 ·rw [if_pos k]
 ·rw [if_neg k] at h; omega
theorem inst_ex {Ok : World → Prop} {T : List Value} {A : Int → TrR} (Z : ZK Ok T A) (u : Int) (hu : Dy.dok (u / 86400000000) = true) : ∃ a how, Zm.InstIs (fun τ => (A τ).off) (sc u) a how := by
 obtain ⟨a, how, h, _⟩ := kinst Z u hu
 exact ⟨a, how, h⟩
theorem kinst_is {Ok : World → Prop} {T : List Value} {A : Int → TrR} (Z : ZK Ok T A) (u : Int) (hu : Dy.dok (u / 86400000000) = true) {a how : Int} (hI : Zm.InstIs (fun τ => (A τ).off) (sc u) a how) (w : World) (hw : Ok w) : Calls Tryz.prog 12 #[.agg T.toArray, .agg #[vi ki 0, vi ki u]] w fun r w' =>
   r = zr (.tuple #[.agg #[vi ki 0, vi ki (if moE u ((a - sc u) * 1000000) = 0 then moV u ((a - sc u) * 1000000) else 0)], vi ki (if moE u ((a - sc u) * 1000000) = 0 then how else 0), vi ki (moE u ((a - sc u) * 1000000))]) ∧ Below w.heap.size w w' := by
 obtain ⟨a', how', h, hn, C⟩ := kinst Z u hu
 obtain ⟨rfl, rfl⟩ := hI.one h
 exact C w hw
def MbIs (A : Int → TrR) (u m d n V E : Int) : Prop :=
  (moE u ((A (sc u)).off * 1000000) ≠ 0 ∧ V = 0 ∧ E = moE u ((A (sc u)).off * 1000000)) ∨
  (moE u ((A (sc u)).off * 1000000) = 0 ∧ ∃ V2 E2, AddIs 0 (moV u ((A (sc u)).off * 1000000)) 0 m d 0 0 V2 E2 ∧
    ((E2 ≠ 0 ∧ V = 0 ∧ E = E2) ∨ (E2 = 0 ∧ ∃ a how, Zm.InstIs (fun τ => (A τ).off) (sc V2) a how ∧
      ((moE V2 ((a - sc V2) * 1000000) ≠ 0 ∧ V = 0 ∧ E = moE V2 ((a - sc V2) * 1000000)) ∨
       (moE V2 ((a - sc V2) * 1000000) = 0 ∧ V = moV (moV V2 ((a - sc V2) * 1000000)) n ∧ E = moE (moV V2 ((a - sc V2) * 1000000)) n)))))
def AzIs (A : Int → TrR) (i u j m d n I V E : Int) : Prop :=
  (¬ (Dy.sR i u = true ∧ Sp.pR j m d n = true) ∧ I = 0 ∧ V = 0 ∧ E = 1) ∨
  (Dy.sR i u = true ∧ Sp.pR j m d n = true ∧ ¬ (i = 0 ∧ j = 0) ∧ I = tgI i j ∧ V = 0 ∧ E = tgE i j) ∨
  (i = 0 ∧ j = 0 ∧ Dy.dok (u / 86400000000) = true ∧ Sp.pR 0 m d n = true ∧ I = 0 ∧ ((m = 0 ∧ d = 0 ∧ V = moV u n ∧ E = moE u n) ∨ (¬ (m = 0 ∧ d = 0) ∧ MbIs A u m d n V E)))
theorem addis_dok {x m d n V : Int} (hx : Dy.dok (x / 86400000000) = true) (hp : Sp.pR 0 m d n = true) (h : AddIs 0 x 0 m d n 0 V 0) : Dy.dok (V / 86400000000) = true := by
  rcases h with ⟨_, _, _, h⟩ | ⟨_, _, h, _⟩ | ⟨_, _, _, _, y, p, q, hq, _, hV, hE⟩
  · cases h
  · exact absurd ⟨rfl, rfl⟩ h
  · by_cases k : mdk (x / 86400000000) y p q m d = true
    · rw [if_pos k] at hV hE
      rw [hV]
      exact mo_val hE.symm
    · rw [if_neg k] at hE; cases hE
theorem mb_ex {Ok : World → Prop} {T : List Value} {A : Int → TrR} (Z : ZK Ok T A) (u m d n : Int) (hu : Dy.dok (u / 86400000000) = true) (hp : Sp.pR 0 m d n = true) : ∃ V E, MbIs A u m d n V E := by
  by_cases h1 : moE u ((A (sc u)).off * 1000000) = 0
  · have v1 := mo_val h1
    have b := pR_bd hp
    have hp0 : Sp.pR 0 m d 0 = true := pR_of (by omega)
    obtain ⟨V2, E2, hA, hV2⟩ := add_fn v1 hp0
    by_cases h2 : E2 = 0
    · subst h2
      obtain ⟨a, how, hI⟩ := inst_ex Z V2 (hV2 rfl)
      by_cases h3 : moE V2 ((a - sc V2) * 1000000) = 0
      · exact ⟨_, _, .inr ⟨h1, V2, 0, hA, .inr ⟨rfl, a, how, hI, .inr ⟨h3, rfl, rfl⟩⟩⟩⟩
      · exact ⟨_, _, .inr ⟨h1, V2, 0, hA, .inr ⟨rfl, a, how, hI, .inl ⟨h3, rfl, rfl⟩⟩⟩⟩
    · exact ⟨_, _, .inr ⟨h1, V2, E2, hA, .inl ⟨h2, rfl, rfl⟩⟩⟩
  · exact ⟨_, _, .inl ⟨h1, rfl, rfl⟩⟩
theorem az_ex {Ok : World → Prop} {T : List Value} {A : Int → TrR} (Z : ZK Ok T A) (i u j m d n : Int) : ∃ I V E, AzIs A i u j m d n I V E := by
  by_cases h : Dy.sR i u = true ∧ Sp.pR j m d n = true
  · by_cases h0 : i = 0 ∧ j = 0
    · obtain ⟨rfl, rfl⟩ := h0
      by_cases hz : m = 0 ∧ d = 0
      · exact ⟨0, _, _, .inr (.inr ⟨rfl, rfl, h.1, h.2, rfl, .inl ⟨hz.1, hz.2, rfl, rfl⟩⟩)⟩
      · obtain ⟨V, E, hM⟩ := mb_ex Z u m d n h.1 h.2
        exact ⟨0, V, E, .inr (.inr ⟨rfl, rfl, h.1, h.2, rfl, .inr ⟨hz, hM⟩⟩)⟩
    · exact ⟨_, _, _, .inr (.inl ⟨h.1, h.2, h0, rfl, rfl, rfl⟩)⟩
  · exact ⟨_, _, _, .inl ⟨h, rfl, rfl, rfl⟩⟩
theorem kaz {Ok : World → Prop} {T : List Value} {A : Int → TrR} (Z : ZK Ok T A) (i u j m d n I V E : Int) (h : AzIs A i u j m d n I V E) (u1 : -9223372036854775808 ≤ u) (u2 : u ≤ 9223372036854775807) (n1 : -9223372036854775808 ≤ n) (n2 : n ≤ 9223372036854775807) (w : World) (hw : Ok w) :
    Calls Tryz.prog 19 #[.agg T.toArray, .agg #[vi ki i, vi ki u], .agg #[vi ki j, vi ki m, vi ki d, vi ki n]] w fun r w' => r = zr (.tuple #[.agg #[vi ki I, vi ki V], vi ki E]) ∧ Below w.heap.size w w' := by
  have RR : ∀ c, Dy.sR i u = c → ∀ w : World, Ok w → Calls Tryz.prog 32 #[.agg #[vi ki i, vi ki u]] w fun r' w' => r' = zr (.bool c) ∧ Below w.heap.size w w' := fun c hc w hw => by rw [← hc]; exact Dy.rst_any i u u1 u2 w (Z.zf.lens w hw)
  have PP : ∀ c, Sp.pR j m d n = c → ∀ w : World, Calls Tryz.prog 23 #[.agg #[vi ki j, vi ki m, vi ki d, vi ki n]] w fun r' w' => r' = zr (.bool c) ∧ Below w.heap.size w w' := fun c hc w => by rw [← hc]; exact Sp.pr_any j m d n n1 n2 w
  have bel := fun (W : World) (hb : Below w.heap.size w W) => Z.zf.below w W hw hb
  rcases h with ⟨h, rfl, rfl, rfl⟩ | ⟨h1, h2, h3, rfl, rfl, rfl⟩ | ⟨rfl, rfl, h1, h2, rfl, h⟩
  · by_cases h1 : Dy.sR i u = true
    · have h2 : Sp.pR j m d n = false := by cases hp : Sp.pR j m d n; rfl; exact absurd ⟨h1, hp⟩ h
      exact az_no3 Ok T Z.zf.len i u j m d n Z.zf.right (RR _ h1) (PP _ h2) w bel
    · exact az_no2 Ok T Z.zf.len i u j m d n Z.zf.right (RR _ (by simpa using h1)) w bel
  · have TG := fun w => tog_any i j (inf3 h1) (pinf3 h2) w
    by_cases k0 : tgI i j = 0
    · have k : tgE i j ≠ 0 := (tg_zero (inf3 h1) (pinf3 h2) h3).resolve_left (fun q => q k0)
      rw [k0] at TG ⊢
      exact az_infe Ok T Z.zf.len i u j m d n _ _ _ k Z.zf.right (RR _ h1) (PP _ h2) (fun w => kind_b i w) (fun w => kind_b j w) TG w bel
    · exact az_infi Ok T Z.zf.len i u j m d n _ _ _ _ k0 Z.zf.right (RR _ h1) (PP _ h2) (fun w => kind_b i w) (fun w => kind_b j w) TG w bel
  · have RS := fun w (hw : Ok w) => rst_yes h1 w (Z.zf.lens w hw)
    have PR := fun w => pr_yes h2 w
    have K0 := fun w => kind_b 0 w
    have TG := fun w => tog_any 0 0 (.inr (.inl rfl)) (.inr (.inl rfl)) w
    have b := pR_bd h2
    rcases h with ⟨rfl, rfl, rfl, rfl⟩ | ⟨hz, hM⟩
    · exact az_none Ok T Z.zf.len 0 u 0 n _ _ (kdV 0) (kdV 0) Z.zf.right RS PR K0 K0 TG (fun w hw => more_any 0 u n u1 u2 n1 n2 w (Z.zf.lens w hw)) w bel
    · -- what months and days come to
      have LO := fun w (hw : Ok w) => klocal Z u h1 w hw
      have key : ∀ V' e, (∀ w : World, Ok w → Calls Tryz.prog 52 #[.agg T.toArray, .agg #[vi ki 0, vi ki u], .agg #[vi ki 0, vi ki m, vi ki d, vi ki n]] w fun r w' => r = zr (.tuple #[.agg #[vi ki 0, vi ki V'], vi ki e]) ∧ Below w.heap.size w w') →
          (e ≠ 0 ∧ V = 0 ∧ E = e) ∨ (e = 0 ∧ Dy.dok (V' / 86400000000) = true ∧ V = moV V' n ∧ E = moE V' n) →
          Calls Tryz.prog 19 #[.agg T.toArray, .agg #[vi ki 0, vi ki u], .agg #[vi ki 0, vi ki m, vi ki d, vi ki n]] w fun r w' => r = zr (.tuple #[.agg #[vi ki 0, vi ki V], vi ki E]) ∧ Below w.heap.size w w' := fun V' e MB hc => by
        rcases hc with ⟨he, rfl, rfl⟩ | ⟨rfl, hv, rfl, rfl⟩
        · by_cases hm : m = 0
          · subst hm
            exact az_errd Ok T Z.zf.len 0 u 0 d n V' _ (kdV 0) (kdV 0) he (fun h => hz ⟨rfl, h⟩) Z.zf.right RS PR K0 K0 TG MB w bel
          · exact az_errm Ok T Z.zf.len 0 u 0 m d n V' _ (kdV 0) (kdV 0) he hm Z.zf.right RS PR K0 K0 TG MB w bel
        · obtain ⟨v1, v2⟩ := dok_bd hv
          have MO := fun w (hw : Ok w) => more_any 0 V' n v1 v2 n1 n2 w (Z.zf.lens w hw)
          by_cases hm : m = 0
          · subst hm
            exact az_okd Ok T Z.zf.len 0 u 0 d n V' _ _ (kdV 0) (kdV 0) (fun h => hz ⟨rfl, h⟩) Z.zf.right RS PR K0 K0 TG MB MO w bel
          · exact az_okm Ok T Z.zf.len 0 u 0 m d n V' _ _ (kdV 0) (kdV 0) hm Z.zf.right RS PR K0 K0 TG MB MO w bel
      have hp0 : Sp.pR 0 m d 0 = true := pR_of (by omega)
      rcases hM with ⟨e1, rfl, rfl⟩ | ⟨e1, V2, E2, hA, hM⟩
      · exact key 0 _ (fun w hw => mb_err1 Ok T Z.zf.len u 0 m d n _ _ e1 LO w (fun W hb => Z.zf.below w W hw hb)) (.inl ⟨e1, rfl, rfl⟩)
      · rw [e1] at LO
        have v1 := mo_val e1
        obtain ⟨p1, p2⟩ := dok_bd v1
        have AD := fun w (hw : Ok w) => sadd_any 0 _ 0 m d 0 0 V2 E2 hA p1 p2 (by decide) (by decide) w (Z.zf.lens w hw)
        rcases hM with ⟨e2, rfl, rfl⟩ | ⟨rfl, a, how, hI, hM⟩
        · exact key 0 _ (fun w hw => mb_err2 Ok T Z.zf.len u 0 m d n _ V2 _ e2 LO AD w (fun W hb => Z.zf.below w W hw hb)) (.inl ⟨e2, rfl, rfl⟩)
        · have hv2 := addis_dok v1 hp0 hA
          have IN := fun w (hw : Ok w) => kinst_is Z V2 hv2 hI w hw
          have MB := fun w (hw : Ok w) => mb_ok Ok T Z.zf.len u 0 m d n _ V2 _ _ _ LO AD IN w (fun W hb => Z.zf.below w W hw hb)
          rcases hM with ⟨e3, rfl, rfl⟩ | ⟨e3, rfl, rfl⟩
          · exact key _ _ MB (.inl ⟨e3, rfl, rfl⟩)
          · rw [if_pos e3] at MB
            exact key _ _ MB (.inr ⟨e3, mo_val e3, rfl, rfl⟩)
def nmU : ByteArray := ⟨#[85, 84, 67]⟩
def fU : TrR := ⟨0, 0, false, ⟨#[85, 84, 67]⟩⟩
def utL : List Value := tbF nmU fU (.slice none 0 0) zeF
theorem one_u : utL.toArray.all (·.oneCell') = true := by kernel_rfl
theorem utc17_any (w : World) : Calls Tryz.prog 22 #[] w fun e w' => e = zr (.agg utL.toArray) ∧ Below w.heap.size w w' := by
 have X1 : Hid (Bx (w.alloc (.cells zeT.toArray 44)) w.heap.size zeT) := Bx.new w zeT 44
 have B1 : Hid (Below w.heap.size w (w.alloc (.cells zeT.toArray 44))) := (Below.refl _ _).alloc (Nat.le_refl _) _
 go_enter Tryz.func22, Tryz.ntmps22
 go_wp2_with (refine wpList_store_mid rfl 44 _ _ rfl w.heap.size 0 utL.toArray rfl rfl X1.out.there (by kernel_rfl) one_u ?_; refine gen_list (fun V => Bx V w.heap.size utL ∧ Below w.heap.size w V) ⟨X1.out.setAll utL rfl, below_setCells (Nat.le_refl _) _ _ _ B1.out⟩ ?_; clear X1 B1; rintro V ⟨XV, BV⟩)
 exact bodyPost_ret (v := .agg utL.toArray) (results_c1 rfl _ _ _ _ rfl (run_loadVar_mid _ _ _ _ utL _ XV.all Tryz.underlying44 rfl (by kernel_rfl))) rfl ⟨rfl, BV⟩
theorem noU : NoF fU [] := by
 refine ⟨rfl, by decide, by decide, fun j hj => ?_⟩
 exact absurd hj (by simp)
end Go.Proofs.YtklehbmghjcmaaaGreatDoor
namespace Go.Proofs.YtklehbmghjcmaaaGreatDoor
open Go.RowKit
set_option maxRecDepth 100000
theorem cell5 : (Tryz.prog.cellTypes Tryz.prog.depth 34).map (fun ts => ts[5 % ts.length]?) = some (some 24) := by kernel_rfl
theorem table_place {w : World} {r : Reach} {b0 : Nat} {t : TbR} {sv : Value} (hv : Value.okWide Tryz.prog w r b0 34 (.agg (tbL t sv).toArray)) : ∀ a n c, sv = .slice (some a) n c → a.block < w.heap.size ∧ a.spot = none := by
 intro a n c hs
 subst hs
 simp only [Value.okWide, Tryz.underlying34] at hv
 obtain ⟨cs, h1, _, ts, hts, _, hc⟩ := hv
 cases h1
 obtain ⟨u, hu, hcell⟩ := hc 5 (.slice (some a) n c) rfl
 have h5 := cell5
 rw [hts] at h5
 simp only [Option.map_some, Option.some.injEq] at h5
 rw [h5] at hu
 cases hu
 simp only [Cell.okWide, Cell.ok, Tryz.underlying24] at hcell
 obtain ⟨_, _, _, h2, row, cells, h3, _⟩ := hcell
 refine ⟨?_, h2⟩
 rcases Nat.lt_or_ge a.block w.heap.size with h | h
 ·exact h
 ·unfold World.shape? at h3
  rw [Array.getElem?_eq_none h] at h3
  cases h3
theorem table_sized {H : Type} {ts : List TypeId} {ds : List (DataW H)} (h : (DataW.weightsEach Tryz.prog ts ds).all (· ≤ reachBytes) = true) {j : Nat} (ht : ts[j]? = some 34) {d : DataW H} (hd : ds[j]? = some d) {e0 e1 e2 e3 : DataW H} (hde : d = .agg [e0, e1, e2, e3]) {L : List TrR} (he : e2 = .nil ∧ L = [] ∨ ∃ es sp, e2 = .slice es sp ∧ es.length = L.length) : L.length * 40 ≤ 140737488355328 := by
 rcases he with ⟨_, rfl⟩ | ⟨es, sp, rfl, hl⟩
 ·simp
 ·subst hde
  have hm := List.all_eq_true.1 h _ (DataW.weights_mem_each ht hd ((es.length + sp.length) * Tryz.prog.bytesOf 23) (by
   simp only [DataW.weights, Tryz.underlying34]
   refine DataW.weights_mem_each (j := 2) (t := 24) (d := .slice es sp) rfl rfl _ ?_
   simp [DataW.weights, Tryz.underlying24]))
  rw [bytes30] at hm
  have := of_decide_eq_true hm
  unfold reachBytes at this
  rw [Nat.add_mul] at this
  omega
end Go.Proofs.YtklehbmghjcmaaaGreatDoor
namespace Go.Proofs.YtklehbmghjcmaaaGreatDoor.Fn
open Go.RowKit
theorem rhalf_run (a : Hf) (bO bA : Bool)
  (RO : Hid (∀ w : World, Calls Tryz.prog 211 #[.agg #[vi ki a.k, vi ki a.d, vi ki a.n]] w fun e w' => e = zr (.bool bO) ∧ Below w.heap.size w w'))
  (RA : Hid (∀ w : World, Calls Tryz.prog 212 #[.agg #[vi ki a.s, .int .u8 a.z]] w fun e w' => e = zr (.bool bA) ∧ Below w.heap.size w w'))
  (w : World) :
  Calls Tryz.prog 190 #[.agg #[vi ki a.m, vi ki a.k, vi ki a.d, vi ki a.n, vi ki a.s, .int .u8 a.z, vi ki a.v, .string a.t]] w fun e w' => e = zr (.bool (decide (1 ≤ a.m) && decide (a.m ≤ 12) && bO && bA && decide (0 ≤ a.v) && decide (a.v ≤ 7200))) ∧ Below w.heap.size w w' := by
 have HB : Hid (Below w.heap.size w (w.alloc (.cells #[vi ki a.m, vi ki a.k, vi ki a.d, vi ki a.n, vi ki a.s, .int .u8 a.z, vi ki a.v, .string a.t] 30))) := ((Below.refl _ _).alloc (by simp <;> omega) _)
 have X0 : Hid (Bx (w.alloc (.cells #[vi ki a.m, vi ki a.k, vi ki a.d, vi ki a.n, vi ki a.s, .int .u8 a.z, vi ki a.v, .string a.t] 30)) (w.heap.size) (hL a)) := (Bx.newAt w (hL a) _ _ (by simp))
 by_cases m1 : 1 ≤ a.m
 case neg =>
  rw [decide_eq_false m1]
  go_enter Tryz.func190, Tryz.ntmps190
  go_wp2
  go_ret
  exact ⟨rfl, HB.out⟩
 by_cases m2 : a.m ≤ 12
 case neg =>
  rw [decide_eq_true m1, decide_eq_false m2]
  go_enter Tryz.func190, Tryz.ntmps190
  go_wp2
  go_ret
  exact ⟨rfl, HB.out⟩
 rw [decide_eq_true m1, decide_eq_true m2]
 go_enter Tryz.func190, Tryz.ntmps190
 go_wp2_with fail
 refine (RO.out _).mono ?_
 rintro e w1 ⟨rfl, hb⟩
 have B1 : Hid (Below w.heap.size w w1) := HB.out.trans (hb.mono HB.out.size)
 have X1 : Hid (Bx w1 w.heap.size (hL a)) := X0.out.below hb
 clear hb HB X0 RO
 cases bO
 ·go_wp2
  go_ret
  exact ⟨rfl, B1.out⟩
 have c4 := X1.out.c 4 rfl
 have c5 := X1.out.c 5 rfl
 go_wp2_with fail
 refine (RA.out _).mono ?_
 rintro e w2 ⟨rfl, hb⟩
 have B2 : Hid (Below w.heap.size w w2) := B1.out.trans (hb.mono B1.out.size)
 have c6 := (X1.out.below hb).c 6 rfl
 clear hb B1 X1 RA c4 c5
 cases bA
 ·go_wp2
  go_ret
  exact ⟨rfl, B2.out⟩
 go_wp2
 all_goals go_ret
 all_goals refine ⟨Cvl.ret_bool ?_, B2.out⟩
 all_goals first | (simp; done) | (simp; omega)
theorem rhalf_any (a : Hf) (w : World) :
  Calls Tryz.prog 190 #[.agg #[vi ki a.m, vi ki a.k, vi ki a.d, vi ki a.n, vi ki a.s, .int .u8 a.z, vi ki a.v, .string a.t]] w fun e w' => e = zr (.bool (okH a)) ∧ Below w.heap.size w w' := by
 have key : ∀ bO bA : Bool, (bO = true ↔ okOn a.k a.d a.n) → (bA = true ↔ okAt a.s a.z) → okH a = (decide (1 ≤ a.m) && decide (a.m ≤ 12) && bO && bA && decide (0 ≤ a.v) && decide (a.v ≤ 7200)) := fun bO bA h1 h2 => by
  unfold okH dyA
  rw [Bool.eq_iff_iff]
  simp only [Bool.and_eq_true, decide_eq_true_eq, h1, h2]
  constructor
  ·rintro ⟨⟨q1, q2, q3⟩, q4, q5, q6⟩; exact ⟨⟨⟨⟨⟨q2, q3⟩, q1⟩, q4⟩, q5⟩, q6⟩
  ·rintro ⟨⟨⟨⟨⟨q2, q3⟩, q1⟩, q4⟩, q5⟩, q6⟩; exact ⟨⟨q1, q2, q3⟩, q4, q5, q6⟩
 by_cases h1 : okOn a.k a.d a.n <;> by_cases h2 : okAt a.s a.z
 ·rw [key true true (by simp [h1]) (by simp [h2])]; exact rhalf_run a true true (rightOn_yes a.k a.d a.n h1) (rightAt_yes a.s a.z h2) w
 ·rw [key true false (by simp [h1]) (by simp [h2])]; exact rhalf_run a true false (rightOn_yes a.k a.d a.n h1) (rightAt_no a.s a.z h2) w
 ·rw [key false true (by simp [h1]) (by simp [h2])]; exact rhalf_run a false true (rightOn_no a.k a.d a.n h1) (rightAt_yes a.s a.z h2) w
 ·rw [key false false (by simp [h1]) (by simp [h2])]; exact rhalf_run a false false (rightOn_no a.k a.d a.n h1) (rightAt_no a.s a.z h2) w
theorem rcan_run (f : Ft) (bA bB : Bool) (mb : bA = true → bB = true → 1 ≤ f.A.m ∧ f.A.m ≤ 12 ∧ 1 ≤ f.B.m ∧ f.B.m ≤ 12)
  (IA : Hid (∀ w : World, Calls Tryz.prog 190 #[.agg #[vi ki f.A.m, vi ki f.A.k, vi ki f.A.d, vi ki f.A.n, vi ki f.A.s, .int .u8 f.A.z, vi ki f.A.v, .string f.A.t]] w fun e w' => e = zr (.bool bA) ∧ Below w.heap.size w w'))
  (IB : Hid (∀ w : World, Calls Tryz.prog 190 #[.agg #[vi ki f.B.m, vi ki f.B.k, vi ki f.B.d, vi ki f.B.n, vi ki f.B.s, .int .u8 f.B.z, vi ki f.B.v, .string f.B.t]] w fun e w' => e = zr (.bool bB) ∧ Below w.heap.size w w'))
  (w : World) :
  Calls Tryz.prog 151 #[.agg #[.bool f.h, vi ki f.fr, vi ki f.off, vi ki f.A.m, vi ki f.A.k, vi ki f.A.d, vi ki f.A.n, vi ki f.A.s, .int .u8 f.A.z, vi ki f.A.v, .string f.A.t, vi ki f.B.m, vi ki f.B.k, vi ki f.B.d, vi ki f.B.n, vi ki f.B.s, .int .u8 f.B.z, vi ki f.B.v, .string f.B.t]] w fun e w' => e = zr (.bool (f.h && decide (-50400 ≤ f.off) && decide (f.off ≤ 50400) && bA && bB && far f.A.m f.B.m)) ∧ Below w.heap.size w w' := by
 have HB : Hid (Below w.heap.size w (w.alloc (.cells #[.bool f.h, vi ki f.fr, vi ki f.off, vi ki f.A.m, vi ki f.A.k, vi ki f.A.d, vi ki f.A.n, vi ki f.A.s, .int .u8 f.A.z, vi ki f.A.v, .string f.A.t, vi ki f.B.m, vi ki f.B.k, vi ki f.B.d, vi ki f.B.n, vi ki f.B.s, .int .u8 f.B.z, vi ki f.B.v, .string f.B.t] 32))) := ((Below.refl _ _).alloc (by simp <;> omega) _)
 have X0 : Hid (Bx (w.alloc (.cells #[.bool f.h, vi ki f.fr, vi ki f.off, vi ki f.A.m, vi ki f.A.k, vi ki f.A.d, vi ki f.A.n, vi ki f.A.s, .int .u8 f.A.z, vi ki f.A.v, .string f.A.t, vi ki f.B.m, vi ki f.B.k, vi ki f.B.d, vi ki f.B.n, vi ki f.B.s, .int .u8 f.B.z, vi ki f.B.v, .string f.B.t] 32)) (w.heap.size) (fL f)) := (Bx.newAt w (fL f) _ _ (by simp))
 have MB : Hid (bA = true → bB = true → 1 ≤ f.A.m ∧ f.A.m ≤ 12 ∧ 1 ≤ f.B.m ∧ f.B.m ≤ 12) := mb
 clear mb
 cases hh : f.h
 ·rw [hh] at HB X0
  go_enter Tryz.func151, Tryz.ntmps151
  go_wp2
  go_ret
  exact ⟨rfl, HB.out⟩
 rw [hh] at HB X0
 go_enter Tryz.func151, Tryz.ntmps151
 go_wp2_with fail
 refine (IA.out _).mono ?_
 rintro e w1 ⟨rfl, hb⟩
 have B1 : Hid (Below w.heap.size w w1) := HB.out.trans (hb.mono HB.out.size)
 have X1 : Hid (Bx w1 w.heap.size (fL f)) := X0.out.below hb
 clear hb HB X0 IA
 cases bA
 ·go_wp2
  go_ret
  exact ⟨by simp, B1.out⟩
 have c11 := X1.out.c 11 rfl
 have c12 := X1.out.c 12 rfl
 have c13 := X1.out.c 13 rfl
 have c14 := X1.out.c 14 rfl
 have c15 := X1.out.c 15 rfl
 have c16 := X1.out.c 16 rfl
 have c17 := X1.out.c 17 rfl
 have c18 := X1.out.c 18 rfl
 go_wp2_with fail
 refine (IB.out _).mono ?_
 rintro e w2 ⟨rfl, hb⟩
 have B2 : Hid (Below w.heap.size w w2) := B1.out.trans (hb.mono B1.out.size)
 have d2 := (X1.out.below hb).c 2 rfl
 have d3 := (X1.out.below hb).c 3 rfl
 have d11 := (X1.out.below hb).c 11 rfl
 clear hb B1 X1 IB c11 c12 c13 c14 c15 c16 c17 c18
 cases bB
 ·go_wp2
  go_ret
  exact ⟨by simp, B2.out⟩
 obtain ⟨m1, m2, m3, m4⟩ : 1 ≤ f.A.m ∧ f.A.m ≤ 12 ∧ 1 ≤ f.B.m ∧ f.B.m ≤ 12 := by first | exact MB.out rfl rfl | exact MB.out trivial trivial | exact MB.out trivial rfl | exact MB.out trivial | exact MB.out
 clear MB
 by_cases o1 : -50400 ≤ f.off
 ·by_cases o2 : f.off ≤ 50400
  ·have O1 : Hid (-50400 ≤ f.off) := o1
   have O2 : Hid (f.off ≤ 50400) := o2
   go_wp2
   all_goals go_ret
   all_goals refine ⟨Cvl.ret_bool ?_, B2.out⟩
   all_goals unfold far
   all_goals first | exact (decide_eq_false (by split <;> omega)).symm | exact (decide_eq_true (by split <;> omega)).symm | (rw [decide_eq_true O1.out, decide_eq_true O2.out]; simp only [Bool.true_and, Bool.and_true]; refine decide_eq_decide.2 ?_; split <;> omega)
  ·have O2 : Hid (¬ f.off ≤ 50400) := o2
   go_wp2
   go_ret
   exact ⟨Cvl.ret_bool (by have := O2.out; first | rfl | (simp; done) | (simp; omega)), B2.out⟩
 ·have O1 : Hid (¬ -50400 ≤ f.off) := o1
  go_wp2
  go_ret
  exact ⟨Cvl.ret_bool (by have := O1.out; first | rfl | (simp; done) | (simp; omega)), B2.out⟩
theorem rcan_any (f : Ft) (w : World) :
  Calls Tryz.prog 151 #[.agg #[.bool f.h, vi ki f.fr, vi ki f.off, vi ki f.A.m, vi ki f.A.k, vi ki f.A.d, vi ki f.A.n, vi ki f.A.s, .int .u8 f.A.z, vi ki f.A.v, .string f.A.t, vi ki f.B.m, vi ki f.B.k, vi ki f.B.d, vi ki f.B.n, vi ki f.B.s, .int .u8 f.B.z, vi ki f.B.v, .string f.B.t]] w fun e w' => e = zr (.bool (okF f)) ∧ Below w.heap.size w w' :=
 rcan_run f (okH f.A) (okH f.B) (fun ha hb => by
  have A := (okH_of ha).1
  have B := (okH_of hb).1
  exact ⟨A.2.1, A.2.2, B.2.1, B.2.2⟩) (fun w => rhalf_any f.A w) (fun w => rhalf_any f.B w) w
end Go.Proofs.YtklehbmghjcmaaaGreatDoor.Fn
