import Derived.Test.YtklehbmghjcmaaaGreatDoorRz
import Derived.Test.YtklehbmghjcmaaaGreatDoorR33
import Derived.Test.YtklehbmghjcmaaaGreatDoorR17
import Derived.SizedLaws
import Derived.Test.YtklehbmghjcmaaaGreatDoorR19
open Go.Value renaming int → vi
open Go.IntKind renaming i64 → ki
open List renaming setIfInBounds_toArray → zb, set_cons_zero → zc, set_cons_succ → zd
open Go.Act renaming put → za
open Go.Ending renaming returned → zr
set_option maxRecDepth 100000
set_option maxHeartbeats 16000000
set_option linter.unusedVariables false
namespace Go.Proofs.YtklehbmghjcmaaaGreatDoor
open Go.RowKit Sr
theorem ftL_succ (f : Fn.Ft) (js : Int) (n : Nat) : ftL f js (n + 1) = trT (Fn.gs f (js + 1)) :: ftL f (js + 1) n := by
 unfold ftL
 rw [List.range_succ_eq_map, List.map_cons, List.map_map]
 congr 1
 ·rw [show js + 1 + ((0 : Nat) : Int) = js + 1 by omega]
 ·apply List.map_congr_left
  intro i _
  show trT (Fn.gs f (js + 1 + ((i + 1 : Nat) : Int))) = _
  rw [show js + 1 + ((i + 1 : Nat) : Int) = js + 1 + 1 + (i : Int) by omega]
theorem ft_run {f : Fn.Ft} (L : Fn.LH f) {τ j : Int} (hj : Fn.St f τ j) : ∀ (n : Nat) (js : Int), -9434 ≤ js → js ≤ j → j ≤ js + n → Zm.lastLe (fun c : TrR => c.at_) τ (trT (Fn.gs f js)) (ftL f js n) = trT (Fn.gs f j)
 | 0, js, _, h1, h2 => by
  obtain rfl : js = j := by omega
  rfl
 | n + 1, js, h0, h1, h2 => by
  obtain ⟨a1, a2, a3, a4⟩ := hj
  rw [ftL_succ]
  unfold Zm.lastLe
  by_cases k : js = j
  ·subst k
   rw [if_neg (by show ¬ (Fn.gs f (js + 1)).t ≤ τ; omega)]
  ·have := gs_le L (i := js + 1) (j := j) (by omega) (by omega) (by omega)
   rw [if_pos (by show (Fn.gs f (js + 1)).t ≤ τ; omega)]
   exact ft_run L ⟨a1, a2, a3, a4⟩ n (js + 1) (by omega) (by omega) (by omega)
def CkIs (f : TrR) (L : List TrR) (ft : Fn.Ft) (A : Int → TrR) : Prop :=
 (∀ τ, (ft.h = true → τ < ft.fr) → A τ = curT f L (Zm.cntLe τ (L.map (·.at_)))) ∧ ∀ τ j, ft.h = true → ft.fr ≤ τ → Fn.St ft τ j → A τ = trT (Fn.gs ft j)
theorem ck_pick {α β : Type} {P : α → β → Prop} (h : ∀ x, ∃ y, P x y) : ∃ f : α → β, ∀ x, P x (f x) := ⟨fun x => Classical.choose (h x), fun x => Classical.choose_spec (h x)⟩
theorem ck_ex (f : TrR) (L : List TrR) (ft : Fn.Ft) (hf : ft.h = true → Fn.okF ft = true) : ∃ A, CkIs f L ft A := by
 have key : ∀ τ : Int, ∃ v : TrR, ((ft.h = true → τ < ft.fr) → v = curT f L (Zm.cntLe τ (L.map (·.at_)))) ∧ ∀ j, ft.h = true → ft.fr ≤ τ → Fn.St ft τ j → v = trT (Fn.gs ft j) := fun τ => by
  rcases Classical.em (ft.h = true ∧ ft.fr ≤ τ) with k | k
  ·rcases Classical.em (∃ j, Fn.St ft τ j) with ⟨j, hj⟩ | q
   ·exact ⟨trT (Fn.gs ft j), fun h => by have := h k.1; omega, fun i _ _ hi => by rw [Fn.St.one (Fn.lh_of (hf k.1)) hi hj]⟩
   ·exact ⟨f, fun h => by have := h k.1; omega, fun i _ _ hi => absurd ⟨i, hi⟩ q⟩
  ·exact ⟨_, fun _ => rfl, fun i h1 h2 _ => absurd ⟨h1, h2⟩ k⟩
 obtain ⟨A, hA⟩ := ck_pick key
 exact ⟨A, fun τ => (hA τ).1, fun τ j => (hA τ).2 j⟩
theorem cur_last (f : TrR) (L : List TrR) (τ : Int) : curT f L (Zm.cntLe τ (L.map (·.at_))) = Zm.lastLe (fun c : TrR => c.at_) τ f L := by
 rw [Zm.lastLe_get]; rfl
theorem chg_mem {lo hi : Int} {L : List TrR} (hr : Zm.Rises (L.map (·.at_))) : ∀ c ∈ Zm.chg lo hi L, c ∈ L ∧ lo < c.at_ ∧ c.at_ ≤ hi := fun c hc => by
 unfold Zm.chg at hc
 rw [Zm.drop_take (fun y : TrR => y.at_) _ _ L hr] at hc
 have := List.mem_filter.1 hc
 simp at this
 exact this
theorem chg_rises {lo hi : Int} {L : List TrR} (hr : Zm.Rises (L.map (·.at_))) : Zm.Rises ((Zm.chg lo hi L).map (·.at_)) := by
 refine Zm.rises_sub hr (List.Sublist.map _ ?_)
 unfold Zm.chg
 exact (List.takeWhile_sublist _).trans (List.drop_sublist _ _)
theorem pw_list {f : TrR} {L : List TrR} (hr : Zm.Rises (L.map (·.at_))) {A : Int → TrR} {lo hi : Int} (hA : ∀ τ, lo ≤ τ → τ ≤ hi → A τ = curT f L (Zm.cntLe τ (L.map (·.at_)))) :
  Zm.PW (fun c : TrR => c.at_) A lo hi (curT f L (Zm.cntLe lo (L.map (·.at_)))) (Zm.chg lo hi L) := by
 refine ⟨chg_rises hr, fun c hc => (chg_mem hr c hc).2, fun τ t1 t2 => ?_⟩
 rw [hA τ t1 t2, cur_last, cur_last]
 exact Zm.lastLe_cut _ lo hi τ t1 t2 L f
theorem pw_foot {f : TrR} {L : List TrR} (hr : Zm.Rises (L.map (·.at_))) {ft : Fn.Ft} (hf : Fn.okF ft = true) (hh : ft.h = true) (hla : ∀ x ∈ L, x.at_ < ft.fr) (hp : ∃ j, Fn.St ft ft.fr j ∧ (Fn.gs ft j).t = ft.fr) {A : Int → TrR} (hA : CkIs f L ft A) {lo hi : Int} (hlh : lo < hi)
  (hst : ∀ τ, lo ≤ τ → τ ≤ hi → ∃ j, Fn.St ft τ j) {x0 : TrR} {FT : List TrR} {ja : Int} (hja : Fn.St ft lo ja) (hx0 : x0 = if ft.h = true ∧ ft.fr ≤ lo then trT (Fn.gs ft ja) else curT f L (Zm.cntLe lo (L.map (·.at_))))
  (hF : (hi ≤ max lo (ft.fr - 1) ∧ FT = []) ∨ ∃ js jb, Fn.St ft (max lo (ft.fr - 1)) js ∧ Fn.St ft hi jb ∧ max lo (ft.fr - 1) < hi ∧ FT = ftL ft js (jb - js).toNat) :
  Zm.PW (fun c : TrR => c.at_) A lo hi x0 (Zm.chg lo hi L ++ FT) := by
 have LHf := Fn.lh_of hf
 obtain ⟨hA1, hA2⟩ := hA
 have hFm : ∀ c ∈ FT, lo < c.at_ ∧ c.at_ ≤ hi ∧ ft.fr ≤ c.at_ := by
  rcases hF with ⟨_, rfl⟩ | ⟨js, jb, hjs, hjb, hsb, rfl⟩
  ·intro c hc; cases hc
  ·intro c hc
   obtain ⟨k, hk⟩ := List.getElem?_of_mem hc
   have hk2 : k < (jb - js).toNat := by have := (List.getElem?_eq_some_iff.1 hk).1; rwa [ftL_len] at this
   rw [ftL_get hk2] at hk
   obtain rfl : trT (Fn.gs ft (js + 1 + (k : Int))) = c := by simpa using hk
   obtain ⟨a1, a2, a3, a4⟩ := hjs
   obtain ⟨b1, b2, b3, b4⟩ := hjb
   have e1 := gs_le LHf (i := js + 1) (j := js + 1 + (k : Int)) (by omega) (by omega) (by omega)
   have e2 := gs_le LHf (i := js + 1 + (k : Int)) (j := jb) (by omega) (by omega) (by omega)
   show lo < (Fn.gs ft (js + 1 + (k : Int))).t ∧ (Fn.gs ft (js + 1 + (k : Int))).t ≤ hi ∧ ft.fr ≤ (Fn.gs ft (js + 1 + (k : Int))).t
   omega
 have hFr : Zm.Rises (FT.map (·.at_)) := by
  rcases hF with ⟨_, rfl⟩ | ⟨js, jb, hjs, hjb, hsb, rfl⟩
  ·trivial
  ·refine rises_of _ (fun k p q hp' hq => ?_)
   have hk : k + 1 < (jb - js).toNat := by have := (List.getElem?_eq_some_iff.1 hq).1; rwa [ftL_len] at this
   rw [ftL_get (by omega)] at hp'
   rw [ftL_get hk] at hq
   cases hp'; cases hq
   show (Fn.gs ft (js + 1 + (k : Int))).t < (Fn.gs ft (js + 1 + ((k + 1 : Nat) : Int))).t
   have := hjs.1; have := hjb.2.1
   exact Fn.gs_lt LHf (by omega) (by omega) (by omega)
 refine ⟨?_, fun c hc => ?_, fun τ t1 t2 => ?_⟩
 ·rw [List.map_append]
  refine Zm.rises_app (chg_rises hr) hFr (fun a ha b hb => ?_)
  obtain ⟨c, hc, rfl⟩ := List.mem_map.1 ha
  obtain ⟨d, hd, rfl⟩ := List.mem_map.1 hb
  have := hla c (chg_mem hr c hc).1
  have := (hFm d hd).2.2
  omega
 ·rcases List.mem_append.1 hc with hc | hc
  ·exact (chg_mem hr c hc).2
  ·exact ⟨(hFm c hc).1, (hFm c hc).2.1⟩
 ·rcases Int.lt_or_le τ ft.fr with k | k
  ·rw [hA1 τ (fun _ => k), Zm.lastLe_app_gt _ _ _ _ _ (fun c hc => by have := (hFm c hc).2.2; show τ < c.at_; omega), hx0, if_neg (by omega), cur_last, cur_last]
   exact Zm.lastLe_cut _ lo hi τ t1 t2 L f
  ·obtain ⟨j, hj⟩ := hst τ t1 t2
   rw [hA2 τ j hh k hj]
   obtain ⟨z', hz1, hz2, hz3⟩ := Zm.lastLe_app_le (fun c : TrR => c.at_) τ (Zm.chg lo hi L) FT x0 (fun c hc => by have := hla c (chg_mem hr c hc).1; show c.at_ ≤ τ; omega)
   rw [hz3]
   rcases hF with ⟨q, _⟩ | ⟨js, jb, hjs, hjb, hsb, rfl⟩
   ·exfalso; omega
   ·have hjb' := st_le LHf hj hjb t2
    rcases Int.lt_or_le lo ft.fr with m | m
    ·-- the foot begins within the time
     obtain ⟨jf, hjf, hjt⟩ := hp
     rw [show max lo (ft.fr - 1) = ft.fr - 1 by omega] at hjs
     have e : jf = js + 1 := by
      have l1 := st_le LHf hjs hjf (by omega)
      rcases Int.lt_or_le (js + 1) jf with g | g
      ·have := Fn.gs_lt LHf (i := js + 1) (j := jf) (by have := hjs.1; omega) g (by have := hjf.2.1; omega)
       have := hjs.2.2.2
       omega
      ·rcases Int.lt_or_le js jf with g' | g'
       ·omega
       ·have : js = jf := by omega
        subst this
        have := hjs.2.2.1
        omega
     subst e
     have l2 := st_le LHf hjf hj k
     have l3 : (jb - js).toNat = (jb - (js + 1)).toNat + 1 := by omega
     rw [l3, ftL_succ]
     unfold Zm.lastLe
     rw [if_pos (by show (Fn.gs ft (js + 1)).t ≤ τ; omega)]
     exact (ft_run LHf hj _ (js + 1) hjf.1 l2 (by omega)).symm
    ·rw [show max lo (ft.fr - 1) = lo by omega] at hjs
     obtain rfl := Fn.St.one LHf hja hjs
     have hn : Zm.chg lo hi L = [] := by
      cases hc : Zm.chg lo hi L with
      | nil => rfl
      | cons c l =>
       have hm := chg_mem hr c (show c ∈ Zm.chg lo hi L by rw [hc]; exact List.mem_cons_self)
       have := hla c hm.1
       omega
     rw [hz2 hn, hx0, if_pos ⟨hh, m⟩]
     have l2 := st_le LHf hja hj t1
     exact (ft_run LHf hj _ ja hja.1 l2 (by omega)).symm
structure ZK (Ok : World → Prop) (T : List Value) (A : Int → TrR) : Prop where
 zf : ZF Ok T
 off : ∀ t, ask t → -57600 ≤ (A t).off ∧ (A t).off ≤ 57600
 at_ : ∀ t, ask t → ∀ w : World, Ok w → Calls Tryz.prog 33 #[.agg T.toArray, vi ki t] w fun r w' => r = zr (.tuple #[trV (A t), vi ki 0]) ∧ Below w.heap.size w w'
 inst : ∀ x, ask x → ask (x - 57600) → ask (x + 57600) → -1000000000000000 ≤ x → x ≤ 1000000000000000 → ∃ a how : Int, Zm.InstIs (fun τ => (A τ).off) x a how ∧ ∀ w : World, Ok w → Calls Tryz.prog 40 #[.agg T.toArray, vi ki x] w fun r w' => r = zr (.tuple #[vi ki a, vi ki how, vi ki 0]) ∧ Below w.heap.size w w'
theorem zk_none (nm : ByteArray) (f : TrR) (ao : Option Addr) (n c : Nat) (hnc : n ≤ c) (L : List TrR) (hn : L.length = n) (h : NoF f L) (A : Int → TrR) (hA : ∀ τ, A τ = curT f L (Zm.cntLe τ (L.map (·.at_)))) : ZK (OkF (.slice ao n c) L) (tbF nm f (.slice ao n c) zeF) A := by
 refine ⟨zf_none nm f ao n c hnc L hn h, fun t _ => by rw [hA]; exact h.cur _, fun t ht w hw => by rw [hA]; exact nat_ nm f _ L h t ht w hw.1, fun x h0 h1 h2 x1 x2 => ?_⟩
 have P := (pw_list h.rises (lo := x - 57600) (hi := x + 57600) (fun τ _ _ => hA τ)).inst (g := fun c : TrR => c.off) (fun τ _ _ => by rw [hA]; exact h.cur _) (P := Zm.pGo x (stsN f L x) (⟨0, 0, 0⟩, ⟨0, 0, 0⟩)) rfl
 exact ⟨_, _, P, fun w hw => nin_ nm f ao n c hnc L hn h x h0 h1 h2 x1 x2 w hw.1⟩
theorem zk_foot (nm : ByteArray) (f : TrR) (ft : Fn.Ft) (ao : Option Addr) (n c : Nat) (hnc : n ≤ c) (L : List TrR) (hn : L.length = n) (h : NoF f L) (hf : Fn.okF ft = true) (hla : ∀ x ∈ L, x.at_ < ft.fr) (f1 : -1000000000000000000 ≤ ft.fr) (f2 : ft.fr ≤ 1000000000000000000) (hp : ∃ j, Fn.St ft ft.fr j ∧ (Fn.gs ft j).t = ft.fr)
  (RT : ∀ w : World, OkF (.slice ao n c) L w → Calls Tryz.prog 31 #[.agg (tbF nm f (.slice ao n c) (Fn.fL ft)).toArray] w fun r' w' => r' = zr (.bool true) ∧ Below w.heap.size w w') (A : Int → TrR) (hA : CkIs f L ft A) : ZK (OkF (.slice ao n c) L) (tbF nm f (.slice ao n c) (Fn.fL ft)) A := by
 have hh : ft.h = true := by have := hf; unfold Fn.okF at this; simp at this; exact this.1.1.1.1.1
 have stx : ∀ t, ask t → ∃ j, Fn.St ft t j := fun t ht => by
  obtain ⟨y, hy, y1, y2, t1, t2⟩ := ask_y ht
  obtain ⟨j, hj, _, _⟩ := Fn.stand_ok ft t y hf hy y1 y2 t1 t2
  exact ⟨j, hj⟩
 have off : ∀ t, ask t → -57600 ≤ (A t).off ∧ (A t).off ≤ 57600 := fun t ht => by
  rcases Int.lt_or_le t ft.fr with k | k
  ·rw [hA.1 t (fun _ => k)]; exact h.cur _
  ·obtain ⟨j, hj⟩ := stx t ht
   rw [hA.2 t j hh k hj]; exact gs_off hf j
 refine ⟨zf_foot nm f ft ao n c hnc L hn h hf hla f1 f2 RT, off, fun t ht w hw => ?_, fun x h0 h1 h2 x1 x2 => ?_⟩
 ·obtain ⟨t1, t2, y, hy, ha⟩ := ht
  have hk := of_decide_eq_true ha
  obtain ⟨j, hj, FA, _⟩ := Fn.stand_ok ft t y hf hy hk.1 hk.2 t1 t2
  have R := zat_any nm f (.slice ao n c) (Fn.fL ft) rfl ft.h ft.fr t rfl rfl L true (fun _ => ⟨h.rises, h.h3⟩) y (trT (Fn.gs ft j)) 0 w hw.1.1
   (fun W hb => RT W (hw.below hb)) (fun W hb => Fn.yat_any t y hy t1 t2 W (hw.below hb).1.2) (fun _ _ _ _ W hb => FA W (hw.below hb).1.2 (hw.below hb).2)
  unfold atP atE at R
  rw [if_pos rfl, if_pos rfl, if_pos ha, if_pos ha] at R
  by_cases k : ft.h = true ∧ ft.fr ≤ t
  ·rw [if_pos k] at R
   rw [hA.2 t j hh k.2 hj]
   exact R
  ·rw [if_neg k] at R
   rw [hA.1 t (fun q => (Int.lt_or_le t ft.fr).elim id (fun g => absurd ⟨q, g⟩ k))]
   exact R
 ·obtain ⟨x0, FT, _, _, ⟨ja, hja, hx0⟩, hF, C⟩ := fin_ nm f ft ao n c hnc L hn h hf hla f1 f2 RT x h0 h1 h2 x1 x2
  have P := (pw_foot h.rises hf hh hla hp hA (lo := x - 57600) (hi := x + 57600) (by omega) (fun τ t1 t2 => stx τ (ask_mid h1 h2 t1 t2)) hja hx0 hF).inst (g := fun c : TrR => c.off) (fun τ t1 t2 => off τ (ask_mid h1 h2 t1 t2)) (P := Zm.pGo x (stsC x0 (Zm.chg (x - 57600) (x + 57600) L ++ FT) x) (⟨0, 0, 0⟩, ⟨0, 0, 0⟩)) rfl
  exact ⟨_, _, P, C⟩
theorem right_is {t : TbR} (hR : RightIs t true) : NoF t.first t.trs ∧ ((t.foot.h = false ∧ Fn.fL t.foot = zeF) ∨ (Fn.okF t.foot = true ∧ t.foot.h = true ∧ (∀ x ∈ t.trs, x.at_ < t.foot.fr) ∧ (-1000000000000000000 ≤ t.foot.fr ∧ t.foot.fr ≤ 1000000000000000000) ∧ ∃ j, Fn.St t.foot t.foot.fr j ∧ (Fn.gs t.foot j).t = t.foot.fr)) := by
 obtain ⟨r, hrf, hiff⟩ := hR
 obtain ⟨h1, h2, h3, h4, h5⟩ := hiff.1 rfl
 have h : NoF t.first t.trs := ⟨h1, h2, h3, h4⟩
 refine ⟨h, ?_⟩
 rcases h5 with h5 | h5
 ·refine .inl ⟨?_, footZ_is h5⟩
  unfold footZ at h5
  cases hh : t.foot.h
  ·rfl
  ·rw [hh] at h5; simp at h5
 ·subst h5
  obtain ⟨y, p, er, hy, hfa, hb⟩ := hrf
  have hb2 : (decide (1800 ≤ y) && decide (y ≤ 2110) && lastB t.trs t.foot.fr && (decide (er = 0) && decide (p.t = t.foot.fr))) = true := hb.symm
  simp only [Bool.and_eq_true, decide_eq_true_eq] at hb2
  obtain ⟨⟨⟨y1, y2⟩, hl⟩, he, hp⟩ := hb2
  have hf : Fn.okF t.foot = true ∧ ∃ j, Fn.St t.foot t.foot.fr j ∧ (Fn.gs t.foot j).t = t.foot.fr := by
   rcases hfa with ⟨_, k, y', j, _, _, _, hS, rfl⟩ | ⟨k, _⟩
   ·exact ⟨k, j, hS, hp⟩
   ·exact absurd he k
  have hfr : -1000000000000000000 ≤ t.foot.fr ∧ t.foot.fr ≤ 1000000000000000000 := by
   rcases hy with ⟨k, _⟩ | ⟨_, _, k⟩ | ⟨_, _, k⟩
   ·have := Cvl.of_can k; omega
   ·omega
   ·omega
  have hla : ∀ x ∈ t.trs, x.at_ < t.foot.fr := fun x hx => by
   unfold lastB at hl
   cases hz : t.trs[t.trs.length - 1]? with
   | none => have := List.getElem?_eq_none_iff.1 hz; have := List.length_pos_of_mem hx; omega
   | some z =>
    rw [hz] at hl
    have := of_decide_eq_true hl
    have := rises_last h.rises hz x hx
    omega
  exact .inr ⟨hf.1, by have := hf.1; unfold Fn.okF at this; simp at this; exact this.1.1.1.1.1, hla, hfr, hf.2⟩
theorem ck_any {t : TbR} (hR : RightIs t true) : ∃ A, CkIs t.first t.trs t.foot A := by
 obtain ⟨_, h⟩ := right_is hR
 refine ck_ex _ _ _ (fun hh => ?_)
 rcases h with h | h
 ·rw [h.1] at hh; cases hh
 ·exact h.1
theorem zk_any (t : TbR) (ao : Option Addr) (n c : Nat) (hnc : n ≤ c) (hn : t.trs.length = n) (hR : RightIs t true) {A : Int → TrR} (hA : CkIs t.first t.trs t.foot A)
  (RT : ∀ w : World, Cvl.Lens w → Clk.Tab w → TrAt w (.slice ao n c) t.trs → Calls Tryz.prog 31 #[.agg (tbL t (.slice ao n c)).toArray] w fun e w' => e = zr (.bool true) ∧ Below w.heap.size w w') : ZK (OkF (.slice ao n c) t.trs) (tbL t (.slice ao n c)) A := by
 obtain ⟨h, h5⟩ := right_is hR
 rcases h5 with ⟨hh, h5⟩ | ⟨hf, hh, hla, hfr, hp⟩
 ·have e : tbL t (.slice ao n c) = tbF t.nm t.first (.slice ao n c) zeF := by unfold tbL tbF; rw [h5]
  rw [e]
  exact zk_none t.nm t.first ao n c hnc t.trs hn h A (fun τ => hA.1 τ (fun q => by rw [hh] at q; cases q))
 ·exact zk_foot t.nm t.first t.foot ao n c hnc t.trs hn h hf hla hfr.1 hfr.2 hp (fun w hw => RT w hw.1.2 hw.2 hw.1.1) A hA
def sc (u : Int) : Int := u / 1000000 + 946684800
theorem klocal {Ok : World → Prop} {T : List Value} {A : Int → TrR} (Z : ZK Ok T A) (u : Int) (hu : Dy.dok (u / 86400000000) = true) (w : World) (hw : Ok w) :
  Calls Tryz.prog 10 #[.agg T.toArray, .agg #[vi ki 0, vi ki u]] w fun r w' => r = zr (.tuple #[.agg #[vi ki 0, vi ki (moV u ((A (sc u)).off * 1000000))], vi ki (moE u ((A (sc u)).off * 1000000))]) ∧ Below w.heap.size w w' := by
 obtain ⟨u1, u2⟩ := dok_bd hu
 have ha : ask (sc u) := ask_st hu (by unfold sc; omega) (by unfold sc; omega)
 have hx := Z.off _ ha
 exact lo_ok Ok T Z.zf.len u _ (A (sc u)).at_ (A (sc u)).off ((A (sc u)).off * 1000000) _ _ (A (sc u)).dst (A (sc u)).ab (by rw [IntKind.wrap_i64]; omega) Z.zf.right (fun w hw => rst_yes hu w (Z.zf.lens w hw)) (fun w => sec_any 0 u u1 u2 w) (fun w hw => Z.at_ _ ha w hw) (fun w hw => more_any 0 u _ u1 u2 (by omega) (by omega) w (Z.zf.lens w hw)) w (fun W hb => Z.zf.below w W hw hb)
theorem kinst {Ok : World → Prop} {T : List Value} {A : Int → TrR} (Z : ZK Ok T A) (u : Int) (hu : Dy.dok (u / 86400000000) = true) :
  ∃ a how, Zm.InstIs (fun τ => (A τ).off) (sc u) a how ∧ (sc u - 57600 ≤ a ∧ a ≤ sc u + 57600) ∧ ∀ w : World, Ok w → Calls Tryz.prog 12 #[.agg T.toArray, .agg #[vi ki 0, vi ki u]] w fun r w' =>
   r = zr (.tuple #[.agg #[vi ki 0, vi ki (if moE u ((a - sc u) * 1000000) = 0 then moV u ((a - sc u) * 1000000) else 0)], vi ki (if moE u ((a - sc u) * 1000000) = 0 then how else 0), vi ki (moE u ((a - sc u) * 1000000))]) ∧ Below w.heap.size w w' := by
 obtain ⟨u1, u2⟩ := dok_bd hu
 have k := Dy.dok_yes hu
 have hs0 : u / 1000000 + 946684800 = sc u := rfl
 obtain ⟨a9, how, hI, IN⟩ := Z.inst (sc u) (ask_st hu (by unfold sc; omega) (by unfold sc; omega)) (ask_st hu (by unfold sc; omega) (by unfold sc; omega)) (ask_st hu (by unfold sc; omega) (by unfold sc; omega)) (by unfold sc; omega) (by unfold sc; omega)
 have hs : -1000000000000000 ≤ sc u ∧ sc u ≤ 1000000000000000 := by unfold sc; omega
 have ha : sc u - 57600 ≤ a9 ∧ a9 ≤ sc u + 57600 := by
  rcases hI with ⟨_, h, _⟩ | ⟨_, _, b, b1, b2, _, _, b5⟩
  ·exact h
  ·have hb := Z.off b (ask_st hu (by omega) (by omega))
   have b5' : a9 = sc u - (A b).off := b5
   omega
 refine ⟨a9, how, hI, ha, fun w hw => ?_⟩
 have SE := fun w => sec_any 0 u u1 u2 w
 rw [hs0] at SE
 have MO := fun w (hw : Ok w) => more_any 0 u ((a9 - sc u) * 1000000) u1 u2 (by omega) (by omega) w (Z.zf.lens w hw)
 by_cases hE : moE u ((a9 - sc u) * 1000000) = 0
 ·rw [if_pos hE, if_pos hE, hE]
  rw [hE] at MO
  exact in_ok Ok T Z.zf.len u (sc u) a9 how (a9 - sc u) ((a9 - sc u) * 1000000) _ 0 (by rw [IntKind.wrap_i64]; omega) (by rw [IntKind.wrap_i64]; omega) Z.zf.right (fun w hw => rst_yes hu w (Z.zf.lens w hw)) SE IN MO w (fun W hb => Z.zf.below w W hw hb)
 ·rw [if_neg hE, if_neg hE]
  exact in_err2 Ok T Z.zf.len u (sc u) a9 how (a9 - sc u) ((a9 - sc u) * 1000000) _ _ (by rw [IntKind.wrap_i64]; omega) (by rw [IntKind.wrap_i64]; omega) hE Z.zf.right (fun w hw => rst_yes hu w (Z.zf.lens w hw)) SE IN MO w (fun W hb => Z.zf.below w W hw hb)
theorem mo_is {u n : Int} (h : moE u n = 0) : moV u n = u + n := by
 unfold moE at h
 unfold moV
 by_cases k : Dy.dok ((u + n) / 86400000000) = true
 ·rw [if_pos k]
 ·rw [if_neg k] at h; omega
theorem mo_err {u n : Int} (h : moE u n ≠ 0) : moV u n = 0 ∧ moE u n = 10 := by
 unfold moE at h ⊢
 unfold moV
 by_cases k : Dy.dok ((u + n) / 86400000000) = true
 ·rw [if_pos k] at h; exact absurd rfl h
 ·rw [if_neg k, if_neg k]; exact ⟨rfl, rfl⟩
theorem sc_add (u o : Int) : sc (u + o * 1000000) = sc u + o := by unfold sc; omega
theorem back_1 {A : Int → Int} {u o a how : Int} (hA : A (sc u) = o) (o1 : -57600 ≤ o) (o2 : o ≤ 57600) (hI : Zm.InstIs A (sc (u + o * 1000000)) a how) :
  ((u + o * 1000000) + (a - sc (u + o * 1000000)) * 1000000 = u ∧ how ≠ 2) ∨ (how = 1 ∧ (u + o * 1000000) + (a - sc (u + o * 1000000)) * 1000000 < u) := by
 rw [sc_add] at hI ⊢
 rcases hI with ⟨h1, h2, h3, h4, h5⟩ | ⟨h1, h2, _⟩
 ·have hle := h4 (sc u) (by omega) (by omega) (by rw [hA])
  by_cases k : a = sc u
  ·refine .inl ⟨by rw [k]; omega, by omega⟩
  ·exact .inr ⟨h5.2 ⟨sc u, by omega, by omega, fun q => k q.symm, by rw [hA]⟩, by omega⟩
 ·exact absurd (show sc u + A (sc u) = sc u + o by rw [hA]) (h2 (sc u) (by omega) (by omega))
theorem back_2 {A : Int → Int} {u a how : Int} (hI : Zm.InstIs A (sc u) a how) (ha : sc u - 57600 ≤ a ∧ a ≤ sc u + 57600) :
  sc (u + (a - sc u) * 1000000) = a ∧ ((u + (a - sc u) * 1000000) + A a * 1000000 = u ↔ how ≠ 2) := by
 refine ⟨by rw [sc_add]; omega, ?_⟩
 rcases hI with ⟨h1, h2, h3, h4, h5⟩ | ⟨h1, h2, _⟩
 ·exact ⟨fun _ => by omega, fun _ => by omega⟩
 ·have := h2 a ha.1 ha.2
  exact ⟨fun q => by omega, fun q => absurd h1 q⟩
theorem inst_ex {Ok : World → Prop} {T : List Value} {A : Int → TrR} (Z : ZK Ok T A) (u : Int) (hu : Dy.dok (u / 86400000000) = true) : ∃ a how, Zm.InstIs (fun τ => (A τ).off) (sc u) a how := by
 obtain ⟨a, how, h, _⟩ := kinst Z u hu
 exact ⟨a, how, h⟩
theorem inst_near {Ok : World → Prop} {T : List Value} {A : Int → TrR} (Z : ZK Ok T A) (u : Int) (hu : Dy.dok (u / 86400000000) = true) {a how : Int} (hI : Zm.InstIs (fun τ => (A τ).off) (sc u) a how) : sc u - 57600 ≤ a ∧ a ≤ sc u + 57600 := by
 obtain ⟨a', how', h, hn, _⟩ := kinst Z u hu
 obtain ⟨rfl, rfl⟩ := hI.one h
 exact hn
theorem kinst_is {Ok : World → Prop} {T : List Value} {A : Int → TrR} (Z : ZK Ok T A) (u : Int) (hu : Dy.dok (u / 86400000000) = true) {a how : Int} (hI : Zm.InstIs (fun τ => (A τ).off) (sc u) a how) (w : World) (hw : Ok w) : Calls Tryz.prog 12 #[.agg T.toArray, .agg #[vi ki 0, vi ki u]] w fun r w' =>
   r = zr (.tuple #[.agg #[vi ki 0, vi ki (if moE u ((a - sc u) * 1000000) = 0 then moV u ((a - sc u) * 1000000) else 0)], vi ki (if moE u ((a - sc u) * 1000000) = 0 then how else 0), vi ki (moE u ((a - sc u) * 1000000))]) ∧ Below w.heap.size w w' := by
 obtain ⟨a', how', h, hn, C⟩ := kinst Z u hu
 obtain ⟨rfl, rfl⟩ := hI.one h
 exact C w hw
def LoIs (A : Int → TrR) (i u I V E : Int) : Prop :=
 (Dy.sR i u = false ∧ I = 0 ∧ V = 0 ∧ E = 1) ∨ (Dy.sR i u = true ∧ i ≠ 0 ∧ I = i ∧ V = u ∧ E = 0) ∨ (i = 0 ∧ Dy.dok (u / 86400000000) = true ∧ I = 0 ∧ V = moV u ((A (sc u)).off * 1000000) ∧ E = moE u ((A (sc u)).off * 1000000))
theorem klo {Ok : World → Prop} {T : List Value} {A : Int → TrR} (Z : ZK Ok T A) (i u I V E : Int) (h : LoIs A i u I V E) (u1 : -9223372036854775808 ≤ u) (u2 : u ≤ 9223372036854775807) (w : World) (hw : Ok w) :
  Calls Tryz.prog 10 #[.agg T.toArray, .agg #[vi ki i, vi ki u]] w fun r w' => r = zr (.tuple #[.agg #[vi ki I, vi ki V], vi ki E]) ∧ Below w.heap.size w w' := by
 have R : ∀ c, Dy.sR i u = c → ∀ w : World, Ok w → _ := fun c hc w hw => by have h := Dy.rst_any i u u1 u2 w (Z.zf.lens w hw); rw [hc] at h; exact h
 rcases h with ⟨hr, rfl, rfl, rfl⟩ | ⟨hr, hi, rfl, rfl, rfl⟩ | ⟨rfl, hu, rfl, rfl, rfl⟩
 ·exact lo_no2 Ok T Z.zf.len i u Z.zf.right (R _ hr) w (fun W hb => Z.zf.below w W hw hb)
 ·exact lo_inf Ok T Z.zf.len _ _ hi Z.zf.right (R _ hr) w (fun W hb => Z.zf.below w W hw hb)
 ·exact klocal Z u hu w hw
def InIs (A : Int → TrR) (i u I V h E : Int) : Prop :=
 (Dy.sR i u = false ∧ I = 0 ∧ V = 0 ∧ h = 0 ∧ E = 1) ∨ (Dy.sR i u = true ∧ i ≠ 0 ∧ I = i ∧ V = u ∧ h = 0 ∧ E = 0) ∨
 (i = 0 ∧ Dy.dok (u / 86400000000) = true ∧ I = 0 ∧ ∃ a how, Zm.InstIs (fun τ => (A τ).off) (sc u) a how ∧ V = (if moE u ((a - sc u) * 1000000) = 0 then moV u ((a - sc u) * 1000000) else 0) ∧ h = (if moE u ((a - sc u) * 1000000) = 0 then how else 0) ∧ E = moE u ((a - sc u) * 1000000))
theorem kin {Ok : World → Prop} {T : List Value} {A : Int → TrR} (Z : ZK Ok T A) (i u I V h E : Int) (hI : InIs A i u I V h E) (u1 : -9223372036854775808 ≤ u) (u2 : u ≤ 9223372036854775807) (w : World) (hw : Ok w) :
  Calls Tryz.prog 12 #[.agg T.toArray, .agg #[vi ki i, vi ki u]] w fun r w' => r = zr (.tuple #[.agg #[vi ki I, vi ki V], vi ki h, vi ki E]) ∧ Below w.heap.size w w' := by
 have R : ∀ c, Dy.sR i u = c → ∀ w : World, Ok w → _ := fun c hc w hw => by have h := Dy.rst_any i u u1 u2 w (Z.zf.lens w hw); rw [hc] at h; exact h
 rcases hI with ⟨hr, rfl, rfl, rfl, rfl⟩ | ⟨hr, hi, rfl, rfl, rfl, rfl⟩ | ⟨rfl, hu, rfl, a, how, hI, rfl, rfl, rfl⟩
 ·exact in_no2 Ok T Z.zf.len i u Z.zf.right (R _ hr) w (fun W hb => Z.zf.below w W hw hb)
 ·exact in_inf Ok T Z.zf.len _ _ hi Z.zf.right (R _ hr) w (fun W hb => Z.zf.below w W hw hb)
 ·exact kinst_is Z u hu hI w hw
end Go.Proofs.YtklehbmghjcmaaaGreatDoor
namespace Go.Proofs.YtklehbmghjcmaaaGreatDoor
open Go.RowKit
set_option maxRecDepth 100000
theorem cell5 : (Tryz.prog.cellTypes Tryz.prog.depth 34).map (fun ts => ts[5 % ts.length]?) = some (some 24) := by kernel_rfl
theorem table_place {w : World} {r : Reach} {b0 : Nat} {t : TbR} {sv : Value} (hv : Value.okWide Tryz.prog w r b0 34 (.agg (tbL t sv).toArray)) : ∀ a n c, sv = .slice (some a) n c → a.block < w.heap.size ∧ a.spot = none := by
 intro a n c hs
 subst hs
 simp only [Value.okWide, Tryz.underlying34] at hv
 obtain ⟨cs, h1, _, ts, hts, _, hc⟩ := hv
 cases h1
 obtain ⟨u, hu, hcell⟩ := hc 5 (.slice (some a) n c) rfl
 have h5 := cell5
 rw [hts] at h5
 simp only [Option.map_some, Option.some.injEq] at h5
 rw [h5] at hu
 cases hu
 simp only [Cell.okWide, Cell.ok, Tryz.underlying24] at hcell
 obtain ⟨_, _, _, h2, row, cells, h3, _⟩ := hcell
 refine ⟨?_, h2⟩
 rcases Nat.lt_or_ge a.block w.heap.size with h | h
 ·exact h
 ·unfold World.shape? at h3
  rw [Array.getElem?_eq_none h] at h3
  cases h3
theorem table_sized {H : Type} {ts : List TypeId} {ds : List (DataW H)} (h : (DataW.weightsEach Tryz.prog ts ds).all (· ≤ reachBytes) = true) {j : Nat} (ht : ts[j]? = some 34) {d : DataW H} (hd : ds[j]? = some d) {e0 e1 e2 e3 : DataW H} (hde : d = .agg [e0, e1, e2, e3]) {L : List TrR} (he : e2 = .nil ∧ L = [] ∨ ∃ es sp, e2 = .slice es sp ∧ es.length = L.length) : L.length * 40 ≤ 140737488355328 := by
 rcases he with ⟨_, rfl⟩ | ⟨es, sp, rfl, hl⟩
 ·simp
 ·subst hde
  have hm := List.all_eq_true.1 h _ (DataW.weights_mem_each ht hd ((es.length + sp.length) * Tryz.prog.bytesOf 23) (by
   simp only [DataW.weights, Tryz.underlying34]
   refine DataW.weights_mem_each (j := 2) (t := 24) (d := .slice es sp) rfl rfl _ ?_
   simp [DataW.weights, Tryz.underlying24]))
  rw [bytes30] at hm
  have := of_decide_eq_true hm
  unfold reachBytes at this
  rw [Nat.add_mul] at this
  omega
end Go.Proofs.YtklehbmghjcmaaaGreatDoor
namespace Go.Proofs.YtklehbmghjcmaaaGreatDoor
open Go.RowKit Sr
theorem back_bad (Ok : World → Prop) (T : List Value) (hT : T.length = 25) (hOk : ∀ W V : World, Ok W → Below W.heap.size W V → Ok V) (RT : ∀ w : World, Ok w → Calls Tryz.prog 31 #[.agg T.toArray] w fun r' w' => r' = zr (.bool false) ∧ Below w.heap.size w w') (i u : Int) : BackIs T Ok i u :=
 ⟨0, 0, 1, 0, 0, 0, 1, fun w hw => lo_no1 Ok T hT i u RT w (fun W hb => hOk w W hw hb), fun w hw => in_no1 Ok T hT i u RT w (fun W hb => hOk w W hw hb), .inl (by decide), .inl (by decide)⟩
theorem back_all {Ok : World → Prop} {T : List Value} {A : Int → TrR} (Z : ZK Ok T A) (i u : Int) (u1 : -9223372036854775808 ≤ u) (u2 : u ≤ 9223372036854775807) : BackIs T Ok i u := by
 cases hr : Dy.sR i u
 ·exact ⟨0, 0, 1, 0, 0, 0, 1, fun w hw => klo Z i u 0 0 1 (.inl ⟨hr, rfl, rfl, rfl⟩) u1 u2 w hw, fun w hw => kin Z i u 0 0 0 1 (.inl ⟨hr, rfl, rfl, rfl, rfl⟩) u1 u2 w hw, .inl (by decide), .inl (by decide)⟩
 by_cases hi : i = 0
 ·subst hi
  have hu : Dy.dok (u / 86400000000) = true := hr
  obtain ⟨a, how, hI⟩ := inst_ex Z u hu
  have hn := inst_near Z u hu hI
  refine ⟨0, _, _, 0, _, _, _, fun w hw => klocal Z u hu w hw, fun w hw => kinst_is Z u hu hI w hw, ?_, ?_⟩
  ·by_cases hE : moE u ((A (sc u)).off * 1000000) = 0
   ·refine .inr ⟨hE, ?_⟩
    have hv := mo_val hE
    rw [mo_is hE] at hv ⊢
    have hask : ask (sc u) := ask_st hu (by unfold sc; omega) (by unfold sc; omega)
    have ho := Z.off _ hask
    obtain ⟨a', how', hI'⟩ := inst_ex Z _ hv
    refine ⟨0, _, _, _, fun w hw => kinst_is Z _ hv hI' w hw, ?_⟩
    by_cases hE3 : moE (u + (A (sc u)).off * 1000000) ((a' - sc (u + (A (sc u)).off * 1000000)) * 1000000) = 0
    ·refine .inr ?_
     rw [if_pos hE3, if_pos hE3, mo_is hE3]
     rcases back_1 (A := fun τ => (A τ).off) rfl ho.1 ho.2 hI' with ⟨h1, h2⟩ | ⟨h1, h2⟩
     ·exact .inl ⟨hE3, rfl, h1.symm, h2⟩
     ·exact .inr ⟨hE3, rfl, h1, h2⟩
    ·exact .inl hE3
   ·exact .inl hE
  ·by_cases hE : moE u ((a - sc u) * 1000000) = 0
   ·refine .inr ⟨hE, ?_⟩
    have hv := mo_val hE
    rw [if_pos hE, if_pos hE]
    rw [mo_is hE] at hv ⊢
    obtain ⟨hs, hb⟩ := back_2 hI hn
    have L := fun w (hw : Ok w) => klocal Z _ hv w hw
    rw [hs] at L
    refine ⟨0, _, _, L, ?_⟩
    by_cases hE4 : moE (u + (a - sc u) * 1000000) ((A a).off * 1000000) = 0
    ·refine .inr ?_
     rw [mo_is hE4]
     by_cases h2 : how = 2
     ·exact .inr ⟨hE4, rfl, fun q => hb.1 q h2, h2⟩
     ·exact .inl ⟨hE4, rfl, (hb.2 h2).symm, h2⟩
    ·exact .inl (mo_err hE4).2
   ·exact .inl hE
 ·exact ⟨i, u, 0, i, u, 0, 0, fun w hw => klo Z i u i u 0 (.inr (.inl ⟨hr, hi, rfl, rfl, rfl⟩)) u1 u2 w hw, fun w hw => kin Z i u i u 0 0 (.inr (.inl ⟨hr, hi, rfl, rfl, rfl, rfl⟩)) u1 u2 w hw,
   .inr ⟨rfl, i, u, 0, 0, fun w hw => kin Z i u i u 0 0 (.inr (.inl ⟨hr, hi, rfl, rfl, rfl, rfl⟩)) u1 u2 w hw, .inr (.inl ⟨rfl, rfl, rfl, by decide⟩)⟩,
   .inr ⟨rfl, i, u, 0, fun w hw => klo Z i u i u 0 (.inr (.inl ⟨hr, hi, rfl, rfl, rfl⟩)) u1 u2 w hw, .inr (.inl ⟨rfl, rfl, rfl, by decide⟩)⟩⟩
theorem gb_any (t : TbR) (sv : Value) (f1 : -9223372036854775808 ≤ t.foot.fr) (f2 : t.foot.fr ≤ 9223372036854775807) (h40 : t.trs.length * 40 ≤ 140737488355328) (i u : Int) (u1 : -9223372036854775808 ≤ u) (u2 : u ≤ 9223372036854775807)
  (w : World) (HL : Cvl.Lens w) (HT : Clk.Tab w) (HA : TransA w sv t.trs) (hg : ∀ a n c, sv = .slice (some a) n c → a.block < w.heap.size ∧ a.spot = none) :
  Calls Tryz.prog 9 #[.agg (tbL t sv).toArray] w fun e w' => ∃ (T : List Value) (Ok : World → Prop), e = zr (.agg T.toArray) ∧ T.length = 25 ∧ T.toArray.all (·.oneCell') = true ∧ Ok w' ∧ (∀ A B : World, Ok A → Below A.heap.size A B → Ok B) ∧ (∀ A : World, Ok A → Ok A.drew) ∧ Below w.heap.size w w' ∧ BackIs T Ok i u := by
 refine (given_any17 t sv w HA h40 hg).mono ?_
 rintro e W ⟨sv', rfl, hT, hb, hcap⟩
 obtain ⟨⟨ao, c, rfl⟩, hlen, _⟩ := id hT
 have HL' : Cvl.Lens W := (Dy.lens_of HL).out W hb
 have HT' : Clk.Tab W := HT.below hb
 obtain ⟨bb, hR, RT⟩ := right_any t (.slice ao t.trs.length c) f1 f2
 refine ⟨tbL t (.slice ao t.trs.length c), OkF (.slice ao t.trs.length c) t.trs, rfl, by simp [tbL, trC, Fn.fL], one_tf t.nm t.first ao _ c t.foot, ⟨⟨hT, HL'⟩, HT'⟩, fun A B h k => h.below k, fun A h => h.below ((Below.refl _ _).drew), hb, ?_⟩
 cases bb
 ·exact back_bad _ _ (by simp [tbL, trC, Fn.fL]) (fun A B h k => h.below k) (fun w hw => RT w hw.1.2 hw.2 hw.1.1) i u
 ·obtain ⟨A, hA⟩ := ck_any hR
  exact back_all (zk_any t ao _ c (hcap _ _ _ rfl) rfl hR hA RT) i u u1 u2
end Go.Proofs.YtklehbmghjcmaaaGreatDoor
