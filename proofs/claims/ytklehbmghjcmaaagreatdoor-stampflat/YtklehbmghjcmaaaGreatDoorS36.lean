import Derived.Test.YtklehbmghjcmaaaGreatDoorSz
import Derived.Test.YtklehbmghjcmaaaGreatDoorS31
import Derived.Test.YtklehbmghjcmaaaGreatDoorS32
import Derived.Test.YtklehbmghjcmaaaGreatDoorS33
import Derived.Test.YtklehbmghjcmaaaGreatDoorS35
import Derived.Test.YtklehbmghjcmaaaGreatDoorS24
import Derived.Test.YtklehbmghjcmaaaGreatDoorS3
open Go.Value renaming int → vi
open Go.IntKind renaming i64 → ki
open List renaming setIfInBounds_toArray → zb, set_cons_zero → zc, set_cons_succ → zd
open Go.Act renaming put → za
open Go.Ending renaming returned → zr
set_option maxRecDepth 100000
set_option maxHeartbeats 16000000
set_option linter.unusedVariables false
namespace Go.Proofs.YtklehbmghjcmaaaGreatDoor
open Go.RowKit
theorem rst_yes {u : Int} (h : Dy.dok (u / 86400000000) = true) (w : World) (hw : Cvl.Lens w) : Calls Tryz.prog 32 #[.agg #[vi ki 0, vi ki u]] w fun r' w' => r' = zr (.bool true) ∧ Below w.heap.size w w' := by
 obtain ⟨u1, u2⟩ := dok_bd h
 have R := Dy.rst_any 0 u u1 u2 w hw
 rw [show Dy.sR 0 u = true from h] at R
 exact R
theorem pr_yes {m d n : Int} (h : Sp.pR 0 m d n = true) (w : World) : Calls Tryz.prog 23 #[.agg #[vi ki 0, vi ki m, vi ki d, vi ki n]] w fun r' w' => r' = zr (.bool true) ∧ Below w.heap.size w w' := by
 have b := pR_bd h
 have R := Sp.pr_any 0 m d n (by omega) (by omega) w
 rw [h] at R
 exact R
theorem nlocal (nm : ByteArray) (f : TrR) (ao : Option Addr) (n c : Nat) (L : List TrR) (h : NoF f L) (u s o6 : Int) (hu : Dy.dok (u / 86400000000) = true) (hs : s = u / 1000000 + 946684800) (ha : ask s) (ho : o6 = (curT f L (Zm.cntLe s (L.map (·.at_)))).off * 1000000) (w : World) (HO : OkN (.slice ao n c) L w) :
  Calls Tryz.prog 10 #[.agg (tbF nm f (.slice ao n c) zeF).toArray, .agg #[vi ki 0, vi ki u]] w fun r w' => r = zr (.tuple #[.agg #[vi ki 0, vi ki (moV u o6)], vi ki (moE u o6)]) ∧ Below w.heap.size w w' := by
 obtain ⟨u1, u2⟩ := dok_bd hu
 have b := h.cur (Zm.cntLe s (L.map (·.at_)))
 have SE := fun w => sec_any 0 u u1 u2 w
 rw [← hs] at SE
 have AT := fun w hw => nat_ nm f (.slice ao n c) L h s ha w hw
 generalize curT f L (Zm.cntLe s (L.map (·.at_))) = x at *
 exact lo_ok (OkN (.slice ao n c) L) _ (tbF_len rfl) u s _ x.off o6 _ _ x.dst x.ab (by rw [ho, IntKind.wrap_i64]; omega) (fun w hw => nright nm f _ L h w hw.1) (fun w hw => rst_yes hu w hw.2) SE AT (fun w hw => more_any 0 u o6 u1 u2 (by omega) (by omega) w hw.2) w (fun W hb => HO.below hb)
theorem ninst (nm : ByteArray) (f : TrR) (ao : Option Addr) (n c : Nat) (hnc : n ≤ c) (L : List TrR) (hn : L.length = n) (h : NoF f L) (u s a9 how d9 V : Int) (hu : Dy.dok (u / 86400000000) = true) (hs : s = u / 1000000 + 946684800) (h0 : ask s) (h1 : ask (s - 57600)) (h2 : ask (s + 57600))
  (hi : a9 = inV (Zm.pGo s (stsN f L s) (⟨0, 0, 0⟩, ⟨0, 0, 0⟩))) (hh : how = inH (Zm.pGo s (stsN f L s) (⟨0, 0, 0⟩, ⟨0, 0, 0⟩))) (hd : d9 = a9 - s) (d1 : -57600 ≤ d9) (d2 : d9 ≤ 57600) (hV : Dy.dok ((u + d9 * 1000000) / 86400000000) = true) (hV2 : V = u + d9 * 1000000) (w : World) (HO : OkN (.slice ao n c) L w) :
  Calls Tryz.prog 12 #[.agg (tbF nm f (.slice ao n c) zeF).toArray, .agg #[vi ki 0, vi ki u]] w fun r w' => r = zr (.tuple #[.agg #[vi ki 0, vi ki V], vi ki how, vi ki 0]) ∧ Below w.heap.size w w' := by
 obtain ⟨u1, u2⟩ := dok_bd hu
 have SE := fun w => sec_any 0 u u1 u2 w
 rw [← hs] at SE
 have IN := fun w hw => nin_ nm f ao n c hnc L hn h s h0 h1 h2 (by omega) (by omega) w hw
 rw [← hi, ← hh] at IN
 have MO := fun w (hw : OkN (.slice ao n c) L w) => more_any 0 u (d9 * 1000000) u1 u2 (by omega) (by omega) w hw.2
 unfold moV moE at MO
 rw [if_pos hV, if_pos hV, ← hV2] at MO
 exact in_ok (OkN (.slice ao n c) L) _ (tbF_len rfl) u s a9 how d9 (d9 * 1000000) V 0 (by rw [hd, IntKind.wrap_i64]; omega) (by rw [IntKind.wrap_i64]; omega) (fun w hw => nright nm f _ L h w hw.1) (fun w hw => rst_yes hu w hw.2) SE IN MO w (fun W hb => HO.below hb)
theorem noB : NoF fB LB := by
 refine ⟨rfl, by decide, by decide, fun j hj => ?_⟩
 have hj2 : j < 2 := hj
 rcases (show j = 0 ∨ j = 1 by omega) with rfl | rfl
 ·exact ⟨_, rfl, by decide, by decide, by decide, .inl rfl⟩
 ·exact ⟨_, rfl, by decide, by decide, by decide, .inr ⟨_, rfl, by decide⟩⟩
theorem ask24 {t : Int} (h1 : 1704067200 ≤ t) (h2 : t < 1735689600) : ask t := by
 refine ⟨by omega, by omega, 2024, .inl ⟨?_, ?_, ?_⟩, by decide⟩
 ·unfold Cvl.can; exact decide_eq_true (by omega)
 ·rw [show Cv.S 2024 = 8766 by decide +kernel]; omega
 ·rw [show Cv.S (2024 + 1) = 9132 by decide +kernel]; omega
theorem known_any (w : World) (hL : Cvl.Lens w) : Calls Tryz.prog 16 #[] w fun r w' => r = zr (.bool true) ∧ Below w.heap.size w w' := by
 have LO : ∀ (u s o6 V : Int) (ao : Option Addr) (c : Nat), 2 ≤ c → Dy.dok (u / 86400000000) = true → s = u / 1000000 + 946684800 → 1704067200 ≤ s ∧ s < 1735689600 → o6 = (curT fB LB (Zm.cntLe s (LB.map (·.at_)))).off * 1000000 → moV u o6 = V → moE u o6 = 0 → ∀ w : World, OkN (.slice ao 2 c) LB w → Calls Tryz.prog 10 #[.agg (tbF nmB fB (.slice ao 2 c) zeF).toArray, .agg #[vi ki 0, vi ki u]] w fun r w' => r = zr (.tuple #[.agg #[vi ki 0, vi ki V], vi ki 0]) ∧ Below w.heap.size w w' := fun u s o6 V ao c hc hu hs hss ho h1 h2 w hw => by
  have R := nlocal nmB fB ao 2 c LB noB u s o6 hu hs (ask24 hss.1 hss.2) ho w hw
  rw [h1, h2] at R
  exact R
 have IN : ∀ (u s a9 how V : Int) (ao : Option Addr) (c : Nat), 2 ≤ c → Dy.dok (u / 86400000000) = true → s = u / 1000000 + 946684800 → 1704167200 ≤ s ∧ s < 1735589600 → a9 = inV (Zm.pGo s (stsN fB LB s) (⟨0, 0, 0⟩, ⟨0, 0, 0⟩)) → how = inH (Zm.pGo s (stsN fB LB s) (⟨0, 0, 0⟩, ⟨0, 0, 0⟩)) → -57600 ≤ a9 - s ∧ a9 - s ≤ 57600 → Dy.dok ((u + (a9 - s) * 1000000) / 86400000000) = true → V = u + (a9 - s) * 1000000 → ∀ w : World, OkN (.slice ao 2 c) LB w → Calls Tryz.prog 12 #[.agg (tbF nmB fB (.slice ao 2 c) zeF).toArray, .agg #[vi ki 0, vi ki u]] w fun r w' => r = zr (.tuple #[.agg #[vi ki 0, vi ki V], vi ki how, vi ki 0]) ∧ Below w.heap.size w w' := fun u s a9 how V ao c hc hu hs hss hi hh hd hV hV2 w hw =>
  ninst nmB fB ao 2 c hc LB rfl noB u s a9 how (a9 - s) V hu hs (ask24 (by omega) (by omega)) (ask24 (by omega) (by omega)) (ask24 (by omega) (by omega)) hi hh rfl hd.1 hd.2 hV hV2 w hw
 refine known_run ?_ ?_ ?_ ?_ ?_ w hL
 ·exact fun ao c hc w hw => LO 783304200000000 1729989000 7200000000 783311400000000 ao c hc (by decide) (by decide) (by decide) (by decide +kernel) (by decide +kernel) (by decide +kernel) w hw
 ·exact fun ao c hc w hw => IN 783311400000000 1729996200 1729989000 1 783304200000000 ao c hc (by decide) (by decide) (by decide) (by decide +kernel) (by decide +kernel) (by decide) (by decide) (by decide) w hw
 ·intro ao c hc w hw
  have ADI : AddIs 0 765115200000000 0 0 1 0 0 765201600000000 0 := .inr (.inr ⟨rfl, rfl, by decide, by decide, 2024, 3, 30, ⟨by decide, by decide, by decide, by decide, by decide +kernel⟩, rfl, by decide +kernel, by decide +kernel⟩)
  have AD := fun w (hw : OkN (.slice ao 2 c) LB w) => sadd_any 0 765115200000000 0 0 1 0 0 765201600000000 0 ADI (by decide) (by decide) (by decide) (by decide) w hw.2
  have L1 := fun w hw => LO 765111600000000 1711796400 3600000000 765115200000000 ao c hc (by decide) (by decide) (by decide) (by decide +kernel) (by decide +kernel) (by decide +kernel) w hw
  have I1 := fun w hw => IN 765201600000000 1711886400 1711879200 0 765194400000000 ao c hc (by decide) (by decide) (by decide) (by decide +kernel) (by decide +kernel) (by decide) (by decide) (by decide) w hw
  have MB := fun w (hw : OkN (.slice ao 2 c) LB w) => mb_ok (OkN (.slice ao 2 c) LB) _ (tbF_len rfl) 765111600000000 0 0 1 0 765115200000000 765201600000000 765194400000000 0 0 L1 AD I1 w (fun W hb => hw.below hb)
  have MO := fun w (hw : OkN (.slice ao 2 c) LB w) => more_any 0 765194400000000 0 (by decide) (by decide) (by decide) (by decide) w hw.2
  rw [show moV 765194400000000 0 = 765194400000000 by decide +kernel, show moE 765194400000000 0 = 0 by decide +kernel] at MO
  exact az_okd (OkN (.slice ao 2 c) LB) _ (tbF_len rfl) 0 765111600000000 0 1 0 765194400000000 _ 0 (kdV 0) (kdV 0) (by decide) (fun w hw => nright nmB fB _ LB noB w hw.1) (fun w hw => rst_yes (by decide) w hw.2) (fun w => pr_yes (by decide) w) (fun w => kind_b 0 w) (fun w => kind_b 0 w) (fun w => tog_any 0 0 (.inr (.inl rfl)) (.inr (.inl rfl)) w) MB MO w (fun W hb => hw.below hb)
 ·intro ao c hc w hw
  have MO := fun w (hw : OkN (.slice ao 2 c) LB w) => more_any 0 765111600000000 86400000000 (by decide) (by decide) (by decide) (by decide) w hw.2
  rw [show moV 765111600000000 86400000000 = 765198000000000 by decide +kernel, show moE 765111600000000 86400000000 = 0 by decide +kernel] at MO
  exact az_none (OkN (.slice ao 2 c) LB) _ (tbF_len rfl) 0 765111600000000 0 86400000000 _ 0 (kdV 0) (kdV 0) (fun w hw => nright nmB fB _ LB noB w hw.1) (fun w hw => rst_yes (by decide) w hw.2) (fun w => pr_yes (by decide) w) (fun w => kind_b 0 w) (fun w => kind_b 0 w) (fun w => tog_any 0 0 (.inr (.inl rfl)) (.inr (.inl rfl)) w) MO w (fun W hb => hw.below hb)
 ·intro ao c hc w hw
  refine sage_any 0 762566400000000 0 759974400000000 0 1 1 0 0 (.inr (.inl ⟨rfl, rfl, by decide, by decide, by decide, rfl, rfl, 2024, 3, 1, 2024, 1, 31, ⟨by decide, by decide, by decide, by decide, by decide +kernel⟩, ⟨by decide, by decide, by decide, by decide, by decide +kernel⟩, ?_, ?_, ?_⟩)) (by decide) (by decide) (by decide) (by decide) w hw.2 <;> decide +kernel
end Go.Proofs.YtklehbmghjcmaaaGreatDoor
namespace Go.Proofs.YtklehbmghjcmaaaGreatDoor
open Go.RowKit Sr
structure ZF (Ok : World → Prop) (T : List Value) : Prop where
 len : T.length = 25
 lens : ∀ W, Ok W → Cvl.Lens W
 below : ∀ W V : World, Ok W → Below W.heap.size W V → Ok V
 right : ∀ w : World, Ok w → Calls Tryz.prog 31 #[.agg T.toArray] w fun r' w' => r' = zr (.bool true) ∧ Below w.heap.size w w'
 at_ : ∀ t, ask t → ∃ x : TrR, (-57600 ≤ x.off ∧ x.off ≤ 57600) ∧ ∀ w : World, Ok w → Calls Tryz.prog 33 #[.agg T.toArray, vi ki t] w fun r w' => r = zr (.tuple #[trV x, vi ki 0]) ∧ Below w.heap.size w w'
 inst : ∀ x, ask x → ask (x - 57600) → ask (x + 57600) → -1000000000000000 ≤ x → x ≤ 1000000000000000 → ∃ a how : Int, (x - 57600 ≤ a ∧ a ≤ x + 57600) ∧ ∀ w : World, Ok w → Calls Tryz.prog 40 #[.agg T.toArray, vi ki x] w fun r w' => r = zr (.tuple #[vi ki a, vi ki how, vi ki 0]) ∧ Below w.heap.size w w'
theorem inV_sts {x : Int} {x0 : TrR} {ch : List TrR} (h0 : -57600 ≤ x0.off ∧ x0.off ≤ 57600) (hc : ∀ c ∈ ch, (-57600 ≤ c.off ∧ c.off ≤ 57600) ∧ x - 57600 < c.at_) : x - 57600 ≤ inV (Zm.pGo x (stsC x0 ch x) (⟨0, 0, 0⟩, ⟨0, 0, 0⟩)) ∧ inV (Zm.pGo x (stsC x0 ch x) (⟨0, 0, 0⟩, ⟨0, 0, 0⟩)) ≤ x + 57600 := by
 have ho : ∀ s ∈ stsC x0 ch x, -57600 ≤ s.o ∧ s.o ≤ 57600 := strs_off _ (fun o => -57600 ≤ o ∧ o ≤ 57600) _ _ _ h0 (fun c hc' => by obtain ⟨d, hd, rfl⟩ := List.mem_map.1 hc'; exact (hc d hd).1)
 obtain ⟨e, r, hs, he⟩ := strs_head (x - 57600) (x + 57600 + 1) x0.off (ch.map fun c => (c.at_, c.off)) (by omega) (fun c hc' => by obtain ⟨d, hd, rfl⟩ := List.mem_map.1 hc'; have := (hc d hd).2; simp only []; omega)
 have hs' : stsC x0 ch x = ⟨x - 57600, e, x0.off⟩ :: r := hs
 rw [hs'] at ho ⊢
 exact inV_near he ho
theorem zf_none (nm : ByteArray) (f : TrR) (ao : Option Addr) (n c : Nat) (hnc : n ≤ c) (L : List TrR) (hn : L.length = n) (h : NoF f L) : ZF (OkF (.slice ao n c) L) (tbF nm f (.slice ao n c) zeF) := by
 refine ⟨rfl, fun W h => h.1.2, fun W V hW hb => hW.below hb, fun w hw => nright nm f _ L h w hw.1.1, fun t ht => ⟨_, h.cur _, fun w hw => nat_ nm f _ L h t ht w hw.1⟩, fun x h0 h1 h2 x1 x2 => ?_⟩
 refine ⟨_, _, ?_, fun w hw => nin_ nm f ao n c hnc L hn h x h0 h1 h2 x1 x2 w hw.1⟩
 have hcm : ∀ c ∈ Zm.chg (x - 57600) (x + 57600) L, c ∈ L := fun c hc => List.mem_of_mem_drop ((tw_sub _).2 c hc)
 refine inV_sts (x0 := curT f L (Zm.cntLe (x - 57600) (L.map (·.at_)))) (ch := Zm.chg (x - 57600) (x + 57600) L) (h.cur _) (fun c hc => ⟨h.off (hcm c hc), ?_⟩)
 unfold Zm.chg at hc
 rw [Zm.drop_take (fun y : TrR => y.at_) _ _ L h.rises] at hc
 have := (List.mem_filter.1 hc).2
 simp at this
 exact this.1
theorem zf_foot (nm : ByteArray) (f : TrR) (ft : Fn.Ft) (ao : Option Addr) (n c : Nat) (hnc : n ≤ c) (L : List TrR) (hn : L.length = n) (h : NoF f L) (hf : Fn.okF ft = true) (hla : ∀ x ∈ L, x.at_ < ft.fr) (f1 : -1000000000000000000 ≤ ft.fr) (f2 : ft.fr ≤ 1000000000000000000)
  (RT : ∀ w : World, OkF (.slice ao n c) L w → Calls Tryz.prog 31 #[.agg (tbF nm f (.slice ao n c) (Fn.fL ft)).toArray] w fun r' w' => r' = zr (.bool true) ∧ Below w.heap.size w w') : ZF (OkF (.slice ao n c) L) (tbF nm f (.slice ao n c) (Fn.fL ft)) := by
 refine ⟨rfl, fun W h => h.1.2, fun W V hW hb => hW.below hb, RT, fun t ht => ?_, fun x h0 h1 h2 x1 x2 => ?_⟩
 ·obtain ⟨t1, t2, y, hy, ha⟩ := ht
  have hk := of_decide_eq_true ha
  obtain ⟨j, hj, FA, _⟩ := Fn.stand_ok ft t y hf hy hk.1 hk.2 t1 t2
  refine ⟨if ft.h = true ∧ ft.fr ≤ t then trT (Fn.gs ft j) else curT f L (Zm.cntLe t (L.map (·.at_))), ?_, fun w hw => ?_⟩
  ·split
   ·exact gs_off hf j
   ·exact h.cur _
  ·have R := zat_any nm f (.slice ao n c) (Fn.fL ft) rfl ft.h ft.fr t rfl rfl L true (fun _ => ⟨h.rises, h.h3⟩) y (trT (Fn.gs ft j)) 0 w hw.1.1
    (fun W hb => RT W (hw.below hb)) (fun W hb => Fn.yat_any t y hy t1 t2 W (hw.below hb).1.2) (fun _ _ _ _ W hb => FA W (hw.below hb).1.2 (hw.below hb).2)
   unfold atP atE at R
   rw [if_pos rfl, if_pos rfl, if_pos ha, if_pos ha] at R
   exact R
 ·obtain ⟨x0, FT, hx0, hch, _, _, C⟩ := fin_ nm f ft ao n c hnc L hn h hf hla f1 f2 RT x h0 h1 h2 x1 x2
  exact ⟨_, _, inV_sts hx0 hch, C⟩
theorem ba_nil {x : ByteArray} (h : x.toList = []) : x = ⟨#[]⟩ := by
 rw [ByteArray.toList_eq] at h
 obtain ⟨⟨l⟩⟩ := x
 simp at h
 rw [h]
theorem footZ_is {f : Fn.Ft} (h : footZ f = true) : Fn.fL f = zeF := by
 unfold footZ halfZ at h
 simp only [Bool.and_eq_true, Bool.not_eq_true', beq_iff_eq] at h
 obtain ⟨⟨⟨⟨a, b⟩, c⟩, ⟨⟨⟨⟨⟨⟨⟨d1, d2⟩, d3⟩, d4⟩, d5⟩, d6⟩, d7⟩, d8⟩⟩, ⟨⟨⟨⟨⟨⟨e1, e2⟩, e3⟩, e4⟩, e5⟩, e6⟩, e7⟩, e8⟩ := h
 unfold Fn.fL
 rw [a, b, c, d1, d2, d3, d4, d5, d6, d7, ba_nil d8, e1, e2, e3, e4, e5, e6, e7, ba_nil e8]
 rfl
theorem rises_last : ∀ {l : List TrR}, Zm.Rises (l.map (·.at_)) → ∀ {z : TrR}, l[l.length - 1]? = some z → ∀ x ∈ l, x.at_ ≤ z.at_ := by
 intro l hr z hz x hx
 obtain ⟨k, hk⟩ := List.getElem?_of_mem hx
 have hkl := (List.getElem?_eq_some_iff.1 hk).1
 have h1 := (Zm.cntLe_iff (x := z.at_) hr (l.length - 1) z.at_ (by simp [hz])).1 (Int.le_refl _)
 exact (Zm.cntLe_iff (x := z.at_) hr k x.at_ (by simp [hk])).2 (by omega)
theorem ask_st {u t : Int} (h : Dy.dok (u / 86400000000) = true) (h1 : u / 1000000 + 946684800 - 57600 ≤ t) (h2 : t ≤ u / 1000000 + 946684800 + 57600) : ask t := by
 have k := Dy.dok_yes h
 have e : -2451508 ≤ t / 86400 - 10957 ∧ t / 86400 - 10957 ≤ 106751983 := by omega
 obtain ⟨y, hy⟩ := Fn.yat_is t
 refine ⟨by omega, by omega, y, hy, ?_⟩
 have c1 : Cvl.can (t / 86400 - 10957) = true := by unfold Cvl.can; exact decide_eq_true (by omega)
 rcases hy with ⟨_, b, c⟩ | ⟨a, _⟩ | ⟨a, _⟩
 ·unfold askY
  refine decide_eq_true ⟨?_, ?_⟩
  ·have : Cv.S (-4714) ≤ t / 86400 - 10957 := by rw [show Cv.S (-4714) = -2452237 by decide +kernel]; omega
   have := Cv.S_lt (show Cv.S (-4714) < Cv.S (y + 1) by omega)
   omega
  ·have : t / 86400 - 10957 < Cv.S 294279 := by rw [show Cv.S 294279 = 106752713 by decide +kernel]; omega
   have := Cv.S_lt (show Cv.S y < Cv.S 294279 by omega)
   omega
 ·rw [c1] at a; cases a
 ·rw [c1] at a; cases a
theorem mo_val {u n : Int} (h : moE u n = 0) : Dy.dok (moV u n / 86400000000) = true := by
 unfold moE at h
 unfold moV
 by_cases k : Dy.dok ((u + n) / 86400000000) = true
 ·rw [if_pos k]; exact k
 ·rw [if_neg k] at h; omega
theorem add_fn {x M D U : Int} (hx : Dy.dok (x / 86400000000) = true) (hp : Sp.pR 0 M D U = true) : ∃ V E, AddIs 0 x 0 M D U 0 V E ∧ (E = 0 → Dy.dok (V / 86400000000) = true) := by
 obtain ⟨y, p, q, hq⟩ := Cv.is_date (x / 86400000000)
 refine ⟨_, _, .inr (.inr ⟨rfl, rfl, hx, hp, y, p, q, hq, rfl, rfl, rfl⟩), fun h => ?_⟩
 by_cases k : mdk (x / 86400000000) y p q M D = true
 ·rw [if_pos k] at h ⊢
  exact mo_val h
 ·rw [if_neg k] at h; omega
end Go.Proofs.YtklehbmghjcmaaaGreatDoor
namespace Go.Proofs.YtklehbmghjcmaaaGreatDoor
namespace Zm
def InstIs (A : Int → Int) (x a how : Int) : Prop :=
 ((how = 0 ∨ how = 1) ∧ (x - 57600 ≤ a ∧ a ≤ x + 57600) ∧ a + A a = x ∧ (∀ τ, x - 57600 ≤ τ → τ ≤ x + 57600 → τ + A τ = x → a ≤ τ) ∧ (how = 1 ↔ ∃ τ, x - 57600 ≤ τ ∧ τ ≤ x + 57600 ∧ τ ≠ a ∧ τ + A τ = x)) ∨
 (how = 2 ∧ (∀ τ, x - 57600 ≤ τ → τ ≤ x + 57600 → τ + A τ ≠ x) ∧ ∃ b, x - 57600 ≤ b ∧ b ≤ x + 57600 ∧ b + A b < x ∧ (∀ τ, b < τ → τ ≤ x + 57600 → x < τ + A τ) ∧ a = x - A b)
theorem InstIs.one {A : Int → Int} {x a b g h : Int} (p : InstIs A x a g) (q : InstIs A x b h) : a = b ∧ g = h := by
 rcases p with ⟨p1, p2, p3, p4, p5⟩ | ⟨p1, p2, c, c1, c2, c3, c4, c5⟩
 ·rcases q with ⟨q1, q2, q3, q4, q5⟩ | ⟨q1, q2, _⟩
  ·have e : a = b := Int.le_antisymm (p4 b q2.1 q2.2 q3) (q4 a p2.1 p2.2 p3)
   subst e
   refine ⟨rfl, ?_⟩
   have : g = 1 ↔ h = 1 := p5.trans q5.symm
   omega
  ·exact absurd p3 (q2 a p2.1 p2.2)
 ·rcases q with ⟨q1, q2, q3, _⟩ | ⟨q1, q2, d, d1, d2, d3, d4, d5⟩
  ·exact absurd q3 (p2 b q2.1 q2.2)
  ·have e : c = d := by
    rcases Int.lt_trichotomy c d with k | k | k
    ·have := c4 d k d2; omega
    ·exact k
    ·have := d4 c k c2; omega
   subst e
   exact ⟨by rw [c5, d5], by rw [p1, q1]⟩
structure InvP (A : Int → Int) (x lo a0 : Int) (gl gs : Gr) : Prop where
 n0 : 0 ≤ gs.n
 l0 : 0 ≤ gl.n
 none : gs.n = 0 → ∀ τ, lo ≤ τ → τ < a0 → τ + A τ ≠ x
 some : 0 < gs.n → lo ≤ gs.f ∧ gs.f < a0 ∧ gs.f + A gs.f = x ∧ ∀ τ, lo ≤ τ → τ < a0 → τ + A τ = x → gs.f ≤ τ
 one : gs.n = 1 → ∀ τ, lo ≤ τ → τ < a0 → τ + A τ = x → τ = gs.f
 two : 1 < gs.n → ∃ τ, lo ≤ τ ∧ τ < a0 ∧ τ ≠ gs.f ∧ τ + A τ = x
 less : gs.n = 0 → 0 < gl.n → ∃ b, lo ≤ b ∧ b < a0 ∧ b + A b < x ∧ (∀ τ, b < τ → τ < a0 → x < τ + A τ) ∧ gl.l = x - A b
 more : gs.n = 0 → gl.n = 0 → ∀ τ, lo ≤ τ → τ < a0 → x < τ + A τ
def endOf (a : Int) : List St → Int
 | [] => a
 | s :: l => endOf s.b l
theorem pgo_inv {A : Int → Int} {x lo : Int} : ∀ (l : List St) (a0 : Int) (gl gs : Gr), Chain a0 l → lo ≤ a0 → (∀ s ∈ l, ∀ τ, s.a ≤ τ → τ < s.b → A τ = s.o) → InvP A x lo a0 gl gs →
  InvP A x lo (endOf a0 l) (pGo x l (gl, gs)).1 (pGo x l (gl, gs)).2
 | [], a0, gl, gs, _, _, _, h => h
 | s :: l, a0, gl, gs, hc, hlo, hA, h => by
  obtain ⟨hc1, hc2, hc3⟩ := hc
  have hs := hA s List.mem_cons_self
  have hl : ∀ s ∈ l, ∀ τ, s.a ≤ τ → τ < s.b → A τ = s.o := fun s hs => hA s (List.mem_cons_of_mem _ hs)
  unfold pGo endOf
  by_cases k1 : Zm.less x s
  ·rw [if_pos k1]
   refine pgo_inv l s.b _ _ hc3 (by omega) hl ?_
   have k1' : s.b ≤ x - s.o := k1
   have all : ∀ τ, s.a ≤ τ → τ < s.b → τ + A τ < x := fun τ t1 t2 => by rw [hs τ t1 t2]; omega
   have old : ∀ τ, lo ≤ τ → τ < s.b → τ + A τ = x → τ < a0 := fun τ t1 t2 t3 => by
    rcases Int.lt_or_le τ a0 with k | k
    ·exact k
    ·have := all τ (by omega) t2; omega
   refine ⟨h.n0, ?_, fun hn τ t1 t2 t3 => h.none hn τ t1 (old τ t1 t2 t3) t3, fun hn => ?_, fun hn τ t1 t2 t3 => h.one hn τ t1 (old τ t1 t2 t3) t3, fun hn => ?_, fun hn _ => ?_, fun hn hg => ?_⟩
   ·show 0 ≤ gl.n + 1
    have := h.l0; omega
   ·obtain ⟨b1, b2, b3, b4⟩ := h.some hn
    exact ⟨b1, by omega, b3, fun τ t1 t2 t3 => b4 τ t1 (old τ t1 t2 t3) t3⟩
   ·obtain ⟨τ, t1, t2, t3⟩ := h.two hn
    exact ⟨τ, t1, by omega, t3⟩
   ·refine ⟨s.b - 1, by omega, by omega, all _ (by omega) (by omega), fun τ t1 t2 => by omega, ?_⟩
    show x - s.o = _
    rw [hs (s.b - 1) (by omega) (by omega)]
   ·have : gl.n + 1 = 0 := hg
    have := h.l0
    omega
  ·rw [if_neg k1]
   have k1' : ¬ s.b ≤ x - s.o := k1
   by_cases k2 : says x s
   ·rw [if_pos k2]
    refine pgo_inv l s.b _ _ hc3 (by omega) hl ?_
    have k2' : s.a ≤ x - s.o ∧ x - s.o < s.b := k2
    have now : (x - s.o) + A (x - s.o) = x := by rw [hs _ k2'.1 k2'.2]; omega
    have only : ∀ τ, s.a ≤ τ → τ < s.b → τ + A τ = x → τ = x - s.o := fun τ t1 t2 t3 => by rw [hs τ t1 t2] at t3; omega
    refine ⟨?_, h.l0, fun hn => ?_, fun hn => ?_, fun hn τ t1 t2 t3 => ?_, fun hn => ?_, fun hn => ?_, fun hn => ?_⟩
    ·show 0 ≤ gs.n + 1
     have := h.n0; omega
    ·exfalso
     have : gs.n + 1 = 0 := hn
     have := h.n0; omega
    ·show lo ≤ (if gs.n = 0 then x - s.o else gs.f) ∧ (if gs.n = 0 then x - s.o else gs.f) < s.b ∧ (if gs.n = 0 then x - s.o else gs.f) + A (if gs.n = 0 then x - s.o else gs.f) = x ∧ ∀ τ, lo ≤ τ → τ < s.b → τ + A τ = x → (if gs.n = 0 then x - s.o else gs.f) ≤ τ
     by_cases k : gs.n = 0
     ·rw [if_pos k]
      refine ⟨by omega, by omega, now, fun τ t1 t2 t3 => ?_⟩
      rcases Int.lt_or_le τ a0 with q | q
      ·exact absurd t3 (h.none k τ t1 q)
      ·have := only τ (by omega) t2 t3; omega
     ·rw [if_neg k]
      obtain ⟨b1, b2, b3, b4⟩ := h.some (by have := h.n0; omega)
      refine ⟨b1, by omega, b3, fun τ t1 t2 t3 => ?_⟩
      rcases Int.lt_or_le τ a0 with q | q
      ·exact b4 τ t1 q t3
      ·omega
    ·have k : gs.n = 0 := by
      have : gs.n + 1 = 1 := hn
      omega
     show τ = (if gs.n = 0 then x - s.o else gs.f)
     rw [if_pos k]
     rcases Int.lt_or_le τ a0 with q | q
     ·exact absurd t3 (h.none k τ t1 q)
     ·exact only τ (by omega) t2 t3
    ·have k : 0 < gs.n := by
      have : 1 < gs.n + 1 := hn
      omega
     obtain ⟨b1, b2, b3, b4⟩ := h.some k
     refine ⟨x - s.o, by omega, by omega, ?_, now⟩
     show x - s.o ≠ (if gs.n = 0 then x - s.o else gs.f)
     rw [if_neg (by omega)]
     omega
    ·exfalso
     have : gs.n + 1 = 0 := hn
     have := h.n0; omega
    ·exfalso
     have : gs.n + 1 = 0 := hn
     have := h.n0; omega
   ·rw [if_neg k2]
    refine pgo_inv l s.b _ _ hc3 (by omega) hl ?_
    have k2' : ¬ (s.a ≤ x - s.o ∧ x - s.o < s.b) := k2
    have all : ∀ τ, s.a ≤ τ → τ < s.b → x < τ + A τ := fun τ t1 t2 => by rw [hs τ t1 t2]; omega
    have old : ∀ τ, lo ≤ τ → τ < s.b → τ + A τ = x → τ < a0 := fun τ t1 t2 t3 => by
     rcases Int.lt_or_le τ a0 with k | k
     ·exact k
     ·have := all τ (by omega) t2; omega
    refine ⟨h.n0, h.l0, fun hn τ t1 t2 t3 => h.none hn τ t1 (old τ t1 t2 t3) t3, fun hn => ?_, fun hn τ t1 t2 t3 => h.one hn τ t1 (old τ t1 t2 t3) t3, fun hn => ?_, fun hn hg => ?_, fun hn hg τ t1 t2 => ?_⟩
    ·obtain ⟨b1, b2, b3, b4⟩ := h.some hn
     exact ⟨b1, by omega, b3, fun τ t1 t2 t3 => b4 τ t1 (old τ t1 t2 t3) t3⟩
    ·obtain ⟨τ, t1, t2, t3⟩ := h.two hn
     exact ⟨τ, t1, by omega, t3⟩
    ·obtain ⟨b, b1, b2, b3, b4, b5⟩ := h.less hn hg
     refine ⟨b, b1, by omega, b3, fun τ t1 t2 => ?_, b5⟩
     rcases Int.lt_or_le τ a0 with q | q
     ·exact b4 τ t1 q
     ·exact all τ (by omega) t2
    ·rcases Int.lt_or_le τ a0 with q | q
     ·exact h.more hn hg τ t1 q
     ·exact all τ (by omega) t2
theorem strs_end (e : Int) : ∀ (l : List (Int × Int)) (a o : Int), endOf a (strs a e o l) = e
 | [], a, o => rfl
 | c :: l, a, o => by unfold strs endOf; exact strs_end e l c.1 c.2
theorem strs_at {α : Type} (f g : α → Int) {e : Int} : ∀ (l : List α) (a : Int) (z : α), (∀ c ∈ l, a < f c) → Rises (l.map f) → ∀ s ∈ strs a e (g z) (l.map fun c => (f c, g c)), a ≤ s.a ∧ ∀ τ, s.a ≤ τ → τ < s.b → g (lastLe f τ z l) = s.o
 | [], a, z, _, _, s, hs => by
  obtain rfl : s = ⟨a, e, g z⟩ := by simpa [strs] using hs
  exact ⟨Int.le_refl _, fun τ _ _ => rfl⟩
 | c :: l, a, z, hl, hr, s, hs => by
  have hc := hl c List.mem_cons_self
  rw [List.map_cons, strs] at hs
  rcases List.mem_cons.1 hs with rfl | hs
  ·refine ⟨Int.le_refl _, fun τ t1 t2 => ?_⟩
   have t2' : τ < f c := t2
   unfold lastLe
   rw [if_neg (by omega)]
  ·have hr' : Rises (f c :: l.map f) := hr
   obtain ⟨k1, k2⟩ := strs_at f g l (f c) c (fun d hd => hr'.head_lt _ (List.mem_map_of_mem hd)) hr'.tail s hs
   refine ⟨by omega, fun τ t1 t2 => ?_⟩
   unfold lastLe
   rw [if_pos (by omega)]
   exact k2 τ t1 t2
structure PW {α : Type} (f : α → Int) (A : Int → α) (lo hi : Int) (z : α) (l : List α) : Prop where
 rises : Rises (l.map f)
 mem : ∀ c ∈ l, lo < f c ∧ f c ≤ hi
 at_ : ∀ τ, lo ≤ τ → τ ≤ hi → A τ = lastLe f τ z l
theorem PW.chain {α : Type} {f : α → Int} (g : α → Int) {A : Int → α} {lo hi : Int} {z : α} {l : List α} (h : PW f A lo hi z l) (hlh : lo ≤ hi) : Chain lo (strs lo (hi + 1) (g z) (l.map fun c => (f c, g c))) := by
 refine strs_chain _ _ _ (by omega) (fun c hc => ?_) ?_
 ·obtain ⟨d, hd, rfl⟩ := List.mem_map.1 hc
  have := h.mem d hd
  exact ⟨this.1, by show f d < hi + 1; omega⟩
 ·rw [List.map_map]
  exact h.rises
theorem PW.inst {α : Type} {f : α → Int} {g : α → Int} {A : Int → α} {x : Int} {z : α} {l : List α} (h : PW f A (x - 57600) (x + 57600) z l) (ho : ∀ τ, x - 57600 ≤ τ → τ ≤ x + 57600 → -57600 ≤ g (A τ) ∧ g (A τ) ≤ 57600)
  {P : Gr × Gr} (hP : pGo x (strs (x - 57600) (x + 57600 + 1) (g z) (l.map fun c => (f c, g c))) (⟨0, 0, 0⟩, ⟨0, 0, 0⟩) = P) :
  InstIs (fun τ => g (A τ)) x (if P.2.n = 0 then P.1.l else P.2.f) (if P.2.n = 0 then 2 else if P.2.n = 1 then 0 else 1) := by
 have I0 : InvP (fun τ => g (A τ)) x (x - 57600) (x - 57600) ⟨0, 0, 0⟩ ⟨0, 0, 0⟩ := ⟨Int.le_refl _, Int.le_refl _, fun _ τ t1 t2 => by omega, fun k => absurd k (by decide), fun k => absurd k (by decide), fun k => absurd k (by decide), fun _ k => absurd k (by decide), fun _ _ τ t1 t2 => by omega⟩
 have I := pgo_inv (A := fun τ => g (A τ)) (x := x) (lo := x - 57600) _ (x - 57600) _ _ (h.chain g (by omega)) (Int.le_refl _) (fun s hs τ t1 t2 => ?_) I0
 ·rw [strs_end, hP] at I
  by_cases k : P.2.n = 0
  ·rw [if_pos k, if_pos k]
   refine .inr ⟨rfl, fun τ t1 t2 => I.none k τ t1 (by omega), ?_⟩
   by_cases k2 : P.1.n = 0
   ·exfalso
    have h1 := I.more k k2 (x - 57600) (Int.le_refl _) (by omega)
    have h2 := ho (x - 57600) (Int.le_refl _) (by omega)
    have h3 : x < (x - 57600) + g (A (x - 57600)) := h1
    omega
   ·obtain ⟨b, b1, b2, b3, b4, b5⟩ := I.less k (by have := I.l0; omega)
    exact ⟨b, b1, by omega, b3, fun τ t1 t2 => b4 τ t1 (by omega), b5⟩
  ·rw [if_neg k, if_neg k]
   have hn : 0 < P.2.n := by have := I.n0; omega
   obtain ⟨b1, b2, b3, b4⟩ := I.some hn
   refine .inl ⟨by split <;> simp, ⟨b1, by omega⟩, b3, fun τ t1 t2 => b4 τ t1 (by omega), ?_⟩
   by_cases k1 : P.2.n = 1
   ·rw [if_pos k1]
    refine ⟨fun q => absurd q (by decide), fun ⟨τ, t1, t2, t3, t4⟩ => absurd (I.one k1 τ t1 (by omega) t4) t3⟩
   ·rw [if_neg k1]
    obtain ⟨τ, t1, t2, t3, t4⟩ := I.two (by omega)
    exact ⟨fun _ => ⟨τ, t1, by omega, t3, t4⟩, fun _ => rfl⟩
 ·obtain ⟨e1, e2⟩ := strs_at f g l (x - 57600) z (fun c hc => (h.mem c hc).1) h.rises s hs
  have hch := h.chain g (by omega : x - 57600 ≤ x + 57600)
  have : τ < x + 57600 + 1 := by
   have key : ∀ (m : List St) (a : Int), Chain a m → ∀ s ∈ m, s.b ≤ endOf a m := by
    intro m
    induction m with
    | nil => intro a _ s hs; cases hs
    | cons t m ih =>
     intro a hc s hs
     obtain ⟨c1, c2, c3⟩ := hc
     rcases List.mem_cons.1 hs with rfl | hs
     ·unfold endOf
      have mono : ∀ (m : List St) (a : Int), Chain a m → a ≤ endOf a m := by
       intro m
       induction m with
       | nil => intro a _; exact Int.le_refl _
       | cons t m ih =>
        intro a hc
        obtain ⟨c1, c2, c3⟩ := hc
        have := ih t.b c3
        unfold endOf
        omega
      exact mono m _ c3
     ·unfold endOf
      exact ih _ c3 s hs
   have := key _ _ hch s hs
   rw [strs_end] at this
   omega
  show g (A τ) = s.o
  rw [h.at_ τ (by omega) (by omega)]
  exact e2 τ t1 t2
theorem lastLe_app_gt {α : Type} (f : α → Int) (τ : Int) : ∀ (l m : List α) (z : α), (∀ c ∈ m, τ < f c) → lastLe f τ z (l ++ m) = lastLe f τ z l
 | [], m, z, h => by
  cases m with
  | nil => rfl
  | cons c m =>
   have := h c List.mem_cons_self
   rw [List.nil_append]
   unfold lastLe
   rw [if_neg (by omega)]
 | c :: l, m, z, h => by
  rw [List.cons_append]
  unfold lastLe
  split
  ·exact lastLe_app_gt f τ l m c h
  ·rfl
theorem lastLe_app_le {α : Type} (f : α → Int) (τ : Int) : ∀ (l m : List α) (z : α), (∀ c ∈ l, f c ≤ τ) → ∃ z', (z' = z ∨ z' ∈ l) ∧ (l = [] → z' = z) ∧ lastLe f τ z (l ++ m) = lastLe f τ z' m
 | [], m, z, h => ⟨z, .inl rfl, fun _ => rfl, rfl⟩
 | c :: l, m, z, h => by
  have := h c List.mem_cons_self
  obtain ⟨z', a, _, b⟩ := lastLe_app_le f τ l m c (fun d hd => h d (List.mem_cons_of_mem _ hd))
  refine ⟨z', .inr ?_, fun q => (nomatch q), ?_⟩
  ·rcases a with rfl | a
   ·exact List.mem_cons_self
   ·exact List.mem_cons_of_mem _ a
  ·rw [List.cons_append]
   rw [lastLe, if_pos this]
   exact b
theorem lastLe_take {α : Type} (f : α → Int) (τ hi : Int) (h : τ ≤ hi) : ∀ (l : List α) (z : α), lastLe f τ z l = lastLe f τ z (l.takeWhile fun c => decide (f c ≤ hi))
 | [], z => rfl
 | c :: l, z => by
  by_cases k : f c ≤ hi
  ·rw [List.takeWhile_cons_of_pos (by simpa using k)]
   unfold lastLe
   split
   ·exact lastLe_take f τ hi h l c
   ·rfl
  ·rw [List.takeWhile_cons_of_neg (by simpa using k)]
   unfold lastLe
   rw [if_neg (by omega)]
theorem lastLe_cut {α : Type} (f : α → Int) (lo hi τ : Int) (h1 : lo ≤ τ) (h2 : τ ≤ hi) : ∀ (l : List α) (z : α), lastLe f τ z l = lastLe f τ (lastLe f lo z l) ((l.drop (cntLe lo (l.map f))).takeWhile fun c => decide (f c ≤ hi))
 | [], z => rfl
 | c :: l, z => by
  by_cases k : f c ≤ lo
  ·rw [List.map_cons, cntLe, if_pos k, List.drop_succ_cons, lastLe, if_pos (by omega), lastLe, if_pos k]
   exact lastLe_cut f lo hi τ h1 h2 l c
  ·rw [List.map_cons, cntLe, if_neg k, List.drop_zero]
   rw [show lastLe f lo z (c :: l) = z by unfold lastLe; rw [if_neg k]]
   exact lastLe_take f τ hi h2 (c :: l) z
theorem rises_sub {l m : List Int} (h : Rises m) (hs : l.Sublist m) : Rises l := by
 have key : ∀ (m : List Int), Rises m ↔ m.Pairwise (· < ·) := by
  intro m
  induction m with
  | nil => exact ⟨fun _ => List.Pairwise.nil, fun _ => trivial⟩
  | cons a m ih =>
   constructor
   ·intro h
    exact List.pairwise_cons.2 ⟨h.head_lt, ih.1 h.tail⟩
   ·intro h
    obtain ⟨p, q⟩ := List.pairwise_cons.1 h
    cases m with
    | nil => trivial
    | cons b m => exact ⟨p b List.mem_cons_self, ih.2 q⟩
 exact (key l).2 (((key m).1 h).sublist hs)
theorem rises_app {l m : List Int} (hl : Rises l) (hm : Rises m) (h : ∀ a ∈ l, ∀ b ∈ m, a < b) : Rises (l ++ m) := by
 induction l with
 | nil => exact hm
 | cons a l ih =>
  have r := ih hl.tail (fun a ha b hb => h a (List.mem_cons_of_mem _ ha) b hb)
  rw [List.cons_append]
  cases hlm : l ++ m with
  | nil => trivial
  | cons c r' =>
   rw [hlm] at r
   refine ⟨?_, r⟩
   have hc : c ∈ l ++ m := by rw [hlm]; exact List.mem_cons_self
   rcases List.mem_append.1 hc with hc | hc
   ·exact hl.head_lt c hc
   ·exact h a List.mem_cons_self c hc
end Zm
end Go.Proofs.YtklehbmghjcmaaaGreatDoor
