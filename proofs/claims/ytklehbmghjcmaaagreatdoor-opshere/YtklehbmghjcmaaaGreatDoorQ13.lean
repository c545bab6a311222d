import Derived.Test.YtklehbmghjcmaaaGreatDoorQz
import Derived.Test.YtklehbmghjcmaaaGreatDoorQ7
import Derived.Test.YtklehbmghjcmaaaGreatDoorQ10
import Derived.Test.YtklehbmghjcmaaaGreatDoorQ12
open Go.Value renaming int → vi
open Go.IntKind renaming i64 → ki
open List renaming setIfInBounds_toArray → zb, set_cons_zero → zc, set_cons_succ → zd
open Go.Act renaming put → za
open Go.Ending renaming returned → zr
set_option maxRecDepth 100000
set_option maxHeartbeats 16000000
set_option linter.unusedVariables false
namespace Go.Proofs.YtklehbmghjcmaaaGreatDoor
open Go.RowKit Sr
theorem day_up : fldN ⟨#[68, 65, 89]⟩ 13 = 5 := by decide +kernel
theorem day_lo : fldN ⟨#[100, 97, 121]⟩ 13 = 5 := by decide +kernel
theorem here_bad (Ok : World → Prop) (T : List Value) (hT : T.length = 25) (hOk : ∀ W V : World, Ok W → Below W.heap.size W V → Ok V) (RT : ∀ w : World, Ok w → Calls Tryz.prog 31 #[.agg T.toArray] w fun r' w' => r' = zr (.bool false) ∧ Below w.heap.size w w') (i u : Int) : HereIs T Ok i u :=
 ⟨0, 0, 1, fun w hw => tt_no1 Ok T hT _ i u RT w (fun W hb => hOk w W hw hb), .inl (by decide)⟩
theorem here_any {Ok : World → Prop} {T : List Value} (Z : ZF Ok T) (hO : ∀ W, Ok W → OLens W) (i u : Int) (u1 : -9223372036854775808 ≤ u) (u2 : u ≤ 9223372036854775807) : HereIs T Ok i u := by
 have R : ∀ c, Dy.sR i u = c → ∀ w : World, Ok w → _ := fun c hc w hw => rsR hc u1 u2 w (Z.lens w hw)
 have NM := fun w : World => named_13 ⟨#[68, 65, 89]⟩ (by decide) 5 day_up 5 true rfl rfl w
 cases h1 : Dy.sR i u
 ·exact ⟨0, 0, 1, fun w hw => tt_no2 Ok T Z.len _ i u Z.right (R _ h1) w (fun W hb => Z.below w W hw hb), .inl (by decide)⟩
 by_cases hi : i = 0
 ·subst hi
  have hu : Dy.dok (u / 86400000000) = true := h1
  obtain ⟨V1, E1, hV1, LO⟩ := zlocal Z u hu
  by_cases k1 : E1 = 0
  ·subst k1
   have v1 := hV1 rfl
   obtain ⟨p1, p2⟩ := dok_bd v1
   obtain ⟨y, m, q, hq⟩ := Cv.is_date (V1 / 86400000000)
   have BG := fun w (hw : Ok w) => bg_any 5 V1 y m q (by decide) (by decide) hq v1 w (Z.lens w hw) (hO w hw)
   obtain ⟨V2, hV2⟩ : ∃ V2, bgV 5 V1 y m = V2 := ⟨_, rfl⟩
   have e2 : V2 = V1 - V1 % 86400000000 := hV2.symm
   have hd2 : Dy.dok (V2 / 86400000000) = true := by rw [show V2 / 86400000000 = V1 / 86400000000 by omega]; exact v1
   have hE : bgE 5 V1 y m = 0 := rfl
   rw [hV2, hE] at BG
   obtain ⟨V3, how, E3, hV3, IN⟩ := zinst Z V2 hd2
   refine ⟨0, V3, E3, fun w hw => tt_ok Ok T Z.len _ u V1 V2 V3 how E3 Z.right (R _ h1) NM LO BG IN w (fun W hb => Z.below w W hw hb), ?_⟩
   by_cases k3 : E3 = 0
   ·subst k3
    refine .inr (.inr ⟨rfl, rfl, rfl, V1, V2, how, LO, fun w hw => ?_, IN⟩)
    exact trunc_any ⟨#[100, 97, 121]⟩ (by decide) 0 V1 0 V2 0 (.inr (.inr (.inr ⟨v1, by rw [day_lo]; decide, by rw [day_lo]; decide, rfl, rfl, y, m, q, hq, by rw [day_lo]; exact hV2.symm, by rw [day_lo]; exact hE.symm⟩))) p1 p2 w (Z.lens w hw) (hO w hw)
   ·exact .inl k3
  ·exact ⟨0, 0, E1, fun w hw => tt_e1 Ok T Z.len _ u V1 E1 k1 Z.right (R _ h1) NM LO w (fun W hb => Z.below w W hw hb), .inl k1⟩
 ·exact ⟨i, u, 0, fun w hw => tt_inf Ok T Z.len _ i u hi Z.right (R _ h1) NM w (fun W hb => Z.below w W hw hb), .inr (.inl ⟨rfl, hi⟩)⟩
theorem gh_any (t : TbR) (sv : Value) (f1 : -9223372036854775808 ≤ t.foot.fr) (f2 : t.foot.fr ≤ 9223372036854775807) (h40 : t.trs.length * 40 ≤ 140737488355328) (i u : Int) (u1 : -9223372036854775808 ≤ u) (u2 : u ≤ 9223372036854775807)
  (w : World) (HL : Cvl.Lens w) (HT : Clk.Tab w) (HO : OLens w) (HA : TransA w sv t.trs) (hg : ∀ a n c, sv = .slice (some a) n c → a.block < w.heap.size ∧ a.spot = none) :
  Calls Tryz.prog 27 #[.agg (tbL t sv).toArray] w fun e w' => ∃ (T : List Value) (Ok : World → Prop), e = zr (.agg T.toArray) ∧ T.length = 25 ∧ T.toArray.all (·.oneCell') = true ∧ Ok w' ∧ (∀ A B : World, Ok A → Below A.heap.size A B → Ok B) ∧ (∀ A : World, Ok A → Ok A.drew) ∧ Below w.heap.size w w' ∧ HereIs T Ok i u := by
 refine (given_any17 t sv w HA h40 hg).mono ?_
 rintro e W ⟨sv', rfl, hT, hb, hcap⟩
 obtain ⟨⟨ao, c, rfl⟩, hlen, _⟩ := id hT
 have HL' : Cvl.Lens W := (Dy.lens_of HL).out W hb
 have HT' : Clk.Tab W := HT.below hb
 have HO' : OLens W := HO.below hb
 obtain ⟨bb, hR, RT⟩ := right_any t (.slice ao t.trs.length c) f1 f2
 have bel : ∀ A B : World, (OkF (.slice ao t.trs.length c) t.trs A ∧ OLens A) → Below A.heap.size A B → (OkF (.slice ao t.trs.length c) t.trs B ∧ OLens B) := fun A B h k => ⟨h.1.below k, h.2.below k⟩
 refine ⟨tbL t (.slice ao t.trs.length c), fun W => OkF (.slice ao t.trs.length c) t.trs W ∧ OLens W, rfl, by simp [tbL, trC, Fn.fL], one_tf t.nm t.first ao _ c t.foot, ⟨⟨⟨hT, HL'⟩, HT'⟩, HO'⟩, bel, fun A h => bel A _ h ((Below.refl _ _).drew), hb, ?_⟩
 cases bb
 ·exact here_bad _ _ (by simp [tbL, trC, Fn.fL]) bel (fun w hw => RT w hw.1.1.2 hw.1.2 hw.1.1.1) i u
 ·exact here_any ((zf_any t ao _ c (hcap _ _ _ rfl) rfl hR RT).also (fun A B h k => h.below k)) (fun W h => h.2) i u u1 u2
theorem trat_of {w : World} {sv : Value} {L : List TrR} (HT : TransA w sv L) (h40 : L.length * 40 ≤ 140737488355328) (hg : ∀ a n c, sv = .slice (some a) n c → a.block < w.heap.size ∧ a.spot = none) : TrAt w sv L := by
 rcases HT with ⟨rfl, rfl⟩ | ⟨a, cap, rfl, h1, h2, hc⟩
 ·exact ⟨⟨none, 0, rfl⟩, by decide, .inl rfl⟩
 ·obtain ⟨h3, h4⟩ := hg _ _ _ rfl
  obtain ⟨g, o, s⟩ := a
  simp only at h3 h4
  subst h4
  refine ⟨⟨_, _, rfl⟩, by omega, .inr ⟨g, o, cap, rfl, h3, fun j u hu => ?_⟩⟩
  have := hc j u hu
  unfold Addr.add at this
  split at this
  ·rename_i h; subst h; simpa using this
  ·exact this
end Go.Proofs.YtklehbmghjcmaaaGreatDoor
