/- stamp of a table without a foot: Local, Instant, AddTz; law17's known. -/
import Derived.Test.YtigeccplombggaaGreatDoorStKq
import Derived.Test.YtigeccplombggaaGreatDoorStDq
import Derived.Test.YtigeccplombggaaGreatDoorStEq
import Derived.Test.YtigeccplombggaaGreatDoorStHq
namespace Go.Proofs.YtigeccplombggaaGreatDoor
open Go.RowKit
set_option linter.unusedVariables false

theorem rst_yes {u : Int} (h : Dy.dok (u / 86400000000) = true) (w : World) (hw : Cvl.Lens w) : Calls Tryz.prog 30 #[.agg #[.int .i64 0, .int .i64 u]] w fun r' w' => r' = .returned (.bool true) ∧ Below w.heap.size w w' := by
  obtain ⟨u1, u2⟩ := dok_bd h
  have R := Dy.rst_any 0 u u1 u2 w hw
  rw [show Dy.sR 0 u = true from h] at R
  exact R
theorem pr_yes {m d n : Int} (h : Sp.pR 0 m d n = true) (w : World) : Calls Tryz.prog 27 #[.agg #[.int .i64 0, .int .i64 m, .int .i64 d, .int .i64 n]] w fun r' w' => r' = .returned (.bool true) ∧ Below w.heap.size w w' := by
  have b := pR_bd h
  have R := Sp.pr_any 0 m d n (by omega) (by omega) w
  rw [h] at R
  exact R

theorem nlocal (nm : ByteArray) (f : TrR) (ao : Option Addr) (n c : Nat) (L : List TrR) (h : NoF f L) (u s o6 : Int) (hu : Dy.dok (u / 86400000000) = true) (hs : s = u / 1000000 + 946684800) (ha : ask s) (ho : o6 = (curT f L (Zm.cntLe s (L.map (·.at_)))).off * 1000000) (w : World) (HO : OkN (.slice ao n c) L w) :
    Calls Tryz.prog 10 #[.agg (tbF nm f (.slice ao n c) zeF).toArray, .agg #[.int .i64 0, .int .i64 u]] w fun r w' => r = .returned (.tuple #[.agg #[.int .i64 0, .int .i64 (moV u o6)], .int .i64 (moE u o6)]) ∧ Below w.heap.size w w' := by
  obtain ⟨u1, u2⟩ := dok_bd hu
  have b := h.cur (Zm.cntLe s (L.map (·.at_)))
  have SE := fun w => sec_any 0 u u1 u2 w
  rw [← hs] at SE
  have AT := fun w hw => nat_ nm f (.slice ao n c) L h s ha w hw
  generalize curT f L (Zm.cntLe s (L.map (·.at_))) = x at *
  exact lo_ok (OkN (.slice ao n c) L) _ (tbF_len rfl) u s _ x.off o6 _ _ x.dst x.ab (by rw [ho, IntKind.wrap_i64]; omega) (fun w hw => nright nm f _ L h w hw.1) (fun w hw => rst_yes hu w hw.2) SE AT (fun w hw => more_any 0 u o6 u1 u2 (by omega) (by omega) w hw.2) w (fun W hb => HO.below hb)

theorem ninst (nm : ByteArray) (f : TrR) (ao : Option Addr) (n c : Nat) (hnc : n ≤ c) (L : List TrR) (hn : L.length = n) (h : NoF f L) (u s a9 how d9 V : Int) (hu : Dy.dok (u / 86400000000) = true) (hs : s = u / 1000000 + 946684800) (h0 : ask s) (h1 : ask (s - 57600)) (h2 : ask (s + 57600))
    (hi : a9 = inV (Zm.pGo s (stsN f L s) (⟨0, 0, 0⟩, ⟨0, 0, 0⟩))) (hh : how = inH (Zm.pGo s (stsN f L s) (⟨0, 0, 0⟩, ⟨0, 0, 0⟩))) (hd : d9 = a9 - s) (d1 : -57600 ≤ d9) (d2 : d9 ≤ 57600) (hV : Dy.dok ((u + d9 * 1000000) / 86400000000) = true) (hV2 : V = u + d9 * 1000000) (w : World) (HO : OkN (.slice ao n c) L w) :
    Calls Tryz.prog 12 #[.agg (tbF nm f (.slice ao n c) zeF).toArray, .agg #[.int .i64 0, .int .i64 u]] w fun r w' => r = .returned (.tuple #[.agg #[.int .i64 0, .int .i64 V], .int .i64 how, .int .i64 0]) ∧ Below w.heap.size w w' := by
  obtain ⟨u1, u2⟩ := dok_bd hu
  have SE := fun w => sec_any 0 u u1 u2 w
  rw [← hs] at SE
  have IN := fun w hw => nin_ nm f ao n c hnc L hn h s h0 h1 h2 (by omega) (by omega) w hw
  rw [← hi, ← hh] at IN
  have MO := fun w (hw : OkN (.slice ao n c) L w) => more_any 0 u (d9 * 1000000) u1 u2 (by omega) (by omega) w hw.2
  unfold moV moE at MO
  rw [if_pos hV, if_pos hV, ← hV2] at MO
  exact in_ok (OkN (.slice ao n c) L) _ (tbF_len rfl) u s a9 how d9 (d9 * 1000000) V 0 (by rw [hd, IntKind.wrap_i64]; omega) (by rw [IntKind.wrap_i64]; omega) (fun w hw => nright nm f _ L h w hw.1) (fun w hw => rst_yes hu w hw.2) SE IN MO w (fun W hb => HO.below hb)

theorem noB : NoF fB LB := by
  refine ⟨rfl, by decide, by decide, fun j hj => ?_⟩
  have hj2 : j < 2 := hj
  rcases (show j = 0 ∨ j = 1 by omega) with rfl | rfl
  · exact ⟨_, rfl, by decide, by decide, by decide, .inl rfl⟩
  · exact ⟨_, rfl, by decide, by decide, by decide, .inr ⟨_, rfl, by decide⟩⟩
theorem ask24 {t : Int} (h1 : 1704067200 ≤ t) (h2 : t < 1735689600) : ask t := by
  refine ⟨by omega, by omega, 2024, .inl ⟨?_, ?_, ?_⟩, by decide⟩
  · unfold Cvl.can; exact decide_eq_true (by omega)
  · rw [show Cv.S 2024 = 8766 by decide +kernel]; omega
  · rw [show Cv.S (2024 + 1) = 9132 by decide +kernel]; omega

theorem known_any (w : World) (hL : Cvl.Lens w) : Calls Tryz.prog 16 #[] w fun r w' => r = .returned (.bool true) ∧ Below w.heap.size w w' := by
  have LO : ∀ (u s o6 V : Int) (ao : Option Addr) (c : Nat), 2 ≤ c → Dy.dok (u / 86400000000) = true → s = u / 1000000 + 946684800 → 1704067200 ≤ s ∧ s < 1735689600 → o6 = (curT fB LB (Zm.cntLe s (LB.map (·.at_)))).off * 1000000 → moV u o6 = V → moE u o6 = 0 → ∀ w : World, OkN (.slice ao 2 c) LB w → Calls Tryz.prog 10 #[.agg (tbF nmB fB (.slice ao 2 c) zeF).toArray, .agg #[.int .i64 0, .int .i64 u]] w fun r w' => r = .returned (.tuple #[.agg #[.int .i64 0, .int .i64 V], .int .i64 0]) ∧ Below w.heap.size w w' := fun u s o6 V ao c hc hu hs hss ho h1 h2 w hw => by
    have R := nlocal nmB fB ao 2 c LB noB u s o6 hu hs (ask24 hss.1 hss.2) ho w hw
    rw [h1, h2] at R
    exact R
  have IN : ∀ (u s a9 how V : Int) (ao : Option Addr) (c : Nat), 2 ≤ c → Dy.dok (u / 86400000000) = true → s = u / 1000000 + 946684800 → 1704167200 ≤ s ∧ s < 1735589600 → a9 = inV (Zm.pGo s (stsN fB LB s) (⟨0, 0, 0⟩, ⟨0, 0, 0⟩)) → how = inH (Zm.pGo s (stsN fB LB s) (⟨0, 0, 0⟩, ⟨0, 0, 0⟩)) → -57600 ≤ a9 - s ∧ a9 - s ≤ 57600 → Dy.dok ((u + (a9 - s) * 1000000) / 86400000000) = true → V = u + (a9 - s) * 1000000 → ∀ w : World, OkN (.slice ao 2 c) LB w → Calls Tryz.prog 12 #[.agg (tbF nmB fB (.slice ao 2 c) zeF).toArray, .agg #[.int .i64 0, .int .i64 u]] w fun r w' => r = .returned (.tuple #[.agg #[.int .i64 0, .int .i64 V], .int .i64 how, .int .i64 0]) ∧ Below w.heap.size w w' := fun u s a9 how V ao c hc hu hs hss hi hh hd hV hV2 w hw =>
    ninst nmB fB ao 2 c hc LB rfl noB u s a9 how (a9 - s) V hu hs (ask24 (by omega) (by omega)) (ask24 (by omega) (by omega)) (ask24 (by omega) (by omega)) hi hh rfl hd.1 hd.2 hV hV2 w hw
  refine known_run ?_ ?_ ?_ ?_ ?_ w hL
  · exact fun ao c hc w hw => LO 783304200000000 1729989000 7200000000 783311400000000 ao c hc (by decide) (by decide) (by decide) (by decide +kernel) (by decide +kernel) (by decide +kernel) w hw
  · exact fun ao c hc w hw => IN 783311400000000 1729996200 1729989000 1 783304200000000 ao c hc (by decide) (by decide) (by decide) (by decide +kernel) (by decide +kernel) (by decide) (by decide) (by decide) w hw
  · intro ao c hc w hw
    have ADI : AddIs 0 765115200000000 0 0 1 0 0 765201600000000 0 := .inr (.inr ⟨rfl, rfl, by decide, by decide, 2024, 3, 30, ⟨by decide, by decide, by decide, by decide, by decide +kernel⟩, rfl, by decide +kernel, by decide +kernel⟩)
    have AD := fun w (hw : OkN (.slice ao 2 c) LB w) => sadd_any 0 765115200000000 0 0 1 0 0 765201600000000 0 ADI (by decide) (by decide) (by decide) (by decide) w hw.2
    have L1 := fun w hw => LO 765111600000000 1711796400 3600000000 765115200000000 ao c hc (by decide) (by decide) (by decide) (by decide +kernel) (by decide +kernel) (by decide +kernel) w hw
    have I1 := fun w hw => IN 765201600000000 1711886400 1711879200 0 765194400000000 ao c hc (by decide) (by decide) (by decide) (by decide +kernel) (by decide +kernel) (by decide) (by decide) (by decide) w hw
    have MB := fun w (hw : OkN (.slice ao 2 c) LB w) => mb_ok (OkN (.slice ao 2 c) LB) _ (tbF_len rfl) 765111600000000 0 0 1 0 765115200000000 765201600000000 765194400000000 0 0 L1 AD I1 w (fun W hb => hw.below hb)
    have MO := fun w (hw : OkN (.slice ao 2 c) LB w) => more_any 0 765194400000000 0 (by decide) (by decide) (by decide) (by decide) w hw.2
    rw [show moV 765194400000000 0 = 765194400000000 by decide +kernel, show moE 765194400000000 0 = 0 by decide +kernel] at MO
    exact az_okd (OkN (.slice ao 2 c) LB) _ (tbF_len rfl) 0 765111600000000 0 1 0 765194400000000 _ 0 (kdV 0) (kdV 0) (by decide) (fun w hw => nright nmB fB _ LB noB w hw.1) (fun w hw => rst_yes (by decide) w hw.2) (fun w => pr_yes (by decide) w) (fun w => kind_b 0 w) (fun w => kind_b 0 w) (fun w => tog_any 0 0 (.inr (.inl rfl)) (.inr (.inl rfl)) w) MB MO w (fun W hb => hw.below hb)
  · intro ao c hc w hw
    have MO := fun w (hw : OkN (.slice ao 2 c) LB w) => more_any 0 765111600000000 86400000000 (by decide) (by decide) (by decide) (by decide) w hw.2
    rw [show moV 765111600000000 86400000000 = 765198000000000 by decide +kernel, show moE 765111600000000 86400000000 = 0 by decide +kernel] at MO
    exact az_none (OkN (.slice ao 2 c) LB) _ (tbF_len rfl) 0 765111600000000 0 86400000000 _ 0 (kdV 0) (kdV 0) (fun w hw => nright nmB fB _ LB noB w hw.1) (fun w hw => rst_yes (by decide) w hw.2) (fun w => pr_yes (by decide) w) (fun w => kind_b 0 w) (fun w => kind_b 0 w) (fun w => tog_any 0 0 (.inr (.inl rfl)) (.inr (.inl rfl)) w) MO w (fun W hb => hw.below hb)
  · intro ao c hc w hw
    refine sage_any 0 762566400000000 0 759974400000000 0 1 1 0 0 (.inr (.inl ⟨rfl, rfl, by decide, by decide, by decide, rfl, rfl, 2024, 3, 1, 2024, 1, 31, ⟨by decide, by decide, by decide, by decide, by decide +kernel⟩, ⟨by decide, by decide, by decide, by decide, by decide +kernel⟩, ?_, ?_, ?_⟩)) (by decide) (by decide) (by decide) (by decide) w hw.2 <;> decide +kernel

end Go.Proofs.YtigeccplombggaaGreatDoor
