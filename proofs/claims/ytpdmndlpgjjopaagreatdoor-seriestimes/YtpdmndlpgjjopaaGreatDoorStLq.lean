/- stamp of a table without a foot: Local, Instant, AddTz; law17's known. -/
import Derived.Test.YtpdmndlpgjjopaaGreatDoorStKq
import Derived.Test.YtpdmndlpgjjopaaGreatDoorStDq
import Derived.Test.YtpdmndlpgjjopaaGreatDoorStEq
import Derived.Test.YtpdmndlpgjjopaaGreatDoorStHq
namespace Go.Proofs.YtpdmndlpgjjopaaGreatDoor
open Go.RowKit
set_option linter.unusedVariables false

theorem rst_yes {u : Int} (h : Dy.dok (u / 86400000000) = true) (w : World) (hw : Cvl.Lens w) : Calls Tryz.prog 17 #[.agg #[.int .i64 0, .int .i64 u]] w fun r' w' => r' = .returned (.bool true) ∧ Below w.heap.size w w' := by
  obtain ⟨u1, u2⟩ := dok_bd h
  have R := Dy.rst_any 0 u u1 u2 w hw
  rw [show Dy.sR 0 u = true from h] at R
  exact R
theorem pr_yes {m d n : Int} (h : Sp.pR 0 m d n = true) (w : World) : Calls Tryz.prog 18 #[.agg #[.int .i64 0, .int .i64 m, .int .i64 d, .int .i64 n]] w fun r' w' => r' = .returned (.bool true) ∧ Below w.heap.size w w' := by
  have b := pR_bd h
  have R := Sp.pr_any 0 m d n (by omega) (by omega) w
  rw [h] at R
  exact R

theorem nlocal (nm : ByteArray) (f : TrR) (ao : Option Addr) (n c : Nat) (L : List TrR) (h : NoF f L) (u s o6 : Int) (hu : Dy.dok (u / 86400000000) = true) (hs : s = u / 1000000 + 946684800) (ha : ask s) (ho : o6 = (curT f L (Zm.cntLe s (L.map (·.at_)))).off * 1000000) (w : World) (HO : OkN (.slice ao n c) L w) :
    Calls Tryz.prog 52 #[.agg (tbF nm f (.slice ao n c) zeF).toArray, .agg #[.int .i64 0, .int .i64 u]] w fun r w' => r = .returned (.tuple #[.agg #[.int .i64 0, .int .i64 (moV u o6)], .int .i64 (moE u o6)]) ∧ Below w.heap.size w w' := by
  obtain ⟨u1, u2⟩ := dok_bd hu
  have b := h.cur (Zm.cntLe s (L.map (·.at_)))
  have SE := fun w => sec_any 0 u u1 u2 w
  rw [← hs] at SE
  have AT := fun w hw => nat_ nm f (.slice ao n c) L h s ha w hw
  generalize curT f L (Zm.cntLe s (L.map (·.at_))) = x at *
  exact lo_ok (OkN (.slice ao n c) L) _ (tbF_len rfl) u s _ x.off o6 _ _ x.dst x.ab (by rw [ho, IntKind.wrap_i64]; omega) (fun w hw => nright nm f _ L h w hw.1) (fun w hw => rst_yes hu w hw.2) SE AT (fun w hw => more_any 0 u o6 u1 u2 (by omega) (by omega) w hw.2) w (fun W hb => HO.below hb)

theorem ninst (nm : ByteArray) (f : TrR) (ao : Option Addr) (n c : Nat) (hnc : n ≤ c) (L : List TrR) (hn : L.length = n) (h : NoF f L) (u s a9 how d9 V : Int) (hu : Dy.dok (u / 86400000000) = true) (hs : s = u / 1000000 + 946684800) (h0 : ask s) (h1 : ask (s - 57600)) (h2 : ask (s + 57600))
    (hi : a9 = inV (Zm.pGo s (stsN f L s) (⟨0, 0, 0⟩, ⟨0, 0, 0⟩))) (hh : how = inH (Zm.pGo s (stsN f L s) (⟨0, 0, 0⟩, ⟨0, 0, 0⟩))) (hd : d9 = a9 - s) (d1 : -57600 ≤ d9) (d2 : d9 ≤ 57600) (hV : Dy.dok ((u + d9 * 1000000) / 86400000000) = true) (hV2 : V = u + d9 * 1000000) (w : World) (HO : OkN (.slice ao n c) L w) :
    Calls Tryz.prog 54 #[.agg (tbF nm f (.slice ao n c) zeF).toArray, .agg #[.int .i64 0, .int .i64 u]] w fun r w' => r = .returned (.tuple #[.agg #[.int .i64 0, .int .i64 V], .int .i64 how, .int .i64 0]) ∧ Below w.heap.size w w' := by
  obtain ⟨u1, u2⟩ := dok_bd hu
  have SE := fun w => sec_any 0 u u1 u2 w
  rw [← hs] at SE
  have IN := fun w hw => nin_ nm f ao n c hnc L hn h s h0 h1 h2 (by omega) (by omega) w hw
  rw [← hi, ← hh] at IN
  have MO := fun w (hw : OkN (.slice ao n c) L w) => more_any 0 u (d9 * 1000000) u1 u2 (by omega) (by omega) w hw.2
  unfold moV moE at MO
  rw [if_pos hV, if_pos hV, ← hV2] at MO
  exact in_ok (OkN (.slice ao n c) L) _ (tbF_len rfl) u s a9 how d9 (d9 * 1000000) V 0 (by rw [hd, IntKind.wrap_i64]; omega) (by rw [IntKind.wrap_i64]; omega) (fun w hw => nright nm f _ L h w hw.1) (fun w hw => rst_yes hu w hw.2) SE IN MO w (fun W hb => HO.below hb)

end Go.Proofs.YtpdmndlpgjjopaaGreatDoor
