/- law19's known. -/
import Derived.Test.YtmohhbgmbicklaaGreatDoorShZq
namespace Go.Proofs.YtmohhbgmbicklaaGreatDoor
open Go.RowKit
set_option linter.unusedVariables false

theorem sql_known (w : World) (hT : Clk.Tab w) : Calls Tryz.prog 35 #[.agg #[.int .i64 0, .int .i64 14, .int .i64 3, .int .i64 (-14706500000)]] w fun r' w' => r' = .returned (.string ⟨#[43, 49, 45, 50, 32, 43, 51, 32, 45, 52, 58, 48, 53, 58, 48, 54, 46, 53]⟩) ∧ Below w.heap.size w w' := by
  have R := sql_run 14 3 (-14706500000) 14 3 14706500000 (dg 4) (Clk.twoB 5) (Clk.twoB 6) (sg 14) (sg 3) (sg (-14706500000)) (dg 1) (dg 2) (dg 3) (Clk.fracB 500000) (by decide) (by decide) (by decide) (by decide)
    (fun w => shsize_any 14 14 (by decide) (by decide) (by decide) w) (fun w => shsize_any 3 3 (by decide) (by decide) (by decide) w) (fun w => shsize_any (-14706500000) 14706500000 (by decide) (by decide) (by decide) w)
    (fun w hw => digits_any 4 (by decide) (by decide) w hw) (fun w hw => Clk.two_any 5 (by decide) (by decide) w hw) (fun w hw => Clk.two_any 6 (by decide) (by decide) w hw)
    (fun b w h => jm3 ⟨#[58]⟩ (by decide) _ _ _ (by decide +kernel) (by decide +kernel) (by decide +kernel) b w h)
    (fun w => sign_any 14 w) (fun w hw => digits_any 1 (by decide) (by decide) w hw) (fun w hw => digits_any 2 (by decide) (by decide) w hw)
    (fun b w h => je4 _ _ _ _ (by decide +kernel) (by decide +kernel) (by decide +kernel) (by decide +kernel) b w h)
    (fun w => sign_any 3 w) (fun w hw => digits_any 3 (by decide) (by decide) w hw) (fun b w h => je2 _ _ (by decide +kernel) (by decide +kernel) b w h)
    (fun w => sign_any (-14706500000) w) (fun w hw => Clk.frac_any 500000 w hw)
    (fun b w h => je3 _ _ _ (by decide +kernel) (by decide +kernel) (by decide +kernel) b w h)
    (fun b w h => jm3 ⟨#[32]⟩ (by decide) _ _ _ (by decide +kernel) (by decide +kernel) (by decide +kernel) b w h) w (tab_of hT)
  refine R.mono fun e w' h => ⟨h.1.trans (by congr 2; decide +kernel), h.2⟩

theorem iso_known (w : World) (hT : Clk.Tab w) : Calls Tryz.prog 36 #[.agg #[.int .i64 0, .int .i64 14, .int .i64 3, .int .i64 (-14706500000)]] w fun r' w' => r' = .returned (.string ⟨#[80, 49, 89, 50, 77, 51, 68, 84, 45, 52, 72, 45, 53, 77, 45, 54, 46, 53, 83]⟩) ∧ Below w.heap.size w w' := by
  have MA := fun (n : Int) (l : ByteArray) (hl : l.size ≤ 1) (a : -9223372036854775808 ≤ n) (b : n ≤ 9223372036854775807) (w : World) hw => marked_any n l hl a b w hw
  have R := iso_t 14 3 (-14706500000) 1 2 (-4) (-245) (-5) (-6500000) (mkB 1 ⟨#[89]⟩) (mkB 2 ⟨#[77]⟩) (mkB 3 ⟨#[68]⟩) (mkB (-4) ⟨#[72]⟩) (mkB (-5) ⟨#[77]⟩) (msB (-6500000)) _ _ (by decide) (by decide) (by decide) (by decide) (by decide) (by decide) (by decide) (by decide) (by decide) (by decide) (by decide) (by decide) (by decide) (by decide) (by decide) (by decide) (by decide) (by decide) (by decide) (fun W => eqS_any 14 3 (-14706500000) (by decide) W)
    (MA 1 _ (by decide) (by decide) (by decide)) (MA 2 _ (by decide) (by decide) (by decide)) (MA 3 _ (by decide) (by decide) (by decide)) (fun b w h => je4 _ _ _ _ (by decide +kernel) (by decide +kernel) (by decide +kernel) (by decide +kernel) b w h)
    (MA (-4) _ (by decide) (by decide) (by decide)) (MA (-5) _ (by decide) (by decide) (by decide)) (fun w hw => marks_any (-6500000) (by decide) (by decide) w hw) (fun b w h => je5 _ _ _ _ _ (by decide +kernel) (by decide +kernel) (by decide +kernel) (by decide +kernel) (by decide +kernel) b w h) w (tab_of hT)
  refine R.mono fun e w' h => ⟨h.1.trans (by congr 2; decide +kernel), h.2⟩

theorem pg_known1 (w : World) (hT : Clk.Tab w) : Calls Tryz.prog 37 #[.agg #[.int .i64 0, .int .i64 14, .int .i64 3, .int .i64 (-14706500000)]] w fun r' w' => r' = .returned (.string ⟨#[49, 32, 121, 101, 97, 114, 32, 50, 32, 109, 111, 110, 115, 32, 51, 32, 100, 97, 121, 115, 32, 45, 48, 52, 58, 48, 53, 58, 48, 54, 46, 53]⟩) ∧ Below w.heap.size w w' := by
  have R := iw_t 14 3 (-14706500000) 1 2 (by decide) (by decide) (by decide) (by decide) (by decide) (by decide) (by decide) (by decide) (by decide) (by decide) (by decide) w (tab_of hT)
  refine R.mono fun e w' h => ⟨h.1.trans (by congr 2; decide +kernel), h.2⟩
theorem pg_known2 (w : World) (hT : Clk.Tab w) : Calls Tryz.prog 37 #[.agg #[.int .i64 0, .int .i64 (-1), .int .i64 1, .int .i64 0]] w fun r' w' => r' = .returned (.string ⟨#[45, 49, 32, 109, 111, 110, 115, 32, 43, 49, 32, 100, 97, 121]⟩) ∧ Below w.heap.size w w' := by
  have R := iw_z (-1) 1 0 0 (-1) (by decide) (by decide) (by decide) (by decide) (by decide) (by decide) (by decide) (by decide) (by decide) (show 0 < (stN 0 (-1) 1 3).1.length by decide +kernel) w (tab_of hT)
  refine R.mono fun e w' h => ⟨h.1.trans (by congr 2; decide +kernel), h.2⟩

theorem ret_si {a b : ByteArray} (h : a = b) : Ending.returned (.tuple #[.string a, .int .i64 0]) = .returned (.tuple #[.string b, .int .i64 0]) := by rw [h]
theorem known19_any (w : World) (hL : LT w) : Calls Tryz.prog 12 #[] w fun r' w' => r' = .returned (.bool true) ∧ Below w.heap.size w w' := by
  have S1 := fun (o r p : Int) (h : stR o r p = true) (w : World) => (by have R := right19 o r p w; rw [h] at R; exact R : Calls Tryz.prog 10 #[.agg #[.int .i64 o, .int .i64 r, .int .i64 p]] w fun r' w' => r' = .returned (.bool true) ∧ Below w.heap.size w w')
  have P1 := fun (M D U : Int) (h : Sp.pR 0 M D U = true) (u1 : -9223372036854775808 ≤ U) (u2 : U ≤ 9223372036854775807) (w : World) => (by have R := Sp.pr_any 0 M D U u1 u2 w; rw [h] at R; exact R : Calls Tryz.prog 34 #[.agg #[.int .i64 0, .int .i64 M, .int .i64 D, .int .i64 U]] w fun r' w' => r' = .returned (.bool true) ∧ Below w.heap.size w w')
  refine known19_run (fun w hw => ?_) (fun w hw => ?_) (fun w hw => ?_) (fun w hw => ?_) (fun w hw => ?_) w (LT.of hL)
  · exact sp_0 14 3 (-14706500000) 0 0 _ (S1 0 0 0 (by decide)) (P1 14 3 (-14706500000) (by decide +kernel) (by decide) (by decide)) (fun w hw => pg_known1 w hw) w (tab_of hw.2)
  · exact sp_1 14 3 (-14706500000) 0 0 _ (S1 0 0 1 (by decide)) (P1 14 3 (-14706500000) (by decide +kernel) (by decide) (by decide)) (fun w hw => sql_known w hw) w (tab_of hw.2)
  · exact sp_2 14 3 (-14706500000) 0 0 _ (S1 0 0 2 (by decide)) (P1 14 3 (-14706500000) (by decide +kernel) (by decide) (by decide)) (fun w hw => iso_known w hw) w (tab_of hw.2)
  · exact sp_0 (-1) 1 0 0 0 _ (S1 0 0 0 (by decide)) (P1 (-1) 1 0 (by decide +kernel) (by decide) (by decide)) (fun w hw => pg_known2 w hw) w (tab_of hw.2)
  · have hq : Cv.Is 8826 2024 3 1 := ⟨by decide, by decide, by decide, by decide +kernel, by decide +kernel⟩
    have dk : Dy.dok 8826 = true := by decide +kernel
    have DD : ∀ w : World, LT w → _ := fun w hw => dated_run 8826 2024 3 1 (Clk.twoB 20) (Clk.twoB 24) (Clk.twoB 3) (Clk.twoB 1) _ _ (by decide) (by decide)
      (fun w hw => Dy.parts_any 0 8826 2024 3 1 0 (.inr (.inr ⟨rfl, dk, hq, rfl⟩)) w hw.1) (fun w hw => Clk.two_any 20 (by decide) (by decide) w hw.2) (fun w hw => Clk.two_any 24 (by decide) (by decide) w hw.2)
      (fun b w h => je2 _ _ (by decide +kernel) (by decide +kernel) b w h) (fun w hw => Clk.two_any 3 (by decide) (by decide) w hw.2) (fun w hw => Clk.two_any 1 (by decide) (by decide) w hw.2)
      (fun b w h => jm3 ⟨#[47]⟩ (by decide) _ _ _ (by decide +kernel) (by decide +kernel) (by decide +kernel) b w h) w (LT.of hw)
    have R := date_run 8826 _ _ (S1 1 1 0 (by decide)) (fun w hw => by have R := Dy.right_any 0 8826 w hw.1; rw [show Dy.dR 0 8826 = true by decide +kernel] at R; exact R) DD (fun b w h => je2 _ _ (by decide +kernel) (by decide +kernel) b w h) w (LT.of hw)
    refine R.mono fun e w' h => ⟨h.1.trans (ret_si (by decide +kernel)), h.2⟩

end Go.Proofs.YtmohhbgmbicklaaGreatDoor
