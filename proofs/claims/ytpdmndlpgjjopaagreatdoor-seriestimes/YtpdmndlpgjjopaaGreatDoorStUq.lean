/- zone.UTC as a table without a foot and without changes. -/
import Derived.Test.YtpdmndlpgjjopaaGreatDoorStBerq
namespace Go.Proofs.YtpdmndlpgjjopaaGreatDoor
open Go.RowKit Sr
set_option linter.unusedVariables false

def nmU : ByteArray := ⟨#[85, 84, 67]⟩
def fU : TrR := ⟨0, 0, false, ⟨#[85, 84, 67]⟩⟩
def utL : List Value := tbF nmU fU (.slice none 0 0) zeF
theorem one_u : utL.toArray.all (·.oneCell') = true := by kernel_rfl

set_option maxRecDepth 100000 in
set_option maxHeartbeats 4000000 in
theorem utc17_any (w : World) : Calls Tryz.prog 11 #[] w fun e w' => e = .returned (.agg utL.toArray) ∧ Below w.heap.size w w' := by
  have X1 : Hid (Bx (w.alloc (.cells zeT.toArray 46)) w.heap.size zeT) := Bx.new w zeT 46
  have B1 : Hid (Below w.heap.size w (w.alloc (.cells zeT.toArray 46))) := (Below.refl _ _).alloc (Nat.le_refl _) _
  go_enter Tryz.func11, Tryz.ntmps11
  go_wp2_with (refine wpList_store_mid rfl 46 _ _ rfl w.heap.size 0 utL.toArray rfl rfl X1.out.there (by kernel_rfl) one_u ?_; refine gen_list (fun V => Bx V w.heap.size utL ∧ Below w.heap.size w V) ⟨X1.out.setAll utL rfl, below_setCells (Nat.le_refl _) _ _ _ B1.out⟩ ?_; clear X1 B1; rintro V ⟨XV, BV⟩)
  exact bodyPost_ret (v := .agg utL.toArray) (results_c1 rfl _ _ _ _ rfl (run_loadVar_mid _ _ _ _ utL _ XV.all Tryz.underlying46 rfl (by kernel_rfl))) rfl ⟨rfl, BV⟩
theorem noU : NoF fU [] := by
  refine ⟨rfl, by decide, by decide, fun j hj => ?_⟩
  exact absurd hj (by simp)

end Go.Proofs.YtpdmndlpgjjopaaGreatDoor
