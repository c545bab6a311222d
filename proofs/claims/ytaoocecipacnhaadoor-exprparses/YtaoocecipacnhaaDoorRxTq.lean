/- The reference's grammar whole: every line, by induction on how many tokens there are. -/
import Derived.Test.YtaoocecipacnhaaDoorRxQq
import Derived.Test.YtaoocecipacnhaaDoorRxSq
import Derived.Test.YtaoocecipacnhaaDoorRxNq
namespace Go.Proofs.YtaoocecipacnhaaDoor
open Go.RowKit
set_option linter.unusedVariables false

theorem rlv_none (g b cap : Nat) (T : List Tk) (lev : Nat) : RLv g b cap T lev 0 := by
  intro w L d f h hL hd hN hf
  cases L with
  | nil => exact hL.elim
  | cons r L => simp at hN
theorem rlv_all (g b cap : Nat) (T : List Tk) (hG : Hid (∀ x ∈ T, GoodT x)) : ∀ N, N ≤ 100000 → RLv g b cap T 0 N ∧ RLv g b cap T 2 N ∧ RLv g b cap T 6 N
  | 0, _ => ⟨rlv_none g b cap T 0, rlv_none g b cap T 2, rlv_none g b cap T 6⟩
  | N + 1, h => by
    obtain ⟨i0, i2, i6⟩ := rlv_all g b cap T hG N (by omega)
    have l8 : RLv g b cap T 8 (N + 1) := rlv_low g b cap T hG (N + 1) h i0
    have l7 : RLv g b cap T 7 (N + 1) := rlv_7 g b cap T hG (N + 1) l8
    have l6 : RLv g b cap T 6 (N + 1) := rlv_6 g b cap T hG (N + 1) l7 i6
    have l5 : RLv g b cap T 5 (N + 1) := rlv_lp g b cap T hG (N + 1) 5 (by omega) l6
    have l4 : RLv g b cap T 4 (N + 1) := rlv_lp g b cap T hG (N + 1) 4 (by omega) l5
    have l3 : RLv g b cap T 3 (N + 1) := rlv_lp g b cap T hG (N + 1) 3 (by omega) l4
    have l2 : RLv g b cap T 2 (N + 1) := rlv_2 g b cap T hG (N + 1) l3 i2
    have l1 : RLv g b cap T 1 (N + 1) := rlv_lp g b cap T hG (N + 1) 1 (by omega) l2
    exact ⟨rlv_lp g b cap T hG (N + 1) 0 (by omega) l1, l2, l6⟩

end Go.Proofs.YtaoocecipacnhaaDoor
