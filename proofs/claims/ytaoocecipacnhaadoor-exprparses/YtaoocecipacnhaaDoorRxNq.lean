/- The reference's lines from casts down, of the line of all at one token less. -/
import Derived.Test.YtaoocecipacnhaaDoorRxMq
namespace Go.Proofs.YtaoocecipacnhaaDoor
open Go.RowKit
set_option linter.unusedVariables false

theorem rlv_low (g b cap : Nat) (T : List Tk) (hG : Hid (∀ x ∈ T, GoodT x)) (N : Nat) (hNN : N ≤ 100000) (HA : Hid (RLv g b cap T 0 (N - 1))) : RLv g b cap T 8 N :=
  rlv_8 g b cap T N (rcast_any g b cap T hG N (rprim_any g b cap T hG N HA (rnamed_any g b cap T hG (N - 1) (by omega) HA)))

end Go.Proofs.YtaoocecipacnhaaDoor
