/- The places that expr.Parse names: within the text (mathematics). -/
import Derived.Test.YtaoocecipacnhaaDoorExStq
namespace Go.Proofs.YtaoocecipacnhaaDoor
open Go.RowKit
set_option linter.unusedVariables false

theorem PlN.mono {S R : Int → Prop} (h : ∀ a, S a → R a) {n : Nd} (hn : PlN S n) : PlN R n := by
  induction hn with
  | mk k t ks a ha hk ih => exact .mk k t ks a (h a ha) ih

end Go.Proofs.YtaoocecipacnhaaDoor
