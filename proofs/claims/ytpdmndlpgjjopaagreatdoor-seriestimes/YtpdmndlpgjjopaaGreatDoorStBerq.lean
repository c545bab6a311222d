/- The table of the laws' fixed calls (law17's berlin), and a stamp of a date and a time (law17's at). -/
import Derived.Test.YtpdmndlpgjjopaaGreatDoorZnNoq
import Derived.Laws.AppendOwn
namespace Go.Proofs.YtpdmndlpgjjopaaGreatDoor
open Go.RowKit Sr
set_option linter.unusedVariables false

def zeT : List Value := tbF ⟨#[]⟩ ⟨0, 0, false, ⟨#[]⟩⟩ (.slice none 0 0) zeF
theorem results_c1 {P : Program} {fn : Func} {p : Tmp} {ty : TypeId} (h : fn.results = #[.cell p ty]) (tmps : Array Value) (w : World) (a : Addr) (v : Value) (hp : tmps[p]?.getD undef = .pointer (some a)) (hl : (loadVar ty a).run P w = .ok v w) :
    (results fn tmps).run P w = .ok v w := by
  simp [results, h, hp, asAddr, hl]
end Go.Proofs.YtpdmndlpgjjopaaGreatDoor
