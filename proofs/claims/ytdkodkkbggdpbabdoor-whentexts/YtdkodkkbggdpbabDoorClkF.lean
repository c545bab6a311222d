/- Contract of clock.Offset. -/
import Derived.Test.YtdkodkkbggdpbabDoorClkE
namespace Go.Proofs.YtdkodkkbggdpbabDoor.Clk
open Go.RowKit
set_option linter.unusedVariables false

/-- an offset as a text. -/
def offA (a : Int) : ByteArray := twoB (a / 3600)
def offB (sec a : Int) : ByteArray :=
  let s : ByteArray := if sec < 0 then ⟨#[45]⟩ else ⟨#[43]⟩
  if a % 3600 = 0 then s ++ twoB (a / 3600)
  else if a % 60 = 0 then (s ++ twoB (a / 3600)) ++ (⟨#[58]⟩ ++ twoB (a / 60 % 60))
  else ((s ++ twoB (a / 3600)) ++ (⟨#[58]⟩ ++ twoB (a / 60 % 60))) ++ (⟨#[58]⟩ ++ twoB (a % 60))

end Go.Proofs.YtdkodkkbggdpbabDoor.Clk
