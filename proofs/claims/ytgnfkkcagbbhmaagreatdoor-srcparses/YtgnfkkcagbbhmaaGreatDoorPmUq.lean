/- What the parser says of the fixed source of law08's known. -/
import Derived.Test.YtgnfkkcagbbhmaaGreatDoorPmSq
namespace Go.Proofs.YtgnfkkcagbbhmaaGreatDoor
open Go.RowKit
set_option linter.unusedVariables false

def knownT : ByteArray := ⟨#[82, 117, 108, 101, 32, 69, 32, 49, 57, 56, 49, 32, 109, 97, 120, 32, 45, 32, 77, 97, 114, 32, 108, 97, 115, 116, 83, 117, 110, 32, 49, 58, 48, 48, 117, 32, 49, 58, 48, 48, 32, 83, 10, 90, 111, 110, 101, 32, 65, 32, 49, 58, 48, 48, 32, 69, 32, 67, 69, 37, 115, 84, 10]⟩
def knownOk : Sum (Int × Int) PSt → Bool
  | .inl _ => false
  | .inr S => match S.rules, S.zones with
    | [r], [z] => (r.nm == ⟨#[69]⟩) && (r.fr == 1981) && (r.tt == 1073741824) && (r.mo == 3) && (r.ta == 3600) && (r.tz == 117) && (r.sv == 3600) && (r.lt == ⟨#[83]⟩) && (z.2.length == 1)
    | _, _ => false
set_option maxRecDepth 1000000 in
theorem known_ok : knownOk (parseP knownT) = true := by decide +kernel

end Go.Proofs.YtgnfkkcagbbhmaaGreatDoor
