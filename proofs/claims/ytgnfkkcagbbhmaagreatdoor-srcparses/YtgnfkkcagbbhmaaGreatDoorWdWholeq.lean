/- Plain mathematics: all parts of a text, each at its place, and blanks, are the text. -/
import Derived.Test.YtgnfkkcagbbhmaaGreatDoorWdRefBq
namespace Go.Proofs.YtgnfkkcagbbhmaaGreatDoor.Wrd
set_option linter.unusedVariables false

/-! ### two texts with a blank between them -/
end Go.Proofs.YtgnfkkcagbbhmaaGreatDoor.Wrd
