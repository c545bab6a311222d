/- Plain mathematics: the document's way to part a text and the program's way give the same parts. -/
import Derived.Test.YtgnfkkcagbbhmaaGreatDoorWdRefq
namespace Go.Proofs.YtgnfkkcagbbhmaaGreatDoor.Wrd
set_option linter.unusedVariables false

def digitN (c : Nat) : Bool := decide (48 ≤ c) && decide (c ≤ 57)
end Go.Proofs.YtgnfkkcagbbhmaaGreatDoor.Wrd
