/- Plain mathematics of the document's own way to part a text: bytes of a rune, then parts by bytes; that it is the program's. -/
import Derived.Test.YtgnfkkcagbbhmaaGreatDoorWdLowq
namespace Go.Proofs.YtgnfkkcagbbhmaaGreatDoor.Wrd
set_option linter.unusedVariables false

end Go.Proofs.YtgnfkkcagbbhmaaGreatDoor.Wrd
