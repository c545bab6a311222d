/- SpD, SpE, as one text. -/
import Derived.Test.YtpdmndlpgjjopaaGreatDoorSpXq
import Derived.Test.YtpdmndlpgjjopaaGreatDoorBxZq
import Derived.Test.YtpdmndlpgjjopaaGreatDoorBxCq
import Derived.Deep.Cut
import Derived.Test.YtpdmndlpgjjopaaGreatDoorWiZq
/- Intervals so many times, turned: way by way. -/
namespace Go.Proofs.YtpdmndlpgjjopaaGreatDoor.Sp
open Go.RowKit
set_option linter.unusedVariables false


end Go.Proofs.YtpdmndlpgjjopaaGreatDoor.Sp

/- Intervals turned, together, apart, so many times: what each function answers, the program's and the reference's alike. -/
namespace Go.Proofs.YtpdmndlpgjjopaaGreatDoor.Sp
open Go.RowKit
set_option linter.unusedVariables false

/-- an answer: an interval, and what is wrong. -/
structure R5 where
  (i m d u e : Int)
abbrev v5 (x : R5) : Value := .tuple #[.agg #[.int .i64 x.i, .int .i64 x.m, .int .i64 x.d, .int .i64 x.u], .int .i64 x.e]
abbrev a4 (i m d u : Int) : Value := .agg #[.int .i64 i, .int .i64 m, .int .i64 d, .int .i64 u]
end Go.Proofs.YtpdmndlpgjjopaaGreatDoor.Sp
