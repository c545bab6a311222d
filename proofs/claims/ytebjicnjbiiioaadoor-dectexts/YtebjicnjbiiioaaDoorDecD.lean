/- Contracts of dec.Mul, dec.Cmp, dec.Floor, and of cmp.Compare at int64: products, order, the whole part. -/
import Derived.Test.YtebjicnjbiiioaaDoorDecC
namespace Go.Proofs.YtebjicnjbiiioaaDoor
open Go.RowKit
set_option linter.unusedVariables false

/-- the product's error. -/
def mulE (xn xs yn ys : Int) : Int := if rt xs = true ∧ rt ys = true then (if 9 < xs + ys then 10 else smE (xn * yn)) else 1

/-- which of two whole numbers is the lesser one. -/
def cmp3 (a b : Int) : Int := if a < b then -1 else if b < a then 1 else 0

end Go.Proofs.YtebjicnjbiiioaaDoor
