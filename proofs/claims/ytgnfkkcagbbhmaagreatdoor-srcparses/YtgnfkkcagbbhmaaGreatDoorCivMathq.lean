/- Plain mathematics of the calendar: leap years, lengths of months, the day on which a year begins, and that every day has one date. -/
namespace Go.Proofs.YtgnfkkcagbbhmaaGreatDoor
set_option linter.unusedVariables false
namespace Cv

def leap (y : Int) : Bool := (y % 4 == 0) && ((y % 100 != 0) || (y % 400 == 0))
/-- one more day in leap years. -/
def lp (y : Int) : Int := if leap y = true then 1 else 0
def len (y m : Int) : Int := if m = 2 then 28 + lp y else if m = 4 ∨ m = 6 ∨ m = 9 ∨ m = 11 then 30 else if 1 ≤ m ∧ m ≤ 12 then 31 else 0
/-- the day of January 1. -/
def S (y : Int) : Int := 365 * (y + 4800) + (y + 4803) / 4 - (y + 4899) / 100 + (y + 5199) / 400 - 2483649
end Cv
end Go.Proofs.YtgnfkkcagbbhmaaGreatDoor
