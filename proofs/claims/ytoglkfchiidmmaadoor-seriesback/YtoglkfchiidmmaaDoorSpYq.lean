/- SpD, SpE, as one text. -/
import Derived.Test.YtoglkfchiidmmaaDoorSpXq
import Derived.Test.YtoglkfchiidmmaaDoorBxZq
import Derived.Test.YtoglkfchiidmmaaDoorBxCq
import Derived.Deep.Cut
import Derived.Test.YtoglkfchiidmmaaDoorWiZq
/- Intervals so many times, turned: way by way. -/
namespace Go.Proofs.YtoglkfchiidmmaaDoor.Sp
open Go.RowKit
set_option linter.unusedVariables false


end Go.Proofs.YtoglkfchiidmmaaDoor.Sp

/- Intervals turned, together, apart, so many times: what each function answers, the program's and the reference's alike. -/
namespace Go.Proofs.YtoglkfchiidmmaaDoor.Sp
open Go.RowKit
set_option linter.unusedVariables false

/-- an answer: an interval, and what is wrong. -/
structure R5 where
  (i m d u e : Int)
abbrev v5 (x : R5) : Value := .tuple #[.agg #[.int .i64 x.i, .int .i64 x.m, .int .i64 x.d, .int .i64 x.u], .int .i64 x.e]
def err5 (e : Int) : R5 := ⟨0, 0, 0, 0, e⟩
def mk5 (m d u : Int) : R5 := ⟨0, gM m d u m, gM m d u d, gM m d u u, gE m d u⟩
def parts5 (v1 e1 v2 e2 v3 e3 : Int) : R5 := if e1 = 0 ∧ e2 = 0 ∧ e3 = 0 then mk5 v1 v2 v3 else err5 10
def mul5 (i m d u n : Int) : R5 := if pR i m d u = true then (if i = 0 then parts5 (smV (m * n)) (smE (m * n)) (smV (d * n)) (smE (d * n)) (smV (u * n)) (smE (u * n)) else if n = 0 then err5 10 else ⟨i * sgnC n 0, 0, 0, 0, 0⟩) else err5 1
def neg5 (i m d u : Int) : R5 := if pR i m d u = true then ⟨-i, -m, -d, -u, 0⟩ else err5 1
theorem mul_neg (i m d u : Int) (m1 : -9223372036854775808 ≤ m) (m2 : m ≤ 9223372036854775807) (d1 : -9223372036854775808 ≤ d) (d2 : d ≤ 9223372036854775807) (u1 : -9223372036854775808 ≤ u) (u2 : u ≤ 9223372036854775807) (w : World) : mul5 i m d u (-1) = neg5 i m d u := by
  unfold mul5 neg5
  cases h : pR i m d u
  · rw [if_neg (by decide), if_neg (by decide)]
  · rw [if_pos rfl, if_pos rfl]
    rcases pR_yes h with ⟨rfl, a, b, c, e, f, g⟩ | ⟨q, rfl, rfl, rfl⟩
    · rw [if_pos rfl, show m * -1 = -m by omega, show d * -1 = -d by omega, show u * -1 = -u by omega, smV_in (by omega) (by omega), smE_in (by omega) (by omega), smV_in (by omega) (by omega), smE_in (by omega) (by omega), smV_in (by omega) (by omega), smE_in (by omega) (by omega)]
      unfold parts5
      rw [if_pos ⟨rfl, rfl, rfl⟩]
      unfold mk5
      obtain ⟨x, y, z, t⟩ := g_yes (pR_in (m := -m) (d := -d) (u := -u) (by omega) (by omega) (by omega) (by omega) (by omega) (by omega))
      rw [x, y, z, t]; rfl
    · have h0 : i ≠ 0 := by omega
      rw [if_neg h0, if_neg (by decide), sgnC_lt (by decide), show i * -1 = -i by omega]; rfl

end Go.Proofs.YtoglkfchiidmmaaDoor.Sp
