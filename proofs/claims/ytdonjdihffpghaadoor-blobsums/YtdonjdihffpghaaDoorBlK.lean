/- Contract: blob.Put of the table of UTC. -/
import Derived.Test.YtdonjdihffpghaaDoorBlJ
namespace Go.Proofs.YtdonjdihffpghaaDoor
open Go.RowKit Sr
set_option linter.unusedVariables false

def utcB : List UInt8 := [84, 90, 52, 48, 3, 85, 84, 67, 0, 0, 0, 0, 0, 0, 0, 0, 0, 3, 85, 84, 67, 0, 0, 0, 0, 0, 0, 0, 0, 0]
def utcF : List UInt8 := utcB ++ beB 4 (smB utcB)
theorem utcF_is : utcF = [84, 90, 52, 48, 3, 85, 84, 67, 0, 0, 0, 0, 0, 0, 0, 0, 0, 3, 85, 84, 67, 0, 0, 0, 0, 0, 0, 0, 0, 0, 63, 197, 2, 241] := by decide +kernel
theorem pass_utc (w : World) : PassW utcL w utcB := by
  intro bb pb W hS hblk hb1 hb2
  refine (pass_0 (wPM w bb w.heap.size pb) W tz40 w.heap.size utcL.toArray ⟨#[85, 84, 67]⟩ 0 false ⟨#[85, 84, 67]⟩ false hS hblk hb1 hb2 (Nat.zero_le _) rfl rfl rfl rfl rfl rfl
    (tz40 ++ [3, 85, 84, 67]) (tz40 ++ [3, 85, 84, 67] ++ beB 8 (u64N 0) ++ [0] ++ [3, 85, 84, 67]) (tz40 ++ [3, 85, 84, 67] ++ beB 8 (u64N 0) ++ [0] ++ [3, 85, 84, 67] ++ beB 8 (u64N 0)) rfl rfl rfl rfl (by show ((tz40 ++ [3, 85, 84, 67] ++ beB 8 (u64N 0) ++ [0] ++ [3, 85, 84, 67] ++ beB 8 (u64N 0)) ++ [flB false]).length ≤ 900000; decide +kernel)).mono ?_
  rintro e W' ⟨hv, hs, _⟩
  refine ⟨hv, ?_⟩
  have : ((wPM w bb w.heap.size pb).flag (tz40 ++ [3, 85, 84, 67] ++ beB 8 (u64N 0) ++ [0] ++ [3, 85, 84, 67] ++ beB 8 (u64N 0)) false).1 = utcB := by
    show (tz40 ++ [3, 85, 84, 67] ++ beB 8 (u64N 0) ++ [0] ++ [3, 85, 84, 67] ++ beB 8 (u64N 0)) ++ [flB false] = utcB
    decide +kernel
  rw [this] at hs
  exact hs
theorem put_utc (w : World) : Calls Tryd.prog 10 #[.agg utcL.toArray] w fun e w' => ∃ v, e = .returned (.tuple #[v, .int .i64 0]) ∧ w'.ownsRow w.heap.size 5 1 v 34 (cellsB utcF) ∧ Below w.heap.size w w' :=
  put_yes utcL rfl ⟨#[85, 84, 67]⟩ rfl w utcB (by decide) right_utc name_utc short_utc (pass_utc w)

end Go.Proofs.YtdonjdihffpghaaDoor
