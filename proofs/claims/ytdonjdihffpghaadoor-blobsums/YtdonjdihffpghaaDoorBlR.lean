/- Contract: blob.Get of what Put writes of UTC. -/
import Derived.Test.YtdonjdihffpghaaDoorBlQ
namespace Go.Proofs.YtdonjdihffpghaaDoor
open Go.RowKit Sr
set_option linter.unusedVariables false

def utcR : List UInt8 := [3, 85, 84, 67, 0, 0, 0, 0, 0, 0, 0, 0, 0, 3, 85, 84, 67, 0, 0, 0, 0, 0, 0, 0, 0, 0]
theorem utc_split : tz40 ++ utcR = utcB := rfl
theorem num_zero : rdN (tkB 8 [0, 0, 0, 0, 0, 0, 0, 0, 0]) 0 = 0 := by decide +kernel
theorem passr_utc (w : World) : PassR utcL w utcR := by
  intro rb pb tb W hS hblk hb1 hb2 hlo
  have h3 : (rPM w rb pb).num [0, 0, 0, 0, 0, 0, 0, 0, 0] 0 = ([0], 0) := by
    show (([0, 0, 0, 0, 0, 0, 0, 0, 0] : List UInt8).drop 8, rdN (tkB 8 [0, 0, 0, 0, 0, 0, 0, 0, 0]) 0) = _
    rw [num_zero]; rfl
  refine (pass_0 (rPM w rb pb) W utcR tb zerL.toArray ⟨#[]⟩ 0 false ⟨#[]⟩ false hS hblk hb1 hb2 hlo rfl rfl rfl rfl rfl rfl
    [0, 0, 0, 0, 0, 0, 0, 0, 0, 3, 85, 84, 67, 0, 0, 0, 0, 0, 0, 0, 0, 0] [0, 0, 0, 0, 0, 0, 0, 0, 0] [0] rfl rfl h3 rfl trivial).mono ?_
  rintro e W' ⟨hv, hs, hb, hk⟩
  refine ⟨hv, ⟨_, hs⟩, ?_, hk⟩
  have hz : ((rPM w rb pb).num [0, 0, 0, 0, 0, 0, 0, 0, 0, 3, 85, 84, 67, 0, 0, 0, 0, 0, 0, 0, 0, 0] 0).2 = 0 := by
    show rdN (tkB 8 [0, 0, 0, 0, 0, 0, 0, 0, 0, 3, 85, 84, 67, 0, 0, 0, 0, 0, 0, 0, 0, 0]) 0 = 0
    decide +kernel
  rw [hz] at hb
  exact hb
theorem get_utc (g c : Nat) (w : World) (cur : Array Value) (hc : 34 ≤ c) (hcx : c ≤ maxLen) (hgb : w.heap[g]? = some (.cells cur 5 (0, 0))) (hcur : cur.toList.take 34 = cellsB utcF) :
    Calls Tryd.prog 13 #[.slice (some ⟨g, 0, none⟩) 34 c] w fun e w' => e = .returned (.tuple #[.agg utcL.toArray, .int .i64 0]) ∧ Below w.heap.size w w' := by
  have hat : AtB w g 0 utcF := by
    intro j x hj
    have hj34 : j < 34 := (List.getElem?_eq_some_iff.1 hj).1
    have h1 := cellsB_get hj
    rw [← hcur, List.getElem?_take, if_pos hj34] at h1
    rw [Nat.zero_add]
    exact cell_of hgb (by simpa using h1)
  have hF : utcF = tz40 ++ utcR ++ beB 4 (smB utcB) := rfl
  refine get_yes g 0 c 30 utcR (beB 4 (smB utcB)) rfl (beB_len _ _) (by decide) hc hcx w (Array.getElem?_eq_some_iff.1 hgb).1 (fun j x hj => hat j x ?_) (fun j x hj => ?_) (by rw [utc_split]; exact beq_self_eq_true _) cur (0, 0) hgb utcL rfl one_utc (passr_utc w) put_utc
  · rw [hF, List.getElem?_append_left (List.getElem?_eq_some_iff.1 hj).1]; exact hj
  · have := hat (30 + j) x (by rw [hF, List.getElem?_append_right (by show 30 ≤ _; omega), show 30 + j - (tz40 ++ utcR).length = j from by show 30 + j - 30 = j; omega]; exact hj)
    rw [show 0 + (30 + j) = 0 + 30 + j by omega] at this
    exact this

end Go.Proofs.YtdonjdihffpghaaDoor
