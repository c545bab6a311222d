/- What a line's taking leaves in the reference's parser; its rows. -/
import Derived.Test.YtgnfkkcagbbhmaaGreatDoorQpFq
import Derived.Test.YtgnfkkcagbbhmaaGreatDoorQpAq
import Derived.Test.YtgnfkkcagbbhmaaGreatDoorPmRq
namespace Go.Proofs.YtgnfkkcagbbhmaaGreatDoor
open Go.RowKit
set_option linter.unusedVariables false

/-- what a line's taking leaves: an error, or the reference's parser with the line taken. -/
def TkN (w : World) (g B : Nat) (V : World) (e : Ending) (W' : World) : Sum Int PSt → Prop
  | .inl c => e = .returned (.int .i64 c) ∧ Below V.heap.size V W'
  | .inr S' => e = .returned (.int .i64 0) ∧ ∃ vr' vl' ve' vz' vs', PN w g B S' vr' vl' ve' vz' vs' W'
theorem TkN.no {w : World} {g B : Nat} {V : World} {e : Ending} {W' : World} {r : Sum Int PSt} {c : Int} (hr : r = .inl c) (he : e = .returned (.int .i64 c)) (hb : Below V.heap.size V W') : TkN w g B V e W' r := by subst hr; exact ⟨he, hb⟩
theorem TkN.yes {w : World} {g B : Nat} {V : World} {e : Ending} {W' : World} {r : Sum Int PSt} {S' : PSt} {vr' vl' ve' vz' : Value} {vs' : List Value} (hr : r = .inr S') (he : e = .returned (.int .i64 0)) (h : PN w g B S' vr' vl' ve' vz' vs' W') : TkN w g B V e W' r := by subst hr; exact ⟨he, vr', vl', ve', vz', vs', h⟩
theorem PN.grownBox {w : World} {g B : Nat} {S : PSt} {vr vl ve vz : Value} {vs : List Value} {V V' : World} (h : PN w g B S vr vl ve vz vs V) {row : Option Nat} (hg : V.grownBy V' row) (hr : ∀ c, row = some c → B ≤ c) : Bx V' g (boxN vr vl ve vz S.op) :=
  bx_growP h.box hg (fun e => by have := hr g e; have := h.gB; omega)
theorem PN.ghost {w : World} {g B : Nat} {S : PSt} {vr vl ve vz : Value} {vs : List Value} {V : World} (h : PN w g B S vr vl ve vz vs V) (d : Nat) (f : ByteArray → Int) : PN w g B { S with dn := d, cnt := f } vr vl ve vz vs V := ⟨h.low, h.box, h.fam, h.len, h.wg, h.gB, h.BV⟩
theorem PN.getR {w : World} {g B : Nat} {S : PSt} {vr vl ve vz : Value} {vs : List Value} {V : World} (h : PN w g B S vr vl ve vz vs V) : V.ownsRow B 71 11 vr S.rules.length (ruleXs S.rules) := h.fam.get 1 rfl
theorem PN.getL {w : World} {g B : Nat} {S : PSt} {vr vl ve vz : Value} {vs : List Value} {V : World} (h : PN w g B S vr vl ve vz vs V) : V.ownsRow B 81 2 vl S.links.length (linkXs S.links) := h.fam.get 2 rfl
theorem PN.getZ {w : World} {g B : Nat} {S : PSt} {vr vl ve vz : Value} {vs : List Value} {V : World} (h : PN w g B S vr vl ve vz vs V) : V.ownsRow B 74 2 vz S.zones.length (zoneXs S.zones vs) := h.fam.get 3 rfl
theorem PN.getE {w : World} {g B : Nat} {S : PSt} {vr vl ve vz : Value} {vs : List Value} {V : World} (h : PN w g B S vr vl ve vz vs V) : V.ownsRow B 3 1 ve S.eras.length (atXs S.eras) := h.fam.get 0 rfl
theorem PN.grownLow {w : World} {g B : Nat} {S : PSt} {vr vl ve vz : Value} {vs : List Value} {V V' : World} (h : PN w g B S vr vl ve vz vs V) {row : Option Nat} (hg : V.grownBy V' row) (hr : ∀ c, row = some c → B ≤ c) : Below w.heap.size w V' :=
  ⟨hg.os.trans h.low.os, hg.tape.trans h.low.tape, hg.output.trans h.low.output, Nat.le_trans h.low.size hg.size, fun c hc => (hg.block c (by have := h.low.size; omega) (fun e => by have := hr c e.symm; have := h.wB; omega)).trans (h.low.block c hc)⟩

end Go.Proofs.YtgnfkkcagbbhmaaGreatDoor
