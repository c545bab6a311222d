/- Contract of the reference's Digits: a number's digits, below nought with a sign. -/
import Derived.Test.YtdonjdihffpghaaDoorRows
import Derived.WalkKit
import Derived.WalkSpells
import Derived.WalkLawsBesides
import Derived.Laws.IdiomStrings
import Derived.Lib.ItoaNum
import Derived.Lib.ItoaLen
import Derived.Lib.OthersKept
import Derived.Deep.LoopGhost
import Derived.Deep.RegionWith
import Derived.Below
import Derived.ChangeSlices
import Derived.Carry
namespace Go.Proofs.YtdonjdihffpghaaDoor
open Go.RowKit
set_option linter.unusedVariables false

theorem infoU8 : (Tryd.prog.info? 5).map (fun i => (i.zero, i.size, i.bytes)) = some (some (.int .u8 0), 1, 1) := by kernel_rfl
def cellsB (l : List UInt8) : List Value := l.map fun b => .int .u8 (b.toNat : Int)
theorem cellsB_get {l : List UInt8} {j : Nat} {c : UInt8} (h : l[j]? = some c) : (cellsB l)[j]? = some (.int .u8 (c.toNat : Int)) := by simp [cellsB, h]
theorem cellsB_more (l : List UInt8) (c : UInt8) (x : Int) (h : (c.toNat : Int) = x) : cellsB (l ++ [c]) = cellsB l ++ [.int .u8 x] := by simp [cellsB, ← h]
theorem one_newB (w : World) (a : Value) (t : TypeId) : ∀ j u, [a][j]? = some u → (w.alloc (.cells #[a] t)).cell? ((⟨w.heap.size, 0, none⟩ : Addr).add j) = some u := by
  intro j u hj
  match j, hj with
  | 0, hj => simp at hj; subst hj; simp [Addr.add]
  | j + 1, hj => simp at hj
theorem one_oneB (m : Int) : ∀ u ∈ [Value.int .u8 m], u.oneCell' = true := by
  intro x hx; simp at hx; subst hx; rfl
theorem drop_turnB {L : List UInt8} {j : Nat} {x : UInt8} (h : L[j]? = some x) : (L.drop j).reverse = (L.drop (j + 1)).reverse ++ [x] := by
  obtain ⟨hl, he⟩ := List.getElem?_eq_some_iff.1 h
  rw [List.drop_eq_getElem_cons hl, he, List.reverse_cons]
theorem digit_nat {k : Nat} (h : k < 10) : ((UInt8.ofNat (48 + k)).toNat : Int) = 48 + (k : Int) := by
  have : (UInt8.ofNat (48 + k)).toNat = 48 + k := by simp; omega
  rw [this]; rfl
theorem dec_step {x : Nat} (h : 10 ≤ x) : Lib.decDigits x = Lib.decDigits (x / 10) ++ [UInt8.ofNat (48 + x % 10)] := by
  rw [Lib.decDigits, dif_neg (by omega)]
theorem own_form {W : World} {base m : Nat} {v : Value} {L : List UInt8} (h : W.ownsRow base 5 1 v m (cellsB L)) (hm : L.length = m) (h0 : 0 < m) :
    ∃ a cap, v = .slice (some a) m cap ∧ m ≤ cap ∧ cap ≤ maxLen ∧ Hid (∀ (j : Nat) (c : UInt8), L[j]? = some c → W.cell? (a.add j) = some (.int .u8 (c.toNat : Int))) := by
  rcases h.2 with ⟨e0, z⟩ | ⟨g, cap, cur, e0, _, _, h3, h4, _⟩
  · omega
  · exact ⟨_, cap, e0, h3, h4, fun j c hj => h.cells (by rw [e0]; rfl) j _ (cellsB_get hj)⟩
theorem dig_ret {a b : ByteArray} (h : a = b) : Ending.returned (.string a) = .returned (.string b) := by rw [h]

end Go.Proofs.YtdonjdihffpghaaDoor
