/- Contracts of the laws' taken and of the reference's Parts: lists of parts, copied and compared. -/
import Derived.Test.YtaoocecipacnhaaDoorWdDq
import Derived.BigQuiet
import Derived.Deep.QuietTactic
namespace Go.Proofs.YtaoocecipacnhaaDoor
open Go.RowKit
set_option linter.unusedVariables false

/-- a part: its kind, its text, its place. -/
abbrev PT := Int × ByteArray × Int
def flatT : List PT → List Value
  | [] => []
  | p :: l => .int .i64 p.1 :: .string p.2.1 :: .int .i64 p.2.2 :: flatT l
theorem flatT_append : ∀ (l k : List PT), flatT (l ++ k) = flatT l ++ flatT k
  | [], k => rfl
  | r :: l, k => by simp [flatT, flatT_append l k]
theorem flatT_at : ∀ (l : List PT) (i : Nat) (r : PT), l[i]? = some r → (flatT l)[i * 3]? = some (.int .i64 r.1) ∧ (flatT l)[i * 3 + 1]? = some (.string r.2.1) ∧ (flatT l)[i * 3 + 2]? = some (.int .i64 r.2.2)
  | [], i, r, h => by simp at h
  | x :: l, 0, r, h => by simp at h; subst h; exact ⟨rfl, rfl, rfl⟩
  | x :: l, i + 1, r, h => by
    have q := flatT_at l i r (by simpa using h)
    rw [show (i + 1) * 3 = i * 3 + 1 + 1 + 1 by omega]
    exact q
/-- parts of a text, with their texts. -/
def texts (s : ByteArray) (l : List Prt) : List PT := l.map fun p => (p.1, s.extract p.2.1 p.2.2, (p.2.1 : Int))
theorem flatP_texts (s : ByteArray) : ∀ l, flatP s l = flatT (texts s l)
  | [] => rfl
  | p :: l => by simp [flatP, texts, flatT]; exact flatP_texts s l
theorem texts_length (s : ByteArray) (l : List Prt) : (texts s l).length = l.length := by simp [texts]

theorem infoRPart : (Tryd.prog.info? 86).map (fun i => (i.zero, i.size, i.bytes)) = some (some (.agg #[.int .i64 0, .string ByteArray.empty, .int .i64 0]), 3, 32) := by kernel_rfl
/-- a part where it lies. -/
def At3 (w : World) (g k : Nat) (a : Int) (t : ByteArray) (x : Int) : Prop := w.cell? ⟨g, k * 3, none⟩ = some (.int .i64 a) ∧ w.cell? ⟨g, k * 3 + 1, none⟩ = some (.string t) ∧ w.cell? ⟨g, k * 3 + 2, none⟩ = some (.int .i64 x)
theorem At3.below {w W : World} {g k B : Nat} {a : Int} {t : ByteArray} {x : Int} (h3 : At3 w g k a t x) (hg : g < B) (h : Below B w W) : At3 W g k a t x :=
  ⟨(h.cell (p := ⟨g, k * 3, none⟩) hg).trans h3.1, (h.cell (p := ⟨g, k * 3 + 1, none⟩) hg).trans h3.2.1, (h.cell (p := ⟨g, k * 3 + 2, none⟩) hg).trans h3.2.2⟩

end Go.Proofs.YtaoocecipacnhaaDoor
