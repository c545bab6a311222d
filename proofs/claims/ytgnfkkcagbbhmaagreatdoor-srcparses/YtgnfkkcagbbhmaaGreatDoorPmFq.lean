/- A family of rows of a call's own, each apart from the others: one grows, one is more, a cell is written. -/
import Derived.Test.YtgnfkkcagbbhmaaGreatDoorProg
import Derived.OwnWalk
import Derived.Laws.OwnMore
import Derived.WalkKit
namespace Go.Proofs.YtgnfkkcagbbhmaaGreatDoor
open Go.RowKit
set_option linter.unusedVariables false

/-- a row: its elements' type, an element's cells, the slice, how many, all cells. -/
structure PRow where
  t : TypeId
  z : Nat
  v : Value
  n : Nat
  xs : List Value
abbrev PRow.new (t : TypeId) (z : Nat) : PRow := ⟨t, z, .slice none 0 0, 0, []⟩

/-- all these rows lie in blocks from B on, each in one of its own. -/
def Fam (B : Nat) (V : World) (L : List PRow) : Prop :=
  (∀ r ∈ L, V.ownsRow B r.t r.z r.v r.n r.xs) ∧ ∀ (i j : Nat) (r s : PRow), L[i]? = some r → L[j]? = some s → i ≠ j → ∀ c, r.v.ownBlock = some c → s.v.ownBlock ≠ some c

theorem own_ltP {w : World} {base : Nat} {e : TypeId} {size : Nat} {v : Value} {n : Nat} {xs : List Value} (h : w.ownsRow base e size v n xs) {c : Nat} (hc : v.ownBlock = some c) : base ≤ c ∧ c < w.heap.size := by
  rcases h.2 with ⟨rfl, _⟩ | ⟨g, cap, cur, rfl, h1, h2, _⟩
  · cases hc
  · cases hc; exact ⟨h1, (Array.getElem?_eq_some_iff.1 h2).1⟩
theorem own_keepP {w W : World} {base : Nat} {e : TypeId} {size : Nat} {v : Value} {n : Nat} {xs : List Value} (h : w.ownsRow base e size v n xs) (hk : ∀ c, v.ownBlock = some c → c < w.heap.size → W.heap[c]? = w.heap[c]?) : W.ownsRow base e size v n xs := by
  obtain ⟨h1, h2⟩ := h
  refine ⟨h1, ?_⟩
  rcases h2 with h2 | ⟨g, cap, cur, a, b, c, d⟩
  · exact .inl h2
  · exact .inr ⟨g, cap, cur, a, b, (hk g (by rw [a]; rfl) (Array.getElem?_eq_some_iff.1 c).1).trans c, d⟩

theorem Fam.get {B : Nat} {V : World} {L : List PRow} (h : Fam B V L) (i : Nat) {r : PRow} (hi : L[i]? = some r) : V.ownsRow B r.t r.z r.v r.n r.xs := h.1 r (List.mem_of_getElem? hi)
theorem Fam.lt {B : Nat} {V : World} {L : List PRow} (h : Fam B V L) {r : PRow} (hr : r ∈ L) {c : Nat} (hc : r.v.ownBlock = some c) : B ≤ c ∧ c < V.heap.size := own_ltP (h.1 r hr) hc
/-- what has nothing to do with the rows leaves them. -/
theorem Fam.keep {B : Nat} {V V' : World} {L : List PRow} (h : Fam B V L) (hk : ∀ c, B ≤ c → c < V.heap.size → (∃ r ∈ L, r.v.ownBlock = some c) → V'.heap[c]? = V.heap[c]?) : Fam B V' L :=
  ⟨fun r hr => own_keepP (h.1 r hr) (fun c hc hl => hk c (h.lt hr hc).1 hl ⟨r, hr, hc⟩), h.2⟩
theorem Fam.below {B : Nat} {V V' : World} {L : List PRow} (h : Fam B V L) (hb : Below V.heap.size V V') : Fam B V' L := h.keep fun c _ hl _ => hb.block c hl
theorem Fam.zero (B : Nat) (V : World) : Fam B V [] := by
  refine ⟨fun r hr => by simp at hr, fun i j r s hi => by simp at hi⟩
/-- a row more. -/
theorem Fam.push {B : Nat} {V : World} {L : List PRow} (h : Fam B V L) (t : TypeId) (z : Nat) : Fam B V (L ++ [PRow.new t z]) := by
  refine ⟨fun r hr => ?_, fun i j r s hi hj hij c hc => ?_⟩
  · rcases List.mem_append.1 hr with hr | hr
    · exact h.1 r hr
    · rw [List.mem_singleton.1 hr]; exact World.ownsRow_nil _ _ _ _
  · have hii := (List.getElem?_eq_some_iff.1 hi).1
    have hjj := (List.getElem?_eq_some_iff.1 hj).1
    rw [List.length_append] at hii hjj
    simp only [List.length_singleton] at hii hjj
    by_cases h1 : i < L.length
    · rw [List.getElem?_append_left h1] at hi
      by_cases h2 : j < L.length
      · rw [List.getElem?_append_left h2] at hj
        exact h.2 i j r s hi hj hij c hc
      · rw [List.getElem?_append_right (by omega), show j - L.length = 0 by omega] at hj
        simp at hj; rw [← hj]; intro q; cases q
    · rw [List.getElem?_append_right (by omega), show i - L.length = 0 by omega] at hi
      simp at hi; rw [← hi] at hc; cases hc
/-- the i-th row has grown. -/
theorem Fam.grow {B : Nat} {V V' : World} {L : List PRow} (h : Fam B V L) (i : Nat) {r : PRow} (hi : L[i]? = some r) {v' : Value} {n' : Nat} {xs' : List Value} (hg : V.grownBy V' r.v.ownBlock)
    (hnew : ∀ c, v'.ownBlock = some c → r.v.ownBlock = some c ∨ c = V.heap.size) (hown : V'.ownsRow B r.t r.z v' n' xs') : Fam B V' (L.set i ⟨r.t, r.z, v', n', xs'⟩) := by
  have hil := (List.getElem?_eq_some_iff.1 hi).1
  have at_ : ∀ (j : Nat) (s : PRow), (L.set i ⟨r.t, r.z, v', n', xs'⟩)[j]? = some s → (j = i ∧ s = ⟨r.t, r.z, v', n', xs'⟩) ∨ (j ≠ i ∧ L[j]? = some s) := fun j s hj => by
    by_cases e : i = j
    · subst e
      rw [List.getElem?_set_self hil] at hj
      exact .inl ⟨rfl, (Option.some.inj hj).symm⟩
    · rw [List.getElem?_set_ne e] at hj
      exact .inr ⟨fun q => e q.symm, hj⟩
  refine ⟨fun s hs => ?_, fun j k s u hj hk hjk c hc => ?_⟩
  · obtain ⟨j, hj⟩ := List.getElem?_of_mem hs
    rcases at_ j s hj with ⟨_, rfl⟩ | ⟨hne, hj⟩
    · exact hown
    · exact own_keepP (h.get j hj) (fun c hc hl => hg.block c hl (fun e => h.2 i j r s hi hj (fun q => hne q.symm) c e.symm hc))
  · rcases at_ j s hj with ⟨rfl, rfl⟩ | ⟨hne, hj'⟩
    · rcases at_ k u hk with ⟨rfl, rfl⟩ | ⟨hne2, hk'⟩
      · exact absurd rfl hjk
      · intro e
        rcases hnew c hc with q | q
        · exact h.2 j k r u hi hk' hjk c q e
        · have := (h.lt (List.mem_of_getElem? hk') e).2; omega
    · rcases at_ k u hk with ⟨rfl, rfl⟩ | ⟨hne2, hk'⟩
      · intro e
        rcases hnew c e with q | q
        · exact h.2 j k s r hj' hi hjk c hc q
        · have := (h.lt (List.mem_of_getElem? hj') hc).2; omega
      · exact h.2 j k s u hj' hk' hjk c hc
/-- a cell of the i-th row is written. -/
theorem Fam.put {B : Nat} {V : World} {L : List PRow} (h : Fam B V L) (i : Nat) {r : PRow} (hi : L[i]? = some r) {g cap : Nat} (hv : r.v = .slice (some ⟨g, 0, none⟩) r.n cap) (j : Nat) (u : Value) :
    Fam B (V.setCell ⟨g, j, none⟩ u) (L.set i ⟨r.t, r.z, r.v, r.n, r.xs.set j u⟩) := by
  have ho := h.get i hi
  rw [hv] at ho
  obtain ⟨h1, h2⟩ := ho.stored j u
  exact h.grow i hi (by rw [hv]; exact h2) (fun c hc => .inl hc) (by rw [hv]; exact h1)
/-- how many rows there are. -/
theorem Fam.cell {B : Nat} {V : World} {L : List PRow} (h : Fam B V L) (i : Nat) {r : PRow} (hi : L[i]? = some r) {g cap : Nat} (hv : r.v = .slice (some ⟨g, 0, none⟩) r.n cap) {j : Nat} {u : Value} (hj : r.xs[j]? = some u) : V.cell? ⟨g, j, none⟩ = some u := by
  have ho := h.get i hi
  have hl : j < r.n * r.z := by rw [← ho.1]; exact (List.getElem?_eq_some_iff.1 hj).1
  rw [hv] at ho
  exact (ho.cellAt j hl).trans hj

end Go.Proofs.YtgnfkkcagbbhmaaGreatDoor
