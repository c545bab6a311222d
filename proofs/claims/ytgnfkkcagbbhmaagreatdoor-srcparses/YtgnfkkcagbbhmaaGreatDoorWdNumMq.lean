/- Plain mathematics of digits as a number. -/
import Derived.Test.YtgnfkkcagbbhmaaGreatDoorWdWholeq
namespace Go.Proofs.YtgnfkkcagbbhmaaGreatDoor.Wrd
set_option linter.unusedVariables false

/-- digits alone, from a place on. -/
def digF (s : ByteArray) : Nat → Nat → Bool
  | 0, _ => true
  | f + 1, i => if i < s.size then digitN (bt s i) && digF s f (i + 1) else true
theorem digF_step {s : ByteArray} {f i : Nat} (h : i < s.size) : digF s (f + 1) i = (digitN (bt s i) && digF s f (i + 1)) := by rw [digF, if_pos h]
theorem digF_end (s : ByteArray) (f i : Nat) (h : ¬ i < s.size) : digF s f i = true := by
  cases f with
  | zero => rfl
  | succ f => rw [digF, if_neg h]
def digs (s : ByteArray) : Bool := digF s s.size 0
theorem digF_all (s : ByteArray) : ∀ (f i : Nat), s.size ≤ i + f → digF s f i = true → ∀ j, i ≤ j → j < s.size → digitN (bt s j) = true
  | 0, i, hf, h, j, h1, h2 => by omega
  | f + 1, i, hf, h, j, h1, h2 => by
    rw [digF_step (by omega), Bool.and_eq_true] at h
    by_cases c : j = i
    · subst c; exact h.1
    · exact digF_all s f (i + 1) (by omega) h.2 j (by omega) h2
theorem digs_at {s : ByteArray} (h : digs s = true) (j : Nat) (hj : j < s.size) : digitN (bt s j) = true := digF_all s s.size 0 (by omega) h j (by omega) hj
theorem digit_iff (c : Nat) : digitN c = true ↔ (48 ≤ c ∧ c ≤ 57) := by simp [digitN]

/-- what the first digits tell. -/
def valTo (s : ByteArray) : Nat → Int
  | 0 => 0
  | i + 1 => valTo s i * 10 + ((bt s i : Int) - 48)
theorem valTo_nonneg {s : ByteArray} (h : digs s = true) : ∀ i, i ≤ s.size → 0 ≤ valTo s i
  | 0, _ => Int.le_refl _
  | i + 1, hi => by
    have a := valTo_nonneg h i (by omega)
    have b := (digit_iff _).1 (digs_at h i (by omega))
    rw [valTo]; omega
theorem valTo_mono {s : ByteArray} (h : digs s = true) (i : Nat) : ∀ n, i + n ≤ s.size → valTo s i ≤ valTo s (i + n)
  | 0, _ => Int.le_refl _
  | n + 1, hi => by
    have a := valTo_mono h i n (by omega)
    have c := valTo_nonneg h (i + n) (by omega)
    have b := (digit_iff _).1 (digs_at h (i + n) (by omega))
    rw [show i + (n + 1) = (i + n) + 1 by omega, valTo]; omega
def lastN : Int := 9223372036854775807
/-- the number, or 0; the error. -/
def numV (s : ByteArray) : Int := if digs s = true ∧ s.size ≠ 0 ∧ valTo s s.size ≤ lastN then valTo s s.size else 0
def numE (s : ByteArray) : Int := if digs s = true ∧ s.size ≠ 0 then (if valTo s s.size ≤ lastN then 0 else 10) else 13
theorem num_lit {s : ByteArray} (h : ¬ (digs s = true ∧ s.size ≠ 0)) : numV s = 0 ∧ numE s = 13 := by
  unfold numV numE; rw [if_neg (fun q => h ⟨q.1, q.2.1⟩), if_neg h]; exact ⟨rfl, rfl⟩
theorem num_big {s : ByteArray} (h : digs s = true) (h0 : s.size ≠ 0) (i : Nat) (hi : i ≤ s.size) (hb : lastN < valTo s i) : numV s = 0 ∧ numE s = 10 := by
  have := valTo_mono h i (s.size - i) (by omega)
  rw [show i + (s.size - i) = s.size by omega] at this
  unfold numV numE; rw [if_neg (fun q => by have := q.2.2; omega), if_pos ⟨h, h0⟩, if_neg (by omega)]; exact ⟨rfl, rfl⟩
theorem num_ok {s : ByteArray} (h : digs s = true) (h0 : s.size ≠ 0) (hb : valTo s s.size ≤ lastN) : numV s = valTo s s.size ∧ numE s = 0 := by
  unfold numV numE; rw [if_pos ⟨h, h0, hb⟩, if_pos ⟨h, h0⟩, if_pos hb]; exact ⟨rfl, rfl⟩
/-- a rune is a digit just if the byte is. -/
theorem rune_digit (s : ByteArray) (pos : Nat) (h : pos < s.size) : ((48 ≤ (Utf8.decode s pos).1 ∧ (Utf8.decode s pos).1 ≤ 57) ↔ digitN (bt s pos) = true) ∧ (digitN (bt s pos) = true → Utf8.decode s pos = (bt s pos, 1)) := by
  rw [digit_iff]
  rcases dec_shape s pos h with ⟨c, e⟩ | ⟨c, e⟩ | ⟨c, _, _, _, d, _⟩
  · rw [e]; exact ⟨Iff.rfl, fun _ => rfl⟩
  · rw [e]; exact ⟨by simp only; omega, fun q => by omega⟩
  · exact ⟨by omega, fun q => by omega⟩

/-! ### where a text stands among others -/
/-- the first place whose text is as asked; -1: none. -/
def findF (P : ByteArray → Bool) : Nat → List ByteArray → Int
  | _, [] => -1
  | i, t :: l => if P t = true then (i : Int) else findF P (i + 1) l
theorem findF_step {P : ByteArray → Bool} {l : List ByteArray} {i : Nat} {t : ByteArray} (h : l[i]? = some t) : findF P i (l.drop i) = if P t = true then (i : Int) else findF P (i + 1) (l.drop (i + 1)) := by
  obtain ⟨hl, he⟩ := List.getElem?_eq_some_iff.1 h
  rw [List.drop_eq_getElem_cons hl, he]
  rfl
theorem findF_end {P : ByteArray → Bool} {l : List ByteArray} {i : Nat} (h : ¬ i < l.length) : findF P i (l.drop i) = -1 := by
  rw [List.drop_of_length_le (by omega)]; rfl
theorem findF_range (P : ByteArray → Bool) : ∀ (l : List ByteArray) (i : Nat), findF P i l = -1 ∨ ((i : Int) ≤ findF P i l ∧ findF P i l < i + l.length)
  | [], i => .inl rfl
  | t :: l, i => by
    rw [findF]
    split
    · right; simp only [List.length_cons]; omega
    · rcases findF_range P l (i + 1) with h | h
      · exact .inl h
      · right; simp only [List.length_cons]; omega
def sameB (a b : ByteArray) : Bool := decide (lowB a = lowB b)
def knownB (s : ByteArray) (l : List ByteArray) : Int := findF (fun t => sameB s t) 0 l
def beginsB (s t : ByteArray) : Bool := (lowB s).data.toList.isPrefixOf (lowB t).data.toList
def shortB (s : ByteArray) (l : List ByteArray) : Int := if s.size < 3 then -1 else findF (fun t => beginsB s t) 0 l
/-- to begin with it is: no shorter, and the same as far as it goes. -/
theorem begins_iff (s t : ByteArray) : beginsB s t = (decide (s.size ≤ t.size) && sameB s (t.extract 0 s.size)) := by
  have e : ∀ u : ByteArray, (lowB u).data.toList = u.data.toList.map lowC := fun u => by simp [lowB]
  unfold beginsB sameB
  rw [Bool.eq_iff_iff, List.isPrefixOf_iff_prefix, Bool.and_eq_true, decide_eq_true_eq, decide_eq_true_eq, e, e]
  have hx : (t.extract 0 s.size).data.toList = t.data.toList.take s.size := by
    rw [ByteArray.data_extract]; simp
  constructor
  · intro h
    have hl := h.length_le
    rw [List.length_map, List.length_map, sz, sz] at hl
    refine ⟨hl, ?_⟩
    have h2 := List.prefix_iff_eq_take.1 h
    rw [List.length_map, sz, ← List.map_take, ← hx, ← e, ← e] at h2
    cases hA : lowB s
    cases hB : lowB (t.extract 0 s.size)
    rw [hA, hB] at h2
    simp only at h2
    exact congrArg ByteArray.mk (Array.toList_inj.1 h2)
  · rintro ⟨h1, h2⟩
    have h3 := congrArg (fun u : ByteArray => u.data.toList) h2
    simp only [e, hx] at h3
    rw [h3, List.map_take]
    exact List.take_prefix _ _

end Go.Proofs.YtgnfkkcagbbhmaaGreatDoor.Wrd
