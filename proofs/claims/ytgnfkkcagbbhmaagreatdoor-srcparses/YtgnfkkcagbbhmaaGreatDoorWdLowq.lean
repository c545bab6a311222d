/- Plain mathematics of small letters. -/
import Derived.Test.YtgnfkkcagbbhmaaGreatDoorWdMathq
namespace Go.Proofs.YtgnfkkcagbbhmaaGreatDoor.Wrd
set_option linter.unusedVariables false

def lowC (c : UInt8) : UInt8 := if 65 ≤ c.toNat ∧ c.toNat ≤ 90 then c + 32 else c
def lowB (s : ByteArray) : ByteArray := ⟨s.data.map lowC⟩
/-- small letters up to a place. -/
def lowTo (s : ByteArray) (p : Nat) : List UInt8 := (s.data.toList.take p).map lowC ++ s.data.toList.drop p

theorem sz (s : ByteArray) : s.data.toList.length = s.size := Array.length_toList
theorem low32 (c : UInt8) (h : 65 ≤ c.toNat ∧ c.toNat ≤ 90) : (c + 32).toNat = c.toNat + 32 := by rw [UInt8.toNat_add]; simp; omega
theorem lowTo_get (s : ByteArray) (p j : Nat) : (lowTo s p)[j]? = (s.data.toList[j]?).map (fun c => if j < p then lowC c else c) := by
  unfold lowTo
  by_cases hj : j < s.data.toList.length
  · by_cases h : j < p
    · rw [List.getElem?_append_left (by simp at hj ⊢; omega)]
      simp [h]
    · have hl : ((s.data.toList.take p).map lowC).length = p := by rw [List.length_map, List.length_take]; omega
      rw [List.getElem?_append_right (by rw [hl]; omega), hl, List.getElem?_drop, show p + (j - p) = j by omega]
      simp [h]
  · rw [List.getElem?_eq_none (by simp only [List.length_append, List.length_map, List.length_take, List.length_drop]; omega), List.getElem?_eq_none (by omega)]
    rfl
theorem lowTo_length (s : ByteArray) (p : Nat) : (lowTo s p).length = s.size := by
  unfold lowTo; simp only [List.length_append, List.length_map, List.length_take, List.length_drop, Array.length_toList]; show _ = s.data.size; omega
theorem lowTo_zero (s : ByteArray) : lowTo s 0 = s.data.toList := by simp [lowTo]
theorem lowTo_all (s : ByteArray) (p : Nat) (h : s.size ≤ p) : lowTo s p = (lowB s).data.toList := by
  unfold lowTo lowB
  rw [List.take_of_length_le (by rw [sz]; exact h), List.drop_of_length_le (by rw [sz]; exact h)]
  simp
theorem lowTo_end (s : ByteArray) (p : Nat) (h : ¬ p < s.size) : (⟨(lowTo s p).toArray⟩ : ByteArray) = lowB s := by
  rw [lowTo_all s p (by omega)]

theorem get_lt (s : ByteArray) (k : Nat) (h : k < s.size) : s.get! k = s[k]'h := by
  show s.data[k]! = _
  rw [getElem!_pos s.data k h]
  rfl
theorem bt_get (s : ByteArray) (j : Nat) (h : j < s.size) : s.data.toList[j]? = some (s[j]'h) ∧ (s[j]'h).toNat = bt s j := by
  constructor
  · rw [List.getElem?_eq_getElem (by rw [sz]; exact h)]; rfl
  · unfold bt; rw [get_lt s j h]

/-- a rune that is none of A to Z changes nothing. -/
theorem lowTo_skip (s : ByteArray) (pos : Nat) (h : pos < s.size) (hR : ¬ (65 ≤ (Utf8.decode s pos).1 ∧ (Utf8.decode s pos).1 ≤ 90)) :
    lowTo s (pos + (Utf8.decode s pos).2) = lowTo s pos := by
  have key : ∀ j, pos ≤ j → j < pos + (Utf8.decode s pos).2 → j < s.size → ¬ (65 ≤ bt s j ∧ bt s j ≤ 90) := by
    intro j a b hj
    rcases dec_shape s pos h with ⟨c, e⟩ | ⟨c, e⟩ | ⟨c, _, _, _, _, d, _⟩
    · rw [e] at hR b
      obtain rfl : j = pos := by simp only at b; omega
      exact hR
    · rw [e] at b
      obtain rfl : j = pos := by simp only at b; omega
      omega
    · by_cases q : j = pos
      · subst q; omega
      · have := d (j - pos) (by omega) (by omega)
        rw [show pos + (j - pos) = j by omega] at this
        omega
  apply List.ext_getElem?
  intro j
  rw [lowTo_get, lowTo_get]
  by_cases hj : j < s.size
  · obtain ⟨e1, e2⟩ := bt_get s j hj
    rw [e1]
    simp only [Option.map_some, Option.some.injEq]
    by_cases c1 : j < pos
    · rw [if_pos c1, if_pos (by omega)]
    · rw [if_neg c1]
      by_cases c2 : j < pos + (Utf8.decode s pos).2
      · rw [if_pos c2]
        unfold lowC
        rw [if_neg (by rw [e2]; exact key j (by omega) c2 hj)]
      · rw [if_neg c2]
  · rw [List.getElem?_eq_none (by rw [sz]; omega)]
    rfl
/-- A to Z becomes its small letter. -/
theorem lowTo_put (s : ByteArray) (pos : Nat) (h : pos < s.size) (hR : 65 ≤ (Utf8.decode s pos).1 ∧ (Utf8.decode s pos).1 ≤ 90) :
    (Utf8.decode s pos) = (bt s pos, 1) ∧ (lowTo s pos)[pos]? = some (s[pos]'h) ∧ lowTo s (pos + (Utf8.decode s pos).2) = (lowTo s pos).set pos (s[pos]'h + 32) ∧ (s[pos]'h + 32).toNat = (Utf8.decode s pos).1 + 32 ∧ (s[pos]'h).toNat = (Utf8.decode s pos).1 := by
  obtain ⟨e1, e2⟩ := bt_get s pos h
  rcases dec_shape s pos h with ⟨c, e⟩ | ⟨c, e⟩ | ⟨c, _, _, _, _, d, _⟩
  · have hb : 65 ≤ (s[pos]'h).toNat ∧ (s[pos]'h).toNat ≤ 90 := by rw [e] at hR; simp only at hR; omega
    refine ⟨e, by rw [lowTo_get, e1]; simp, ?_, by rw [low32 _ hb, e, e2], by rw [e, e2]⟩
    apply List.ext_getElem?
    intro j
    rw [e, List.getElem?_set, lowTo_get, lowTo_get]
    by_cases q : pos = j
    · subst q
      rw [if_pos rfl, if_pos (by rw [lowTo_length]; exact h), e1]
      simp only [Option.map_some, Option.some.injEq]
      rw [if_pos (by omega)]
      unfold lowC
      rw [if_pos hb]
    · rw [if_neg q]
      have : (j < pos + 1) = (j < pos) := propext ⟨fun _ => by omega, fun _ => by omega⟩
      simp only [this]
  · rw [e] at hR; simp only at hR; omega
  · omega

end Go.Proofs.YtgnfkkcagbbhmaaGreatDoor.Wrd
