/- Which sign of a line a token of the reference is: mathematics. -/
import Derived.Test.YtaoocecipacnhaaDoorRxCq
namespace Go.Proofs.YtaoocecipacnhaaDoor
open Go.RowKit
set_option linter.unusedVariables false

/-- the first sign that it is. -/
theorem sg_find {q : Tk} (tag : Int) : ∀ (L : List ByteArray), (∀ s ∈ L, sgB q s = isT (mT q) [(tag, s)]) → L.find? (fun s => sgB q s) = if isT (mT q) (L.map (fun s => (tag, s))) = true then some (mT q).2.1 else none
  | [], h => rfl
  | s :: L, h => by
    have h1 := h s List.mem_cons_self
    have ih := sg_find tag L (fun x hx => h x (List.mem_cons_of_mem _ hx))
    rw [isT_one] at h1
    have e : isT (mT q) ((s :: L).map (fun s => (tag, s))) = (decide ((mT q).1 = tag ∧ (mT q).2.1 = s) || isT (mT q) (L.map (fun s => (tag, s)))) := by simp [isT]
    rw [e]
    by_cases hs : (mT q).1 = tag ∧ (mT q).2.1 = s
    · rw [decide_eq_true hs] at h1
      rw [List.find?_cons_of_pos h1, if_pos (by simp [hs]), hs.2]
    · rw [decide_eq_false hs] at h1
      rw [List.find?_cons_of_neg (by rw [h1]; simp), ih, decide_eq_false hs, Bool.false_or]
theorem sgs_0 : sgs 0 = (sgW 0).map (fun s => (4, s)) := rfl
theorem sgs_1 : sgs 1 = (sgW 1).map (fun s => (4, s)) := rfl
theorem sgs_3 : sgs 3 = (sgW 3).map (fun s => (5, s)) := rfl
theorem sgs_4 : sgs 4 = (sgW 4).map (fun s => (5, s)) := rfl
theorem sgs_5 : sgs 5 = (sgW 5).map (fun s => (5, s)) := rfl
theorem sgW_word {lev : Nat} (h : lev = 0 ∨ lev = 1 ∨ lev = 7) : ∀ s ∈ sgW lev, s ∈ wrdL := by
  intro s hs
  rcases h with rfl | rfl | rfl <;> (simp only [sgW, List.mem_cons, List.not_mem_nil, or_false] at hs; subst hs; unfold wrdL; simp)
theorem sgW_sign {lev : Nat} (h : lev = 3 ∨ lev = 4 ∨ lev = 5) : ∀ s ∈ sgW lev, s ∈ sgnL := by
  intro s hs
  rcases h with rfl | rfl | rfl <;> simp only [sgW, List.mem_cons, List.not_mem_nil, or_false] at hs
  · rcases hs with rfl | rfl | rfl | rfl | rfl | rfl <;> (unfold sgnL; simp)
  · rcases hs with rfl | rfl <;> (unfold sgnL; simp)
  · rcases hs with rfl | rfl | rfl <;> (unfold sgnL; simp)
/-- of a line's signs the first that a token is: what the grammar says. -/
theorem line_find {q : Tk} (h : GoodT q) {lev : Nat} (hl : lev = 0 ∨ lev = 1 ∨ lev = 3 ∨ lev = 4 ∨ lev = 5) : (sgW lev).find? (fun s => sgB q s) = if isT (mT q) (sgs lev) = true then some (mT q).2.1 else none := by
  rcases hl with rfl | rfl | rfl | rfl | rfl
  · rw [sgs_0]; exact sg_find 4 _ (fun s hs => sg_word h (sgW_word (.inl rfl) s hs))
  · rw [sgs_1]; exact sg_find 4 _ (fun s hs => sg_word h (sgW_word (.inr (.inl rfl)) s hs))
  · rw [sgs_3]; exact sg_find 5 _ (fun s hs => sg_sign h (sgW_sign (.inl rfl) s hs))
  · rw [sgs_4]; exact sg_find 5 _ (fun s hs => sg_sign h (sgW_sign (.inr (.inl rfl)) s hs))
  · rw [sgs_5]; exact sg_find 5 _ (fun s hs => sg_sign h (sgW_sign (.inr (.inr rfl)) s hs))
end Go.Proofs.YtaoocecipacnhaaDoor
