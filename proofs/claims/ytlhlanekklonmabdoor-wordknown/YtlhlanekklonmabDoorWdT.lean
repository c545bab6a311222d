/- A slice of texts among a law's arguments: what its reading gives. -/
import Derived.Test.YtlhlanekklonmabDoorWdS
import Derived.SliceStrings
import Derived.SizedLaws
import Derived.Carry
namespace Go.Proofs.YtlhlanekklonmabDoor
open Go.RowKit Go.ChangeShapes
set_option linter.unusedVariables false

theorem laidOutP : laidOutB Tryd.prog = true := by kernel_rfl
theorem cells9 : Tryd.prog.cellsOf 9 = 1 := by kernel_rfl
theorem bytes9 : Tryd.prog.bytesOf 9 = 16 := by kernel_rfl
theorem weightsAll_mem {H : Type} {P : Program} {e : TypeId} : ∀ (l : List ByteArray) (t : ByteArray), t ∈ l → t.data.toList.length ∈ DataW.weightsAll (H := H) P e (strs l)
  | [], t, h => by simp at h
  | x :: l, t, h => by
    rcases List.mem_cons.1 h with rfl | h
    · simp [strs, DataW.weightsAll, DataW.weights]
    · have := weightsAll_mem (H := H) (P := P) (e := e) l t h
      simp only [strs, List.map_cons, DataW.weightsAll, List.mem_append]
      exact .inr this

theorem strs_arg {H : Type} {enc : TypeId × Value → H} {W : World} {fuel : Nat} {v : Value} {d : DataW H} {ps : List MemPlace} (hf : DataW.trod enc Tryd.prog W 0 (fun _ => true) true fuel 51 [v] = some (d, ps))
    {ts : List TypeId} {ds : List (DataW H)} (hsz : (DataW.weightsEach Tryd.prog ts ds).all (· ≤ reachBytes) = true) {j : Nat} (ht : ts[j]? = some 51) (hd : ds[j]? = some d) :
    ∃ L : List ByteArray, SlS W v L ∧ L.length * 16 ≤ 140737488351232 ∧ ∀ (i : Nat) (t : ByteArray), L[i]? = some t → t.size ≤ 140737488351232 := by
  rcases open_strings Tryd.underlying51 Tryd.underlying9 cells9 hf with ⟨hcs, hx⟩ | ⟨a, len, cap, ss, hcs, _, hl, hm, hz, hx, hcell, hs2⟩
  · simp only [List.cons.injEq, and_true] at hcs
    exact ⟨[], .inl ⟨hcs, rfl⟩, by simp, fun i t h => by simp at h⟩
  · simp only [List.cons.injEq, and_true] at hcs
    simp only [if_true] at hz
    have hdx : d = .slice (strs (ss.take len)) (strs (ss.drop len)) := congrArg Prod.fst hx
    rw [hdx] at hd
    have hlen : (ss.take len).length = len := by rw [List.length_take]; omega
    refine ⟨ss.take len, .inr ⟨a, cap, by rw [hlen]; exact hcs, by rw [hlen]; exact hl, hm, trivial, ?_⟩, ?_, ?_⟩
    · intro i t hi
      have hi' : i < len := by have := (List.getElem?_eq_some_iff.1 hi).1; omega
      rw [hcell i (by omega)]
      rw [List.getElem?_take, if_pos hi'] at hi
      simp [hi]
    · have := sized_slice hsz ht hd Tryd.underlying51
      rw [bytes9] at this
      simp only [strs, List.length_map] at this
      unfold reachBytes at this
      have h2 : (ss.take len).length * 16 ≤ ((ss.take len).length + (ss.drop len).length) * 16 := Nat.mul_le_mul_right _ (Nat.le_add_right _ _)
      omega
    · intro i t hi
      have hmem : t ∈ ss.take len := List.mem_of_getElem? hi
      have hw := weightsAll_mem (H := H) (P := Tryd.prog) (e := 9) (ss.take len) t hmem
      have := List.all_eq_true.1 hsz _ (DataW.weights_mem_each ht hd t.data.toList.length (by
        simp only [DataW.weights, Tryd.underlying51, List.mem_cons, List.mem_append]
        exact .inr (.inl hw)))
      simp only [decide_eq_true_eq] at this
      rw [sz] at this
      unfold reachBytes at this
      omega

end Go.Proofs.YtlhlanekklonmabDoor
