import Derived.Test.YtcmefhnfdcngfaaDoorP10
import Derived.Carry
import Derived.ChangeSlices
import Derived.SizedLaws
/- A row of numbers among a law's arguments. -/
namespace Go.Proofs.YtcmefhnfdcngfaaDoor
open Go.RowKit Go.ChangeShapes
set_option linter.unusedVariables false

set_option maxRecDepth 100000

theorem laidOutP : laidOutB Tryd.prog = true := by kernel_rfl
theorem cells3 : Tryd.prog.cellsOf 3 = 1 := by kernel_rfl
theorem bytes3 : Tryd.prog.bytesOf 3 = 8 := by kernel_rfl
theorem ints_place {w : World} {r : Reach} {b0 : Nat} {q : Option Addr} {n c : Nat} (hv : Value.okWide Tryd.prog w r b0 22 (.slice q n c)) : ∀ a, q = some a → a.block < w.heap.size ∧ a.spot = none := by
  intro a ha
  subst ha
  simp only [Value.okWide, Tryd.underlying22, Cell.okWide, Cell.ok] at hv
  obtain ⟨_, _, _, h2, row, cells, h3, _⟩ := hv
  refine ⟨?_, h2⟩
  rcases Nat.lt_or_ge a.block w.heap.size with h | h
  · exact h
  · unfold World.shape? at h3
    rw [Array.getElem?_eq_none h] at h3
    cases h3
theorem ints_argK {H : Type} {enc : TypeId × Value → H} {W : World} {fuel : Nat} {q : Option Addr} {n c : Nat} {d : DataW H} {ps : List MemPlace} (hf : DataW.trod enc Tryd.prog W 0 (fun _ => true) true fuel 22 [.slice q n c] = some (d, ps))
    (hp : ∀ a, q = some a → a.block < W.heap.size ∧ a.spot = none)
    {ts : List TypeId} {ds : List (DataW H)} (hsz : (DataW.weightsEach Tryd.prog ts ds).all (· ≤ reachBytes) = true) {j : Nat} (ht : ts[j]? = some 22) (hd : ds[j]? = some d) :
    ∃ L : List Int, n = L.length ∧ IR W (.slice q L.length c) L ∧ L.length ≤ 17592186044416 ∧ (L = [] ∧ q = none ∧ c = 0 ∨ ∃ b o, q = some ⟨b, o, none⟩) := by
  rcases open_ints Tryd.underlying22 Tryd.underlying3 cells3 hf with ⟨hcs, hx⟩ | ⟨a, len, cap, zs, hcs, _, hl, hm, hz, hx, hcell, hs2⟩
  · simp only [List.cons.injEq, and_true, Value.slice.injEq] at hcs
    obtain ⟨rfl, rfl, rfl⟩ := hcs
    exact ⟨[], rfl, ⟨none, 0, rfl, Nat.le_refl _, by unfold maxLen; omega, fun j x h => by simp at h⟩, by simp, .inl ⟨rfl, rfl, rfl⟩⟩
  · simp only [List.cons.injEq, and_true, Value.slice.injEq] at hcs
    obtain ⟨rfl, rfl, rfl⟩ := hcs
    simp only [if_true] at hz
    have hdx : d = .slice (lits .i64 (zs.take n)) (lits .i64 (zs.drop n)) := congrArg Prod.fst hx
    rw [hdx] at hd
    have hlen : (zs.take n).length = n := by rw [List.length_take]; omega
    obtain ⟨hp1, hp2⟩ := hp a rfl
    obtain ⟨b, o, sp⟩ := a
    obtain rfl : sp = none := hp2
    refine ⟨zs.take n, hlen.symm, ⟨some ⟨b, o, none⟩, c, rfl, by rw [hlen]; exact hl, hm, ?_⟩, ?_, .inr ⟨b, o, rfl⟩⟩
    · intro i t hi
      have hi' : i < n := by have := (List.getElem?_eq_some_iff.1 hi).1; omega
      refine ⟨b, o, rfl, hp1, ?_⟩
      have := hcell i (by omega)
      rw [Addr.add_mid] at this
      rw [this]
      rw [List.getElem?_take, if_pos hi'] at hi
      simp [hi]
    · have := sized_slice hsz ht hd Tryd.underlying22
      rw [bytes3] at this
      simp only [lits, List.length_map] at this
      unfold reachBytes at this
      have h2 : (zs.take n).length * 8 ≤ ((zs.take n).length + (zs.drop n).length) * 8 := Nat.mul_le_mul_right _ (Nat.le_add_right _ _)
      omega

end Go.Proofs.YtcmefhnfdcngfaaDoor
