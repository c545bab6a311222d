import Derived.Test.YtcgcljfdfimfgaaDoorR18
import Derived.SizedLaws
/- A table among a law's arguments, more: where its changes lie, and how many they are. -/
namespace Go.Proofs.YtcgcljfdfimfgaaDoor
open Go.RowKit
set_option linter.unusedVariables false
set_option maxRecDepth 100000

theorem cell5 : (Tryd.prog.cellTypes Tryd.prog.depth 34).map (fun ts => ts[5 % ts.length]?) = some (some 24) := by kernel_rfl
theorem table_place {w : World} {r : Reach} {b0 : Nat} {t : TbR} {sv : Value} (hv : Value.okWide Tryd.prog w r b0 34 (.agg (tbL t sv).toArray)) : ∀ a n c, sv = .slice (some a) n c → a.block < w.heap.size ∧ a.spot = none := by
  intro a n c hs
  subst hs
  simp only [Value.okWide, Tryd.underlying34] at hv
  obtain ⟨cs, h1, _, ts, hts, _, hc⟩ := hv
  cases h1
  obtain ⟨u, hu, hcell⟩ := hc 5 (.slice (some a) n c) rfl
  have h5 := cell5
  rw [hts] at h5
  simp only [Option.map_some, Option.some.injEq] at h5
  rw [h5] at hu
  cases hu
  simp only [Cell.okWide, Cell.ok, Tryd.underlying24] at hcell
  obtain ⟨_, _, _, h2, row, cells, h3, _⟩ := hcell
  refine ⟨?_, h2⟩
  rcases Nat.lt_or_ge a.block w.heap.size with h | h
  · exact h
  · unfold World.shape? at h3
    rw [Array.getElem?_eq_none h] at h3
    cases h3
theorem table_sized {H : Type} {ts : List TypeId} {ds : List (DataW H)} (h : (DataW.weightsEach Tryd.prog ts ds).all (· ≤ reachBytes) = true) {j : Nat} (ht : ts[j]? = some 34) {d : DataW H} (hd : ds[j]? = some d) {e0 e1 e2 e3 : DataW H} (hde : d = .agg [e0, e1, e2, e3]) {L : List TrR} (he : e2 = .nil ∧ L = [] ∨ ∃ es sp, e2 = .slice es sp ∧ es.length = L.length) : L.length * 40 ≤ 140737488355328 := by
  rcases he with ⟨_, rfl⟩ | ⟨es, sp, rfl, hl⟩
  · simp
  · subst hde
    have hm := List.all_eq_true.1 h _ (DataW.weights_mem_each ht hd ((es.length + sp.length) * Tryd.prog.bytesOf 23) (by
      simp only [DataW.weights, Tryd.underlying34]
      refine DataW.weights_mem_each (j := 2) (t := 24) (d := .slice es sp) rfl rfl _ ?_
      simp [DataW.weights, Tryd.underlying24]))
    rw [bytes30] at hm
    have := of_decide_eq_true hm
    unfold reachBytes at this
    rw [Nat.add_mul] at this
    omega

end Go.Proofs.YtcgcljfdfimfgaaDoor
