/- A map whose entries are told by one function of the key, which is nought where there is no entry: looked up, written. -/
import Derived.Maps.OwnIn
import Derived.Maps.AppendAt
import Derived.RangeFuncNested
namespace Go.Proofs.YtpdmndlpgjjopaaGreatDoor
open Go Go.RowKit
open Go.ChangeMaps (setBlock heap_setBlock_same heap_setBlock_other)
set_option linter.unusedVariables false

/-- Block b is a map: of key k there is f k, or no entry, and f k is z. -/
def MapZ (W : World) (b : Nat) (z : Value) (f : Int → Value) : Prop :=
  ∃ es clock, W.heap[b]? = some (.map es clock) ∧ (∀ e ∈ es.toList, ∃ k : Int, e.key = .int .i64 k ∧ e.val = f k) ∧ (∀ k : Int, (∀ e ∈ es.toList, e.key ≠ .int .i64 k) → f k = z) ∧ (es.toList.map (·.key)).Nodup

theorem findNow_Z {f : Int → Value} (y : Int) : ∀ (es : List MapEntry) (i : Nat), (∀ e ∈ es, ∃ k : Int, e.key = .int .i64 k ∧ e.val = f k) →
    (Instr.findNow (.int .i64) (.int .i64 y) es i = some none ∧ ∀ e ∈ es, e.key ≠ .int .i64 y) ∨ ∃ j, Instr.findNow (.int .i64) (.int .i64 y) es i = some (some (j, f y)) ∧ j - i < es.length ∧ i ≤ j ∧ (es[j - i]?).map (·.key) = some (.int .i64 y)
  | [], i, _ => .inl ⟨rfl, by simp⟩
  | e :: es, i, h => by
    obtain ⟨k, hk, hv⟩ := h e (by simp)
    by_cases hy : y = k
    · subst hy
      exact .inr ⟨i, by simp [Instr.findNow, Instr.sameNow, hk, hv], by simp, Nat.le_refl _, by simp [hk]⟩
    · have hyb : (y == k) = false := by simpa using hy
      rcases findNow_Z y es (i + 1) (fun e' he' => h e' (by simp [he'])) with ⟨h1, h2⟩ | ⟨j, h1, h2, h3, h4⟩
      · refine .inl ⟨by simp [Instr.findNow, Instr.sameNow, hk, hyb, h1], ?_⟩
        intro e' he'
        rcases List.mem_cons.1 he' with rfl | he'
        · rw [hk]; intro q; injection q with _ q; exact hy q.symm
        · exact h2 e' he'
      · refine .inr ⟨j, by simp [Instr.findNow, Instr.sameNow, hk, hyb, h1], ?_, by omega, ?_⟩
        · simp; omega
        · have : j - i = (j - (i + 1)) + 1 := by omega
          rw [this]; simpa using h4

theorem lookup_Z {P : Program} {t K E : TypeId} (ht : P.underlying t = some (.map K E)) (hK : P.underlying K = some (.int .i64)) {z : Value} {W : World} (hz : (zeroValue E).run P W = .ok z W)
    {b : Nat} {f : Int → Value} (h : MapZ W b z f) (y : Int) :
    (Instr.lookup t (.map (some b)) (.int .i64 y) false).run P W = .ok (f y) W := by
  obtain ⟨es, clock, hb, hes, hno, _⟩ := h
  have hc : ∀ e, (Instr.checkKey e 10000 K (.int .i64 y)).run P W = .ok () W := fun e => MapKept.run_checkKey hK (by trivial) e 9999
  rcases findNow_Z y es.toList 0 hes with ⟨h1, h2⟩ | ⟨j, h1, _⟩
  · rw [hno y h2]
    simp [Instr.lookup, Instr.findKey, run_underlying ht, run_underlying hK, MapKept.run_getObj_map hb, hc, h1, hz, Result.andThen]
  · simp [Instr.lookup, Instr.findKey, run_underlying ht, run_underlying hK, MapKept.run_getObj_map hb, hc, h1, Result.andThen]

theorem sameBits_z (y : Int) : Instr.sameBits 10000 (.int .i64 y) (.int .i64 y) = true := by
  unfold Instr.sameBits; simp

theorem nodup_at {l : List Value} (h : l.Nodup) {i j : Nat} {v : Value} (hi : l[i]? = some v) (hj : l[j]? = some v) : i = j := by
  obtain ⟨a, ha⟩ := List.getElem?_eq_some_iff.1 hi
  obtain ⟨b, hb⟩ := List.getElem?_eq_some_iff.1 hj
  exact (List.getElem_inj h).1 (ha.trans hb.symm)

theorem update_Z {P : Program} {t K E : TypeId} (ht : P.underlying t = some (.map K E)) (hK : P.underlying K = some (.int .i64)) {W : World} {z : Value}
    {b : Nat} {f : Int → Value} (h : MapZ W b z f) (y : Int) (v : Value) :
    ∃ W', (Instr.mapUpdate t (.map (some b)) (.int .i64 y) v).run P W = .ok () W' ∧ MapZ W' b z (fun k => if k = y then v else f k) ∧ W.grownBy W' (some b) := by
  obtain ⟨es, clock, hb, hes, hno, hnd⟩ := h
  have hc : ∀ e, (Instr.checkKey e 10000 K (.int .i64 y)).run P W = .ok () W := fun e => MapKept.run_checkKey hK (by trivial) e 9999
  rcases findNow_Z y es.toList 0 hes with ⟨h1, hn⟩ | ⟨j, h1, h2, h3, h4⟩
  · refine ⟨setBlock W b (.map (es.push ⟨.int .i64 y, v, clock⟩) (clock + 1)), ?_, ⟨_, _, heap_setBlock_same hb _, ?_, ?_, ?_⟩, ⟨rfl, rfl, rfl, by simp [setBlock], fun i _ hi => heap_setBlock_other hb _ (fun e => hi (by rw [e]))⟩⟩
    · simp [Instr.mapUpdate, Instr.findKey, run_underlying ht, run_underlying hK, MapKept.run_getObj_map hb, hc, h1, MapKept.run_setObj_map _ hb, Result.andThen, setBlock]
    · intro e he
      simp only [Array.toList_push, List.mem_append, List.mem_singleton] at he
      rcases he with he | rfl
      · obtain ⟨k, hk, hv⟩ := hes e he
        refine ⟨k, hk, ?_⟩
        exact hv.trans (if_neg (fun q => hn e he (by rw [hk, q]))).symm
      · exact ⟨y, rfl, (if_pos rfl).symm⟩
    · intro k hk
      have hky : k ≠ y := fun q => hk ⟨.int .i64 y, v, clock⟩ (by simp) (by rw [q])
      refine (if_neg hky).trans ?_
      exact hno k (fun e he => hk e (by simp only [Array.toList_push, List.mem_append]; exact .inl he))
    · simp only [Array.toList_push, List.map_append, List.map_cons, List.map_nil]
      rw [List.nodup_append]
      refine ⟨hnd, by simp, ?_⟩
      intro a ha c hc2
      simp only [List.mem_singleton] at hc2
      subst hc2
      obtain ⟨e, he, rfl⟩ := List.mem_map.1 ha
      exact hn e he
  · have hk : ((es[j]?).map (·.key)).getD (.int .i64 y) = .int .i64 y := by
      rw [Nat.sub_zero, Array.getElem?_toList] at h4; rw [h4]; rfl
    have hkeys : (es.modify j fun e => { e with key := .int .i64 y, val := v }).toList.map (·.key) = es.toList.map (·.key) := by
      apply List.ext_getElem?
      intro i
      rw [Array.toList_modify, List.getElem?_map, List.getElem?_map, List.getElem?_modify]
      by_cases hij : j = i
      · subst hij
        rw [Nat.sub_zero] at h4
        cases hx : es.toList[j]? with
        | none => simp
        | some e => rw [hx] at h4; simp at h4; simp [h4]
      · cases hx : es.toList[i]? <;> simp [hij]
    refine ⟨setBlock W b (.map (es.modify j fun e => { e with key := .int .i64 y, val := v }) clock), ?_, ⟨_, _, heap_setBlock_same hb _, ?_, ?_, ?_⟩, ⟨rfl, rfl, rfl, by simp [setBlock], fun i _ hi => heap_setBlock_other hb _ (fun e => hi (by rw [e]))⟩⟩
    · simp [Instr.mapUpdate, Instr.findKey, run_underlying ht, run_underlying hK, MapKept.run_getObj_map hb, hc, h1, hk, Instr.keyThatStays, sameBits_z, MapKept.run_setObj_map _ hb, Result.andThen, setBlock]
    · intro e he
      rw [Array.toList_modify] at he
      obtain ⟨i, hi, rfl⟩ := List.mem_iff_getElem.1 he
      have hi0 : i < es.toList.length := by rw [List.length_modify] at hi; exact hi
      rw [List.getElem_modify]
      split
      · exact ⟨y, rfl, (if_pos rfl).symm⟩
      · rename_i hij
        obtain ⟨k, hk2, hv2⟩ := hes _ (List.getElem_mem hi0)
        refine ⟨k, hk2, ?_⟩
        refine hv2.trans (if_neg ?_).symm
        · intro q
          subst q
          rw [Nat.sub_zero] at h4
          have e1 : (es.toList.map (·.key))[j]? = some (.int .i64 k) := by rw [List.getElem?_map]; exact h4
          have e2 : (es.toList.map (·.key))[i]? = some (.int .i64 k) := by rw [List.getElem?_map, List.getElem?_eq_getElem hi0]; exact congrArg some hk2
          exact hij (nodup_at hnd e1 e2)
    · intro k hk2
      have hh : ∀ e ∈ es.toList, e.key ≠ .int .i64 k := fun e he q => by
        have m1 : e.key ∈ es.toList.map (·.key) := List.mem_map_of_mem he
        rw [← hkeys] at m1
        obtain ⟨e', he', hq⟩ := List.mem_map.1 m1
        exact hk2 e' he' (hq.trans q)
      have hky : k ≠ y := fun q => by
        subst q
        rw [Nat.sub_zero] at h4
        cases hx : es.toList[j]? with
        | none => rw [hx] at h4; simp at h4
        | some e => rw [hx] at h4; simp at h4; exact hh e (List.mem_of_getElem? hx) h4
      exact (if_neg hky).trans (hno k hh)
    · rw [hkeys]; exact hnd

theorem MapZ.same {W W' : World} {b : Nat} {z : Value} {f : Int → Value} (h : MapZ W b z f) (hg : W'.heap[b]? = W.heap[b]?) : MapZ W' b z f := by
  obtain ⟨es, clock, hb, hes⟩ := h
  exact ⟨es, clock, hg.trans hb, hes⟩

theorem MapZ.lt {W : World} {b : Nat} {z : Value} {f : Int → Value} (h : MapZ W b z f) : b < W.heap.size := by
  obtain ⟨es, clock, hb, _⟩ := h
  exact (Array.getElem?_eq_some_iff.1 hb).1

theorem MapZ.made (W : World) (z : Value) : MapZ (W.alloc (.map #[] 0)) W.heap.size z (fun _ => z) :=
  ⟨#[], 0, World.alloc_heap_new W _, by simp, fun _ _ => rfl, by simp⟩

end Go.Proofs.YtpdmndlpgjjopaaGreatDoor
