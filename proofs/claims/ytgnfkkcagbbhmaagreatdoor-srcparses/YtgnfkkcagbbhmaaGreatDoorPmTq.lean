/- A map of counts by texts, which is nought where there is no entry: looked up, written, how many it has. -/
import Derived.Maps.OwnIn
import Derived.Maps.AppendAt
import Derived.RangeFuncNested
import Derived.Test.YtgnfkkcagbbhmaaGreatDoorProg
namespace Go.Proofs.YtgnfkkcagbbhmaaGreatDoor
open Go Go.RowKit
open Go.ChangeMaps (setBlock heap_setBlock_same heap_setBlock_other)
set_option linter.unusedVariables false

/-- Block b is a map of n entries: of key k there is f k, which is more than nought, or no entry, and f k is nought. -/
def MapS (W : World) (b n : Nat) (f : ByteArray → Int) : Prop :=
  ∃ es clock, W.heap[b]? = some (.map es clock) ∧ es.size = n ∧ (∀ e ∈ es.toList, ∃ k : ByteArray, e.key = .string k ∧ e.val = .int .i64 (f k) ∧ 0 < f k) ∧ (∀ k : ByteArray, (∀ e ∈ es.toList, e.key ≠ .string k) → f k = 0) ∧ (es.toList.map (·.key)).Nodup

theorem bytes_beqS (a b : ByteArray) : (a == b) = true ↔ a = b := MapKept.bytes_beq a b

theorem findNow_S {f : ByteArray → Int} (y : ByteArray) : ∀ (es : List MapEntry) (i : Nat), (∀ e ∈ es, ∃ k : ByteArray, e.key = .string k ∧ e.val = .int .i64 (f k) ∧ 0 < f k) →
    (Instr.findNow .string (.string y) es i = some none ∧ ∀ e ∈ es, e.key ≠ .string y) ∨ ∃ j, Instr.findNow .string (.string y) es i = some (some (j, .int .i64 (f y))) ∧ 0 < f y ∧ j - i < es.length ∧ i ≤ j ∧ (es[j - i]?).map (·.key) = some (.string y)
  | [], i, _ => .inl ⟨rfl, by simp⟩
  | e :: es, i, h => by
    obtain ⟨k, hk, hv, h0⟩ := h e (by simp)
    by_cases hy : y = k
    · subst hy
      exact .inr ⟨i, by simp [Instr.findNow, Instr.sameNow, hk, hv, (bytes_beqS y y).2 rfl], h0, by simp, Nat.le_refl _, by simp [hk]⟩
    · have hyb : (y == k) = false := by cases hh : (y == k) with | false => rfl | true => exact absurd ((bytes_beqS y k).1 hh) hy
      rcases findNow_S y es (i + 1) (fun e' he' => h e' (by simp [he'])) with ⟨h1, h2⟩ | ⟨j, h1, h5, h2, h3, h4⟩
      · refine .inl ⟨by simp [Instr.findNow, Instr.sameNow, hk, hyb, h1], ?_⟩
        intro e' he'
        rcases List.mem_cons.1 he' with rfl | he'
        · rw [hk]; intro q; injection q with q; exact hy q.symm
        · exact h2 e' he'
      · refine .inr ⟨j, by simp [Instr.findNow, Instr.sameNow, hk, hyb, h1], h5, ?_, by omega, ?_⟩
        · simp; omega
        · have : j - i = (j - (i + 1)) + 1 := by omega
          rw [this]; simpa using h4

theorem lookup_S {P : Program} {t K E : TypeId} (ht : P.underlying t = some (.map K E)) (hK : P.underlying K = some .string) {W : World} (hz : (zeroValue E).run P W = .ok (.int .i64 0) W)
    {b n : Nat} {f : ByteArray → Int} (h : MapS W b n f) (y : ByteArray) :
    (Instr.lookup t (.map (some b)) (.string y) false).run P W = .ok (.int .i64 (f y)) W := by
  obtain ⟨es, clock, hb, hsz, hes, hno, _⟩ := h
  have hc : ∀ e, (Instr.checkKey e 10000 K (.string y)).run P W = .ok () W := fun e => MapKept.run_checkKey hK (by trivial) e 9999
  rcases findNow_S y es.toList 0 hes with ⟨h1, h2⟩ | ⟨j, h1, _⟩
  · rw [hno y h2]
    simp [Instr.lookup, Instr.findKey, run_underlying ht, run_underlying hK, MapKept.run_getObj_map hb, hc, h1, hz, Result.andThen]
  · simp [Instr.lookup, Instr.findKey, run_underlying ht, run_underlying hK, MapKept.run_getObj_map hb, hc, h1, Result.andThen]

theorem sameBits_s (y : ByteArray) : Instr.sameBits 10000 (.string y) (.string y) = true := by
  unfold Instr.sameBits; exact (bytes_beqS y y).2 rfl

theorem nodup_atS {l : List Value} (h : l.Nodup) {i j : Nat} {v : Value} (hi : l[i]? = some v) (hj : l[j]? = some v) : i = j := by
  obtain ⟨a, ha⟩ := List.getElem?_eq_some_iff.1 hi
  obtain ⟨b, hb⟩ := List.getElem?_eq_some_iff.1 hj
  exact (List.getElem_inj h).1 (ha.trans hb.symm)

theorem update_S {P : Program} {t K E : TypeId} (ht : P.underlying t = some (.map K E)) (hK : P.underlying K = some .string) {W : World}
    {b n : Nat} {f : ByteArray → Int} (h : MapS W b n f) (y : ByteArray) (v : Int) (hv0 : 0 < v) :
    ∃ W', (Instr.mapUpdate t (.map (some b)) (.string y) (.int .i64 v)).run P W = .ok () W' ∧ MapS W' b (if f y = 0 then n + 1 else n) (fun k => if k = y then v else f k) ∧ W.grownBy W' (some b) := by
  obtain ⟨es, clock, hb, hsz, hes, hno, hnd⟩ := h
  have hc : ∀ e, (Instr.checkKey e 10000 K (.string y)).run P W = .ok () W := fun e => MapKept.run_checkKey hK (by trivial) e 9999
  rcases findNow_S y es.toList 0 hes with ⟨h1, hn⟩ | ⟨j, h1, h5, h2, h3, h4⟩
  · rw [if_pos (hno y hn)]
    refine ⟨setBlock W b (.map (es.push ⟨.string y, .int .i64 v, clock⟩) (clock + 1)), ?_, ⟨_, _, heap_setBlock_same hb _, by simp [hsz], ?_, ?_, ?_⟩, ⟨rfl, rfl, rfl, by simp [setBlock], fun i _ hi => heap_setBlock_other hb _ (fun e => hi (by rw [e]))⟩⟩
    · simp [Instr.mapUpdate, Instr.findKey, run_underlying ht, run_underlying hK, MapKept.run_getObj_map hb, hc, h1, MapKept.run_setObj_map _ hb, Result.andThen, setBlock]
    · intro e he
      simp only [Array.toList_push, List.mem_append, List.mem_singleton] at he
      rcases he with he | rfl
      · obtain ⟨k, hk, hv, h0⟩ := hes e he
        have hky : k ≠ y := fun q => hn e he (by rw [hk, q])
        exact ⟨k, hk, by simp only [if_neg hky]; exact hv, by simp only [if_neg hky]; exact h0⟩
      · exact ⟨y, rfl, by simp, by simpa using hv0⟩
    · intro k hk
      have hky : k ≠ y := fun q => hk ⟨.string y, .int .i64 v, clock⟩ (by simp) (by rw [q])
      simp only [if_neg hky]
      exact hno k (fun e he => hk e (by simp only [Array.toList_push, List.mem_append]; exact .inl he))
    · simp only [Array.toList_push, List.map_append, List.map_cons, List.map_nil]
      rw [List.nodup_append]
      refine ⟨hnd, by simp, ?_⟩
      intro a ha c hc2
      simp only [List.mem_singleton] at hc2
      subst hc2
      obtain ⟨e, he, rfl⟩ := List.mem_map.1 ha
      exact hn e he
  · rw [if_neg (by omega)]
    have hk : ((es[j]?).map (·.key)).getD (.string y) = .string y := by
      rw [Nat.sub_zero, Array.getElem?_toList] at h4; rw [h4]; rfl
    have hkeys : (es.modify j fun e => { e with key := .string y, val := .int .i64 v }).toList.map (·.key) = es.toList.map (·.key) := by
      apply List.ext_getElem?
      intro i
      rw [Array.toList_modify, List.getElem?_map, List.getElem?_map, List.getElem?_modify]
      by_cases hij : j = i
      · subst hij
        rw [Nat.sub_zero] at h4
        cases hx : es.toList[j]? with
        | none => simp
        | some e => rw [hx] at h4; simp at h4; simp [h4]
      · cases hx : es.toList[i]? <;> simp [hij]
    refine ⟨setBlock W b (.map (es.modify j fun e => { e with key := .string y, val := .int .i64 v }) clock), ?_, ⟨_, _, heap_setBlock_same hb _, by simp [hsz], ?_, ?_, ?_⟩, ⟨rfl, rfl, rfl, by simp [setBlock], fun i _ hi => heap_setBlock_other hb _ (fun e => hi (by rw [e]))⟩⟩
    · simp [Instr.mapUpdate, Instr.findKey, run_underlying ht, run_underlying hK, MapKept.run_getObj_map hb, hc, h1, hk, Instr.keyThatStays, sameBits_s, MapKept.run_setObj_map _ hb, Result.andThen, setBlock]
    · intro e he
      rw [Array.toList_modify] at he
      obtain ⟨i, hi, rfl⟩ := List.mem_iff_getElem.1 he
      have hi0 : i < es.toList.length := by rw [List.length_modify] at hi; exact hi
      rw [List.getElem_modify]
      split
      · exact ⟨y, rfl, by simp, by simpa using hv0⟩
      · rename_i hij
        obtain ⟨k, hk2, hv2, h02⟩ := hes _ (List.getElem_mem hi0)
        have hky : k ≠ y := by
          intro q
          subst q
          rw [Nat.sub_zero] at h4
          have e1 : (es.toList.map (·.key))[j]? = some (.string k) := by rw [List.getElem?_map]; exact h4
          have e2 : (es.toList.map (·.key))[i]? = some (.string k) := by rw [List.getElem?_map, List.getElem?_eq_getElem hi0]; exact congrArg some hk2
          exact hij (nodup_atS hnd e1 e2)
        exact ⟨k, hk2, by simp only [if_neg hky]; exact hv2, by simp only [if_neg hky]; exact h02⟩
    · intro k hk2
      have hh : ∀ e ∈ es.toList, e.key ≠ .string k := fun e he q => by
        have m1 : e.key ∈ es.toList.map (·.key) := List.mem_map_of_mem he
        rw [← hkeys] at m1
        obtain ⟨e', he', hq⟩ := List.mem_map.1 m1
        exact hk2 e' he' (hq.trans q)
      have hky : k ≠ y := fun q => by
        subst q
        rw [Nat.sub_zero] at h4
        cases hx : es.toList[j]? with
        | none => rw [hx] at h4; simp at h4
        | some e => rw [hx] at h4; simp at h4; exact hh e (List.mem_of_getElem? hx) h4
      simp only [if_neg hky]
      exact hno k hh
    · rw [hkeys]; exact hnd

theorem MapS.kept {W W' : World} {row : Option Nat} {b n : Nat} {f : ByteArray → Int} (h : MapS W b n f) (hg : W.grownBy W' row) (hne : row ≠ some b) : MapS W' b n f := by
  obtain ⟨es, clock, hb, hes⟩ := h
  exact ⟨es, clock, (hg.block b (Array.getElem?_eq_some_iff.1 hb).1 (fun e => hne e.symm)).trans hb, hes⟩

theorem MapS.same {W W' : World} {b n : Nat} {f : ByteArray → Int} (h : MapS W b n f) (hg : W'.heap[b]? = W.heap[b]?) : MapS W' b n f := by
  obtain ⟨es, clock, hb, hes⟩ := h
  exact ⟨es, clock, hg.trans hb, hes⟩

theorem MapS.lt {W : World} {b n : Nat} {f : ByteArray → Int} (h : MapS W b n f) : b < W.heap.size := by
  obtain ⟨es, clock, hb, _⟩ := h
  exact (Array.getElem?_eq_some_iff.1 hb).1

theorem MapS.made (W : World) : MapS (W.alloc (.map #[] 0)) W.heap.size 0 (fun _ => 0) :=
  ⟨#[], 0, World.alloc_heap_new W _, rfl, by simp, fun _ _ => rfl, by simp⟩

end Go.Proofs.YtgnfkkcagbbhmaaGreatDoor
