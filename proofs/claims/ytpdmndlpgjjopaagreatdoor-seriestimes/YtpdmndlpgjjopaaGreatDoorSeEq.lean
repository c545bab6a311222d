/- series: the reference's Ints and Count; law21's same. -/
import Derived.Test.YtpdmndlpgjjopaaGreatDoorSeDq
import Derived.Test.YtpdmndlpgjjopaaGreatDoorWiZq
import Derived.Laws.AppendOwn
import Derived.Laws.OwnMore
import Derived.Deep.LoopGhost
import Derived.Deep.RegionHeld3
namespace Go.Proofs.YtpdmndlpgjjopaaGreatDoor
open Go.RowKit
set_option linter.unusedVariables false

/-- v is a slice of the numbers L. -/
def IRow (W : World) (v : Value) (L : List Int) : Prop := ∃ ao c, v = .slice ao L.length c ∧ ∀ j x, L[j]? = some x → ∃ a, ao = some a ∧ W.cell? (a.add j) = some (.int .i64 x)
theorem IRow.below {W V : World} {v : Value} {L : List Int} (h : IRow W v L) (hb : Below W.heap.size W V) : IRow V v L := by
  obtain ⟨ao, c, e, h⟩ := h
  refine ⟨ao, c, e, fun j x hj => ?_⟩
  obtain ⟨a, ea, hc⟩ := h j x hj
  exact ⟨a, ea, (hb.cell (World.block_lt_of_cell? W _ hc)).trans hc⟩
theorem IRow.drew {W : World} {v : Value} {L : List Int} (h : IRow W v L) : IRow W.drew v L := h
theorem IRow.of_bx {W : World} {g n : Nat} {L : List Int} (h : Bx W g (cI L)) (hn : L.length = n) : IRow W (.slice (some ⟨g, 0, none⟩) n n) L :=
  ⟨_, _, by rw [hn], fun j x hj => ⟨_, rfl, by have := h.c j (cI_get hj); cases j <;> simpa [Addr.add] using this⟩⟩
theorem IRow.nil (W : World) : IRow W (.slice none 0 0) [] := ⟨_, _, rfl, fun j x h => by simp at h⟩
theorem IRow.of_own {W : World} {base c : Nat} {ao : Option Addr} {n : Nat} {L : List Int} (h : W.ownsRow base 2 1 (.slice ao n c) n (cI L)) (hn : L.length = n) : IRow W (.slice ao n c) L := by
  refine ⟨ao, c, by rw [hn], fun j x hj => ?_⟩
  rcases h.2 with ⟨e, z⟩ | ⟨g, cap, cur, e, h3, h4, h5, h6⟩
  · rw [z] at hn; have := (List.getElem?_eq_some_iff.1 hj).1; omega
  · obtain ⟨rfl, _, rfl⟩ : ao = some ⟨g, 0, none⟩ ∧ n = n ∧ c = cap := by simpa using e
    exact ⟨_, rfl, h.cells rfl j _ (cI_get hj)⟩

set_option maxRecDepth 100000 in
set_option maxHeartbeats 4000000 in
theorem same_yes (v u : Value) (L : List Int) (hl : L.length ≤ 1000) (w : World) (H1 : Hid (IRow w v L)) (H2 : Hid (IRow w u L)) : Calls Tryz.prog 23 #[v, u] w fun r w' => r = .returned (.bool true) ∧ Below w.heap.size w w' := by
  obtain ⟨ao, c, rfl, h1⟩ := H1.out
  obtain ⟨bo, d, rfl, h2⟩ := H2.out
  have HA : Hid (∀ j x, L[j]? = some x → ∃ a, ao = some a ∧ w.cell? (a.add j) = some (.int .i64 x)) := h1
  have HC : Hid (∀ j x, L[j]? = some x → ∃ a, bo = some a ∧ w.cell? (a.add j) = some (.int .i64 x)) := h2
  clear h1 h2 H1 H2
  obtain ⟨n, hn⟩ : ∃ n, L.length = n := ⟨_, rfl⟩
  rw [hn] at hl ⊢
  have HN : Hid (L.length = n) := hn
  clear hn
  go_enter Tryz.func23, Tryz.ntmps23
  go_wp2_with fail
  go_loopw [5] (fun iv W => ∃ i : Nat, i ≤ n ∧ iv = .int .i64 (i : Int) ∧ Hid (Below w.heap.size w W)) (fun iv _ => n - (intOf iv).toNat)
  case atStart => exact ⟨0, Nat.zero_le _, rfl, Below.refl _ _⟩
  case round =>
    obtain ⟨i, hi, rfl, HB⟩ := hrel
    by_cases hlt : i < n
    · obtain ⟨x, hx⟩ : ∃ x, L[i]? = some x := ⟨L[i]'(by rw [HN.out]; exact hlt), List.getElem?_eq_getElem (by rw [HN.out]; exact hlt)⟩
      obtain ⟨a, rfl, ha⟩ := HA.out i x hx
      obtain ⟨b, rfl, hb⟩ := HC.out i x hx
      have HH : Hid ((fun W : World => W.cell? (a.add i) = some (.int .i64 x) ∧ W.cell? (b.add i) = some (.int .i64 x)) wr) := ⟨(HB.out.cell (World.block_lt_of_cell? w _ ha)).trans ha, (HB.out.cell (World.block_lt_of_cell? w _ hb)).trans hb⟩
      clear ha hb hx HA HC
      go_wp2_with fail
      refine wp_region_held_drew (S := fun W : World => (W.cell? (a.add i) = some (.int .i64 x) ∧ W.cell? (b.add i) = some (.int .i64 x)) ∧ Below w.heap.size w W) (by kernel_rfl) ⟨HH.out, HB.out.drew⟩ (fun hHeld => ?_)
      refine wpAnyH_take (i := 0) (v := ?_) (oi := { dst := some 17, op := _, type := _, pos := _, after := _, guard := none }) rfl (by kernel_rfl) (by kernel_rfl) (by kernel_rfl) (fun _ _ _ h => h) (Or.inl ⟨by kernel_rfl, ?_⟩) (by assumption) ?_
      case refine_2 => (intro w9 hSw; clear hSw; go_simp; try with_reducible rfl)
      simp only [Act.put, List.setIfInBounds_toArray, List.set_cons_zero, List.set_cons_succ]
      refine wpAnyH_take (i := 1) (v := ?_) (oi := { dst := some 18, op := _, type := _, pos := _, after := _, guard := none }) rfl (by kernel_rfl) (by kernel_rfl) (by kernel_rfl) (fun _ _ _ h => h) (Or.inl ⟨by kernel_rfl, ?_⟩) (by assumption) ?_
      case refine_2 => (intro w9 hSw; clear hSw; go_simp; try with_reducible rfl)
      simp only [Act.put, List.setIfInBounds_toArray, List.set_cons_zero, List.set_cons_succ]
      refine wpAnyH_take (i := 2) (v := ?_) (oi := { dst := some 19, op := _, type := _, pos := _, after := _, guard := none }) rfl (by kernel_rfl) (by kernel_rfl) (by kernel_rfl) (fun _ _ _ h => h) (Or.inl ⟨by kernel_rfl, ?_⟩) (by assumption) ?_
      case refine_2 => (intro w9 hSw; clear hSw; go_simp; try with_reducible rfl)
      simp only [Act.put, List.setIfInBounds_toArray, List.set_cons_zero, List.set_cons_succ]
      refine wpAnyH_take (i := 3) (v := ?_) (oi := { dst := some 20, op := _, type := _, pos := _, after := _, guard := none }) rfl (by kernel_rfl) (by kernel_rfl) (by kernel_rfl) (fun _ _ _ h => h) (Or.inl ⟨by kernel_rfl, ?_⟩) (by assumption) ?_
      case refine_2 => (intro w9 hSw; obtain ⟨⟨la, lb⟩, _⟩ := hSw; go_simp; try with_reducible rfl)
      simp only [Act.put, List.setIfInBounds_toArray, List.set_cons_zero, List.set_cons_succ]
      refine wpAnyH_take (i := 4) (v := ?_) (oi := { dst := some 21, op := _, type := _, pos := _, after := _, guard := none }) rfl (by kernel_rfl) (by kernel_rfl) (by kernel_rfl) (fun _ _ _ h => h) (Or.inl ⟨by kernel_rfl, ?_⟩) (by assumption) ?_
      case refine_2 => (intro w9 hSw; clear hSw; go_simp; try with_reducible rfl)
      simp only [Act.put, List.setIfInBounds_toArray, List.set_cons_zero, List.set_cons_succ]
      refine wpAnyH_take (i := 5) (v := ?_) (oi := { dst := some 22, op := _, type := _, pos := _, after := _, guard := none }) rfl (by kernel_rfl) (by kernel_rfl) (by kernel_rfl) (fun _ _ _ h => h) (Or.inl ⟨by kernel_rfl, ?_⟩) (by assumption) ?_
      case refine_2 => (intro w9 hSw; clear hSw; go_simp; try with_reducible rfl)
      simp only [Act.put, List.setIfInBounds_toArray, List.set_cons_zero, List.set_cons_succ]
      refine wpAnyH_take (i := 6) (v := ?_) (oi := { dst := some 23, op := _, type := _, pos := _, after := _, guard := none }) rfl (by kernel_rfl) (by kernel_rfl) (by kernel_rfl) (fun _ _ _ h => h) (Or.inl ⟨by kernel_rfl, ?_⟩) (by assumption) ?_
      case refine_2 => (intro w9 hSw; clear hSw; go_simp; try with_reducible rfl)
      simp only [Act.put, List.setIfInBounds_toArray, List.set_cons_zero, List.set_cons_succ]
      refine wpAnyH_take (i := 7) (v := ?_) (oi := { dst := some 24, op := _, type := _, pos := _, after := _, guard := none }) rfl (by kernel_rfl) (by kernel_rfl) (by kernel_rfl) (fun _ _ _ h => h) (Or.inl ⟨by kernel_rfl, ?_⟩) (by assumption) ?_
      case refine_2 => (intro w9 hSw; obtain ⟨⟨la, lb⟩, _⟩ := hSw; go_simp; try with_reducible rfl)
      simp only [Act.put, List.setIfInBounds_toArray, List.set_cons_zero, List.set_cons_succ]
      refine wpAnyH_take (i := 8) (v := ?_) (oi := { dst := some 25, op := _, type := _, pos := _, after := _, guard := none }) rfl (by kernel_rfl) (by kernel_rfl) (by kernel_rfl) (fun _ _ _ h => h) (Or.inl ⟨by kernel_rfl, ?_⟩) (by assumption) ?_
      case refine_2 => (intro w9 hSw; clear hSw; go_simp; try with_reducible rfl)
      simp only [Act.put, List.setIfInBounds_toArray, List.set_cons_zero, List.set_cons_succ]
      refine wpAnyH_done (by kernel_rfl) ?_ _
      go_wp2_with fail
      go_roundw
      case rel => exact ⟨i + 1, by omega, by go_num, hHeld.2⟩
      case measure => simp [intOf]; omega
    · go_wp2_with fail
      go_ret
      exact ⟨rfl, HB.out⟩

end Go.Proofs.YtpdmndlpgjjopaaGreatDoor
