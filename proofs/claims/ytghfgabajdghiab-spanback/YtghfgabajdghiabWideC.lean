/- Contracts, more: the reference's Plus of two numbers of different signs. -/
import Derived.Test.YtghfgabajdghiabWideB
namespace Go.Proofs.Ytghfgabajdghiab
open Go.RowKit
set_option linter.unusedVariables false

set_option maxRecDepth 100000 in
set_option maxHeartbeats 2000000 in
theorem plus_ge_false (ba bb va vb : Nat) (w : World) (ha : Row w ba va) (hb : Row w bb vb) (hle : vb ≤ va) :
    Calls Try.prog 42 #[.agg #[.bool false, .slice (some ⟨ba, 0, none⟩) 6 6], .agg #[.bool true, .slice (some ⟨bb, 0, none⟩) 6 6]] w fun e w' => ∃ b, e = .returned (.agg #[.bool false, .slice (some ⟨b, 0, none⟩) 6 6]) ∧ Below w.heap.size w w' ∧ w.heap.size ≤ b ∧ Row w' b (va - vb) := by
  have C1 := rcmp_any ba bb va vb (((w.alloc (box false ba)).alloc (box true bb)).alloc nobox) (((ha.alloc _).alloc _).alloc _) (((hb.alloc _).alloc _).alloc _)
  rw [size3] at C1
  have hcv : 0 ≤ wcmpV va vb := by unfold wcmpV; split <;> (try split) <;> omega
  generalize wcmpV va vb = cv at *
  have HC : Hid (Calls Try.prog 56 #[.slice (some ⟨ba, 0, none⟩) 6 6, .slice (some ⟨bb, 0, none⟩) 6 6] (((w.alloc (box false ba)).alloc (box true bb)).alloc nobox) fun e w' => e = .returned (.int .i64 cv) ∧ Below (w.heap.size + 1 + 1 + 1) (((w.alloc (box false ba)).alloc (box true bb)).alloc nobox) w') := C1
  clear C1
  go_enter Try.func42, Try.ntmps42
  go_wp2_with fail
  refine HC.out.mono ?_
  rintro e w1 ⟨rfl, hB⟩
  have HB : Hid (Below (w.heap.size + 1 + 1 + 1) (((w.alloc (box false ba)).alloc (box true bb)).alloc nobox) w1) := hB
  have HA : Hid (Row w1 ba va) := ((((ha.alloc _).alloc _).alloc _).below hB (by have := ha.2.1; omega))
  have HA2 : Hid (Row w1 bb vb) := ((((hb.alloc _).alloc _).alloc _).below hB (by have := hb.2.1; omega))
  have HZ : Hid (w.heap.size + 1 + 1 + 1 ≤ w1.heap.size) := by have := hB.size; rw [size3] at this; exact this
  obtain ⟨c1, c2, c3, c4, c5, c6, f5, f6⟩ := boxes hB
  clear hB
  go_wp2_with fail
  refine wp_region_held_drew (S := (fun w' => w'.cell? ⟨w.heap.size, 0, none⟩ = some (.bool false) ∧ w'.cell? ⟨w.heap.size, 1, none⟩ = some (.slice (some ⟨ba, 0, none⟩) 6 6) ∧ w'.cell? ⟨w.heap.size + 1, 1, none⟩ = some (.slice (some ⟨bb, 0, none⟩) 6 6))) (by kernel_rfl) ⟨c1, c2, c4⟩ (fun hHeld => ?_)
  refine wpAnyH_take (i := 0) (v := ?_) rfl (by kernel_rfl) (by kernel_rfl) (by kernel_rfl) (fun _ _ _ h => h) (Or.inl ⟨by kernel_rfl, ?_⟩) (by assumption) ?_
  case refine_2 => (intro w9 hSw; (try dsimp only at hSw); obtain ⟨s0, s1, s2⟩ := hSw; go_simp; try with_reducible rfl)
  refine wpAnyH_take (i := 1) (v := ?_) rfl (by kernel_rfl) (by kernel_rfl) (by kernel_rfl) (fun _ _ _ h => h) (Or.inl ⟨by kernel_rfl, ?_⟩) (by assumption) ?_
  case refine_2 => (intro w9 hSw; (try dsimp only at hSw); obtain ⟨s0, s1, s2⟩ := hSw; go_simp; try with_reducible rfl)
  refine wpAnyH_take (i := 2) (v := ?_) rfl (by kernel_rfl) (by kernel_rfl) (by kernel_rfl) (fun _ _ _ h => h) (Or.inl ⟨by kernel_rfl, ?_⟩) (by assumption) ?_
  case refine_2 => (intro w9 hSw; (try dsimp only at hSw); obtain ⟨s0, s1, s2⟩ := hSw; go_simp; try with_reducible rfl)
  refine wpAnyH_take (i := 3) (v := undef) rfl (by kernel_rfl) (by kernel_rfl) (by kernel_rfl) (fun _ _ _ h => h) (Or.inr ⟨by kernel_rfl, rfl⟩) (by assumption) ?_
  refine wpAnyH_take (i := 4) (v := undef) rfl (by kernel_rfl) (by kernel_rfl) (by kernel_rfl) (fun _ _ _ h => h) (Or.inr ⟨by kernel_rfl, rfl⟩) (by assumption) ?_
  refine wpAnyH_take (i := 5) (v := undef) rfl (by kernel_rfl) (by kernel_rfl) (by kernel_rfl) (fun _ _ _ h => h) (Or.inr ⟨by kernel_rfl, rfl⟩) (by assumption) ?_
  refine wpAnyH_take (i := 6) (v := undef) rfl (by kernel_rfl) (by kernel_rfl) (by kernel_rfl) (fun _ _ _ h => h) (Or.inr ⟨by kernel_rfl, rfl⟩) (by assumption) ?_
  refine wpAnyH_take (i := 7) (v := undef) rfl (by kernel_rfl) (by kernel_rfl) (by kernel_rfl) (fun _ _ _ h => h) (Or.inr ⟨by kernel_rfl, rfl⟩) (by assumption) ?_
  refine wpAnyH_take (i := 8) (v := undef) rfl (by kernel_rfl) (by kernel_rfl) (by kernel_rfl) (fun _ _ _ h => h) (Or.inr ⟨by kernel_rfl, rfl⟩) (by assumption) ?_
  refine wpAnyH_take (i := 9) (v := ?_) rfl (by kernel_rfl) (by kernel_rfl) (by kernel_rfl) (fun _ _ _ h => h) (Or.inl ⟨by kernel_rfl, ?_⟩) (by assumption) ?_
  case refine_2 => (intro w9 hSw; (try dsimp only at hSw); obtain ⟨s0, s1, s2⟩ := hSw; go_simp; try with_reducible rfl)
  refine wpAnyH_take (i := 10) (v := ?_) rfl (by kernel_rfl) (by kernel_rfl) (by kernel_rfl) (fun _ _ _ h => h) (Or.inl ⟨by kernel_rfl, ?_⟩) (by assumption) ?_
  case refine_2 => (intro w9 hSw; (try dsimp only at hSw); obtain ⟨s0, s1, s2⟩ := hSw; go_simp; try with_reducible rfl)
  refine wpAnyH_take (i := 11) (v := ?_) rfl (by kernel_rfl) (by kernel_rfl) (by kernel_rfl) (fun _ _ _ h => h) (Or.inl ⟨by kernel_rfl, ?_⟩) (by assumption) ?_
  case refine_2 => (intro w9 hSw; (try dsimp only at hSw); obtain ⟨s0, s1, s2⟩ := hSw; go_simp; try with_reducible rfl)
  refine wpAnyH_take (i := 12) (v := ?_) rfl (by kernel_rfl) (by kernel_rfl) (by kernel_rfl) (fun _ _ _ h => h) (Or.inl ⟨by kernel_rfl, ?_⟩) (by assumption) ?_
  case refine_2 => (intro w9 hSw; (try dsimp only at hSw); obtain ⟨s0, s1, s2⟩ := hSw; go_simp; try with_reducible rfl)
  refine wpAnyH_take (i := 13) (v := ?_) rfl (by kernel_rfl) (by kernel_rfl) (by kernel_rfl) (fun _ _ _ h => h) (Or.inl ⟨by kernel_rfl, ?_⟩) (by assumption) ?_
  case refine_2 => (intro w9 hSw; (try dsimp only at hSw); obtain ⟨s0, s1, s2⟩ := hSw; go_simp; try with_reducible rfl)
  refine wpAnyH_ready (rs := [14]) (by kernel_rfl) (by simp) (AllReadyH.cons (o := { dst := some 38, op := _, type := _, pos := _, after := _, guard := none }) rfl (fun K hK => ?_) AllReadyH.nil)
  go_simp
  refine (rless_any ba bb va vb w1.drew HA.out.drew HA2.out.drew hle).mono ?_
  rintro e w2 ⟨rfl, hP⟩
  obtain ⟨d1, d2, d3, d4, d5, d6, g5, g6⟩ := boxes (HB.out.drew.trans (hP.below.mono HZ.out))
  have HP : Hid _ := hP
  clear hP
  refine hK.out _ _ ⟨d1, d2, d4⟩ (fun hHeld => ?_)
  clear hK K
  refine wpAnyH_take (i := 15) (v := ?_) rfl (by kernel_rfl) (by kernel_rfl) (by kernel_rfl) (fun _ _ _ h => h) (Or.inl ⟨by kernel_rfl, ?_⟩) (by assumption) ?_
  case refine_2 => (intro w9 hSw; (try dsimp only at hSw); obtain ⟨s0, s1, s2⟩ := hSw; go_simp; try with_reducible rfl)
  refine wpAnyH_ready (rs := [16]) (by kernel_rfl) (by simp) (AllReadyH.cons (o := { dst := none, op := _, type := _, pos := _, after := _, guard := none }) rfl (fun K hK => ?_) AllReadyH.nil)
  go_simp
  refine hK.out _ _ ⟨(wkeep2 (by omega) _ _ _).trans d1, (wkeep2 (by omega) _ _ _).trans d2, (wkeep2 (by omega) _ _ _).trans d4⟩ (fun hHeld => ?_)
  clear hK K
  refine wpAnyH_done (by kernel_rfl) ?_ _
  go_wp2
  refine bodyPost_ret (v := .agg #[.bool false, .slice (some ⟨w1.heap.size, 0, none⟩) 6 6]) (by simp [results, Try.results42, go_sem, d5, d6]) rfl ⟨_, rfl, ?_⟩
  have hP := HP.out
  have hz := HZ.out
  refine ⟨((((three _ _ _).trans (HB.out.drew.mono (by omega))).trans (hP.below.mono (Nat.le_trans (by omega) hz))).setCell (Nat.le_trans (Nat.le_add_right _ 2) (Nat.le_refl _)) _).setCell (Nat.le_trans (Nat.le_add_right _ 2) (Nat.le_refl _)) _, by omega, ?_⟩
  exact ((hP.row (Nat.lt_of_le_of_lt (Nat.sub_le _ _) ha.1)).setCell (show w.heap.size + 1 + 1 ≠ w1.heap.size from by omega) _).setCell (show w.heap.size + 1 + 1 ≠ w1.heap.size from by omega) _

end Go.Proofs.Ytghfgabajdghiab
