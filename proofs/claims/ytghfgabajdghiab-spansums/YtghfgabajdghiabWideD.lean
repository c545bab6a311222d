/- Contracts, more: the reference's Plus of a number below nought and one above that is not the greater one; Minus of a number that is not below nought. -/
import Derived.Test.YtghfgabajdghiabWideC
import Derived.Test.YtghfgabajdghiabWideM
namespace Go.Proofs.Ytghfgabajdghiab
open Go.RowKit
set_option linter.unusedVariables false

/-- a world under another name. -/
theorem wat_world {P : Program} {c : Code} {Q : Exit → Act → World → Prop} {a : Act} {w1 w2 : World} (h : w1 = w2) (k : Code.wp P c Q a w2) : Code.wp P c Q a w1 := by subst h; exact k

set_option maxRecDepth 100000 in
set_option maxHeartbeats 2000000 in
theorem plus_ge_true (ba bb va vb : Nat) (w : World) (ha : Row w ba va) (hb : Row w bb vb) (hle : vb ≤ va) :
    Calls Try.prog 42 #[.agg #[.bool true, .slice (some ⟨ba, 0, none⟩) 6 6], .agg #[.bool false, .slice (some ⟨bb, 0, none⟩) 6 6]] w fun e w' => ∃ b, e = .returned (.agg #[.bool (decide (0 < wcmpV va vb)), .slice (some ⟨b, 0, none⟩) 6 6]) ∧ Below w.heap.size w w' ∧ w.heap.size ≤ b ∧ Row w' b (va - vb) := by
  have C1 := rcmp_any ba bb va vb (((w.alloc (box true ba)).alloc (box false bb)).alloc nobox) (((ha.alloc _).alloc _).alloc _) (((hb.alloc _).alloc _).alloc _)
  rw [size3] at C1
  have hcv : 0 ≤ wcmpV va vb := by unfold wcmpV; split <;> (try split) <;> omega
  have CC : Hid (∀ w : World, Row w ba va → Row w bb vb → Calls Try.prog 56 #[.slice (some ⟨ba, 0, none⟩) 6 6, .slice (some ⟨bb, 0, none⟩) 6 6] w fun e w' => e = .returned (.int .i64 (wcmpV va vb)) ∧ Below w.heap.size w w') := fun w h1 h2 => rcmp_any ba bb va vb w h1 h2
  generalize wcmpV va vb = cv at *
  have HC : Hid (Calls Try.prog 56 #[.slice (some ⟨ba, 0, none⟩) 6 6, .slice (some ⟨bb, 0, none⟩) 6 6] (((w.alloc (box true ba)).alloc (box false bb)).alloc nobox) fun e w' => e = .returned (.int .i64 cv) ∧ Below (w.heap.size + 1 + 1 + 1) (((w.alloc (box true ba)).alloc (box false bb)).alloc nobox) w') := C1
  clear C1
  go_enter Try.func42, Try.ntmps42
  go_wp2_with fail
  refine HC.out.mono ?_
  rintro e w1 ⟨rfl, hB⟩
  have HB : Hid (Below (w.heap.size + 1 + 1 + 1) (((w.alloc (box true ba)).alloc (box false bb)).alloc nobox) w1) := hB
  have HA : Hid (Row w1 ba va) := ((((ha.alloc _).alloc _).alloc _).below hB (by have := ha.2.1; omega))
  have HA2 : Hid (Row w1 bb vb) := ((((hb.alloc _).alloc _).alloc _).below hB (by have := hb.2.1; omega))
  have HZ : Hid (w.heap.size + 1 + 1 + 1 ≤ w1.heap.size) := by have := hB.size; rw [size3] at this; exact this
  obtain ⟨c1, c2, c3, c4, c5, c6, f5, f6⟩ := boxes hB
  clear hB
  go_wp2_with fail
  refine wp_region_held_drew (S := (fun w' => w'.cell? ⟨w.heap.size, 0, none⟩ = some (.bool true) ∧ w'.cell? ⟨w.heap.size, 1, none⟩ = some (.slice (some ⟨ba, 0, none⟩) 6 6) ∧ w'.cell? ⟨w.heap.size + 1, 1, none⟩ = some (.slice (some ⟨bb, 0, none⟩) 6 6))) (by kernel_rfl) ⟨c1, c2, c4⟩ (fun hHeld => ?_)
  refine wpAnyH_take (i := 0) (v := ?_) (oi := { dst := some 24, op := _, type := _, pos := _, after := _, guard := none }) rfl (by kernel_rfl) (by kernel_rfl) (by kernel_rfl) (fun _ _ _ h => h) (Or.inl ⟨by kernel_rfl, ?_⟩) (by assumption) ?_
  case refine_2 => (intro w9 hSw; clear hSw; go_simp; try with_reducible rfl)
  simp only [Act.put, List.setIfInBounds_toArray, List.set_cons_zero, List.set_cons_succ]
  refine wpAnyH_take (i := 1) (v := ?_) (oi := { dst := some 25, op := _, type := _, pos := _, after := _, guard := none }) rfl (by kernel_rfl) (by kernel_rfl) (by kernel_rfl) (fun _ _ _ h => h) (Or.inl ⟨by kernel_rfl, ?_⟩) (by assumption) ?_
  case refine_2 => (intro w9 hSw; obtain ⟨s0, s1, s2⟩ := hSw; go_simp; try with_reducible rfl)
  simp only [Act.put, List.setIfInBounds_toArray, List.set_cons_zero, List.set_cons_succ]
  refine wpAnyH_take (i := 2) (v := ?_) (oi := { dst := some 26, op := _, type := _, pos := _, after := _, guard := none }) rfl (by kernel_rfl) (by kernel_rfl) (by kernel_rfl) (fun _ _ _ h => h) (Or.inl ⟨by kernel_rfl, ?_⟩) (by assumption) ?_
  case refine_2 => (intro w9 hSw; clear hSw; go_simp; try with_reducible rfl)
  simp only [Act.put, List.setIfInBounds_toArray, List.set_cons_zero, List.set_cons_succ]
  refine wpAnyH_take (i := 3) (v := ?_) (oi := { dst := some 27, op := _, type := _, pos := _, after := _, guard := some (2, true) }) rfl (by kernel_rfl) (by kernel_rfl) (by kernel_rfl) (fun _ _ _ h => h) (Or.inl ⟨by kernel_rfl, ?_⟩) (by assumption) ?_
  case refine_2 => (intro w9 hSw; clear hSw; go_simp; try with_reducible rfl)
  simp only [Act.put, List.setIfInBounds_toArray, List.set_cons_zero, List.set_cons_succ]
  refine wpAnyH_take (i := 4) (v := ?_) (oi := { dst := some 28, op := _, type := _, pos := _, after := _, guard := some (2, true) }) rfl (by kernel_rfl) (by kernel_rfl) (by kernel_rfl) (fun _ _ _ h => h) (Or.inl ⟨by kernel_rfl, ?_⟩) (by assumption) ?_
  case refine_2 => (intro w9 hSw; obtain ⟨s0, s1, s2⟩ := hSw; go_simp; try with_reducible rfl)
  simp only [Act.put, List.setIfInBounds_toArray, List.set_cons_zero, List.set_cons_succ]
  refine wpAnyH_take (i := 5) (v := ?_) (oi := { dst := some 29, op := _, type := _, pos := _, after := _, guard := some (2, true) }) rfl (by kernel_rfl) (by kernel_rfl) (by kernel_rfl) (fun _ _ _ h => h) (Or.inl ⟨by kernel_rfl, ?_⟩) (by assumption) ?_
  case refine_2 => (intro w9 hSw; clear hSw; go_simp; try with_reducible rfl)
  simp only [Act.put, List.setIfInBounds_toArray, List.set_cons_zero, List.set_cons_succ]
  refine wpAnyH_take (i := 6) (v := ?_) (oi := { dst := some 30, op := _, type := _, pos := _, after := _, guard := some (2, true) }) rfl (by kernel_rfl) (by kernel_rfl) (by kernel_rfl) (fun _ _ _ h => h) (Or.inl ⟨by kernel_rfl, ?_⟩) (by assumption) ?_
  case refine_2 => (intro w9 hSw; obtain ⟨s0, s1, s2⟩ := hSw; go_simp; try with_reducible rfl)
  simp only [Act.put, List.setIfInBounds_toArray, List.set_cons_zero, List.set_cons_succ]
  refine wpAnyH_take (i := 10) (v := ?_) (oi := { dst := some 34, op := _, type := _, pos := _, after := _, guard := none }) rfl (by kernel_rfl) (by kernel_rfl) (by kernel_rfl) (fun _ _ _ h => h) (Or.inl ⟨by kernel_rfl, ?_⟩) (by assumption) ?_
  case refine_2 => (intro w9 hSw; clear hSw; go_simp; try with_reducible rfl)
  simp only [Act.put, List.setIfInBounds_toArray, List.set_cons_zero, List.set_cons_succ]
  refine wpAnyH_take (i := 11) (v := ?_) (oi := { dst := some 35, op := _, type := _, pos := _, after := _, guard := none }) rfl (by kernel_rfl) (by kernel_rfl) (by kernel_rfl) (fun _ _ _ h => h) (Or.inl ⟨by kernel_rfl, ?_⟩) (by assumption) ?_
  case refine_2 => (intro w9 hSw; obtain ⟨s0, s1, s2⟩ := hSw; go_simp; try with_reducible rfl)
  simp only [Act.put, List.setIfInBounds_toArray, List.set_cons_zero, List.set_cons_succ]
  refine wpAnyH_take (i := 12) (v := ?_) (oi := { dst := some 36, op := _, type := _, pos := _, after := _, guard := none }) rfl (by kernel_rfl) (by kernel_rfl) (by kernel_rfl) (fun _ _ _ h => h) (Or.inl ⟨by kernel_rfl, ?_⟩) (by assumption) ?_
  case refine_2 => (intro w9 hSw; clear hSw; go_simp; try with_reducible rfl)
  simp only [Act.put, List.setIfInBounds_toArray, List.set_cons_zero, List.set_cons_succ]
  refine wpAnyH_take (i := 13) (v := ?_) (oi := { dst := some 37, op := _, type := _, pos := _, after := _, guard := none }) rfl (by kernel_rfl) (by kernel_rfl) (by kernel_rfl) (fun _ _ _ h => h) (Or.inl ⟨by kernel_rfl, ?_⟩) (by assumption) ?_
  case refine_2 => (intro w9 hSw; obtain ⟨s0, s1, s2⟩ := hSw; go_simp; try with_reducible rfl)
  simp only [Act.put, List.setIfInBounds_toArray, List.set_cons_zero, List.set_cons_succ]
  refine wpAnyH_ready (rs := [7]) (by kernel_rfl) (by simp) (AllReadyH.cons (o := { dst := some 31, op := _, type := _, pos := _, after := _, guard := some (2, true) }) rfl (fun K hK => ?_) AllReadyH.nil)
  go_simp
  refine (CC.out _ HA.out.drew HA2.out.drew).mono ?_
  rintro e w2 ⟨rfl, hb2⟩
  have HB2 : Hid (Below (w.heap.size + 1 + 1 + 1) (((w.alloc (box true ba)).alloc (box false bb)).alloc nobox) w2) := HB.out.drew.trans (hb2.mono HZ.out)
  have HAb : Hid (Row w2 ba va) := HA.out.drew.below hb2 HA.out.2.1
  have HAb2 : Hid (Row w2 bb vb) := HA2.out.drew.below hb2 HA2.out.2.1
  have HZ2 : Hid (w.heap.size + 1 + 1 + 1 ≤ w2.heap.size) := Nat.le_trans HZ.out hb2.size
  obtain ⟨d1, d2, d3, d4, d5, d6, g5, g6⟩ := boxes HB2.out
  clear hb2
  refine hK.out _ _ ⟨d1, d2, d4⟩ (fun hHeld => ?_)
  clear hK K
  refine wpAnyH_take (i := 8) (v := ?_) (oi := { dst := some 32, op := _, type := _, pos := _, after := _, guard := some (2, true) }) rfl (by kernel_rfl) (by kernel_rfl) (by kernel_rfl) (fun _ _ _ h => h) (Or.inl ⟨by kernel_rfl, ?_⟩) (by assumption) ?_
  case refine_2 => (intro w9 hSw; clear hSw; go_simp; try with_reducible rfl)
  simp only [Act.put, List.setIfInBounds_toArray, List.set_cons_zero, List.set_cons_succ]
  refine wpAnyH_take (i := 9) (v := ?_) (oi := { dst := some 33, op := _, type := _, pos := _, after := _, guard := none }) rfl (by kernel_rfl) (by kernel_rfl) (by kernel_rfl) (fun _ _ _ h => h) (Or.inl ⟨by kernel_rfl, ?_⟩) (by assumption) ?_
  case refine_2 => (intro w9 hSw; clear hSw; go_simp; try with_reducible rfl)
  simp only [Act.put, List.setIfInBounds_toArray, List.set_cons_zero, List.set_cons_succ]
  refine wpAnyH_ready (rs := [14]) (by kernel_rfl) (by simp) (AllReadyH.cons (o := { dst := some 38, op := _, type := _, pos := _, after := _, guard := none }) rfl (fun K hK => ?_) AllReadyH.nil)
  go_simp
  refine (rless_any ba bb va vb w2 HAb.out HAb2.out hle).mono ?_
  rintro e w3 ⟨rfl, hP⟩
  clear d1 d2 d3 d4 d5 d6 g5 g6
  obtain ⟨d1, d2, d3, d4, d5, d6, g5, g6⟩ := boxes (HB2.out.trans (hP.below.mono HZ2.out))
  have HP : Hid _ := hP
  clear hP
  refine hK.out _ _ ⟨d1, d2, d4⟩ (fun hHeld => ?_)
  clear hK K
  refine wpAnyH_take (i := 15) (v := ?_) (oi := { dst := some 39, op := _, type := _, pos := _, after := _, guard := none }) rfl (by kernel_rfl) (by kernel_rfl) (by kernel_rfl) (fun _ _ _ h => h) (Or.inl ⟨by kernel_rfl, ?_⟩) (by assumption) ?_
  case refine_2 => (intro w9 hSw; clear hSw; go_simp; try with_reducible rfl)
  simp only [Act.put, List.setIfInBounds_toArray, List.set_cons_zero, List.set_cons_succ]
  refine wpAnyH_ready (rs := [16]) (by kernel_rfl) (by simp) (AllReadyH.cons (o := { dst := none, op := _, type := _, pos := _, after := _, guard := none }) rfl (fun K hK => ?_) AllReadyH.nil)
  go_simp
  refine hK.out _ _ ⟨(wkeep2 (by omega) _ _ _).trans d1, (wkeep2 (by omega) _ _ _).trans d2, (wkeep2 (by omega) _ _ _).trans d4⟩ (fun hHeld => ?_)
  clear hK K
  refine wpAnyH_done (by kernel_rfl) ?_ _
  go_wp2
  refine bodyPost_ret (v := .agg #[.bool (decide (0 < cv)), .slice (some ⟨w2.heap.size, 0, none⟩) 6 6]) (by simp [results, Try.results42, go_sem, d5, d6]) rfl ⟨_, rfl, ?_⟩
  have hP := HP.out
  have hz := HZ2.out
  refine ⟨((((three _ _ _).trans (HB2.out.mono (by omega))).trans (hP.below.mono (Nat.le_trans (by omega) hz))).setCell (Nat.le_trans (Nat.le_add_right _ 2) (Nat.le_refl _)) _).setCell (Nat.le_trans (Nat.le_add_right _ 2) (Nat.le_refl _)) _, by omega, ?_⟩
  exact ((hP.row (Nat.lt_of_le_of_lt (Nat.sub_le _ _) ha.1)).setCell (show w.heap.size + 1 + 1 ≠ w2.heap.size from by omega) _).setCell (show w.heap.size + 1 + 1 ≠ w2.heap.size from by omega) _

set_option maxRecDepth 100000 in
set_option maxHeartbeats 2000000 in
theorem minus_false (ba va : Nat) (z : Bool) (w : World) (ha : Row w ba va)
    (ZC : Hid (∀ w : World, Row w ba va → Calls Try.prog 58 #[.slice (some ⟨ba, 0, none⟩) 6 6] w fun e w' => e = .returned (.bool z) ∧ Below w.heap.size w w')) :
    Calls Try.prog 44 #[.agg #[.bool false, .slice (some ⟨ba, 0, none⟩) 6 6]] w fun e w' => e = .returned (.agg #[.bool (!z), .slice (some ⟨ba, 0, none⟩) 6 6]) ∧ Below w.heap.size w w' := by
  have A0 : Row ((w.alloc (box false ba)).alloc nobox) ba va := (ha.alloc _).alloc _
  have F2 : ((w.alloc (box false ba)).alloc nobox).frozen? ⟨w.heap.size + 1, 0, none⟩ = false ∧ ((w.alloc (box false ba)).alloc nobox).frozen? ⟨w.heap.size + 1, 1, none⟩ = false := ⟨by rw [World.frozen?_alloc_at _ _ _ _ (by simp)], by rw [World.frozen?_alloc_at _ _ _ _ (by simp)]⟩
  have F3 : ((w.alloc (box false ba)).alloc nobox).cell? ⟨w.heap.size + 1, 0, none⟩ = some (.bool false) ∧ ((w.alloc (box false ba)).alloc nobox).cell? ⟨w.heap.size + 1, 1, none⟩ = some (.slice none 0 0) := ⟨by rw [World.cell?_alloc_at _ _ _ _ (by simp)]; rfl, by rw [World.cell?_alloc_at _ _ _ _ (by simp)]; rfl⟩
  obtain ⟨W, hW⟩ : ∃ W, W = (w.alloc (box false ba)).alloc nobox := ⟨_, rfl⟩
  have k0 : W.cell? ⟨w.heap.size, 0, none⟩ = some (.bool false) := by rw [hW]; exact box0 _ _ _ _
  have k1 : W.cell? ⟨w.heap.size, 1, none⟩ = some (.slice (some ⟨ba, 0, none⟩) 6 6) := by rw [hW]; exact box0 _ _ _ _
  have hlt : w.heap.size + 1 < W.heap.size := by rw [hW]; simp
  have HB : Hid (Below w.heap.size w W) := by show Below _ _ _; rw [hW]; exact two2 _ _
  rw [← hW] at A0 F2 F3
  obtain ⟨f0, f1⟩ := F2
  obtain ⟨g0, g1⟩ := F3
  go_enter Try.func44, Try.ntmps44
  go_wp2_with fail
  refine wat_world hW.symm ?_
  clear hW
  refine wp_region_held_drew (S := (fun w' => w'.cell? ⟨w.heap.size, 0, none⟩ = some (.bool false) ∧ w'.cell? ⟨w.heap.size, 1, none⟩ = some (.slice (some ⟨ba, 0, none⟩) 6 6))) (by kernel_rfl) ⟨k0, k1⟩ (fun hHeld => ?_)
  refine wpAnyH_take (i := 0) (v := ?_) (oi := { dst := some 3, op := _, type := _, pos := _, after := _, guard := none }) rfl (by kernel_rfl) (by kernel_rfl) (by kernel_rfl) (fun _ _ _ h => h) (Or.inl ⟨by kernel_rfl, ?_⟩) (by assumption) ?_
  case refine_2 => (intro w9 hSw; clear hSw; go_simp; try with_reducible rfl)
  simp only [Act.put, List.setIfInBounds_toArray, List.set_cons_zero, List.set_cons_succ]
  refine wpAnyH_take (i := 1) (v := ?_) (oi := { dst := some 4, op := _, type := _, pos := _, after := _, guard := none }) rfl (by kernel_rfl) (by kernel_rfl) (by kernel_rfl) (fun _ _ _ h => h) (Or.inl ⟨by kernel_rfl, ?_⟩) (by assumption) ?_
  case refine_2 => (intro w9 hSw; obtain ⟨s0, s1⟩ := hSw; go_simp; try with_reducible rfl)
  simp only [Act.put, List.setIfInBounds_toArray, List.set_cons_zero, List.set_cons_succ]
  refine wpAnyH_take (i := 2) (v := ?_) (oi := { dst := some 5, op := _, type := _, pos := _, after := _, guard := none }) rfl (by kernel_rfl) (by kernel_rfl) (by kernel_rfl) (fun _ _ _ h => h) (Or.inl ⟨by kernel_rfl, ?_⟩) (by assumption) ?_
  case refine_2 => (intro w9 hSw; clear hSw; go_simp; try with_reducible rfl)
  simp only [Act.put, List.setIfInBounds_toArray, List.set_cons_zero, List.set_cons_succ]
  refine wpAnyH_take (i := 3) (v := ?_) (oi := { dst := some 6, op := _, type := _, pos := _, after := _, guard := none }) rfl (by kernel_rfl) (by kernel_rfl) (by kernel_rfl) (fun _ _ _ h => h) (Or.inl ⟨by kernel_rfl, ?_⟩) (by assumption) ?_
  case refine_2 => (intro w9 hSw; clear hSw; go_simp; try with_reducible rfl)
  simp only [Act.put, List.setIfInBounds_toArray, List.set_cons_zero, List.set_cons_succ]
  refine wpAnyH_take (i := 4) (v := ?_) (oi := { dst := some 7, op := _, type := _, pos := _, after := _, guard := some (3, true) }) rfl (by kernel_rfl) (by kernel_rfl) (by kernel_rfl) (fun _ _ _ h => h) (Or.inl ⟨by kernel_rfl, ?_⟩) (by assumption) ?_
  case refine_2 => (intro w9 hSw; clear hSw; go_simp; try with_reducible rfl)
  simp only [Act.put, List.setIfInBounds_toArray, List.set_cons_zero, List.set_cons_succ]
  refine wpAnyH_take (i := 5) (v := ?_) (oi := { dst := some 8, op := _, type := _, pos := _, after := _, guard := some (3, true) }) rfl (by kernel_rfl) (by kernel_rfl) (by kernel_rfl) (fun _ _ _ h => h) (Or.inl ⟨by kernel_rfl, ?_⟩) (by assumption) ?_
  case refine_2 => (intro w9 hSw; obtain ⟨s0, s1⟩ := hSw; go_simp; try with_reducible rfl)
  simp only [Act.put, List.setIfInBounds_toArray, List.set_cons_zero, List.set_cons_succ]
  refine wpAnyH_take (i := 9) (v := ?_) (oi := { dst := some 12, op := _, type := _, pos := _, after := _, guard := none }) rfl (by kernel_rfl) (by kernel_rfl) (by kernel_rfl) (fun _ _ _ h => h) (Or.inl ⟨by kernel_rfl, ?_⟩) (by assumption) ?_
  case refine_2 => (intro w9 hSw; clear hSw; go_simp; try with_reducible rfl)
  simp only [Act.put, List.setIfInBounds_toArray, List.set_cons_zero, List.set_cons_succ]
  refine wpAnyH_take (i := 10) (v := ?_) (oi := { dst := some 13, op := _, type := _, pos := _, after := _, guard := none }) rfl (by kernel_rfl) (by kernel_rfl) (by kernel_rfl) (fun _ _ _ h => h) (Or.inl ⟨by kernel_rfl, ?_⟩) (by assumption) ?_
  case refine_2 => (intro w9 hSw; obtain ⟨s0, s1⟩ := hSw; go_simp; try with_reducible rfl)
  simp only [Act.put, List.setIfInBounds_toArray, List.set_cons_zero, List.set_cons_succ]
  refine wpAnyH_ready (rs := [6]) (by kernel_rfl) (by simp) (AllReadyH.cons (o := { dst := some 9, op := _, type := _, pos := _, after := _, guard := some (3, true) }) rfl (fun K hK => ?_) AllReadyH.nil)
  go_simp
  refine (ZC.out _ A0.drew).mono ?_
  rintro e w2 ⟨rfl, hb2⟩
  have b2 : Below W.heap.size W.drew w2 := hb2
  have e0 : w2.cell? ⟨w.heap.size, 0, none⟩ = some (.bool false) := (b2.cell (p := ⟨w.heap.size, 0, none⟩) (show w.heap.size < W.heap.size by omega)).trans k0
  have e1 : w2.cell? ⟨w.heap.size, 1, none⟩ = some (.slice (some ⟨ba, 0, none⟩) 6 6) := (b2.cell (p := ⟨w.heap.size, 1, none⟩) (show w.heap.size < W.heap.size by omega)).trans k1
  have p0 : w2.cell? ⟨w.heap.size + 1, 0, none⟩ = some (.bool false) := (b2.cell (p := ⟨w.heap.size + 1, 0, none⟩) hlt).trans g0
  have p1 : w2.cell? ⟨w.heap.size + 1, 1, none⟩ = some (.slice none 0 0) := (b2.cell (p := ⟨w.heap.size + 1, 1, none⟩) hlt).trans g1
  have q0 : w2.frozen? ⟨w.heap.size + 1, 0, none⟩ = false := (b2.frozen (p := ⟨w.heap.size + 1, 0, none⟩) hlt).trans f0
  have q1 : w2.frozen? ⟨w.heap.size + 1, 1, none⟩ = false := (b2.frozen (p := ⟨w.heap.size + 1, 1, none⟩) hlt).trans f1
  have HB2 : Hid (Below w.heap.size w w2) := HB.out.drew.trans (b2.mono (by omega))
  clear hb2 b2
  refine hK.out _ _ ⟨e0, e1⟩ (fun hHeld => ?_)
  clear hK K
  refine wpAnyH_take (i := 7) (v := ?_) (oi := { dst := some 10, op := _, type := _, pos := _, after := _, guard := some (3, true) }) rfl (by kernel_rfl) (by kernel_rfl) (by kernel_rfl) (fun _ _ _ h => h) (Or.inl ⟨by kernel_rfl, ?_⟩) (by assumption) ?_
  case refine_2 => (intro w9 hSw; clear hSw; go_simp; try with_reducible rfl)
  simp only [Act.put, List.setIfInBounds_toArray, List.set_cons_zero, List.set_cons_succ]
  refine wpAnyH_take (i := 8) (v := ?_) (oi := { dst := some 11, op := _, type := _, pos := _, after := _, guard := none }) rfl (by kernel_rfl) (by kernel_rfl) (by kernel_rfl) (fun _ _ _ h => h) (Or.inl ⟨by kernel_rfl, ?_⟩) (by assumption) ?_
  case refine_2 => (intro w9 hSw; clear hSw; go_simp; try with_reducible rfl)
  simp only [Act.put, List.setIfInBounds_toArray, List.set_cons_zero, List.set_cons_succ]
  refine wpAnyH_take (i := 11) (v := ?_) (oi := { dst := some 14, op := _, type := _, pos := _, after := _, guard := none }) rfl (by kernel_rfl) (by kernel_rfl) (by kernel_rfl) (fun _ _ _ h => h) (Or.inl ⟨by kernel_rfl, ?_⟩) (by assumption) ?_
  case refine_2 => (intro w9 hSw; clear hSw; go_simp; try with_reducible rfl)
  simp only [Act.put, List.setIfInBounds_toArray, List.set_cons_zero, List.set_cons_succ]
  refine wpAnyH_ready (rs := [12]) (by kernel_rfl) (by simp) (AllReadyH.cons (o := { dst := none, op := _, type := _, pos := _, after := _, guard := none }) rfl (fun K hK => ?_) AllReadyH.nil)
  go_simp
  refine hK.out _ _ ⟨(wkeep2 (by omega) _ _ _).trans e0, (wkeep2 (by omega) _ _ _).trans e1⟩ (fun hHeld => ?_)
  clear hK K
  refine wpAnyH_done (by kernel_rfl) ?_ _
  go_wp2
  exact bodyPost_ret (v := .agg #[.bool (!z), .slice (some ⟨ba, 0, none⟩) 6 6]) (by simp [results, Try.results44, go_sem, p0, p1]) rfl ⟨rfl, (HB2.out.setCell (by simp) _).setCell (by simp) _⟩

end Go.Proofs.Ytghfgabajdghiab
