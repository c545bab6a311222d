/- Contract of the reference's at: a decimal number at a greater scale, wide. -/
import Derived.Test.YtlhlanekklonmaaDoorDecT
import Derived.Deep.RegionHeld3
namespace Go.Proofs.YtlhlanekklonmaaDoor
open Go.RowKit
set_option linter.unusedVariables false

theorem wtimesF (v u : Value) (x y : Int) (w : World) (hx : IsW w v x) (hy : IsW w u y) (h1 : x.natAbs < 18446744073709551616) (h2 : y.natAbs < 18446744073709551616) :
    Calls Tryd.prog 88 #[v, u] w fun e w' => ∃ b, e = .returned (.agg #[.bool (decide (x * y < 0)), .slice (some ⟨b, 0, none⟩) 6 6]) ∧ w.heap.size ≤ b ∧ Row w' b (x * y).natAbs ∧ Below w.heap.size w w' := by
  obtain ⟨ba, rfl, ra⟩ := hx
  obtain ⟨bb, rfl, rb⟩ := hy
  refine (times_any _ _ ba bb _ _ w ra rb h1 h2).mono fun e w' ⟨b, he, hb, hn, hr⟩ => ⟨b, by rw [he, sign_mul], hn, ?_, hb⟩
  rw [Int.natAbs_mul]; exact hr
theorem keepBox {w W W1 : World} {n s : Int} (h : W.cell? ⟨w.heap.size, 0, none⟩ = some (.int .i64 n) ∧ W.cell? ⟨w.heap.size, 1, none⟩ = some (.int .i64 s)) (b : Below W.heap.size W W1) : W1.cell? ⟨w.heap.size, 0, none⟩ = some (.int .i64 n) ∧ W1.cell? ⟨w.heap.size, 1, none⟩ = some (.int .i64 s) :=
  ⟨(b.cell (World.block_lt_of_cell? W _ h.1)).trans h.1, (b.cell (World.block_lt_of_cell? W _ h.2)).trans h.2⟩
/-- the box and the place of the answer. -/
def at0 (w : World) (n s : Int) : World := (w.alloc (.cells #[.int .i64 n, .int .i64 s] 33)).alloc (.cells #[.bool false, .slice none 0 0] 84)
theorem res_cells {w W0 W : World} {n s : Int} (hb : Below (w.heap.size + 1 + 1) W0 W) (h : W0 = at0 w n s) :
    W.cell? ⟨w.heap.size + 1, 0, none⟩ = some (.bool false) ∧ W.cell? ⟨w.heap.size + 1, 1, none⟩ = some (.slice none 0 0) ∧ W.frozen? ⟨w.heap.size + 1, 0, none⟩ = false ∧ W.frozen? ⟨w.heap.size + 1, 1, none⟩ = false := by
  subst h
  refine ⟨(hb.cell (p := ⟨w.heap.size + 1, 0, none⟩) (by simp)).trans ?_, (hb.cell (p := ⟨w.heap.size + 1, 1, none⟩) (by simp)).trans ?_, (hb.frozen (p := ⟨w.heap.size + 1, 0, none⟩) (by simp)).trans ?_, (hb.frozen (p := ⟨w.heap.size + 1, 1, none⟩) (by simp)).trans ?_⟩
  all_goals simp [at0]
theorem keepR {w W : World} (x y : Value) (o : Nat) : ((W.setCell ⟨w.heap.size + 1, 0, none⟩ x).setCell ⟨w.heap.size + 1, 1, none⟩ y).cell? ⟨w.heap.size, o, none⟩ = W.cell? ⟨w.heap.size, o, none⟩ := keep2 (by omega) x y o

set_option maxRecDepth 100000 in
set_option maxHeartbeats 4000000 in
theorem rat_any (n : Int) (s c : Nat) (h1 : -9223372036854775808 ≤ n) (h2 : n ≤ 9223372036854775807) (hs : s ≤ c) (hc : c ≤ 9) (w : World) :
    Calls Tryd.prog 67 #[.agg #[.int .i64 n, .int .i64 (s : Int)], .int .i64 (c : Int)] w fun e w' => ∃ v, e = .returned v ∧ IsW w' v (n * 10 ^ (c - s)) ∧ Below w.heap.size w w' := by
  obtain ⟨t1, t2⟩ := ten_le (c - s) (by omega)
  obtain ⟨T, hT⟩ : ∃ T : Int, 10 ^ (c - s) = T := ⟨_, rfl⟩
  rw [hT] at t1 t2 ⊢
  have hsub : IntKind.i64.wrap ((c : Int) - (s : Int)) = ((c - s : Nat) : Int) := by rw [IntKind.wrap_i64]; omega
  have HT : Hid (∀ w : World, Calls Tryd.prog 74 #[.int .i64 ((c - s : Nat) : Int)] w fun e w' => e = .returned (.int .i64 T) ∧ Below w.heap.size w w') := fun w => by have := rten_any (c - s) (by omega) w; rw [hT] at this; exact this
  have HO1 : Hid (∀ w : World, Calls Tryd.prog 89 #[.int .i64 n] w fun e w' => ∃ v, e = .returned v ∧ IsW w' v n ∧ Below w.heap.size w w') := wof n h1 h2
  have HO2 : Hid (∀ w : World, Calls Tryd.prog 89 #[.int .i64 T] w fun e w' => ∃ v, e = .returned v ∧ IsW w' v T ∧ Below w.heap.size w w') := wof T (by omega) (by omega)
  have HX : Hid ((n * T) = n * T) := rfl
  obtain ⟨W0, hW0⟩ : ∃ W0, W0 = at0 w n s := ⟨_, rfl⟩
  have hS0 : W0.drew.cell? ⟨w.heap.size, 0, none⟩ = some (.int .i64 n) ∧ W0.drew.cell? ⟨w.heap.size, 1, none⟩ = some (.int .i64 (s : Int)) := by
    rw [hW0]; unfold at0; constructor <;> simp
  have hz : W0.heap.size = w.heap.size + 1 + 1 := by rw [hW0]; simp [at0]
  clear hT
  go_enter Tryd.func67, Tryd.ntmps67
  go_wp2_with fail
  refine at_world hW0.symm ?_
  have hW1 : Hid (W0 = at0 w n s) := hW0
  have hz1 : Hid (W0.heap.size = w.heap.size + 1 + 1) := hz
  clear hW0 hz
  have HB : Hid (Below (w.heap.size + 1 + 1) W0 W0.drew) := (Below.refl _ _).drew
  refine wp_region_held_drew (S := fun W => W.cell? ⟨w.heap.size, 0, none⟩ = some (.int .i64 n) ∧ W.cell? ⟨w.heap.size, 1, none⟩ = some (.int .i64 (s : Int))) (by kernel_rfl) hS0 (fun hHeld => ?_)
  refine wpAnyH_take (i := 0) (v := ?_) (oi := { dst := some 5, op := _, type := _, pos := _, after := _, guard := none }) rfl (by kernel_rfl) (by kernel_rfl) (by kernel_rfl) (fun _ _ _ h => h) (Or.inl ⟨by kernel_rfl, ?_⟩) (by assumption) ?_
  case refine_2 => (intro w9 hSw; clear hSw; go_simp; try with_reducible rfl)
  simp only [Act.put, List.setIfInBounds_toArray, List.set_cons_zero, List.set_cons_succ]
  refine wpAnyH_take (i := 1) (v := ?_) (oi := { dst := some 6, op := _, type := _, pos := _, after := _, guard := none }) rfl (by kernel_rfl) (by kernel_rfl) (by kernel_rfl) (fun _ _ _ h => h) (Or.inl ⟨by kernel_rfl, ?_⟩) (by assumption) ?_
  case refine_2 => (intro w9 hSw; obtain ⟨ra, rb⟩ := hSw; go_simp; try with_reducible rfl)
  simp only [Act.put, List.setIfInBounds_toArray, List.set_cons_zero, List.set_cons_succ]
  refine wpAnyH_take (i := 3) (v := ?_) (oi := { dst := some 8, op := _, type := _, pos := _, after := _, guard := none }) rfl (by kernel_rfl) (by kernel_rfl) (by kernel_rfl) (fun _ _ _ h => h) (Or.inl ⟨by kernel_rfl, ?_⟩) (by assumption) ?_
  case refine_2 => (intro w9 hSw; clear hSw; go_simp; try with_reducible rfl)
  simp only [Act.put, List.setIfInBounds_toArray, List.set_cons_zero, List.set_cons_succ]
  refine wpAnyH_take (i := 4) (v := ?_) (oi := { dst := some 9, op := _, type := _, pos := _, after := _, guard := none }) rfl (by kernel_rfl) (by kernel_rfl) (by kernel_rfl) (fun _ _ _ h => h) (Or.inl ⟨by kernel_rfl, ?_⟩) (by assumption) ?_
  case refine_2 => (intro w9 hSw; clear hSw; go_simp; try with_reducible rfl)
  simp only [Act.put, List.setIfInBounds_toArray, List.set_cons_zero, List.set_cons_succ]
  refine wpAnyH_take (i := 5) (v := ?_) (oi := { dst := some 10, op := _, type := _, pos := _, after := _, guard := none }) rfl (by kernel_rfl) (by kernel_rfl) (by kernel_rfl) (fun _ _ _ h => h) (Or.inl ⟨by kernel_rfl, ?_⟩) (by assumption) ?_
  case refine_2 => (intro w9 hSw; obtain ⟨ra, rb⟩ := hSw; go_simp; try with_reducible rfl)
  simp only [Act.put, List.setIfInBounds_toArray, List.set_cons_zero, List.set_cons_succ]
  refine wpAnyH_take (i := 6) (v := ?_) (oi := { dst := some 11, op := _, type := _, pos := _, after := _, guard := none }) rfl (by kernel_rfl) (by kernel_rfl) (by kernel_rfl) (fun _ _ _ h => h) (Or.inl ⟨by kernel_rfl, ?_⟩) (by assumption) ?_
  case refine_2 => (intro w9 hSw; clear hSw; go_simp; try with_reducible rfl)
  simp only [Act.put, List.setIfInBounds_toArray, List.set_cons_zero, List.set_cons_succ]
  refine wpAnyH_ready (rs := [2]) (by kernel_rfl) (by simp) (AllReadyH.cons (o := { dst := some 7, op := _, type := _, pos := _, after := _, guard := none }) rfl (fun K hK => ?_) AllReadyH.nil)
  go_simp
  refine (HO1.out _).mono ?_
  rintro e wa ⟨v1, rfl, hv1, b⟩
  have HBn := HB.out.trans (b.mono (hz1.out ▸ HB.out.size))
  have hHn := keepBox hHeld b
  refine hK.out _ _ hHn (fun hHeld2 => ?_)
  clear hK K b hHeld hHeld2
  have hHeld := hHn
  have HBm : Hid (Below (w.heap.size + 1 + 1) W0 wa) := HBn
  clear hHn HBn HB
  have HB := HBm
  clear HBm
  refine wpAnyH_ready (rs := [7]) (by kernel_rfl) (by simp) (AllReadyH.cons (o := { dst := some 12, op := _, type := _, pos := _, after := _, guard := none }) rfl (fun K hK => ?_) AllReadyH.nil)
  go_simp
  refine (HT.out _).mono ?_
  rintro e wa ⟨rfl, b⟩
  have HBn := HB.out.trans (b.mono (hz1.out ▸ HB.out.size))
  have hHn := keepBox hHeld b
  refine hK.out _ _ hHn (fun hHeld2 => ?_)
  have hv1' := hv1.below b
  clear hv1
  have hv1 := hv1'
  clear hv1'
  clear hK K b hHeld hHeld2
  have hHeld := hHn
  have HBm : Hid (Below (w.heap.size + 1 + 1) W0 wa) := HBn
  clear hHn HBn HB
  have HB := HBm
  clear HBm
  refine wpAnyH_ready (rs := [8]) (by kernel_rfl) (by simp) (AllReadyH.cons (o := { dst := some 13, op := _, type := _, pos := _, after := _, guard := none }) rfl (fun K hK => ?_) AllReadyH.nil)
  go_simp
  refine (HO2.out _).mono ?_
  rintro e wa ⟨v2, rfl, hv2, b⟩
  have HBn := HB.out.trans (b.mono (hz1.out ▸ HB.out.size))
  have hHn := keepBox hHeld b
  refine hK.out _ _ hHn (fun hHeld2 => ?_)
  have hv1' := hv1.below b
  clear hv1
  have hv1 := hv1'
  clear hv1'
  clear hK K b hHeld hHeld2
  have hHeld := hHn
  have HBm : Hid (Below (w.heap.size + 1 + 1) W0 wa) := HBn
  clear hHn HBn HB
  have HB := HBm
  clear HBm
  refine wpAnyH_ready (rs := [9]) (by kernel_rfl) (by simp) (AllReadyH.cons (o := { dst := some 14, op := _, type := _, pos := _, after := _, guard := none }) rfl (fun K hK => ?_) AllReadyH.nil)
  go_simp
  refine (wtimesF v1 v2 n T _ hv1 hv2 (by omega) (by omega)).mono ?_
  rintro e wb ⟨b3, rfl, hb3, hr3, b⟩
  have HBn := HB.out.trans (b.mono (hz1.out ▸ HB.out.size))
  have hHn := keepBox hHeld b
  refine hK.out _ _ hHn (fun hHeld2 => ?_)
  clear hK K hHeld2 hHeld
  have hHeld := hHn
  clear hHn
  have hne : b3 ≠ w.heap.size + 1 := by have := HB.out.size; have := hz1.out; omega
  obtain ⟨x1, x2, x3, x4⟩ := res_cells HBn hW1.out
  refine wpAnyH_ready (rs := [10]) (by kernel_rfl) (by simp) (AllReadyH.cons (o := { dst := none, op := _, type := _, pos := _, after := _, guard := none }) rfl (fun K hK => ?_) AllReadyH.nil)
  go_simp
  refine hK.out _ _ ⟨(keepR _ _ _).trans hHeld.1, (keepR _ _ _).trans hHeld.2⟩ (fun hHeld2 => ?_)
  clear hK K hHeld2
  refine wpAnyH_done (by kernel_rfl) ?_ _
  go_wp2_with fail
  have hBw : Below w.heap.size w W0 := by rw [hW1.out]; exact ((Below.refl _ _).alloc (Nat.le_refl _) _).alloc (by simp) _
  exact bodyPost_ret (v := .agg #[.bool (decide (n * T < 0)), .slice (some ⟨b3, 0, none⟩) 6 6]) (by simp [results, Tryd.results67, go_sem, x1, x2]) rfl ⟨_, rfl, ⟨b3, rfl, (hr3.setCell (a := ⟨w.heap.size + 1, 0, none⟩) (Ne.symm hne) _).setCell (a := ⟨w.heap.size + 1, 1, none⟩) (Ne.symm hne) _⟩, ((hBw.trans (HBn.mono (by omega))).setCell (p := ⟨w.heap.size + 1, 0, none⟩) (by simp) _).setCell (p := ⟨w.heap.size + 1, 1, none⟩) (by simp) _⟩

end Go.Proofs.YtlhlanekklonmaaDoor
