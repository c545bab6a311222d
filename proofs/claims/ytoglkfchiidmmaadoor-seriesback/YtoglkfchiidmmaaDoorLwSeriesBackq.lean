/- SeriesBack over its callees. -/
import Derived.Test.YtoglkfchiidmmaaDoorSeLq
namespace Go.Proofs.YtoglkfchiidmmaaDoor
open Go.RowKit
set_option linter.unusedVariables false

set_option maxRecDepth 100000 in
set_option maxHeartbeats 8000000 in
theorem sb_no (a b s m E : Int) (L : List Int) (hE : E ≠ 0) (XI : Hid (∀ w : World, Calls Tryd.prog 5 #[.int .i64 a, .int .i64 b, .int .i64 s, .int .i64 m] w fun r w' => ∃ v, r = .returned (.tuple #[v, .int .i64 E]) ∧ Below w.heap.size w w' ∧ IRow w' v L))(KN : Hid (∀ w : World, Cvl.Lens w → Calls Tryd.prog 10 #[] w fun r w' => r = .returned (.bool true) ∧ Below w.heap.size w w')) (w : World) (hL : Hid (∀ W : World, Below w.heap.size w W → Cvl.Lens W)) :
    Calls Tryd.prog 4 #[.int .i64 a, .int .i64 b, .int .i64 s, .int .i64 m] w fun r w' => r = .returned (.bool true) ∧ Below w.heap.size w w' := by
  have hE0 : (E != 0) = true := by simpa using hE
  clear hE
  go_enter Tryd.func4, Tryd.ntmps4
  go_wp2_with fail
  refine (XI.out _).mono ?_
  rintro e W1 ⟨v, rfl, hb, hr⟩
  have HB1 : Hid (Below w.heap.size w W1) := hb
  clear hb hr
  go_wp2_with fail
  refine (KN.out _ (hL.out _ HB1.out)).mono ?_
  rintro e W2 ⟨rfl, hb⟩
  have HB2 : Hid (Below w.heap.size w W2) := HB1.out.trans (hb.mono HB1.out.size)
  clear hb HB1
  go_wp2_with fail
  go_ret
  exact ⟨rfl, HB2.out⟩

set_option maxRecDepth 100000 in
set_option maxHeartbeats 8000000 in
theorem sb_nil (a b s m : Int) (XI : Hid (∀ w : World, Calls Tryd.prog 5 #[.int .i64 a, .int .i64 b, .int .i64 s, .int .i64 m] w fun r w' => ∃ v, r = .returned (.tuple #[v, .int .i64 0]) ∧ Below w.heap.size w w' ∧ IRow w' v []))(KN : Hid (∀ w : World, Cvl.Lens w → Calls Tryd.prog 10 #[] w fun r w' => r = .returned (.bool true) ∧ Below w.heap.size w w')) (w : World) (hL : Hid (∀ W : World, Below w.heap.size w W → Cvl.Lens W)) :
    Calls Tryd.prog 4 #[.int .i64 a, .int .i64 b, .int .i64 s, .int .i64 m] w fun r w' => r = .returned (.bool true) ∧ Below w.heap.size w w' := by
  go_enter Tryd.func4, Tryd.ntmps4
  go_wp2_with fail
  refine (XI.out _).mono ?_
  rintro e W1 ⟨v, rfl, hb, hr⟩
  have HB1 : Hid (Below w.heap.size w W1) := hb
  obtain ⟨ao, c, rfl, _⟩ := hr
  clear hb
  go_wp2_with fail
  refine (KN.out _ (hL.out _ HB1.out)).mono ?_
  rintro e W2 ⟨rfl, hb⟩
  have HB2 : Hid (Below w.heap.size w W2) := HB1.out.trans (hb.mono HB1.out.size)
  clear hb HB1
  go_wp2_with fail
  go_ret
  exact ⟨rfl, HB2.out⟩

set_option maxRecDepth 100000 in
set_option maxHeartbeats 8000000 in
theorem sb_min (a b m : Int) (n : Nat) (L : List Int) (hn : L.length = n + 1) (hn2 : n ≤ 1000) (XI : Hid (∀ w : World, Calls Tryd.prog 5 #[.int .i64 a, .int .i64 b, .int .i64 (-9223372036854775808), .int .i64 m] w fun r w' => ∃ v, r = .returned (.tuple #[v, .int .i64 0]) ∧ Below w.heap.size w w' ∧ IRow w' v L))(KN : Hid (∀ w : World, Cvl.Lens w → Calls Tryd.prog 10 #[] w fun r w' => r = .returned (.bool true) ∧ Below w.heap.size w w')) (w : World) (hL : Hid (∀ W : World, Below w.heap.size w W → Cvl.Lens W)) :
    Calls Tryd.prog 4 #[.int .i64 a, .int .i64 b, .int .i64 (-9223372036854775808), .int .i64 m] w fun r w' => r = .returned (.bool true) ∧ Below w.heap.size w w' := by
  go_enter Tryd.func4, Tryd.ntmps4
  go_wp2_with fail
  refine (XI.out _).mono ?_
  rintro e W1 ⟨v, rfl, hb, hr⟩
  have HB1 : Hid (Below w.heap.size w W1) := hb
  obtain ⟨ao, c, rfl, _⟩ := hr
  rw [hn]
  clear hb
  go_wp2_with fail
  refine (KN.out _ (hL.out _ HB1.out)).mono ?_
  rintro e W2 ⟨rfl, hb⟩
  have HB2 : Hid (Below w.heap.size w W2) := HB1.out.trans (hb.mono HB1.out.size)
  clear hb HB1
  go_wp2_with fail
  go_ret
  exact ⟨rfl, HB2.out⟩

set_option maxRecDepth 100000 in
set_option maxHeartbeats 8000000 in
theorem sb_run (a b s m z : Int) (n : Nat) (L M : List Int) (hn : L.length = n + 1) (hn2 : n ≤ 1000) (hM : M.length = n + 1) (hs : ¬ s = -9223372036854775808) (hns : IntKind.i64.wrap (-s) = -s) (hz : L[n]? = some z) (HX : Hid (∀ i x, L[i]? = some x → M[n - i]? = some x)) (XI : Hid (∀ w : World, Calls Tryd.prog 5 #[.int .i64 a, .int .i64 b, .int .i64 s, .int .i64 m] w fun r w' => ∃ v, r = .returned (.tuple #[v, .int .i64 0]) ∧ Below w.heap.size w w' ∧ IRow w' v L))
    (YI : Hid (∀ w : World, Calls Tryd.prog 5 #[.int .i64 z, .int .i64 a, .int .i64 (-s), .int .i64 m] w fun r w' => ∃ v, r = .returned (.tuple #[v, .int .i64 0]) ∧ Below w.heap.size w w' ∧ IRow w' v M))
    (KN : Hid (∀ w : World, Cvl.Lens w → Calls Tryd.prog 10 #[] w fun r w' => r = .returned (.bool true) ∧ Below w.heap.size w w')) (w : World) (hL : Hid (∀ W : World, Below w.heap.size w W → Cvl.Lens W)) :
    Calls Tryd.prog 4 #[.int .i64 a, .int .i64 b, .int .i64 s, .int .i64 m] w fun r w' => r = .returned (.bool true) ∧ Below w.heap.size w w' := by
  have e1 : ((n + 1 : Nat) : Int) - 1 = (n : Int) := by omega
  have e0 : ((n : Int) + 1 == 0) = false := by rw [beq_eq_false_iff_ne]; omega
  have es : (s == -9223372036854775808) = false := by rw [beq_eq_false_iff_ne]; exact hs
  clear hs
  go_enter Tryd.func4, Tryd.ntmps4
  go_wp2_with fail
  refine (XI.out _).mono ?_
  rintro e W1 ⟨v, rfl, hb, hr⟩
  have HB1 : Hid (Below w.heap.size w W1) := hb
  have HR1 : Hid (IRow W1 v L) := hr
  clear hb hr
  obtain ⟨ao, c, hv, hc⟩ := HR1.out
  rw [hn] at hv
  subst hv
  obtain ⟨g, hg, hcz⟩ := hc n z hz
  subst hg
  have HA : Hid (∀ j x, L[j]? = some x → W1.cell? (g.add j) = some (.int .i64 x)) := fun j x hj => by
    obtain ⟨g', e, h⟩ := hc j x hj
    cases e
    exact h
  have HLN : Hid (L.length = n + 1) := hn
  have HMN : Hid (M.length = n + 1) := hM
  clear hc HR1 hz hn hM
  go_wp2_with fail
  refine (YI.out _).mono ?_
  rintro e W2 ⟨v, rfl, hb, hr⟩
  have HB2 : Hid (Below w.heap.size w W2) := HB1.out.trans (hb.mono HB1.out.size)
  have HA2 : Hid (∀ j x, L[j]? = some x → W2.cell? (g.add j) = some (.int .i64 x)) := fun j x hj => (hb.cell (World.block_lt_of_cell? W1 _ (HA.out j x hj))).trans (HA.out j x hj)
  obtain ⟨bo, d, hv, hc⟩ := hr
  rw [HMN.out] at hv
  subst hv
  obtain ⟨y, hy⟩ : ∃ y, M[0]? = some y := ⟨M[0]'(by rw [HMN.out]; omega), List.getElem?_eq_getElem (by rw [HMN.out]; omega)⟩
  obtain ⟨f, hf, _⟩ := hc 0 y hy
  subst hf
  have HC : Hid (∀ j x, M[j]? = some x → W2.cell? (f.add j) = some (.int .i64 x)) := fun j x hj => by
    obtain ⟨g', e, h⟩ := hc j x hj
    cases e
    exact h
  clear hb hc hcz HA HB1 hy
  go_wp2_with fail
  go_loopw [13] (fun iv W => ∃ i : Nat, i ≤ n + 1 ∧ iv = .int .i64 (i : Int) ∧ Hid (Below W2.heap.size W2 W ∧ Below w.heap.size w W)) (fun iv _ => n + 1 - (intOf iv).toNat)
  case atStart => exact ⟨0, Nat.zero_le _, rfl, Below.refl _ _, HB2.out⟩
  case round =>
    obtain ⟨i, hi, rfl, HB0⟩ := hrel
    by_cases hlt : i < n + 1
    · obtain ⟨x, hx⟩ : ∃ x, L[i]? = some x := ⟨L[i]'(by rw [HLN.out]; exact hlt), List.getElem?_eq_getElem (by rw [HLN.out]; exact hlt)⟩
      have ha := HA2.out i x hx
      have hb := HC.out (n - i) x (HX.out i x hx)
      have HH : Hid ((fun W : World => W.cell? (g.add i) = some (.int .i64 x) ∧ W.cell? (f.add (n - i)) = some (.int .i64 x)) wr) := ⟨(HB0.out.1.cell (World.block_lt_of_cell? W2 _ ha)).trans ha, (HB0.out.1.cell (World.block_lt_of_cell? W2 _ hb)).trans hb⟩
      obtain ⟨j, hj⟩ : ∃ j, n - i = j := ⟨_, rfl⟩
      rw [hj] at HH
      have w1 : IntKind.i64.wrap (n : Int) = (n : Int) := by rw [IntKind.wrap_i64]; omega
      have w2 : IntKind.i64.wrap ((n : Int) - (i : Int)) = (j : Int) := by rw [IntKind.wrap_i64]; omega
      have w3 : (j : Int) < (n : Int) + 1 := by omega
      have HB : Hid (Below W2.heap.size W2 wr ∧ Below w.heap.size w wr) := HB0
      clear ha hb hx HB0 hj
      go_wp2_with fail
      refine wp_region_held_drew (S := fun W : World => (W.cell? (g.add i) = some (.int .i64 x) ∧ W.cell? (f.add j) = some (.int .i64 x)) ∧ (Below W2.heap.size W2 W ∧ Below w.heap.size w W)) (by kernel_rfl) ⟨HH.out, HB.out.1.drew, HB.out.2.drew⟩ (fun hHeld => ?_)
      refine wpAnyH_take (i := 0) (v := ?_) (oi := { dst := some 63, op := _, type := _, pos := _, after := _, guard := none }) rfl (by kernel_rfl) (by kernel_rfl) (by kernel_rfl) (fun _ _ _ h => h) (Or.inl ⟨by kernel_rfl, ?_⟩) (by assumption) ?_
      case refine_2 => (intro w9 hSw; clear hSw; go_simp; try with_reducible rfl)
      simp only [Act.put, List.setIfInBounds_toArray, List.set_cons_zero, List.set_cons_succ]
      refine wpAnyH_take (i := 1) (v := ?_) (oi := { dst := some 64, op := _, type := _, pos := _, after := _, guard := none }) rfl (by kernel_rfl) (by kernel_rfl) (by kernel_rfl) (fun _ _ _ h => h) (Or.inl ⟨by kernel_rfl, ?_⟩) (by assumption) ?_
      case refine_2 => (intro w9 hSw; clear hSw; go_simp; try with_reducible rfl)
      simp only [Act.put, List.setIfInBounds_toArray, List.set_cons_zero, List.set_cons_succ]
      refine wpAnyH_take (i := 2) (v := ?_) (oi := { dst := some 65, op := _, type := _, pos := _, after := _, guard := none }) rfl (by kernel_rfl) (by kernel_rfl) (by kernel_rfl) (fun _ _ _ h => h) (Or.inl ⟨by kernel_rfl, ?_⟩) (by assumption) ?_
      case refine_2 => (intro w9 hSw; clear hSw; go_simp; try with_reducible rfl)
      simp only [Act.put, List.setIfInBounds_toArray, List.set_cons_zero, List.set_cons_succ]
      refine wpAnyH_take (i := 3) (v := ?_) (oi := { dst := some 66, op := _, type := _, pos := _, after := _, guard := none }) rfl (by kernel_rfl) (by kernel_rfl) (by kernel_rfl) (fun _ _ _ h => h) (Or.inl ⟨by kernel_rfl, ?_⟩) (by assumption) ?_
      case refine_2 => (intro w9 hSw; clear hSw; go_simp; try with_reducible rfl)
      simp only [Act.put, List.setIfInBounds_toArray, List.set_cons_zero, List.set_cons_succ]
      refine wpAnyH_take (i := 4) (v := ?_) (oi := { dst := some 67, op := _, type := _, pos := _, after := _, guard := none }) rfl (by kernel_rfl) (by kernel_rfl) (by kernel_rfl) (fun _ _ _ h => h) (Or.inl ⟨by kernel_rfl, ?_⟩) (by assumption) ?_
      case refine_2 => (intro w9 hSw; clear hSw; go_simp; try with_reducible rfl)
      simp only [Act.put, List.setIfInBounds_toArray, List.set_cons_zero, List.set_cons_succ]
      refine wpAnyH_take (i := 5) (v := ?_) (oi := { dst := some 68, op := _, type := _, pos := _, after := _, guard := none }) rfl (by kernel_rfl) (by kernel_rfl) (by kernel_rfl) (fun _ _ _ h => h) (Or.inl ⟨by kernel_rfl, ?_⟩) (by assumption) ?_
      case refine_2 => (intro w9 hSw; clear hSw; go_simp; try with_reducible rfl)
      simp only [Act.put, List.setIfInBounds_toArray, List.set_cons_zero, List.set_cons_succ]
      refine wpAnyH_take (i := 6) (v := ?_) (oi := { dst := some 69, op := _, type := _, pos := _, after := _, guard := none }) rfl (by kernel_rfl) (by kernel_rfl) (by kernel_rfl) (fun _ _ _ h => h) (Or.inl ⟨by kernel_rfl, ?_⟩) (by assumption) ?_
      case refine_2 => (intro w9 hSw; clear hSw; go_simp; try with_reducible rfl)
      simp only [Act.put, List.setIfInBounds_toArray, List.set_cons_zero, List.set_cons_succ]
      refine wpAnyH_take (i := 7) (v := ?_) (oi := { dst := some 70, op := _, type := _, pos := _, after := _, guard := none }) rfl (by kernel_rfl) (by kernel_rfl) (by kernel_rfl) (fun _ _ _ h => h) (Or.inl ⟨by kernel_rfl, ?_⟩) (by assumption) ?_
      case refine_2 => (intro w9 hSw; obtain ⟨⟨la, lb⟩, _⟩ := hSw; go_simp; try with_reducible rfl)
      simp only [Act.put, List.setIfInBounds_toArray, List.set_cons_zero, List.set_cons_succ]
      refine wpAnyH_take (i := 8) (v := ?_) (oi := { dst := some 71, op := _, type := _, pos := _, after := _, guard := none }) rfl (by kernel_rfl) (by kernel_rfl) (by kernel_rfl) (fun _ _ _ h => h) (Or.inl ⟨by kernel_rfl, ?_⟩) (by assumption) ?_
      case refine_2 => (intro w9 hSw; clear hSw; go_simp; try with_reducible rfl)
      simp only [Act.put, List.setIfInBounds_toArray, List.set_cons_zero, List.set_cons_succ]
      refine wpAnyH_take (i := 9) (v := ?_) (oi := { dst := some 72, op := _, type := _, pos := _, after := _, guard := none }) rfl (by kernel_rfl) (by kernel_rfl) (by kernel_rfl) (fun _ _ _ h => h) (Or.inl ⟨by kernel_rfl, ?_⟩) (by assumption) ?_
      case refine_2 => (intro w9 hSw; clear hSw; go_simp; try with_reducible rfl)
      simp only [Act.put, List.setIfInBounds_toArray, List.set_cons_zero, List.set_cons_succ]
      refine wpAnyH_take (i := 10) (v := ?_) (oi := { dst := some 73, op := _, type := _, pos := _, after := _, guard := none }) rfl (by kernel_rfl) (by kernel_rfl) (by kernel_rfl) (fun _ _ _ h => h) (Or.inl ⟨by kernel_rfl, ?_⟩) (by assumption) ?_
      case refine_2 => (intro w9 hSw; clear hSw; go_simp; try with_reducible rfl)
      simp only [Act.put, List.setIfInBounds_toArray, List.set_cons_zero, List.set_cons_succ]
      refine wpAnyH_take (i := 11) (v := ?_) (oi := { dst := some 74, op := _, type := _, pos := _, after := _, guard := none }) rfl (by kernel_rfl) (by kernel_rfl) (by kernel_rfl) (fun _ _ _ h => h) (Or.inl ⟨by kernel_rfl, ?_⟩) (by assumption) ?_
      case refine_2 => (intro w9 hSw; obtain ⟨⟨la, lb⟩, _⟩ := hSw; go_simp; try with_reducible rfl)
      simp only [Act.put, List.setIfInBounds_toArray, List.set_cons_zero, List.set_cons_succ]
      refine wpAnyH_take (i := 12) (v := ?_) (oi := { dst := some 75, op := _, type := _, pos := _, after := _, guard := none }) rfl (by kernel_rfl) (by kernel_rfl) (by kernel_rfl) (fun _ _ _ h => h) (Or.inl ⟨by kernel_rfl, ?_⟩) (by assumption) ?_
      case refine_2 => (intro w9 hSw; clear hSw; go_simp; try with_reducible rfl)
      simp only [Act.put, List.setIfInBounds_toArray, List.set_cons_zero, List.set_cons_succ]
      refine wpAnyH_done (by kernel_rfl) ?_ _
      go_wp2_with fail
      go_roundw
      case rel => exact ⟨i + 1, by omega, by go_num, hHeld.2⟩
      case measure => simp [intOf]; omega
    · have HB1 : Hid (Below w.heap.size w wr) := HB0.out.2
      clear HB2
      go_wp2_with fail
      refine (KN.out _ (hL.out _ HB1.out)).mono ?_
      rintro e W9 ⟨rfl, hb⟩
      have HB9 : Hid (Below w.heap.size w W9) := HB1.out.trans (hb.mono HB1.out.size)
      clear hb HB1
      go_wp2_with fail
      go_ret
      exact ⟨rfl, HB9.out⟩


end Go.Proofs.YtoglkfchiidmmaaDoor
