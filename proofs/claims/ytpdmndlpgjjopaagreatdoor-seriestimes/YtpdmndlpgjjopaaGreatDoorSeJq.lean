/- series: Stamps; law21's at; the reference's Same. -/
import Derived.Test.YtpdmndlpgjjopaaGreatDoorSeIq
import Derived.Test.YtpdmndlpgjjopaaGreatDoorSeEq
namespace Go.Proofs.YtpdmndlpgjjopaaGreatDoor
open Go.RowKit
set_option linter.unusedVariables false

theorem cT_get : ∀ {L : List Int} {j : Nat} {x : Int}, L[j]? = some x → (cT L)[j * 2]? = some (.int .i64 0) ∧ (cT L)[j * 2 + 1]? = some (.int .i64 x)
  | [], j, x, h => by simp at h
  | a :: l, 0, x, h => by
    simp at h
    subst h
    exact ⟨rfl, rfl⟩
  | a :: l, j + 1, x, h => by
    have ih := cT_get (L := l) (j := j) (x := x) (by simpa using h)
    have e : cT (a :: l) = [.int .i64 0, .int .i64 a] ++ cT l := rfl
    rw [e, List.getElem?_append_right (by simp; omega), List.getElem?_append_right (by simp; omega)]
    simp only [List.length_cons, List.length_nil]
    rw [show (j + 1) * 2 - (0 + 1 + 1) = j * 2 by omega, show (j + 1) * 2 + 1 - (0 + 1 + 1) = j * 2 + 1 by omega]
    exact ih
/-- v is a slice of the stamps L. -/
def TRow (W : World) (v : Value) (L : List Int) : Prop := ∃ ao c, v = .slice ao L.length c ∧ ∀ j x, L[j]? = some x → ∃ g, ao = some ⟨g, 0, none⟩ ∧ W.cell? ⟨g, j * 2, none⟩ = some (.int .i64 0) ∧ W.cell? ⟨g, j * 2 + 1, none⟩ = some (.int .i64 x)
theorem TRow.below {W V : World} {v : Value} {L : List Int} (h : TRow W v L) (hb : Below W.heap.size W V) : TRow V v L := by
  obtain ⟨ao, c, e, h⟩ := h
  refine ⟨ao, c, e, fun j x hj => ?_⟩
  obtain ⟨g, ea, h1, h2⟩ := h j x hj
  exact ⟨g, ea, (hb.cell (World.block_lt_of_cell? W _ h1)).trans h1, (hb.cell (World.block_lt_of_cell? W _ h2)).trans h2⟩
theorem TRow.drew {W : World} {v : Value} {L : List Int} (h : TRow W v L) : TRow W.drew v L := h
theorem TRow.of_bx {W : World} {g n : Nat} {L : List Int} (h : Bx W g (cT L)) (hn : L.length = n) : TRow W (.slice (some ⟨g, 0, none⟩) n n) L :=
  ⟨_, _, by rw [hn], fun j x hj => ⟨g, rfl, h.c _ (cT_get hj).1, h.c _ (cT_get hj).2⟩⟩
theorem TRow.of_own {W : World} {base : Nat} {v : Value} {L : List Int} (h : W.ownsRow base 36 2 v L.length (cT L)) : TRow W v L := by
  obtain ⟨ao, c, rfl, _, _⟩ := own_form h
  refine ⟨ao, c, rfl, fun j x hj => ?_⟩
  have hl := (List.getElem?_eq_some_iff.1 hj).1
  rcases h.2 with ⟨e, z⟩ | ⟨g, cap, cur, e, _⟩
  · rw [z] at hl; omega
  · obtain ⟨rfl, _, rfl⟩ : ao = some ⟨g, 0, none⟩ ∧ L.length = L.length ∧ c = cap := by simpa using e
    exact ⟨g, rfl, (h.cellAt (j * 2) (by omega)).trans (cT_get hj).1, (h.cellAt (j * 2 + 1) (by omega)).trans (cT_get hj).2⟩
set_option maxRecDepth 100000 in
set_option maxHeartbeats 4000000 in
theorem stamp_eq (i u j v : Int) (w : World) : (Op.equalIn 10000 36 (.agg #[.int .i64 i, .int .i64 u]) (.agg #[.int .i64 j, .int .i64 v])).run Tryz.prog w = .ok (decide (i = j) && decide (u = v)) w := by
  rw [run_equalIn_struct w 9999 36 _ _ (by kernel_rfl) (by kernel_rfl)]
  go_simp
  simp only [ite_okS]
  congr 1
  rw [Bool.eq_iff_iff]
  simp only [Bool.and_eq_true, decide_eq_true_eq, and_true]

set_option maxRecDepth 100000 in
set_option maxHeartbeats 4000000 in
theorem Same_yes (v u : Value) (L : List Int) (hl : L.length ≤ 1000) (w : World) (H1 : Hid (TRow w v L)) (H2 : Hid (TRow w u L)) : Calls Tryz.prog 13 #[v, u] w fun r w' => r = .returned (.bool true) ∧ Below w.heap.size w w' := by
  obtain ⟨ao, c, rfl, h1⟩ := H1.out
  obtain ⟨bo, d, rfl, h2⟩ := H2.out
  have HA : Hid (∀ j x, L[j]? = some x → ∃ g, ao = some ⟨g, 0, none⟩ ∧ w.cell? ⟨g, j * 2, none⟩ = some (.int .i64 0) ∧ w.cell? ⟨g, j * 2 + 1, none⟩ = some (.int .i64 x)) := h1
  have HC : Hid (∀ j x, L[j]? = some x → ∃ g, bo = some ⟨g, 0, none⟩ ∧ w.cell? ⟨g, j * 2, none⟩ = some (.int .i64 0) ∧ w.cell? ⟨g, j * 2 + 1, none⟩ = some (.int .i64 x)) := h2
  clear h1 h2 H1 H2
  obtain ⟨n, hn⟩ : ∃ n, L.length = n := ⟨_, rfl⟩
  rw [hn] at hl ⊢
  have HN : Hid (L.length = n) := hn
  clear hn
  go_enter Tryz.func13, Tryz.ntmps13
  go_wp2_with fail
  go_loopw [5] (fun iv W => ∃ i : Nat, i ≤ n ∧ iv = .int .i64 (i : Int) ∧ Hid (Below w.heap.size w W)) (fun iv _ => n - (intOf iv).toNat)
  case atStart => exact ⟨0, Nat.zero_le _, rfl, Below.refl _ _⟩
  case round =>
    obtain ⟨i, hi, rfl, HB⟩ := hrel
    by_cases hlt : i < n
    · obtain ⟨x, hx⟩ : ∃ x, L[i]? = some x := ⟨L[i]'(by rw [HN.out]; exact hlt), List.getElem?_eq_getElem (by rw [HN.out]; exact hlt)⟩
      obtain ⟨g, rfl, a1, a2⟩ := HA.out i x hx
      obtain ⟨f, rfl, b1, b2⟩ := HC.out i x hx
      have mv : ∀ {p : Addr} {q : Value}, w.cell? p = some q → wr.cell? p = some q := fun h => (HB.out.cell (World.block_lt_of_cell? w _ h)).trans h
      have HH : Hid ((fun W : World => (W.cell? ⟨g, i * 2, none⟩ = some (.int .i64 0) ∧ W.cell? ⟨g, i * 2 + 1, none⟩ = some (.int .i64 x)) ∧ W.cell? ⟨f, i * 2, none⟩ = some (.int .i64 0) ∧ W.cell? ⟨f, i * 2 + 1, none⟩ = some (.int .i64 x)) wr) := ⟨⟨mv a1, mv a2⟩, mv b1, mv b2⟩
      have EQ : ∀ w : World, (Op.equalIn 10000 36 (.agg #[.int .i64 0, .int .i64 x]) (.agg #[.int .i64 0, .int .i64 x])).run Tryz.prog w = .ok true w := fun w => by rw [stamp_eq]; simp
      clear a1 a2 b1 b2 hx HA HC mv
      go_wp2_with fail
      refine wp_region_held_drew (S := fun W : World => ((W.cell? ⟨g, i * 2, none⟩ = some (.int .i64 0) ∧ W.cell? ⟨g, i * 2 + 1, none⟩ = some (.int .i64 x)) ∧ W.cell? ⟨f, i * 2, none⟩ = some (.int .i64 0) ∧ W.cell? ⟨f, i * 2 + 1, none⟩ = some (.int .i64 x)) ∧ Below w.heap.size w W) (by kernel_rfl) ⟨HH.out, HB.out.drew⟩ (fun hHeld => ?_)
      refine wpAnyH_take (i := 0) (v := ?_) (oi := { dst := some 17, op := _, type := _, pos := _, after := _, guard := none }) rfl (by kernel_rfl) (by kernel_rfl) (by kernel_rfl) (fun _ _ _ h => h) (Or.inl ⟨by kernel_rfl, ?_⟩) (by assumption) ?_
      case refine_2 => (intro w9 hSw; clear hSw; go_simp; try with_reducible rfl)
      simp only [Act.put, List.setIfInBounds_toArray, List.set_cons_zero, List.set_cons_succ]
      refine wpAnyH_take (i := 1) (v := ?_) (oi := { dst := some 18, op := _, type := _, pos := _, after := _, guard := none }) rfl (by kernel_rfl) (by kernel_rfl) (by kernel_rfl) (fun _ _ _ h => h) (Or.inl ⟨by kernel_rfl, ?_⟩) (by assumption) ?_
      case refine_2 => (intro w9 hSw; clear hSw; go_simp; try with_reducible rfl)
      simp only [Act.put, List.setIfInBounds_toArray, List.set_cons_zero, List.set_cons_succ]
      refine wpAnyH_take (i := 2) (v := ?_) (oi := { dst := some 19, op := _, type := _, pos := _, after := _, guard := none }) rfl (by kernel_rfl) (by kernel_rfl) (by kernel_rfl) (fun _ _ _ h => h) (Or.inl ⟨by kernel_rfl, ?_⟩) (by assumption) ?_
      case refine_2 => (intro w9 hSw; clear hSw; go_simp; try with_reducible rfl)
      simp only [Act.put, List.setIfInBounds_toArray, List.set_cons_zero, List.set_cons_succ]
      refine wpAnyH_take (i := 3) (v := ?_) (oi := { dst := some 20, op := _, type := _, pos := _, after := _, guard := none }) rfl (by kernel_rfl) (by kernel_rfl) (by kernel_rfl) (fun _ _ _ h => h) (Or.inl ⟨by kernel_rfl, ?_⟩) (by assumption) ?_
      case refine_2 => (intro w9 hSw; obtain ⟨⟨⟨la, lb⟩, lc, le⟩, _⟩ := hSw; go_simp; try with_reducible rfl)
      simp only [Act.put, List.setIfInBounds_toArray, List.set_cons_zero, List.set_cons_succ]
      refine wpAnyH_take (i := 4) (v := ?_) (oi := { dst := some 21, op := _, type := _, pos := _, after := _, guard := none }) rfl (by kernel_rfl) (by kernel_rfl) (by kernel_rfl) (fun _ _ _ h => h) (Or.inl ⟨by kernel_rfl, ?_⟩) (by assumption) ?_
      case refine_2 => (intro w9 hSw; clear hSw; go_simp; try with_reducible rfl)
      simp only [Act.put, List.setIfInBounds_toArray, List.set_cons_zero, List.set_cons_succ]
      refine wpAnyH_take (i := 5) (v := ?_) (oi := { dst := some 22, op := _, type := _, pos := _, after := _, guard := none }) rfl (by kernel_rfl) (by kernel_rfl) (by kernel_rfl) (fun _ _ _ h => h) (Or.inl ⟨by kernel_rfl, ?_⟩) (by assumption) ?_
      case refine_2 => (intro w9 hSw; clear hSw; go_simp; try with_reducible rfl)
      simp only [Act.put, List.setIfInBounds_toArray, List.set_cons_zero, List.set_cons_succ]
      refine wpAnyH_take (i := 6) (v := ?_) (oi := { dst := some 23, op := _, type := _, pos := _, after := _, guard := none }) rfl (by kernel_rfl) (by kernel_rfl) (by kernel_rfl) (fun _ _ _ h => h) (Or.inl ⟨by kernel_rfl, ?_⟩) (by assumption) ?_
      case refine_2 => (intro w9 hSw; clear hSw; go_simp; try with_reducible rfl)
      simp only [Act.put, List.setIfInBounds_toArray, List.set_cons_zero, List.set_cons_succ]
      refine wpAnyH_take (i := 7) (v := ?_) (oi := { dst := some 24, op := _, type := _, pos := _, after := _, guard := none }) rfl (by kernel_rfl) (by kernel_rfl) (by kernel_rfl) (fun _ _ _ h => h) (Or.inl ⟨by kernel_rfl, ?_⟩) (by assumption) ?_
      case refine_2 => (intro w9 hSw; obtain ⟨⟨⟨la, lb⟩, lc, le⟩, _⟩ := hSw; go_simp; try with_reducible rfl)
      simp only [Act.put, List.setIfInBounds_toArray, List.set_cons_zero, List.set_cons_succ]
      refine wpAnyH_take (i := 8) (v := ?_) (oi := { dst := some 25, op := _, type := _, pos := _, after := _, guard := none }) rfl (by kernel_rfl) (by kernel_rfl) (by kernel_rfl) (fun _ _ _ h => h) (Or.inl ⟨by kernel_rfl, ?_⟩) (by assumption) ?_
      case refine_2 => (intro w9 hSw; clear hSw; go_simp; try with_reducible rfl)
      simp only [Act.put, List.setIfInBounds_toArray, List.set_cons_zero, List.set_cons_succ]
      refine wpAnyH_done (by kernel_rfl) ?_ _
      go_wp2_with fail
      go_roundw
      case rel => exact ⟨i + 1, by omega, by go_num, hHeld.2⟩
      case measure => simp [intOf]; omega
    · go_wp2_with fail
      go_ret
      exact ⟨rfl, HB.out⟩

set_option maxRecDepth 100000 in
set_option maxHeartbeats 4000000 in
theorem at_any (y m d i D e I U f : Int)
    (MK : Hid (∀ w : World, Calls Tryz.prog 41 #[.int .i64 y, .int .i64 m, .int .i64 d] w fun r' w' => r' = .returned (.tuple #[.agg #[.int .i64 i, .int .i64 D], .int .i64 e]) ∧ Below w.heap.size w w'))
    (SA : Hid (∀ w : World, Calls Tryz.prog 42 #[.agg #[.int .i64 i, .int .i64 D]] w fun r' w' => r' = .returned (.tuple #[.agg #[.int .i64 I, .int .i64 U], .int .i64 f]) ∧ Below w.heap.size w w'))
    (w : World) :
    Calls Tryz.prog 22 #[.int .i64 y, .int .i64 m, .int .i64 d] w fun r' w' => r' = .returned (.agg #[.int .i64 I, .int .i64 U]) ∧ Below w.heap.size w w' := by
  have K0 : Hid (BS w [(w.heap.size, [.int .i64 0, .int .i64 0])] (w.alloc (.cells #[.int .i64 0, .int .i64 0] 36))) := ((BS.start w).new [.int .i64 0, .int .i64 0] 36 rfl)
  go_enter Tryz.func22, Tryz.ntmps22
  go_wp2_with fail
  refine (MK.out _).mono ?_
  rintro e W1 ⟨rfl, hb⟩
  have K1 := bsb K0 hb
  clear hb K0
  obtain ⟨c1_0_0, c1_0_1⟩ := (bo1 K1).c2
  have Mz1 := bsn K1 [.int .i64 i, .int .i64 D] 95
  have lt1_0 := (bo1 K1).1
  go_upto_region 2 with fail
  refine bs_to Mz1 ?_
  clear c1_0_0 c1_0_1
  intro W2 K2
  clear Mz1 K1
  obtain ⟨c2_0_0, c2_0_1⟩ := (bo1 K2).c2
  obtain ⟨c2_1_0, c2_1_1⟩ := (bo2 K2).c2
  go_wp2_with fail
  refine (SA.out _).mono ?_
  rintro e W3 ⟨rfl, hb⟩
  have K3 := bsb K2 hb
  clear c2_0_0 c2_0_1 c2_1_0 c2_1_1
  clear hb K2
  obtain ⟨c3_0_0, c3_0_1⟩ := (bo1 K3).c2
  obtain ⟨c3_1_0, c3_1_1⟩ := (bo2 K3).c2
  have Mz3 := bsn K3 [.int .i64 I, .int .i64 U] 36
  have lt3_0 := (bo1 K3).1
  have lt3_1 := (bo2 K3).1
  go_upto_region 3 with fail
  refine bs_to Mz3 ?_
  clear c3_0_0 c3_0_1 c3_1_0 c3_1_1
  intro W4 K4
  clear Mz3 K3
  obtain ⟨c4_0_0, c4_0_1⟩ := (bo1 K4).c2
  obtain ⟨c4_1_0, c4_1_1⟩ := (bo2 K4).c2
  obtain ⟨c4_2_0, c4_2_1⟩ := (bo3 K4).c2
  obtain ⟨z4_2_0, z4_2_1⟩ := (bo3 K4).f2
  have XF : Hid (Bx (W4.setCells (w.heap.size) 0 [.int .i64 I, .int .i64 U]) (w.heap.size) [.int .i64 I, .int .i64 U]) := (K4.out.at (w.heap.size) [.int .i64 0, .int .i64 0] (by simp)).setAll _ rfl
  have BF : Hid (Below w.heap.size w (W4.setCells (w.heap.size) 0 [.int .i64 I, .int .i64 U])) := below_setCells (by omega) _ _ _ K4.out.1
  have y0 := XF.out.c 0 rfl
  have y1 := XF.out.c 1 rfl
  simp only [World.setCells, Nat.zero_add] at y0 y1
  clear XF
  go_wp2
  exact bodyPost_ret (v := .agg #[.int .i64 I, .int .i64 U]) (by simp [results, Tryz.results22, go_sem, y0, y1]) rfl ⟨rfl, BF.out⟩

set_option maxRecDepth 100000 in
set_option maxHeartbeats 4000000 in
theorem sts_no0 (i u bi bu j M D U m : Int)
    (MO : Hid (∀ w : World, Calls Tryz.prog 15 #[.int .i64 m] w fun r' w' => r' = .returned (.bool false) ∧ w' = w))
    (w : World) (hL : Hid (∀ W : World, Below w.heap.size w W → Cvl.Lens W)) :
    Calls Tryz.prog 12 #[.agg #[.int .i64 i, .int .i64 u], .agg #[.int .i64 bi, .int .i64 bu], .agg #[.int .i64 j, .int .i64 M, .int .i64 D, .int .i64 U], .int .i64 m] w fun r' w' => r' = .returned (.tuple #[.slice none 0 0, .int .i64 1]) ∧ Below w.heap.size w w' := by
  have K0 : Hid (BS w [(w.heap.size + 2, [.int .i64 j, .int .i64 M, .int .i64 D, .int .i64 U]), (w.heap.size + 1, [.int .i64 bi, .int .i64 bu]), (w.heap.size, [.int .i64 i, .int .i64 u])] (((w.alloc (.cells #[.int .i64 i, .int .i64 u] 36)).alloc (.cells #[.int .i64 bi, .int .i64 bu] 36)).alloc (.cells #[.int .i64 j, .int .i64 M, .int .i64 D, .int .i64 U] 38))) := ((((BS.start w).new [.int .i64 i, .int .i64 u] 36 rfl).new [.int .i64 bi, .int .i64 bu] 36 (by simp)).new [.int .i64 j, .int .i64 M, .int .i64 D, .int .i64 U] 38 (by simp))
  go_enter Tryz.func12, Tryz.ntmps12
  go_wp2_with fail
  refine (MO.out _).mono ?_
  rintro e W1 ⟨rfl, rfl⟩
  go_wp2_with fail
  go_ret2
  exact ⟨rfl, K0.out.1⟩

set_option maxRecDepth 100000 in
set_option maxHeartbeats 4000000 in
theorem sts_no1 (i u bi bu j M D U m : Int)
    (MO : Hid (∀ w : World, Calls Tryz.prog 15 #[.int .i64 m] w fun r' w' => r' = .returned (.bool true) ∧ w' = w))
    (R1 : Hid (∀ w : World, Cvl.Lens w → Calls Tryz.prog 17 #[.agg #[.int .i64 i, .int .i64 u]] w fun r' w' => r' = .returned (.bool false) ∧ Below w.heap.size w w'))
    (w : World) (hL : Hid (∀ W : World, Below w.heap.size w W → Cvl.Lens W)) :
    Calls Tryz.prog 12 #[.agg #[.int .i64 i, .int .i64 u], .agg #[.int .i64 bi, .int .i64 bu], .agg #[.int .i64 j, .int .i64 M, .int .i64 D, .int .i64 U], .int .i64 m] w fun r' w' => r' = .returned (.tuple #[.slice none 0 0, .int .i64 1]) ∧ Below w.heap.size w w' := by
  have K0 : Hid (BS w [(w.heap.size + 2, [.int .i64 j, .int .i64 M, .int .i64 D, .int .i64 U]), (w.heap.size + 1, [.int .i64 bi, .int .i64 bu]), (w.heap.size, [.int .i64 i, .int .i64 u])] (((w.alloc (.cells #[.int .i64 i, .int .i64 u] 36)).alloc (.cells #[.int .i64 bi, .int .i64 bu] 36)).alloc (.cells #[.int .i64 j, .int .i64 M, .int .i64 D, .int .i64 U] 38))) := ((((BS.start w).new [.int .i64 i, .int .i64 u] 36 rfl).new [.int .i64 bi, .int .i64 bu] 36 (by simp)).new [.int .i64 j, .int .i64 M, .int .i64 D, .int .i64 U] 38 (by simp))
  go_enter Tryz.func12, Tryz.ntmps12
  go_wp2_with fail
  refine (MO.out _).mono ?_
  rintro e W1 ⟨rfl, rfl⟩
  go_wp2_with fail
  refine (R1.out _ (hL.out _ K0.out.1)).mono ?_
  rintro e W2 ⟨rfl, hb⟩
  have K2 := bsb K0 hb
  clear hb K0
  obtain ⟨c2_0_0, c2_0_1, c2_0_2, c2_0_3⟩ := (bo1 K2).c4
  obtain ⟨c2_1_0, c2_1_1⟩ := (bo2 K2).c2
  obtain ⟨c2_2_0, c2_2_1⟩ := (bo3 K2).c2
  go_wp2
  go_ret2
  exact ⟨rfl, K2.out.1⟩

set_option maxRecDepth 100000 in
set_option maxHeartbeats 4000000 in
theorem sts_no2 (i u bi bu j M D U m : Int)
    (MO : Hid (∀ w : World, Calls Tryz.prog 15 #[.int .i64 m] w fun r' w' => r' = .returned (.bool true) ∧ w' = w))
    (R1 : Hid (∀ w : World, Cvl.Lens w → Calls Tryz.prog 17 #[.agg #[.int .i64 i, .int .i64 u]] w fun r' w' => r' = .returned (.bool true) ∧ Below w.heap.size w w'))
    (R2 : Hid (∀ w : World, Cvl.Lens w → Calls Tryz.prog 17 #[.agg #[.int .i64 bi, .int .i64 bu]] w fun r' w' => r' = .returned (.bool false) ∧ Below w.heap.size w w'))
    (w : World) (hL : Hid (∀ W : World, Below w.heap.size w W → Cvl.Lens W)) :
    Calls Tryz.prog 12 #[.agg #[.int .i64 i, .int .i64 u], .agg #[.int .i64 bi, .int .i64 bu], .agg #[.int .i64 j, .int .i64 M, .int .i64 D, .int .i64 U], .int .i64 m] w fun r' w' => r' = .returned (.tuple #[.slice none 0 0, .int .i64 1]) ∧ Below w.heap.size w w' := by
  have K0 : Hid (BS w [(w.heap.size + 2, [.int .i64 j, .int .i64 M, .int .i64 D, .int .i64 U]), (w.heap.size + 1, [.int .i64 bi, .int .i64 bu]), (w.heap.size, [.int .i64 i, .int .i64 u])] (((w.alloc (.cells #[.int .i64 i, .int .i64 u] 36)).alloc (.cells #[.int .i64 bi, .int .i64 bu] 36)).alloc (.cells #[.int .i64 j, .int .i64 M, .int .i64 D, .int .i64 U] 38))) := ((((BS.start w).new [.int .i64 i, .int .i64 u] 36 rfl).new [.int .i64 bi, .int .i64 bu] 36 (by simp)).new [.int .i64 j, .int .i64 M, .int .i64 D, .int .i64 U] 38 (by simp))
  go_enter Tryz.func12, Tryz.ntmps12
  go_wp2_with fail
  refine (MO.out _).mono ?_
  rintro e W1 ⟨rfl, rfl⟩
  go_wp2_with fail
  refine (R1.out _ (hL.out _ K0.out.1)).mono ?_
  rintro e W2 ⟨rfl, hb⟩
  have K2 := bsb K0 hb
  clear hb K0
  obtain ⟨c2_0_0, c2_0_1, c2_0_2, c2_0_3⟩ := (bo1 K2).c4
  obtain ⟨c2_1_0, c2_1_1⟩ := (bo2 K2).c2
  obtain ⟨c2_2_0, c2_2_1⟩ := (bo3 K2).c2
  go_wp2_with fail
  refine (R2.out _ (hL.out _ K2.out.1)).mono ?_
  rintro e W3 ⟨rfl, hb⟩
  have K3 := bsb K2 hb
  clear c2_0_0 c2_0_1 c2_0_2 c2_0_3 c2_1_0 c2_1_1 c2_2_0 c2_2_1
  clear hb K2
  obtain ⟨c3_0_0, c3_0_1, c3_0_2, c3_0_3⟩ := (bo1 K3).c4
  obtain ⟨c3_1_0, c3_1_1⟩ := (bo2 K3).c2
  obtain ⟨c3_2_0, c3_2_1⟩ := (bo3 K3).c2
  go_wp2
  go_ret2
  exact ⟨rfl, K3.out.1⟩

set_option maxRecDepth 100000 in
set_option maxHeartbeats 4000000 in
theorem sts_run (i u bi bu j M D U m : Int) (E : Int) (n : Nat) (cs : List Value)
    (MO : Hid (∀ w : World, Calls Tryz.prog 15 #[.int .i64 m] w fun r' w' => r' = .returned (.bool true) ∧ w' = w))
    (R1 : Hid (∀ w : World, Cvl.Lens w → Calls Tryz.prog 17 #[.agg #[.int .i64 i, .int .i64 u]] w fun r' w' => r' = .returned (.bool true) ∧ Below w.heap.size w w'))
    (R2 : Hid (∀ w : World, Cvl.Lens w → Calls Tryz.prog 17 #[.agg #[.int .i64 bi, .int .i64 bu]] w fun r' w' => r' = .returned (.bool true) ∧ Below w.heap.size w w'))
    (R3 : Hid (∀ w : World, Calls Tryz.prog 18 #[.agg #[.int .i64 j, .int .i64 M, .int .i64 D, .int .i64 U]] w fun r' w' => r' = .returned (.bool true) ∧ Below w.heap.size w w'))
    (FO : Hid (∀ w : World, Cvl.Lens w → Calls Tryz.prog 19 #[.agg #[.int .i64 i, .int .i64 u], .agg #[.int .i64 bi, .int .i64 bu], .agg #[.int .i64 j, .int .i64 M, .int .i64 D, .int .i64 U], .int .i64 m, .func (.func 31) #[.agg #[.int .i64 j, .int .i64 M, .int .i64 D, .int .i64 U]] #[]] w fun r' w' => ∃ v, r' = .returned (.tuple #[v, .int .i64 E]) ∧ Below w.heap.size w w' ∧ w'.ownsRow w.heap.size 36 2 v n cs))
    (w : World) (hL : Hid (∀ W : World, Below w.heap.size w W → Cvl.Lens W)) :
    Calls Tryz.prog 12 #[.agg #[.int .i64 i, .int .i64 u], .agg #[.int .i64 bi, .int .i64 bu], .agg #[.int .i64 j, .int .i64 M, .int .i64 D, .int .i64 U], .int .i64 m] w fun r' w' => ∃ v, r' = .returned (.tuple #[v, .int .i64 E]) ∧ Below w.heap.size w w' ∧ w'.ownsRow w.heap.size 36 2 v n cs := by
  have K0 : Hid (BS w [(w.heap.size + 2, [.int .i64 j, .int .i64 M, .int .i64 D, .int .i64 U]), (w.heap.size + 1, [.int .i64 bi, .int .i64 bu]), (w.heap.size, [.int .i64 i, .int .i64 u])] (((w.alloc (.cells #[.int .i64 i, .int .i64 u] 36)).alloc (.cells #[.int .i64 bi, .int .i64 bu] 36)).alloc (.cells #[.int .i64 j, .int .i64 M, .int .i64 D, .int .i64 U] 38))) := ((((BS.start w).new [.int .i64 i, .int .i64 u] 36 rfl).new [.int .i64 bi, .int .i64 bu] 36 (by simp)).new [.int .i64 j, .int .i64 M, .int .i64 D, .int .i64 U] 38 (by simp))
  go_enter Tryz.func12, Tryz.ntmps12
  go_wp2_with fail
  refine (MO.out _).mono ?_
  rintro e W1 ⟨rfl, rfl⟩
  go_wp2_with fail
  refine (R1.out _ (hL.out _ K0.out.1)).mono ?_
  rintro e W2 ⟨rfl, hb⟩
  have K2 := bsb K0 hb
  clear hb K0
  obtain ⟨c2_0_0, c2_0_1, c2_0_2, c2_0_3⟩ := (bo1 K2).c4
  obtain ⟨c2_1_0, c2_1_1⟩ := (bo2 K2).c2
  obtain ⟨c2_2_0, c2_2_1⟩ := (bo3 K2).c2
  go_wp2_with fail
  refine (R2.out _ (hL.out _ K2.out.1)).mono ?_
  rintro e W3 ⟨rfl, hb⟩
  have K3 := bsb K2 hb
  clear c2_0_0 c2_0_1 c2_0_2 c2_0_3 c2_1_0 c2_1_1 c2_2_0 c2_2_1
  clear hb K2
  obtain ⟨c3_0_0, c3_0_1, c3_0_2, c3_0_3⟩ := (bo1 K3).c4
  obtain ⟨c3_1_0, c3_1_1⟩ := (bo2 K3).c2
  obtain ⟨c3_2_0, c3_2_1⟩ := (bo3 K3).c2
  go_wp2_with fail
  refine (R3.out _).mono ?_
  rintro e W4 ⟨rfl, hb⟩
  have K4 := bsb K3 hb
  clear c3_0_0 c3_0_1 c3_0_2 c3_0_3 c3_1_0 c3_1_1 c3_2_0 c3_2_1
  clear hb K3
  obtain ⟨c4_0_0, c4_0_1, c4_0_2, c4_0_3⟩ := (bo1 K4).c4
  obtain ⟨c4_1_0, c4_1_1⟩ := (bo2 K4).c2
  obtain ⟨c4_2_0, c4_2_1⟩ := (bo3 K4).c2
  go_wp2_with fail
  refine (FO.out _ (hL.out _ K4.out.1)).mono ?_
  rintro e W9 ⟨v, rfl, hb, ho⟩
  have K9 := bsb K4 hb
  have HO9 : Hid (W9.ownsRow w.heap.size 36 2 v n cs) := own_mono ho K4.out.1.size
  clear c4_0_0 c4_0_1 c4_0_2 c4_0_3 c4_1_0 c4_1_1 c4_2_0 c4_2_1
  clear hb ho K4
  go_wp2_with fail
  exact bodyPost_ret (v := .tuple #[v, .int .i64 E]) (by simp [results, Tryz.results12, go_sem]) rfl ⟨_, rfl, K9.out.1, HO9.out⟩


end Go.Proofs.YtpdmndlpgjjopaaGreatDoor
