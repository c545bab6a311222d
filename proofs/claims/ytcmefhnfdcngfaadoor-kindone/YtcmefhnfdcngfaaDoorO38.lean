import Derived.Test.YtcmefhnfdcngfaaDoorO11
import Derived.Test.YtcmefhnfdcngfaaDoorO37
/- KindOne: of no operation and kinds there are two rows: what comes of it is one kind. -/
namespace Go.Proofs.YtcmefhnfdcngfaaDoor
open Go.RowKit
set_option linter.unusedVariables false

set_option maxRecDepth 100000 in
set_option maxHeartbeats 4000000 in
theorem one_o1 (a b : Int) (h1 : a < 0) (RT : Hid (∀ V : World, Calls Tryd.prog 15 #[] V fun e w' => e = .returned (.slice (some ⟨V.heap.size + 90, 0, none⟩) 90 90) ∧ TB V w')) (w : World) (hG : G23 w) :
    Calls Tryd.prog 4 #[.int .i64 a, .int .i64 b] w fun e w' => e = .returned (.bool true) ∧ Below w.heap.size w w' := by
  have HG : Hid (G23 w) := hG
  clear hG
  go_enter Tryd.func4, Tryd.ntmps4
  go_wp2_with fail
  refine (RT.out w).mono ?_
  rintro e W ⟨rfl, hT⟩
  have HT : Hid (TB w W) := hT
  clear hT RT
  go_wp2_with fail
  refine (known23_any _ (HG.out.below HT.out.low)).mono ?_
  rintro e U ⟨rfl, hb⟩
  have HF : Hid (Below w.heap.size w U) := HT.out.low.trans (hb.mono HT.out.low.size)
  clear hb HT
  go_wp2
  go_ret
  exact ⟨rfl, HF.out⟩

set_option maxRecDepth 100000 in
set_option maxHeartbeats 4000000 in
theorem one_o2 (a b : Int) (h1 : ¬ a < 0) (h2 : b < 0) (RT : Hid (∀ V : World, Calls Tryd.prog 15 #[] V fun e w' => e = .returned (.slice (some ⟨V.heap.size + 90, 0, none⟩) 90 90) ∧ TB V w')) (w : World) (hG : G23 w) :
    Calls Tryd.prog 4 #[.int .i64 a, .int .i64 b] w fun e w' => e = .returned (.bool true) ∧ Below w.heap.size w w' := by
  have HG : Hid (G23 w) := hG
  clear hG
  go_enter Tryd.func4, Tryd.ntmps4
  go_wp2_with fail
  refine (RT.out w).mono ?_
  rintro e W ⟨rfl, hT⟩
  have HT : Hid (TB w W) := hT
  clear hT RT
  go_wp2_with fail
  refine (known23_any _ (HG.out.below HT.out.low)).mono ?_
  rintro e U ⟨rfl, hb⟩
  have HF : Hid (Below w.heap.size w U) := HT.out.low.trans (hb.mono HT.out.low.size)
  clear hb HT
  go_wp2
  go_ret
  exact ⟨rfl, HF.out⟩

set_option maxRecDepth 100000 in
set_option maxHeartbeats 4000000 in
theorem one_o3 (a b : Int) (h1 : ¬ a < 0) (h2 : ¬ b < 0) (h3 : 90 ≤ a) (RT : Hid (∀ V : World, Calls Tryd.prog 15 #[] V fun e w' => e = .returned (.slice (some ⟨V.heap.size + 90, 0, none⟩) 90 90) ∧ TB V w')) (w : World) (hG : G23 w) :
    Calls Tryd.prog 4 #[.int .i64 a, .int .i64 b] w fun e w' => e = .returned (.bool true) ∧ Below w.heap.size w w' := by
  have HG : Hid (G23 w) := hG
  clear hG
  go_enter Tryd.func4, Tryd.ntmps4
  go_wp2_with fail
  refine (RT.out w).mono ?_
  rintro e W ⟨rfl, hT⟩
  have HT : Hid (TB w W) := hT
  clear hT RT
  go_wp2_with fail
  refine (known23_any _ (HG.out.below HT.out.low)).mono ?_
  rintro e U ⟨rfl, hb⟩
  have HF : Hid (Below w.heap.size w U) := HT.out.low.trans (hb.mono HT.out.low.size)
  clear hb HT
  go_wp2
  go_ret
  exact ⟨rfl, HF.out⟩

set_option maxRecDepth 100000 in
set_option maxHeartbeats 4000000 in
theorem one_o4 (a b : Int) (h1 : ¬ a < 0) (h2 : ¬ b < 0) (h3 : ¬ 90 ≤ a) (h4 : 90 ≤ b) (RT : Hid (∀ V : World, Calls Tryd.prog 15 #[] V fun e w' => e = .returned (.slice (some ⟨V.heap.size + 90, 0, none⟩) 90 90) ∧ TB V w')) (w : World) (hG : G23 w) :
    Calls Tryd.prog 4 #[.int .i64 a, .int .i64 b] w fun e w' => e = .returned (.bool true) ∧ Below w.heap.size w w' := by
  have HG : Hid (G23 w) := hG
  clear hG
  go_enter Tryd.func4, Tryd.ntmps4
  go_wp2_with fail
  refine (RT.out w).mono ?_
  rintro e W ⟨rfl, hT⟩
  have HT : Hid (TB w W) := hT
  clear hT RT
  go_wp2_with fail
  refine (known23_any _ (HG.out.below HT.out.low)).mono ?_
  rintro e U ⟨rfl, hb⟩
  have HF : Hid (Below w.heap.size w U) := HT.out.low.trans (hb.mono HT.out.low.size)
  clear hb HT
  go_wp2
  go_ret
  exact ⟨rfl, HF.out⟩

set_option maxRecDepth 100000 in
set_option maxHeartbeats 4000000 in
theorem one_o5 (a : Int) (h1 : ¬ a < 0) (h3 : ¬ 90 ≤ a) (RT : Hid (∀ V : World, Calls Tryd.prog 15 #[] V fun e w' => e = .returned (.slice (some ⟨V.heap.size + 90, 0, none⟩) 90 90) ∧ TB V w')) (w : World) (hG : G23 w) :
    Calls Tryd.prog 4 #[.int .i64 a, .int .i64 a] w fun e w' => e = .returned (.bool true) ∧ Below w.heap.size w w' := by
  have HG : Hid (G23 w) := hG
  clear hG
  go_enter Tryd.func4, Tryd.ntmps4
  go_wp2_with fail
  refine (RT.out w).mono ?_
  rintro e W ⟨rfl, hT⟩
  have HT : Hid (TB w W) := hT
  clear hT RT
  go_wp2_with fail
  refine (known23_any _ (HG.out.below HT.out.low)).mono ?_
  rintro e U ⟨rfl, hb⟩
  have HF : Hid (Below w.heap.size w U) := HT.out.low.trans (hb.mono HT.out.low.size)
  clear hb HT
  go_wp2
  go_ret
  exact ⟨rfl, HF.out⟩

theorem gen_exK {Q : Exit → Act → World → Prop} {e : Exit} {a : Act} {W : World} (P : World → Prop) (h : P W) (k : ∀ V, P V → Q e a V) : Q e a W := k W h
theorem tb_drewN {w W : World} (h : TB w W) (n : Nat) : TB w (W.drewN n) := ⟨bl_drewN h.low n, h.hi, h.tab⟩
theorem tb_drew {w W : World} (h : TB w W) : TB w W.drew := ⟨h.low.drew, h.hi, h.tab⟩

set_option maxRecDepth 100000 in
set_option maxHeartbeats 4000000 in
theorem one_ops {i j : Nat} {O O2 : ByteArray} {A A2 : List Int} {T T2 : Int} (hx : rtb[i]? = some (O, A, T)) (hy : rtb[j]? = some (O2, A2, T2)) (hij : i ≠ j) (hO : O ≠ O2) (RT : Hid (∀ V : World, Calls Tryd.prog 15 #[] V fun e w' => e = .returned (.slice (some ⟨V.heap.size + 90, 0, none⟩) 90 90) ∧ TB V w')) (w : World) (hG : G23 w) :
    Calls Tryd.prog 4 #[.int .i64 (i : Int), .int .i64 (j : Int)] w fun e w' => e = .returned (.bool true) ∧ Below w.heap.size w w' := by
  have hi := (List.getElem?_eq_some_iff.1 hx).1
  have hj := (List.getElem?_eq_some_iff.1 hy).1
  rw [rtb_len] at hi hj
  have hiI : (i : Int) < 90 := by omega
  have hjI : (j : Int) < 90 := by omega
  have hi0 : (0 : Int) ≤ (i : Int) := by omega
  have hj0 : (0 : Int) ≤ (j : Int) := by omega
  have hijI : ((i : Int) == (j : Int)) = false := by simp; omega
  obtain ⟨hfin, hA1, hA2⟩ := rtb_got hx
  simp only at hfin hA1 hA2
  have HFi : Hid (∀ V : World, TB w V → Calls Tryd.prog 6 #[.string O, .slice (some ⟨w.heap.size + i, 0, none⟩) A.length A.length] V fun e w' => e = .returned (.tuple #[.int .i64 T, .bool (decide (O = srs)), .bool true]) ∧ Below V.heap.size V w') := fun V hV => by
    have q := find_any O A (.slice (some ⟨w.heap.size + i, 0, none⟩) A.length A.length) V (hG.below hV.low).2 ⟨_, _, rfl, Nat.le_refl _, by unfold maxLen; omega, fun m k hk => ⟨_, _, rfl, by have := hV.hi; omega, by rw [Nat.zero_add]; exact (hV.tab i _ hx).2.2.2 m k hk⟩⟩
    rw [hfin] at q
    exact q
  clear hfin
  have HG : Hid (G23 w) := hG
  clear hG
  go_enter Tryd.func4, Tryd.ntmps4
  go_wp2_with fail
  refine (RT.out w).mono ?_
  rintro e W ⟨rfl, hT⟩
  have HT : Hid (TB w W) := hT
  clear hT RT
  obtain ⟨y0, y1, -, -⟩ := HT.out.tab i _ hx
  obtain ⟨z0, z1, -, -⟩ := HT.out.tab j _ hy
  have hh := HT.out.hi
  simp only at y0 y1 z0 z1
  have g0 : (O.toList == O2.toList) = false := by rw [toList_eq]; exact decide_eq_false hO
  go_wp2_with fail
  go_quiet (fail)
  refine gen_exK (TB w) (tb_drewN HT.out nq) ?_
  intro W3 hT3
  have HT3 : Hid (TB w W3) := hT3
  clear hT3
  clear HT y0 y1 z0 z1 hh
  go_upto_region 12 with fail
  refine wp_region_held_drew (S := TB w) (by kernel_rfl) (tb_drew HT3.out) (fun hHeld => ?_)
  refine wpAnyH_take (i := 0) (v := ?_) (oi := { dst := some 94, op := _, type := _, pos := _, after := _, guard := none }) rfl (by kernel_rfl) (by kernel_rfl) (by kernel_rfl) (fun _ _ _ h => h) (Or.inl ⟨by kernel_rfl, ?_⟩) (by assumption) ?_
  case refine_2 => (intro w9 hSw; clear hSw; go_simp; try with_reducible rfl)
  simp only [Act.put, List.setIfInBounds_toArray, List.set_cons_zero, List.set_cons_succ]
  refine wpAnyH_take (i := 1) (v := ?_) (oi := { dst := some 95, op := _, type := _, pos := _, after := _, guard := none }) rfl (by kernel_rfl) (by kernel_rfl) (by kernel_rfl) (fun _ _ _ h => h) (Or.inl ⟨by kernel_rfl, ?_⟩) (by assumption) ?_
  case refine_2 => (intro w9 hSw; clear hSw; go_simp; try with_reducible rfl)
  simp only [Act.put, List.setIfInBounds_toArray, List.set_cons_zero, List.set_cons_succ]
  refine wpAnyH_take (i := 2) (v := ?_) (oi := { dst := some 96, op := _, type := _, pos := _, after := _, guard := none }) rfl (by kernel_rfl) (by kernel_rfl) (by kernel_rfl) (fun _ _ _ h => h) (Or.inl ⟨by kernel_rfl, ?_⟩) (by assumption) ?_
  case refine_2 => (intro w9 hSw; clear hSw; go_simp; try with_reducible rfl)
  simp only [Act.put, List.setIfInBounds_toArray, List.set_cons_zero, List.set_cons_succ]
  refine wpAnyH_take (i := 3) (v := ?_) (oi := { dst := some 97, op := _, type := _, pos := _, after := _, guard := none }) rfl (by kernel_rfl) (by kernel_rfl) (by kernel_rfl) (fun _ _ _ h => h) (Or.inl ⟨by kernel_rfl, ?_⟩) (by assumption) ?_
  case refine_2 => (intro w9 hSw; clear hSw; go_simp; try with_reducible rfl)
  simp only [Act.put, List.setIfInBounds_toArray, List.set_cons_zero, List.set_cons_succ]
  refine wpAnyH_take (i := 4) (v := ?_) (oi := { dst := some 98, op := _, type := _, pos := _, after := _, guard := none }) rfl (by kernel_rfl) (by kernel_rfl) (by kernel_rfl) (fun _ _ _ h => h) (Or.inl ⟨by kernel_rfl, ?_⟩) (by assumption) ?_
  case refine_2 => (intro w9 hSw; obtain ⟨m0, m1, -, -⟩ := hSw.tab i _ hx; have mh := hSw.hi; simp only at m0 m1; clear hSw; go_simp; try with_reducible rfl)
  simp only [Act.put, List.setIfInBounds_toArray, List.set_cons_zero, List.set_cons_succ]
  refine wpAnyH_take (i := 5) (v := ?_) (oi := { dst := some 99, op := _, type := _, pos := _, after := _, guard := none }) rfl (by kernel_rfl) (by kernel_rfl) (by kernel_rfl) (fun _ _ _ h => h) (Or.inl ⟨by kernel_rfl, ?_⟩) (by assumption) ?_
  case refine_2 => (intro w9 hSw; clear hSw; go_simp; try with_reducible rfl)
  simp only [Act.put, List.setIfInBounds_toArray, List.set_cons_zero, List.set_cons_succ]
  refine wpAnyH_take (i := 6) (v := ?_) (oi := { dst := some 100, op := _, type := _, pos := _, after := _, guard := none }) rfl (by kernel_rfl) (by kernel_rfl) (by kernel_rfl) (fun _ _ _ h => h) (Or.inl ⟨by kernel_rfl, ?_⟩) (by assumption) ?_
  case refine_2 => (intro w9 hSw; clear hSw; go_simp; try with_reducible rfl)
  simp only [Act.put, List.setIfInBounds_toArray, List.set_cons_zero, List.set_cons_succ]
  refine wpAnyH_take (i := 7) (v := ?_) (oi := { dst := some 101, op := _, type := _, pos := _, after := _, guard := none }) rfl (by kernel_rfl) (by kernel_rfl) (by kernel_rfl) (fun _ _ _ h => h) (Or.inl ⟨by kernel_rfl, ?_⟩) (by assumption) ?_
  case refine_2 => (intro w9 hSw; clear hSw; go_simp; try with_reducible rfl)
  simp only [Act.put, List.setIfInBounds_toArray, List.set_cons_zero, List.set_cons_succ]
  refine wpAnyH_take (i := 8) (v := ?_) (oi := { dst := some 102, op := _, type := _, pos := _, after := _, guard := none }) rfl (by kernel_rfl) (by kernel_rfl) (by kernel_rfl) (fun _ _ _ h => h) (Or.inl ⟨by kernel_rfl, ?_⟩) (by assumption) ?_
  case refine_2 => (intro w9 hSw; clear hSw; go_simp; try with_reducible rfl)
  simp only [Act.put, List.setIfInBounds_toArray, List.set_cons_zero, List.set_cons_succ]
  refine wpAnyH_take (i := 9) (v := ?_) (oi := { dst := some 103, op := _, type := _, pos := _, after := _, guard := none }) rfl (by kernel_rfl) (by kernel_rfl) (by kernel_rfl) (fun _ _ _ h => h) (Or.inl ⟨by kernel_rfl, ?_⟩) (by assumption) ?_
  case refine_2 => (intro w9 hSw; obtain ⟨m0, m1, -, -⟩ := hSw.tab i _ hx; have mh := hSw.hi; simp only at m0 m1; clear hSw; go_simp; try with_reducible rfl)
  simp only [Act.put, List.setIfInBounds_toArray, List.set_cons_zero, List.set_cons_succ]
  refine wpAnyH_ready (rs := [10]) (by kernel_rfl) (by simp) (AllReadyH.cons (o := { dst := some 104, op := _, type := _, pos := _, after := _, guard := none }) rfl (fun K hK => ?_) AllReadyH.nil)
  go_simp
  refine (HFi.out _ hHeld).mono ?_
  rintro e v1 ⟨rfl, hb1⟩
  refine hK.out _ _ (hHeld.below hb1) (fun hHeld => ?_)
  clear hK K hb1
  refine wpAnyH_take (i := 11) (v := ?_) (oi := { dst := some 93, op := _, type := _, pos := _, after := _, guard := none }) rfl (by kernel_rfl) (by kernel_rfl) (by kernel_rfl) (fun _ _ _ h => h) (Or.inl ⟨by kernel_rfl, ?_⟩) (by assumption) ?_
  case refine_2 => (intro w9 hSw; clear hSw; go_simp; try with_reducible rfl)
  simp only [Act.put, List.setIfInBounds_toArray, List.set_cons_zero, List.set_cons_succ]
  refine wpAnyH_take (i := 12) (v := ?_) (oi := { dst := some 105, op := _, type := _, pos := _, after := _, guard := none }) rfl (by kernel_rfl) (by kernel_rfl) (by kernel_rfl) (fun _ _ _ h => h) (Or.inl ⟨by kernel_rfl, ?_⟩) (by assumption) ?_
  case refine_2 => (intro w9 hSw; clear hSw; go_simp; try with_reducible rfl)
  simp only [Act.put, List.setIfInBounds_toArray, List.set_cons_zero, List.set_cons_succ]
  refine wpAnyH_take (i := 13) (v := ?_) (oi := { dst := some 106, op := _, type := _, pos := _, after := _, guard := none }) rfl (by kernel_rfl) (by kernel_rfl) (by kernel_rfl) (fun _ _ _ h => h) (Or.inl ⟨by kernel_rfl, ?_⟩) (by assumption) ?_
  case refine_2 => (intro w9 hSw; clear hSw; go_simp; try with_reducible rfl)
  simp only [Act.put, List.setIfInBounds_toArray, List.set_cons_zero, List.set_cons_succ]
  refine wpAnyH_take (i := 14) (v := ?_) (oi := { dst := some 107, op := _, type := _, pos := _, after := _, guard := none }) rfl (by kernel_rfl) (by kernel_rfl) (by kernel_rfl) (fun _ _ _ h => h) (Or.inl ⟨by kernel_rfl, ?_⟩) (by assumption) ?_
  case refine_2 => (intro w9 hSw; clear hSw; go_simp; try with_reducible rfl)
  simp only [Act.put, List.setIfInBounds_toArray, List.set_cons_zero, List.set_cons_succ]
  refine wpAnyH_take (i := 15) (v := ?_) (oi := { dst := some 8, op := _, type := _, pos := _, after := _, guard := none }) rfl (by kernel_rfl) (by kernel_rfl) (by kernel_rfl) (fun _ _ _ h => h) (Or.inl ⟨by kernel_rfl, ?_⟩) (by assumption) ?_
  case refine_2 => (intro w9 hSw; clear hSw; go_simp; try with_reducible rfl)
  simp only [Act.put, List.setIfInBounds_toArray, List.set_cons_zero, List.set_cons_succ]
  refine wpAnyH_take (i := 16) (v := ?_) (oi := { dst := some 9, op := _, type := _, pos := _, after := _, guard := none }) rfl (by kernel_rfl) (by kernel_rfl) (by kernel_rfl) (fun _ _ _ h => h) (Or.inl ⟨by kernel_rfl, ?_⟩) (by assumption) ?_
  case refine_2 => (intro w9 hSw; clear hSw; go_simp; try with_reducible rfl)
  simp only [Act.put, List.setIfInBounds_toArray, List.set_cons_zero, List.set_cons_succ]
  refine wpAnyH_take (i := 17) (v := ?_) (oi := { dst := some 10, op := _, type := _, pos := _, after := _, guard := none }) rfl (by kernel_rfl) (by kernel_rfl) (by kernel_rfl) (fun _ _ _ h => h) (Or.inl ⟨by kernel_rfl, ?_⟩) (by assumption) ?_
  case refine_2 => (intro w9 hSw; clear hSw; go_simp; try with_reducible rfl)
  simp only [Act.put, List.setIfInBounds_toArray, List.set_cons_zero, List.set_cons_succ]
  refine wpAnyH_done (by kernel_rfl) ?_ _
  have HT5 : Hid (TB w _) := hHeld
  clear hHeld
  obtain ⟨-, -, n2, -⟩ := HT5.out.tab i _ hx
  have nh := HT5.out.hi
  simp only at n2
  go_wp2_with fail
  refine (known23_any _ (HG.out.below HT5.out.low)).mono ?_
  rintro e U ⟨rfl, hb⟩
  have HF : Hid (Below w.heap.size w U) := HT5.out.low.trans (hb.mono HT5.out.low.size)
  clear hb HT5
  go_wp2
  go_ret
  exact ⟨rfl, HF.out⟩

set_option maxRecDepth 100000 in
set_option maxHeartbeats 4000000 in
theorem one_len {i j : Nat} {O : ByteArray} {A A2 : List Int} {T T2 : Int} (hx : rtb[i]? = some (O, A, T)) (hy : rtb[j]? = some (O, A2, T2)) (hij : i ≠ j) (hL : A.length ≠ A2.length) (RT : Hid (∀ V : World, Calls Tryd.prog 15 #[] V fun e w' => e = .returned (.slice (some ⟨V.heap.size + 90, 0, none⟩) 90 90) ∧ TB V w')) (w : World) (hG : G23 w) :
    Calls Tryd.prog 4 #[.int .i64 (i : Int), .int .i64 (j : Int)] w fun e w' => e = .returned (.bool true) ∧ Below w.heap.size w w' := by
  have hi := (List.getElem?_eq_some_iff.1 hx).1
  have hj := (List.getElem?_eq_some_iff.1 hy).1
  rw [rtb_len] at hi hj
  have hiI : (i : Int) < 90 := by omega
  have hjI : (j : Int) < 90 := by omega
  have hi0 : (0 : Int) ≤ (i : Int) := by omega
  have hj0 : (0 : Int) ≤ (j : Int) := by omega
  have hijI : ((i : Int) == (j : Int)) = false := by simp; omega
  obtain ⟨hfin, hA1, hA2⟩ := rtb_got hx
  simp only at hfin hA1 hA2
  have HFi : Hid (∀ V : World, TB w V → Calls Tryd.prog 6 #[.string O, .slice (some ⟨w.heap.size + i, 0, none⟩) A.length A.length] V fun e w' => e = .returned (.tuple #[.int .i64 T, .bool (decide (O = srs)), .bool true]) ∧ Below V.heap.size V w') := fun V hV => by
    have q := find_any O A (.slice (some ⟨w.heap.size + i, 0, none⟩) A.length A.length) V (hG.below hV.low).2 ⟨_, _, rfl, Nat.le_refl _, by unfold maxLen; omega, fun m k hk => ⟨_, _, rfl, by have := hV.hi; omega, by rw [Nat.zero_add]; exact (hV.tab i _ hx).2.2.2 m k hk⟩⟩
    rw [hfin] at q
    exact q
  clear hfin
  have HG : Hid (G23 w) := hG
  clear hG
  go_enter Tryd.func4, Tryd.ntmps4
  go_wp2_with fail
  refine (RT.out w).mono ?_
  rintro e W ⟨rfl, hT⟩
  have HT : Hid (TB w W) := hT
  clear hT RT
  obtain ⟨y0, y1, -, -⟩ := HT.out.tab i _ hx
  obtain ⟨z0, z1, -, -⟩ := HT.out.tab j _ hy
  have hh := HT.out.hi
  simp only at y0 y1 z0 z1
  have g0 : ((A.length : Int) == (A2.length : Int)) = false := by simp; omega
  go_wp2_with fail
  go_quiet (fail)
  refine gen_exK (TB w) (tb_drewN HT.out nq) ?_
  intro W3 hT3
  have HT3 : Hid (TB w W3) := hT3
  clear hT3
  clear HT y0 y1 z0 z1 hh
  go_upto_region 12 with fail
  refine wp_region_held_drew (S := TB w) (by kernel_rfl) (tb_drew HT3.out) (fun hHeld => ?_)
  refine wpAnyH_take (i := 0) (v := ?_) (oi := { dst := some 94, op := _, type := _, pos := _, after := _, guard := none }) rfl (by kernel_rfl) (by kernel_rfl) (by kernel_rfl) (fun _ _ _ h => h) (Or.inl ⟨by kernel_rfl, ?_⟩) (by assumption) ?_
  case refine_2 => (intro w9 hSw; clear hSw; go_simp; try with_reducible rfl)
  simp only [Act.put, List.setIfInBounds_toArray, List.set_cons_zero, List.set_cons_succ]
  refine wpAnyH_take (i := 1) (v := ?_) (oi := { dst := some 95, op := _, type := _, pos := _, after := _, guard := none }) rfl (by kernel_rfl) (by kernel_rfl) (by kernel_rfl) (fun _ _ _ h => h) (Or.inl ⟨by kernel_rfl, ?_⟩) (by assumption) ?_
  case refine_2 => (intro w9 hSw; clear hSw; go_simp; try with_reducible rfl)
  simp only [Act.put, List.setIfInBounds_toArray, List.set_cons_zero, List.set_cons_succ]
  refine wpAnyH_take (i := 2) (v := ?_) (oi := { dst := some 96, op := _, type := _, pos := _, after := _, guard := none }) rfl (by kernel_rfl) (by kernel_rfl) (by kernel_rfl) (fun _ _ _ h => h) (Or.inl ⟨by kernel_rfl, ?_⟩) (by assumption) ?_
  case refine_2 => (intro w9 hSw; clear hSw; go_simp; try with_reducible rfl)
  simp only [Act.put, List.setIfInBounds_toArray, List.set_cons_zero, List.set_cons_succ]
  refine wpAnyH_take (i := 3) (v := ?_) (oi := { dst := some 97, op := _, type := _, pos := _, after := _, guard := none }) rfl (by kernel_rfl) (by kernel_rfl) (by kernel_rfl) (fun _ _ _ h => h) (Or.inl ⟨by kernel_rfl, ?_⟩) (by assumption) ?_
  case refine_2 => (intro w9 hSw; clear hSw; go_simp; try with_reducible rfl)
  simp only [Act.put, List.setIfInBounds_toArray, List.set_cons_zero, List.set_cons_succ]
  refine wpAnyH_take (i := 4) (v := ?_) (oi := { dst := some 98, op := _, type := _, pos := _, after := _, guard := none }) rfl (by kernel_rfl) (by kernel_rfl) (by kernel_rfl) (fun _ _ _ h => h) (Or.inl ⟨by kernel_rfl, ?_⟩) (by assumption) ?_
  case refine_2 => (intro w9 hSw; obtain ⟨m0, m1, -, -⟩ := hSw.tab i _ hx; have mh := hSw.hi; simp only at m0 m1; clear hSw; go_simp; try with_reducible rfl)
  simp only [Act.put, List.setIfInBounds_toArray, List.set_cons_zero, List.set_cons_succ]
  refine wpAnyH_take (i := 5) (v := ?_) (oi := { dst := some 99, op := _, type := _, pos := _, after := _, guard := none }) rfl (by kernel_rfl) (by kernel_rfl) (by kernel_rfl) (fun _ _ _ h => h) (Or.inl ⟨by kernel_rfl, ?_⟩) (by assumption) ?_
  case refine_2 => (intro w9 hSw; clear hSw; go_simp; try with_reducible rfl)
  simp only [Act.put, List.setIfInBounds_toArray, List.set_cons_zero, List.set_cons_succ]
  refine wpAnyH_take (i := 6) (v := ?_) (oi := { dst := some 100, op := _, type := _, pos := _, after := _, guard := none }) rfl (by kernel_rfl) (by kernel_rfl) (by kernel_rfl) (fun _ _ _ h => h) (Or.inl ⟨by kernel_rfl, ?_⟩) (by assumption) ?_
  case refine_2 => (intro w9 hSw; clear hSw; go_simp; try with_reducible rfl)
  simp only [Act.put, List.setIfInBounds_toArray, List.set_cons_zero, List.set_cons_succ]
  refine wpAnyH_take (i := 7) (v := ?_) (oi := { dst := some 101, op := _, type := _, pos := _, after := _, guard := none }) rfl (by kernel_rfl) (by kernel_rfl) (by kernel_rfl) (fun _ _ _ h => h) (Or.inl ⟨by kernel_rfl, ?_⟩) (by assumption) ?_
  case refine_2 => (intro w9 hSw; clear hSw; go_simp; try with_reducible rfl)
  simp only [Act.put, List.setIfInBounds_toArray, List.set_cons_zero, List.set_cons_succ]
  refine wpAnyH_take (i := 8) (v := ?_) (oi := { dst := some 102, op := _, type := _, pos := _, after := _, guard := none }) rfl (by kernel_rfl) (by kernel_rfl) (by kernel_rfl) (fun _ _ _ h => h) (Or.inl ⟨by kernel_rfl, ?_⟩) (by assumption) ?_
  case refine_2 => (intro w9 hSw; clear hSw; go_simp; try with_reducible rfl)
  simp only [Act.put, List.setIfInBounds_toArray, List.set_cons_zero, List.set_cons_succ]
  refine wpAnyH_take (i := 9) (v := ?_) (oi := { dst := some 103, op := _, type := _, pos := _, after := _, guard := none }) rfl (by kernel_rfl) (by kernel_rfl) (by kernel_rfl) (fun _ _ _ h => h) (Or.inl ⟨by kernel_rfl, ?_⟩) (by assumption) ?_
  case refine_2 => (intro w9 hSw; obtain ⟨m0, m1, -, -⟩ := hSw.tab i _ hx; have mh := hSw.hi; simp only at m0 m1; clear hSw; go_simp; try with_reducible rfl)
  simp only [Act.put, List.setIfInBounds_toArray, List.set_cons_zero, List.set_cons_succ]
  refine wpAnyH_ready (rs := [10]) (by kernel_rfl) (by simp) (AllReadyH.cons (o := { dst := some 104, op := _, type := _, pos := _, after := _, guard := none }) rfl (fun K hK => ?_) AllReadyH.nil)
  go_simp
  refine (HFi.out _ hHeld).mono ?_
  rintro e v1 ⟨rfl, hb1⟩
  refine hK.out _ _ (hHeld.below hb1) (fun hHeld => ?_)
  clear hK K hb1
  refine wpAnyH_take (i := 11) (v := ?_) (oi := { dst := some 93, op := _, type := _, pos := _, after := _, guard := none }) rfl (by kernel_rfl) (by kernel_rfl) (by kernel_rfl) (fun _ _ _ h => h) (Or.inl ⟨by kernel_rfl, ?_⟩) (by assumption) ?_
  case refine_2 => (intro w9 hSw; clear hSw; go_simp; try with_reducible rfl)
  simp only [Act.put, List.setIfInBounds_toArray, List.set_cons_zero, List.set_cons_succ]
  refine wpAnyH_take (i := 12) (v := ?_) (oi := { dst := some 105, op := _, type := _, pos := _, after := _, guard := none }) rfl (by kernel_rfl) (by kernel_rfl) (by kernel_rfl) (fun _ _ _ h => h) (Or.inl ⟨by kernel_rfl, ?_⟩) (by assumption) ?_
  case refine_2 => (intro w9 hSw; clear hSw; go_simp; try with_reducible rfl)
  simp only [Act.put, List.setIfInBounds_toArray, List.set_cons_zero, List.set_cons_succ]
  refine wpAnyH_take (i := 13) (v := ?_) (oi := { dst := some 106, op := _, type := _, pos := _, after := _, guard := none }) rfl (by kernel_rfl) (by kernel_rfl) (by kernel_rfl) (fun _ _ _ h => h) (Or.inl ⟨by kernel_rfl, ?_⟩) (by assumption) ?_
  case refine_2 => (intro w9 hSw; clear hSw; go_simp; try with_reducible rfl)
  simp only [Act.put, List.setIfInBounds_toArray, List.set_cons_zero, List.set_cons_succ]
  refine wpAnyH_take (i := 14) (v := ?_) (oi := { dst := some 107, op := _, type := _, pos := _, after := _, guard := none }) rfl (by kernel_rfl) (by kernel_rfl) (by kernel_rfl) (fun _ _ _ h => h) (Or.inl ⟨by kernel_rfl, ?_⟩) (by assumption) ?_
  case refine_2 => (intro w9 hSw; clear hSw; go_simp; try with_reducible rfl)
  simp only [Act.put, List.setIfInBounds_toArray, List.set_cons_zero, List.set_cons_succ]
  refine wpAnyH_take (i := 15) (v := ?_) (oi := { dst := some 8, op := _, type := _, pos := _, after := _, guard := none }) rfl (by kernel_rfl) (by kernel_rfl) (by kernel_rfl) (fun _ _ _ h => h) (Or.inl ⟨by kernel_rfl, ?_⟩) (by assumption) ?_
  case refine_2 => (intro w9 hSw; clear hSw; go_simp; try with_reducible rfl)
  simp only [Act.put, List.setIfInBounds_toArray, List.set_cons_zero, List.set_cons_succ]
  refine wpAnyH_take (i := 16) (v := ?_) (oi := { dst := some 9, op := _, type := _, pos := _, after := _, guard := none }) rfl (by kernel_rfl) (by kernel_rfl) (by kernel_rfl) (fun _ _ _ h => h) (Or.inl ⟨by kernel_rfl, ?_⟩) (by assumption) ?_
  case refine_2 => (intro w9 hSw; clear hSw; go_simp; try with_reducible rfl)
  simp only [Act.put, List.setIfInBounds_toArray, List.set_cons_zero, List.set_cons_succ]
  refine wpAnyH_take (i := 17) (v := ?_) (oi := { dst := some 10, op := _, type := _, pos := _, after := _, guard := none }) rfl (by kernel_rfl) (by kernel_rfl) (by kernel_rfl) (fun _ _ _ h => h) (Or.inl ⟨by kernel_rfl, ?_⟩) (by assumption) ?_
  case refine_2 => (intro w9 hSw; clear hSw; go_simp; try with_reducible rfl)
  simp only [Act.put, List.setIfInBounds_toArray, List.set_cons_zero, List.set_cons_succ]
  refine wpAnyH_done (by kernel_rfl) ?_ _
  have HT5 : Hid (TB w _) := hHeld
  clear hHeld
  obtain ⟨-, -, n2, -⟩ := HT5.out.tab i _ hx
  have nh := HT5.out.hi
  simp only at n2
  go_wp2_with fail
  refine (known23_any _ (HG.out.below HT5.out.low)).mono ?_
  rintro e U ⟨rfl, hb⟩
  have HF : Hid (Below w.heap.size w U) := HT5.out.low.trans (hb.mono HT5.out.low.size)
  clear hb HT5
  go_wp2
  go_ret
  exact ⟨rfl, HF.out⟩

end Go.Proofs.YtcmefhnfdcngfaaDoor
