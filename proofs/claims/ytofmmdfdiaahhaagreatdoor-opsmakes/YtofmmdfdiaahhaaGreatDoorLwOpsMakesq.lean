/- The walk of OpsMakes. -/
import Derived.Test.YtofmmdfdiaahhaaGreatDoorOpKq
import Derived.Deep.CutRange
import Derived.Deep.DeepCutAuto
namespace Go.Proofs.YtofmmdfdiaahhaaGreatDoor
open Go.RowKit
set_option linter.unusedVariables false

set_option maxRecDepth 100000 in
set_option maxHeartbeats 4000000 in
theorem number_run (s : ByteArray) (u n sc e : Int)
    (EX : Hid (∀ w : World, Cvl.Lens w → Calls Tryz.prog 17 #[.agg utL.toArray, .string s, .agg (v_st 0 u).toArray] w fun r' w' => r' = .returned (.tuple #[.agg #[.int .i64 n, .int .i64 sc], .int .i64 e]) ∧ Below w.heap.size w w'))
    (w : World) (hL : Hid (∀ W : World, Below w.heap.size w W → Cvl.Lens W)) :
    Calls Tryz.prog 14 #[.string s, .agg #[.int .i64 0, .int .i64 u]] w fun r' w' => r' = .returned (.int .i64 n) ∧ Below w.heap.size w w' := by
  have UT : Hid (∀ w : World, Calls Tryz.prog 18 #[] w fun e w' => e = .returned (.agg utL.toArray) ∧ Below w.heap.size w w') := utc_any
  have K0 : Hid (BS w [(w.heap.size, [.int .i64 0, .int .i64 u])] (w.alloc (.cells #[.int .i64 0, .int .i64 u] 23))) := ((BS.start w).new [.int .i64 0, .int .i64 u] 23 rfl)
  go_enter Tryz.func14, Tryz.ntmps14
  go_upto_region 1 with fail
  refine bs_to K0 ?_
  clear K0
  intro W0 K0
  go_cut [5, 6] (fun v0 v1 wx => ∃ nb, v0 = .pointer (some ⟨nb, 0, none⟩) ∧ v1 = .int .i64 e ∧ Hid (BS w ((nb, [.int .i64 n, .int .i64 sc]) :: [(w.heap.size, [.int .i64 0, .int .i64 u])]) wx ∧ (∀ x ∈ ([(w.heap.size, [.int .i64 0, .int .i64 u])] : List (Nat × List Value)), x.1 ≠ nb)))
  case first =>
    refine wp_region_held_drew (S := BS w [(w.heap.size, [.int .i64 0, .int .i64 u])]) (by kernel_rfl) K0.out.drew (fun hHeld => ?_)
    refine wpAnyH_take (i := 1) (v := ?_) (oi := { dst := some 9, op := _, type := _, pos := _, after := _, guard := none }) rfl (by kernel_rfl) (by kernel_rfl) (by kernel_rfl) (fun _ _ _ h => h) (Or.inl ⟨by kernel_rfl, ?_⟩) (by assumption) ?_
    case refine_2 => (intro w9 hSw; clear hSw; go_simp; try with_reducible rfl)
    simp only [Act.put, List.setIfInBounds_toArray, List.set_cons_zero, List.set_cons_succ]
    refine wpAnyH_take (i := 2) (v := ?_) (oi := { dst := some 10, op := _, type := _, pos := _, after := _, guard := none }) rfl (by kernel_rfl) (by kernel_rfl) (by kernel_rfl) (fun _ _ _ h => h) (Or.inl ⟨by kernel_rfl, ?_⟩) (by assumption) ?_
    case refine_2 => (intro w9 hSw; have l0_0 := (hSw.at (w.heap.size) [.int .i64 0, .int .i64 u] (by simp)).c 0 rfl; have l0_1 := (hSw.at (w.heap.size) [.int .i64 0, .int .i64 u] (by simp)).c 1 rfl; clear hSw; go_simp; try with_reducible rfl)
    simp only [Act.put, List.setIfInBounds_toArray, List.set_cons_zero, List.set_cons_succ]
    refine wpAnyH_take (i := 3) (v := ?_) (oi := { dst := some 11, op := _, type := _, pos := _, after := _, guard := none }) rfl (by kernel_rfl) (by kernel_rfl) (by kernel_rfl) (fun _ _ _ h => h) (Or.inl ⟨by kernel_rfl, ?_⟩) (by assumption) ?_
    case refine_2 => (intro w9 hSw; clear hSw; go_simp; try with_reducible rfl)
    simp only [Act.put, List.setIfInBounds_toArray, List.set_cons_zero, List.set_cons_succ]
    refine wpAnyH_ready (rs := [0, 8]) (by kernel_rfl) (by simp) (AllReadyH.cons (o := { dst := some 8, op := _, type := _, pos := _, after := _, guard := none }) rfl (fun K hK => ?_) (AllReadyH.cons (o := { dst := some 5, op := _, type := _, pos := _, after := _, guard := none }) rfl (fun K hK => ?_) AllReadyH.nil))
    ·
      go_simp
      refine (UT.out _).mono ?_
      rintro e v1 ⟨rfl, hb1⟩
      refine hK.out _ _ (hHeld.below hb1) (fun hHeld => ?_)
      try (have HN2 := HN.out.below hb1; clear HN; have HN : Hid (NB _ _ _ _ _) := HN2; clear HN2)
      clear hK K hb1
      refine wpAnyH_ready (rs := [4, 8]) (by kernel_rfl) (by simp) (AllReadyH.cons (o := { dst := some 12, op := _, type := _, pos := _, after := _, guard := none }) rfl (fun K hK => ?_) (AllReadyH.cons (o := { dst := some 5, op := _, type := _, pos := _, after := _, guard := none }) rfl (fun K hK => ?_) AllReadyH.nil))
      ·
        go_simp
        refine (EX.out _ (hL.out _ hHeld.1)).mono ?_
        rintro e v2 ⟨rfl, hb2⟩
        refine hK.out _ _ (hHeld.below hb2) (fun hHeld => ?_)
        try (have HN2 := HN.out.below hb2; clear HN; have HN : Hid (NB _ _ _ _ _) := HN2; clear HN2)
        clear hK K hb2
        refine wpAnyH_take (i := 5) (v := ?_) (oi := { dst := some 7, op := _, type := _, pos := _, after := _, guard := none }) rfl (by kernel_rfl) (by kernel_rfl) (by kernel_rfl) (fun _ _ _ h => h) (Or.inl ⟨by kernel_rfl, ?_⟩) (by assumption) ?_
        case refine_2 => (intro w9 hSw; clear hSw; go_simp; try with_reducible rfl)
        simp only [Act.put, List.setIfInBounds_toArray, List.set_cons_zero, List.set_cons_succ]
        refine wpAnyH_take (i := 6) (v := ?_) (oi := { dst := some 13, op := _, type := _, pos := _, after := _, guard := none }) rfl (by kernel_rfl) (by kernel_rfl) (by kernel_rfl) (fun _ _ _ h => h) (Or.inl ⟨by kernel_rfl, ?_⟩) (by assumption) ?_
        case refine_2 => (intro w9 hSw; clear hSw; go_simp; try with_reducible rfl)
        simp only [Act.put, List.setIfInBounds_toArray, List.set_cons_zero, List.set_cons_succ]
        refine wpAnyH_take (i := 7) (v := ?_) (oi := { dst := some 14, op := _, type := _, pos := _, after := _, guard := none }) rfl (by kernel_rfl) (by kernel_rfl) (by kernel_rfl) (fun _ _ _ h => h) (Or.inl ⟨by kernel_rfl, ?_⟩) (by assumption) ?_
        case refine_2 => (intro w9 hSw; clear hSw; go_simp; try with_reducible rfl)
        simp only [Act.put, List.setIfInBounds_toArray, List.set_cons_zero, List.set_cons_succ]
        refine wpAnyH_ready (rs := [8]) (by kernel_rfl) (by simp) (AllReadyH.cons (o := { dst := some 5, op := _, type := _, pos := _, after := _, guard := none }) rfl (fun K hK => ?_) AllReadyH.nil)
        go_simp
        have hH0 := hHeld
        refine hK.out _ _ (hHeld.alloc _) (fun hHeld => ?_)
        have HN : Hid (NB _ _ _ _ [.int .i64 0, .int .i64 0]) := hH0.nb hHeld
        clear hK K hH0
        refine wpAnyH_ready (rs := [9]) (by kernel_rfl) (by simp) (AllReadyH.cons (o := { dst := none, op := _, type := _, pos := _, after := _, guard := none }) rfl (fun K hK => ?_) AllReadyH.nil)
        refine (if_pos (by kernel_rfl)).mpr (wp_store_mid 45 _ _ rfl _ 0 #[.int .i64 n, .int .i64 sc] rfl rfl HN.out.1.there (by kernel_rfl) (by simp [Value.oneCell']) (hK.out _ _ (hHeld.off HN.out.2.1 HN.out.2.2 _) (fun hHeld => ?_)))
        have HN2 : Hid (BS w ((_, [.int .i64 n, .int .i64 sc]) :: [(w.heap.size, [.int .i64 0, .int .i64 u])]) _ ∧ _) := ⟨⟨hHeld.1, fun x hx => by rcases List.mem_cons.1 hx with rfl | hx; exact ⟨HN.out.2.1, HN.out.1.setAll _ rfl⟩; exact hHeld.2 x hx⟩, HN.out.2.2⟩
        clear hK K HN
        refine wpAnyH_take (i := 10) (v := ?_) (oi := { dst := some 6, op := _, type := _, pos := _, after := _, guard := none }) rfl (by kernel_rfl) (by kernel_rfl) (by kernel_rfl) (fun _ _ _ h => h) (Or.inl ⟨by kernel_rfl, ?_⟩) (by assumption) ?_
        case refine_2 => (intro w9 hSw; clear hSw; go_simp; try with_reducible rfl)
        simp only [Act.put, List.setIfInBounds_toArray, List.set_cons_zero, List.set_cons_succ]
        refine wpAnyH_done (by kernel_rfl) ?_ _
        go_wp2_with fail
        go_meet
        case rel => exact ⟨_, rfl, rfl, HN2.out⟩
      ·
        go_simp
        have hH0 := hHeld
        refine hK.out _ _ (hHeld.alloc _) (fun hHeld => ?_)
        have HN : Hid (NB _ _ _ _ [.int .i64 0, .int .i64 0]) := hH0.nb hHeld
        clear hK K hH0
        refine wpAnyH_ready (rs := [4]) (by kernel_rfl) (by simp) (AllReadyH.cons (o := { dst := some 12, op := _, type := _, pos := _, after := _, guard := none }) rfl (fun K hK => ?_) AllReadyH.nil)
        go_simp
        refine (EX.out _ (hL.out _ hHeld.1)).mono ?_
        rintro e v6 ⟨rfl, hb6⟩
        refine hK.out _ _ (hHeld.below hb6) (fun hHeld => ?_)
        try (have HN2 := HN.out.below hb6; clear HN; have HN : Hid (NB _ _ _ _ _) := HN2; clear HN2)
        clear hK K hb6
        refine wpAnyH_take (i := 5) (v := ?_) (oi := { dst := some 7, op := _, type := _, pos := _, after := _, guard := none }) rfl (by kernel_rfl) (by kernel_rfl) (by kernel_rfl) (fun _ _ _ h => h) (Or.inl ⟨by kernel_rfl, ?_⟩) (by assumption) ?_
        case refine_2 => (intro w9 hSw; clear hSw; go_simp; try with_reducible rfl)
        simp only [Act.put, List.setIfInBounds_toArray, List.set_cons_zero, List.set_cons_succ]
        refine wpAnyH_take (i := 6) (v := ?_) (oi := { dst := some 13, op := _, type := _, pos := _, after := _, guard := none }) rfl (by kernel_rfl) (by kernel_rfl) (by kernel_rfl) (fun _ _ _ h => h) (Or.inl ⟨by kernel_rfl, ?_⟩) (by assumption) ?_
        case refine_2 => (intro w9 hSw; clear hSw; go_simp; try with_reducible rfl)
        simp only [Act.put, List.setIfInBounds_toArray, List.set_cons_zero, List.set_cons_succ]
        refine wpAnyH_take (i := 7) (v := ?_) (oi := { dst := some 14, op := _, type := _, pos := _, after := _, guard := none }) rfl (by kernel_rfl) (by kernel_rfl) (by kernel_rfl) (fun _ _ _ h => h) (Or.inl ⟨by kernel_rfl, ?_⟩) (by assumption) ?_
        case refine_2 => (intro w9 hSw; clear hSw; go_simp; try with_reducible rfl)
        simp only [Act.put, List.setIfInBounds_toArray, List.set_cons_zero, List.set_cons_succ]
        refine wpAnyH_ready (rs := [9]) (by kernel_rfl) (by simp) (AllReadyH.cons (o := { dst := none, op := _, type := _, pos := _, after := _, guard := none }) rfl (fun K hK => ?_) AllReadyH.nil)
        refine (if_pos (by kernel_rfl)).mpr (wp_store_mid 45 _ _ rfl _ 0 #[.int .i64 n, .int .i64 sc] rfl rfl HN.out.1.there (by kernel_rfl) (by simp [Value.oneCell']) (hK.out _ _ (hHeld.off HN.out.2.1 HN.out.2.2 _) (fun hHeld => ?_)))
        have HN2 : Hid (BS w ((_, [.int .i64 n, .int .i64 sc]) :: [(w.heap.size, [.int .i64 0, .int .i64 u])]) _ ∧ _) := ⟨⟨hHeld.1, fun x hx => by rcases List.mem_cons.1 hx with rfl | hx; exact ⟨HN.out.2.1, HN.out.1.setAll _ rfl⟩; exact hHeld.2 x hx⟩, HN.out.2.2⟩
        clear hK K HN
        refine wpAnyH_take (i := 10) (v := ?_) (oi := { dst := some 6, op := _, type := _, pos := _, after := _, guard := none }) rfl (by kernel_rfl) (by kernel_rfl) (by kernel_rfl) (fun _ _ _ h => h) (Or.inl ⟨by kernel_rfl, ?_⟩) (by assumption) ?_
        case refine_2 => (intro w9 hSw; clear hSw; go_simp; try with_reducible rfl)
        simp only [Act.put, List.setIfInBounds_toArray, List.set_cons_zero, List.set_cons_succ]
        refine wpAnyH_done (by kernel_rfl) ?_ _
        go_wp2_with fail
        go_meet
        case rel => exact ⟨_, rfl, rfl, HN2.out⟩
    ·
      go_simp
      have hH0 := hHeld
      refine hK.out _ _ (hHeld.alloc _) (fun hHeld => ?_)
      have HN : Hid (NB _ _ _ _ [.int .i64 0, .int .i64 0]) := hH0.nb hHeld
      clear hK K hH0
      refine wpAnyH_ready (rs := [0]) (by kernel_rfl) (by simp) (AllReadyH.cons (o := { dst := some 8, op := _, type := _, pos := _, after := _, guard := none }) rfl (fun K hK => ?_) AllReadyH.nil)
      go_simp
      refine (UT.out _).mono ?_
      rintro e v9 ⟨rfl, hb9⟩
      refine hK.out _ _ (hHeld.below hb9) (fun hHeld => ?_)
      try (have HN2 := HN.out.below hb9; clear HN; have HN : Hid (NB _ _ _ _ _) := HN2; clear HN2)
      clear hK K hb9
      refine wpAnyH_ready (rs := [4]) (by kernel_rfl) (by simp) (AllReadyH.cons (o := { dst := some 12, op := _, type := _, pos := _, after := _, guard := none }) rfl (fun K hK => ?_) AllReadyH.nil)
      go_simp
      refine (EX.out _ (hL.out _ hHeld.1)).mono ?_
      rintro e v10 ⟨rfl, hb10⟩
      refine hK.out _ _ (hHeld.below hb10) (fun hHeld => ?_)
      try (have HN2 := HN.out.below hb10; clear HN; have HN : Hid (NB _ _ _ _ _) := HN2; clear HN2)
      clear hK K hb10
      refine wpAnyH_take (i := 5) (v := ?_) (oi := { dst := some 7, op := _, type := _, pos := _, after := _, guard := none }) rfl (by kernel_rfl) (by kernel_rfl) (by kernel_rfl) (fun _ _ _ h => h) (Or.inl ⟨by kernel_rfl, ?_⟩) (by assumption) ?_
      case refine_2 => (intro w9 hSw; clear hSw; go_simp; try with_reducible rfl)
      simp only [Act.put, List.setIfInBounds_toArray, List.set_cons_zero, List.set_cons_succ]
      refine wpAnyH_take (i := 6) (v := ?_) (oi := { dst := some 13, op := _, type := _, pos := _, after := _, guard := none }) rfl (by kernel_rfl) (by kernel_rfl) (by kernel_rfl) (fun _ _ _ h => h) (Or.inl ⟨by kernel_rfl, ?_⟩) (by assumption) ?_
      case refine_2 => (intro w9 hSw; clear hSw; go_simp; try with_reducible rfl)
      simp only [Act.put, List.setIfInBounds_toArray, List.set_cons_zero, List.set_cons_succ]
      refine wpAnyH_take (i := 7) (v := ?_) (oi := { dst := some 14, op := _, type := _, pos := _, after := _, guard := none }) rfl (by kernel_rfl) (by kernel_rfl) (by kernel_rfl) (fun _ _ _ h => h) (Or.inl ⟨by kernel_rfl, ?_⟩) (by assumption) ?_
      case refine_2 => (intro w9 hSw; clear hSw; go_simp; try with_reducible rfl)
      simp only [Act.put, List.setIfInBounds_toArray, List.set_cons_zero, List.set_cons_succ]
      refine wpAnyH_ready (rs := [9]) (by kernel_rfl) (by simp) (AllReadyH.cons (o := { dst := none, op := _, type := _, pos := _, after := _, guard := none }) rfl (fun K hK => ?_) AllReadyH.nil)
      refine (if_pos (by kernel_rfl)).mpr (wp_store_mid 45 _ _ rfl _ 0 #[.int .i64 n, .int .i64 sc] rfl rfl HN.out.1.there (by kernel_rfl) (by simp [Value.oneCell']) (hK.out _ _ (hHeld.off HN.out.2.1 HN.out.2.2 _) (fun hHeld => ?_)))
      have HN2 : Hid (BS w ((_, [.int .i64 n, .int .i64 sc]) :: [(w.heap.size, [.int .i64 0, .int .i64 u])]) _ ∧ _) := ⟨⟨hHeld.1, fun x hx => by rcases List.mem_cons.1 hx with rfl | hx; exact ⟨HN.out.2.1, HN.out.1.setAll _ rfl⟩; exact hHeld.2 x hx⟩, HN.out.2.2⟩
      clear hK K HN
      refine wpAnyH_take (i := 10) (v := ?_) (oi := { dst := some 6, op := _, type := _, pos := _, after := _, guard := none }) rfl (by kernel_rfl) (by kernel_rfl) (by kernel_rfl) (fun _ _ _ h => h) (Or.inl ⟨by kernel_rfl, ?_⟩) (by assumption) ?_
      case refine_2 => (intro w9 hSw; clear hSw; go_simp; try with_reducible rfl)
      simp only [Act.put, List.setIfInBounds_toArray, List.set_cons_zero, List.set_cons_succ]
      refine wpAnyH_done (by kernel_rfl) ?_ _
      go_wp2_with fail
      go_meet
      case rel => exact ⟨_, rfl, rfl, HN2.out⟩
  case rest =>
    obtain ⟨nb0, rfl, rfl, KK⟩ := hcut
    clear K0
    have K1 : Hid (BS w [(nb0, [.int .i64 n, .int .i64 sc]), (w.heap.size, [.int .i64 0, .int .i64 u])] wc) := KK.out.1
    have ne1_0 : w.heap.size ≠ nb0 := KK.out.2 (w.heap.size, [.int .i64 0, .int .i64 u]) (by simp)
    clear KK
    obtain ⟨c1_0_0, c1_0_1⟩ := (bo1 K1).c2
    obtain ⟨c1_1_0, c1_1_1⟩ := (bo2 K1).c2
    go_wp2
    go_ret
    exact ⟨rfl, K1.out.1⟩

set_option maxRecDepth 100000 in
set_option maxHeartbeats 4000000 in
theorem mk_inf (i u : Int) (hi : i ≠ 0)
    (KN : Hid (∀ w : World, LO w → Calls Tryz.prog 9 #[] w fun r' w' => r' = .returned (.bool true) ∧ Below w.heap.size w w'))
    (w : World) (hL : Hid (∀ W : World, Below w.heap.size w W → LO W)) :
    Calls Tryz.prog 6 #[.agg #[.int .i64 i, .int .i64 u]] w fun r' w' => r' = .returned (.bool true) ∧ Below w.heap.size w w' := by
  have i1 : (i != 0) = true := bne_iff_ne.2 hi
  have K0 : Hid (BS w [(w.heap.size, [.int .i64 i, .int .i64 u])] (w.alloc (.cells #[.int .i64 i, .int .i64 u] 23))) := ((BS.start w).new [.int .i64 i, .int .i64 u] 23 rfl)
  go_enter Tryz.func6, Tryz.ntmps6
  go_wp2_with fail
  refine (KN.out _ (hL.out _ K0.out.1)).mono ?_
  rintro e W1 ⟨rfl, hb⟩
  have K1 := bsb K0 hb
  clear hb K0
  obtain ⟨c1_0_0, c1_0_1⟩ := (bo1 K1).c2
  go_wp2
  go_ret
  exact ⟨rfl, K1.out.1⟩

set_option maxRecDepth 100000 in
set_option maxHeartbeats 4000000 in
theorem mk_no (u : Int)
    (RR : Hid (∀ w : World, Calls Tryz.prog 13 #[.agg #[.int .i64 0, .int .i64 u]] w fun r' w' => r' = .returned (.bool false) ∧ Below w.heap.size w w'))
    (KN : Hid (∀ w : World, LO w → Calls Tryz.prog 9 #[] w fun r' w' => r' = .returned (.bool true) ∧ Below w.heap.size w w'))
    (w : World) (hL : Hid (∀ W : World, Below w.heap.size w W → LO W)) :
    Calls Tryz.prog 6 #[.agg #[.int .i64 0, .int .i64 u]] w fun r' w' => r' = .returned (.bool true) ∧ Below w.heap.size w w' := by
  have K0 : Hid (BS w [(w.heap.size, [.int .i64 0, .int .i64 u])] (w.alloc (.cells #[.int .i64 0, .int .i64 u] 23))) := ((BS.start w).new [.int .i64 0, .int .i64 u] 23 rfl)
  go_enter Tryz.func6, Tryz.ntmps6
  go_wp2_with fail
  refine (RR.out _).mono ?_
  rintro e W1 ⟨rfl, hb⟩
  have K1 := bsb K0 hb
  clear hb K0
  obtain ⟨c1_0_0, c1_0_1⟩ := (bo1 K1).c2
  go_wp2_with fail
  refine (KN.out _ (hL.out _ K1.out.1)).mono ?_
  rintro e W2 ⟨rfl, hb⟩
  have K2 := bsb K1 hb
  clear c1_0_0 c1_0_1
  clear hb K1
  obtain ⟨c2_0_0, c2_0_1⟩ := (bo1 K2).c2
  go_wp2
  go_ret
  exact ⟨rfl, K2.out.1⟩

set_option maxRecDepth 100000 in
set_option maxHeartbeats 4000000 in
theorem mk_00 (u dx Y y m q n h mi us D v sc g : Int) (b1 : -1000000 ≤ Y) (b2 : Y ≤ 1000000) (h1 : 0 ≤ h) (h2 : h ≤ 24) (m1 : 0 ≤ mi) (m2 : mi ≤ 60) (u1 : 0 ≤ us) (u2 : us ≤ 60000000) (m3 : 1 ≤ m) (m4 : m ≤ 12) (hn : n = (m + 2) / 3) (sy : ¬ Y < 0) (hy : Y = y) (hh : h * 3600 * 1000000 + mi * 60 * 1000000 + us = D) (hv : IntKind.i64.wrap (u + 946684800000000) = v)
    (RR : Hid (∀ w : World, Calls Tryz.prog 13 #[.agg #[.int .i64 0, .int .i64 u]] w fun r' w' => r' = .returned (.bool true) ∧ Below w.heap.size w w'))
    (NY : Hid (∀ w : World, LO w → Calls Tryz.prog 14 #[.string ⟨#[121, 101, 97, 114]⟩, .agg #[.int .i64 0, .int .i64 u]] w fun r' w' => r' = .returned (.int .i64 Y) ∧ Below w.heap.size w w'))
    (NM : Hid (∀ w : World, LO w → Calls Tryz.prog 14 #[.string ⟨#[109, 111, 110, 116, 104]⟩, .agg #[.int .i64 0, .int .i64 u]] w fun r' w' => r' = .returned (.int .i64 m) ∧ Below w.heap.size w w'))
    (ND : Hid (∀ w : World, LO w → Calls Tryz.prog 14 #[.string ⟨#[100, 97, 121]⟩, .agg #[.int .i64 0, .int .i64 u]] w fun r' w' => r' = .returned (.int .i64 q) ∧ Below w.heap.size w w'))
    (MK : Hid (∀ w : World, Calls Tryz.prog 15 #[.int .i64 y, .int .i64 m, .int .i64 q] w fun r' w' => r' = .returned (.tuple #[.agg #[.int .i64 0, .int .i64 dx], .int .i64 0]) ∧ Below w.heap.size w w'))
    (NH : Hid (∀ w : World, LO w → Calls Tryz.prog 14 #[.string ⟨#[104, 111, 117, 114]⟩, .agg #[.int .i64 0, .int .i64 u]] w fun r' w' => r' = .returned (.int .i64 h) ∧ Below w.heap.size w w'))
    (NI : Hid (∀ w : World, LO w → Calls Tryz.prog 14 #[.string ⟨#[109, 105, 110, 117, 116, 101]⟩, .agg #[.int .i64 0, .int .i64 u]] w fun r' w' => r' = .returned (.int .i64 mi) ∧ Below w.heap.size w w'))
    (NU : Hid (∀ w : World, LO w → Calls Tryz.prog 14 #[.string ⟨#[109, 105, 99, 114, 111, 115, 101, 99, 111, 110, 100, 115]⟩, .agg #[.int .i64 0, .int .i64 u]] w fun r' w' => r' = .returned (.int .i64 us) ∧ Below w.heap.size w w'))
    (SM : Hid (∀ w : World, Calls Tryz.prog 16 #[.agg #[.int .i64 0, .int .i64 dx], .int .i64 D] w fun r' w' => r' = .returned (.tuple #[.agg #[.int .i64 0, .int .i64 u], .int .i64 0]) ∧ Below w.heap.size w w'))
    (NQ : Hid (∀ w : World, LO w → Calls Tryz.prog 14 #[.string ⟨#[113, 117, 97, 114, 116, 101, 114]⟩, .agg #[.int .i64 0, .int .i64 u]] w fun r' w' => r' = .returned (.int .i64 n) ∧ Below w.heap.size w w'))
    (EX : Hid (∀ w : World, LO w → Calls Tryz.prog 17 #[.agg utL.toArray, .string ⟨#[101, 112, 111, 99, 104]⟩, .agg (v_st 0 u).toArray] w fun r' w' => r' = .returned (.tuple #[.agg #[.int .i64 v, .int .i64 sc], .int .i64 0]) ∧ Below w.heap.size w w'))
    (DR : Hid (∀ w : World, Calls Tryz.prog 19 #[.agg #[.int .i64 v, .int .i64 sc]] w fun r' w' => r' = .returned (.bool true) ∧ Below w.heap.size w w'))
    (KN : Hid (∀ w : World, LO w → Calls Tryz.prog 9 #[] w fun r' w' => r' = .returned (.bool true) ∧ Below w.heap.size w w'))
    (w : World) (hL : Hid (∀ W : World, Below w.heap.size w W → LO W)) :
    Calls Tryz.prog 6 #[.agg #[.int .i64 0, .int .i64 u]] w fun r' w' => r' = .returned (.bool true) ∧ Below w.heap.size w w' := by
  have UT : Hid (∀ w : World, Calls Tryz.prog 18 #[] w fun e w' => e = .returned (.agg utL.toArray) ∧ Below w.heap.size w w') := utc_any
  have t1 : IntKind.i64.wrap (h * 3600) = h * 3600 := by rw [IntKind.wrap_i64]; omega
  have t2 : IntKind.i64.wrap (h * 3600 * 1000000) = h * 3600 * 1000000 := by rw [IntKind.wrap_i64]; omega
  have t3 : IntKind.i64.wrap (mi * 60) = mi * 60 := by rw [IntKind.wrap_i64]; omega
  have t4 : IntKind.i64.wrap (mi * 60 * 1000000) = mi * 60 * 1000000 := by rw [IntKind.wrap_i64]; omega
  have t5 : IntKind.i64.wrap (h * 3600 * 1000000 + mi * 60 * 1000000) = h * 3600 * 1000000 + mi * 60 * 1000000 := by rw [IntKind.wrap_i64]; omega
  have t6 : IntKind.i64.wrap D = D := by rw [IntKind.wrap_i64]; omega
  have q1 : (n == (m + 2) / 3) = true := by simpa using hn
  have q2 : 0 ≤ m + 2 := by omega
  clear hn
  have K0 : Hid (BS w [(w.heap.size, [.int .i64 0, .int .i64 u])] (w.alloc (.cells #[.int .i64 0, .int .i64 u] 23))) := ((BS.start w).new [.int .i64 0, .int .i64 u] 23 rfl)
  go_enter Tryz.func6, Tryz.ntmps6
  go_wp2_with fail
  refine (RR.out _).mono ?_
  rintro e W1 ⟨rfl, hb⟩
  have K1 := bsb K0 hb
  clear hb K0
  obtain ⟨c1_0_0, c1_0_1⟩ := (bo1 K1).c2
  go_wp2_with fail
  refine (NY.out _ (hL.out _ K1.out.1)).mono ?_
  rintro e W2 ⟨rfl, hb⟩
  have K2 := bsb K1 hb
  clear c1_0_0 c1_0_1
  clear hb K1
  obtain ⟨c2_0_0, c2_0_1⟩ := (bo1 K2).c2
  go_upto_region 6 with fail
  go_cut [4, 5] (fun v0 v1 wx => ∃ nb, v0 = .pointer (some ⟨nb, 0, none⟩) ∧ v1 = .int .i64 0 ∧ Hid (BS w ((nb, [.int .i64 0, .int .i64 dx]) :: [(w.heap.size, [.int .i64 0, .int .i64 u])]) wx ∧ (∀ x ∈ ([(w.heap.size, [.int .i64 0, .int .i64 u])] : List (Nat × List Value)), x.1 ≠ nb)))
  case first =>
    refine wp_region_held_drew (S := BS w [(w.heap.size, [.int .i64 0, .int .i64 u])]) (by kernel_rfl) K2.out.drew (fun hHeld => ?_)
    refine wpAnyH_take (i := 0) (v := ?_) (oi := { dst := some 29, op := _, type := _, pos := _, after := _, guard := none }) rfl (by kernel_rfl) (by kernel_rfl) (by kernel_rfl) (fun _ _ _ h => h) (Or.inl ⟨by kernel_rfl, ?_⟩) (by assumption) ?_
    case refine_2 => (intro w9 hSw; clear hSw; go_simp; try with_reducible rfl)
    simp only [Act.put, List.setIfInBounds_toArray, List.set_cons_zero, List.set_cons_succ]
    refine wpAnyH_take (i := 1) (v := ?_) (oi := { dst := some 30, op := _, type := _, pos := _, after := _, guard := none }) rfl (by kernel_rfl) (by kernel_rfl) (by kernel_rfl) (fun _ _ _ h => h) (Or.inl ⟨by kernel_rfl, ?_⟩) (by assumption) ?_
    case refine_2 => (intro w9 hSw; have l0_0 := (hSw.at (w.heap.size) [.int .i64 0, .int .i64 u] (by simp)).c 0 rfl; have l0_1 := (hSw.at (w.heap.size) [.int .i64 0, .int .i64 u] (by simp)).c 1 rfl; clear hSw; go_simp; try with_reducible rfl)
    simp only [Act.put, List.setIfInBounds_toArray, List.set_cons_zero, List.set_cons_succ]
    refine wpAnyH_take (i := 3) (v := ?_) (oi := { dst := some 32, op := _, type := _, pos := _, after := _, guard := none }) rfl (by kernel_rfl) (by kernel_rfl) (by kernel_rfl) (fun _ _ _ h => h) (Or.inl ⟨by kernel_rfl, ?_⟩) (by assumption) ?_
    case refine_2 => (intro w9 hSw; have l0_0 := (hSw.at (w.heap.size) [.int .i64 0, .int .i64 u] (by simp)).c 0 rfl; have l0_1 := (hSw.at (w.heap.size) [.int .i64 0, .int .i64 u] (by simp)).c 1 rfl; clear hSw; go_simp; try with_reducible rfl)
    simp only [Act.put, List.setIfInBounds_toArray, List.set_cons_zero, List.set_cons_succ]
    refine wpAnyH_ready (rs := [2, 9]) (by kernel_rfl) (by simp) (AllReadyH.cons (o := { dst := some 31, op := _, type := _, pos := _, after := _, guard := none }) rfl (fun K hK => ?_) (AllReadyH.cons (o := { dst := some 4, op := _, type := _, pos := _, after := _, guard := none }) rfl (fun K hK => ?_) AllReadyH.nil))
    ·
      go_simp
      refine (NM.out _ (hL.out _ hHeld.1)).mono ?_
      rintro e v1 ⟨rfl, hb1⟩
      refine hK.out _ _ (hHeld.below hb1) (fun hHeld => ?_)
      try (have HN2 := HN.out.below hb1; clear HN; have HN : Hid (NB _ _ _ _ _) := HN2; clear HN2)
      clear hK K hb1
      refine wpAnyH_ready (rs := [4, 9]) (by kernel_rfl) (by simp) (AllReadyH.cons (o := { dst := some 33, op := _, type := _, pos := _, after := _, guard := none }) rfl (fun K hK => ?_) (AllReadyH.cons (o := { dst := some 4, op := _, type := _, pos := _, after := _, guard := none }) rfl (fun K hK => ?_) AllReadyH.nil))
      ·
        go_simp
        refine (ND.out _ (hL.out _ hHeld.1)).mono ?_
        rintro e v2 ⟨rfl, hb2⟩
        refine hK.out _ _ (hHeld.below hb2) (fun hHeld => ?_)
        try (have HN2 := HN.out.below hb2; clear HN; have HN : Hid (NB _ _ _ _ _) := HN2; clear HN2)
        clear hK K hb2
        refine wpAnyH_ready (rs := [5, 9]) (by kernel_rfl) (by simp) (AllReadyH.cons (o := { dst := some 34, op := _, type := _, pos := _, after := _, guard := none }) rfl (fun K hK => ?_) (AllReadyH.cons (o := { dst := some 4, op := _, type := _, pos := _, after := _, guard := none }) rfl (fun K hK => ?_) AllReadyH.nil))
        ·
          go_simp
          refine (MK.out _).mono ?_
          rintro e v3 ⟨rfl, hb3⟩
          refine hK.out _ _ (hHeld.below hb3) (fun hHeld => ?_)
          try (have HN2 := HN.out.below hb3; clear HN; have HN : Hid (NB _ _ _ _ _) := HN2; clear HN2)
          clear hK K hb3
          refine wpAnyH_take (i := 6) (v := ?_) (oi := { dst := some 28, op := _, type := _, pos := _, after := _, guard := none }) rfl (by kernel_rfl) (by kernel_rfl) (by kernel_rfl) (fun _ _ _ h => h) (Or.inl ⟨by kernel_rfl, ?_⟩) (by assumption) ?_
          case refine_2 => (intro w9 hSw; clear hSw; go_simp; try with_reducible rfl)
          simp only [Act.put, List.setIfInBounds_toArray, List.set_cons_zero, List.set_cons_succ]
          refine wpAnyH_take (i := 7) (v := ?_) (oi := { dst := some 35, op := _, type := _, pos := _, after := _, guard := none }) rfl (by kernel_rfl) (by kernel_rfl) (by kernel_rfl) (fun _ _ _ h => h) (Or.inl ⟨by kernel_rfl, ?_⟩) (by assumption) ?_
          case refine_2 => (intro w9 hSw; clear hSw; go_simp; try with_reducible rfl)
          simp only [Act.put, List.setIfInBounds_toArray, List.set_cons_zero, List.set_cons_succ]
          refine wpAnyH_take (i := 8) (v := ?_) (oi := { dst := some 36, op := _, type := _, pos := _, after := _, guard := none }) rfl (by kernel_rfl) (by kernel_rfl) (by kernel_rfl) (fun _ _ _ h => h) (Or.inl ⟨by kernel_rfl, ?_⟩) (by assumption) ?_
          case refine_2 => (intro w9 hSw; clear hSw; go_simp; try with_reducible rfl)
          simp only [Act.put, List.setIfInBounds_toArray, List.set_cons_zero, List.set_cons_succ]
          refine wpAnyH_ready (rs := [9]) (by kernel_rfl) (by simp) (AllReadyH.cons (o := { dst := some 4, op := _, type := _, pos := _, after := _, guard := none }) rfl (fun K hK => ?_) AllReadyH.nil)
          go_simp
          have hH0 := hHeld
          refine hK.out _ _ (hHeld.alloc _) (fun hHeld => ?_)
          have HN : Hid (NB _ _ _ _ [.int .i64 0, .int .i64 0]) := hH0.nb hHeld
          clear hK K hH0
          refine wpAnyH_ready (rs := [10]) (by kernel_rfl) (by simp) (AllReadyH.cons (o := { dst := none, op := _, type := _, pos := _, after := _, guard := none }) rfl (fun K hK => ?_) AllReadyH.nil)
          refine (if_pos (by kernel_rfl)).mpr (wp_store_mid 40 _ _ rfl _ 0 #[.int .i64 0, .int .i64 dx] rfl rfl HN.out.1.there (by kernel_rfl) (by simp [Value.oneCell']) (hK.out _ _ (hHeld.off HN.out.2.1 HN.out.2.2 _) (fun hHeld => ?_)))
          have HN2 : Hid (BS w ((_, [.int .i64 0, .int .i64 dx]) :: [(w.heap.size, [.int .i64 0, .int .i64 u])]) _ ∧ _) := ⟨⟨hHeld.1, fun x hx => by rcases List.mem_cons.1 hx with rfl | hx; exact ⟨HN.out.2.1, HN.out.1.setAll _ rfl⟩; exact hHeld.2 x hx⟩, HN.out.2.2⟩
          clear hK K HN
          refine wpAnyH_take (i := 11) (v := ?_) (oi := { dst := some 5, op := _, type := _, pos := _, after := _, guard := none }) rfl (by kernel_rfl) (by kernel_rfl) (by kernel_rfl) (fun _ _ _ h => h) (Or.inl ⟨by kernel_rfl, ?_⟩) (by assumption) ?_
          case refine_2 => (intro w9 hSw; clear hSw; go_simp; try with_reducible rfl)
          simp only [Act.put, List.setIfInBounds_toArray, List.set_cons_zero, List.set_cons_succ]
          refine wpAnyH_done (by kernel_rfl) ?_ _
          go_wp2_with fail
          go_meet
          case rel => exact ⟨_, rfl, rfl, HN2.out⟩
        ·
          go_simp
          have hH0 := hHeld
          refine hK.out _ _ (hHeld.alloc _) (fun hHeld => ?_)
          have HN : Hid (NB _ _ _ _ [.int .i64 0, .int .i64 0]) := hH0.nb hHeld
          clear hK K hH0
          refine wpAnyH_ready (rs := [5]) (by kernel_rfl) (by simp) (AllReadyH.cons (o := { dst := some 34, op := _, type := _, pos := _, after := _, guard := none }) rfl (fun K hK => ?_) AllReadyH.nil)
          go_simp
          refine (MK.out _).mono ?_
          rintro e v7 ⟨rfl, hb7⟩
          refine hK.out _ _ (hHeld.below hb7) (fun hHeld => ?_)
          try (have HN2 := HN.out.below hb7; clear HN; have HN : Hid (NB _ _ _ _ _) := HN2; clear HN2)
          clear hK K hb7
          refine wpAnyH_take (i := 6) (v := ?_) (oi := { dst := some 28, op := _, type := _, pos := _, after := _, guard := none }) rfl (by kernel_rfl) (by kernel_rfl) (by kernel_rfl) (fun _ _ _ h => h) (Or.inl ⟨by kernel_rfl, ?_⟩) (by assumption) ?_
          case refine_2 => (intro w9 hSw; clear hSw; go_simp; try with_reducible rfl)
          simp only [Act.put, List.setIfInBounds_toArray, List.set_cons_zero, List.set_cons_succ]
          refine wpAnyH_take (i := 7) (v := ?_) (oi := { dst := some 35, op := _, type := _, pos := _, after := _, guard := none }) rfl (by kernel_rfl) (by kernel_rfl) (by kernel_rfl) (fun _ _ _ h => h) (Or.inl ⟨by kernel_rfl, ?_⟩) (by assumption) ?_
          case refine_2 => (intro w9 hSw; clear hSw; go_simp; try with_reducible rfl)
          simp only [Act.put, List.setIfInBounds_toArray, List.set_cons_zero, List.set_cons_succ]
          refine wpAnyH_take (i := 8) (v := ?_) (oi := { dst := some 36, op := _, type := _, pos := _, after := _, guard := none }) rfl (by kernel_rfl) (by kernel_rfl) (by kernel_rfl) (fun _ _ _ h => h) (Or.inl ⟨by kernel_rfl, ?_⟩) (by assumption) ?_
          case refine_2 => (intro w9 hSw; clear hSw; go_simp; try with_reducible rfl)
          simp only [Act.put, List.setIfInBounds_toArray, List.set_cons_zero, List.set_cons_succ]
          refine wpAnyH_ready (rs := [10]) (by kernel_rfl) (by simp) (AllReadyH.cons (o := { dst := none, op := _, type := _, pos := _, after := _, guard := none }) rfl (fun K hK => ?_) AllReadyH.nil)
          refine (if_pos (by kernel_rfl)).mpr (wp_store_mid 40 _ _ rfl _ 0 #[.int .i64 0, .int .i64 dx] rfl rfl HN.out.1.there (by kernel_rfl) (by simp [Value.oneCell']) (hK.out _ _ (hHeld.off HN.out.2.1 HN.out.2.2 _) (fun hHeld => ?_)))
          have HN2 : Hid (BS w ((_, [.int .i64 0, .int .i64 dx]) :: [(w.heap.size, [.int .i64 0, .int .i64 u])]) _ ∧ _) := ⟨⟨hHeld.1, fun x hx => by rcases List.mem_cons.1 hx with rfl | hx; exact ⟨HN.out.2.1, HN.out.1.setAll _ rfl⟩; exact hHeld.2 x hx⟩, HN.out.2.2⟩
          clear hK K HN
          refine wpAnyH_take (i := 11) (v := ?_) (oi := { dst := some 5, op := _, type := _, pos := _, after := _, guard := none }) rfl (by kernel_rfl) (by kernel_rfl) (by kernel_rfl) (fun _ _ _ h => h) (Or.inl ⟨by kernel_rfl, ?_⟩) (by assumption) ?_
          case refine_2 => (intro w9 hSw; clear hSw; go_simp; try with_reducible rfl)
          simp only [Act.put, List.setIfInBounds_toArray, List.set_cons_zero, List.set_cons_succ]
          refine wpAnyH_done (by kernel_rfl) ?_ _
          go_wp2_with fail
          go_meet
          case rel => exact ⟨_, rfl, rfl, HN2.out⟩
      ·
        go_simp
        have hH0 := hHeld
        refine hK.out _ _ (hHeld.alloc _) (fun hHeld => ?_)
        have HN : Hid (NB _ _ _ _ [.int .i64 0, .int .i64 0]) := hH0.nb hHeld
        clear hK K hH0
        refine wpAnyH_ready (rs := [4]) (by kernel_rfl) (by simp) (AllReadyH.cons (o := { dst := some 33, op := _, type := _, pos := _, after := _, guard := none }) rfl (fun K hK => ?_) AllReadyH.nil)
        go_simp
        refine (ND.out _ (hL.out _ hHeld.1)).mono ?_
        rintro e v10 ⟨rfl, hb10⟩
        refine hK.out _ _ (hHeld.below hb10) (fun hHeld => ?_)
        try (have HN2 := HN.out.below hb10; clear HN; have HN : Hid (NB _ _ _ _ _) := HN2; clear HN2)
        clear hK K hb10
        refine wpAnyH_ready (rs := [5]) (by kernel_rfl) (by simp) (AllReadyH.cons (o := { dst := some 34, op := _, type := _, pos := _, after := _, guard := none }) rfl (fun K hK => ?_) AllReadyH.nil)
        go_simp
        refine (MK.out _).mono ?_
        rintro e v11 ⟨rfl, hb11⟩
        refine hK.out _ _ (hHeld.below hb11) (fun hHeld => ?_)
        try (have HN2 := HN.out.below hb11; clear HN; have HN : Hid (NB _ _ _ _ _) := HN2; clear HN2)
        clear hK K hb11
        refine wpAnyH_take (i := 6) (v := ?_) (oi := { dst := some 28, op := _, type := _, pos := _, after := _, guard := none }) rfl (by kernel_rfl) (by kernel_rfl) (by kernel_rfl) (fun _ _ _ h => h) (Or.inl ⟨by kernel_rfl, ?_⟩) (by assumption) ?_
        case refine_2 => (intro w9 hSw; clear hSw; go_simp; try with_reducible rfl)
        simp only [Act.put, List.setIfInBounds_toArray, List.set_cons_zero, List.set_cons_succ]
        refine wpAnyH_take (i := 7) (v := ?_) (oi := { dst := some 35, op := _, type := _, pos := _, after := _, guard := none }) rfl (by kernel_rfl) (by kernel_rfl) (by kernel_rfl) (fun _ _ _ h => h) (Or.inl ⟨by kernel_rfl, ?_⟩) (by assumption) ?_
        case refine_2 => (intro w9 hSw; clear hSw; go_simp; try with_reducible rfl)
        simp only [Act.put, List.setIfInBounds_toArray, List.set_cons_zero, List.set_cons_succ]
        refine wpAnyH_take (i := 8) (v := ?_) (oi := { dst := some 36, op := _, type := _, pos := _, after := _, guard := none }) rfl (by kernel_rfl) (by kernel_rfl) (by kernel_rfl) (fun _ _ _ h => h) (Or.inl ⟨by kernel_rfl, ?_⟩) (by assumption) ?_
        case refine_2 => (intro w9 hSw; clear hSw; go_simp; try with_reducible rfl)
        simp only [Act.put, List.setIfInBounds_toArray, List.set_cons_zero, List.set_cons_succ]
        refine wpAnyH_ready (rs := [10]) (by kernel_rfl) (by simp) (AllReadyH.cons (o := { dst := none, op := _, type := _, pos := _, after := _, guard := none }) rfl (fun K hK => ?_) AllReadyH.nil)
        refine (if_pos (by kernel_rfl)).mpr (wp_store_mid 40 _ _ rfl _ 0 #[.int .i64 0, .int .i64 dx] rfl rfl HN.out.1.there (by kernel_rfl) (by simp [Value.oneCell']) (hK.out _ _ (hHeld.off HN.out.2.1 HN.out.2.2 _) (fun hHeld => ?_)))
        have HN2 : Hid (BS w ((_, [.int .i64 0, .int .i64 dx]) :: [(w.heap.size, [.int .i64 0, .int .i64 u])]) _ ∧ _) := ⟨⟨hHeld.1, fun x hx => by rcases List.mem_cons.1 hx with rfl | hx; exact ⟨HN.out.2.1, HN.out.1.setAll _ rfl⟩; exact hHeld.2 x hx⟩, HN.out.2.2⟩
        clear hK K HN
        refine wpAnyH_take (i := 11) (v := ?_) (oi := { dst := some 5, op := _, type := _, pos := _, after := _, guard := none }) rfl (by kernel_rfl) (by kernel_rfl) (by kernel_rfl) (fun _ _ _ h => h) (Or.inl ⟨by kernel_rfl, ?_⟩) (by assumption) ?_
        case refine_2 => (intro w9 hSw; clear hSw; go_simp; try with_reducible rfl)
        simp only [Act.put, List.setIfInBounds_toArray, List.set_cons_zero, List.set_cons_succ]
        refine wpAnyH_done (by kernel_rfl) ?_ _
        go_wp2_with fail
        go_meet
        case rel => exact ⟨_, rfl, rfl, HN2.out⟩
    ·
      go_simp
      have hH0 := hHeld
      refine hK.out _ _ (hHeld.alloc _) (fun hHeld => ?_)
      have HN : Hid (NB _ _ _ _ [.int .i64 0, .int .i64 0]) := hH0.nb hHeld
      clear hK K hH0
      refine wpAnyH_ready (rs := [2]) (by kernel_rfl) (by simp) (AllReadyH.cons (o := { dst := some 31, op := _, type := _, pos := _, after := _, guard := none }) rfl (fun K hK => ?_) AllReadyH.nil)
      go_simp
      refine (NM.out _ (hL.out _ hHeld.1)).mono ?_
      rintro e v14 ⟨rfl, hb14⟩
      refine hK.out _ _ (hHeld.below hb14) (fun hHeld => ?_)
      try (have HN2 := HN.out.below hb14; clear HN; have HN : Hid (NB _ _ _ _ _) := HN2; clear HN2)
      clear hK K hb14
      refine wpAnyH_ready (rs := [4]) (by kernel_rfl) (by simp) (AllReadyH.cons (o := { dst := some 33, op := _, type := _, pos := _, after := _, guard := none }) rfl (fun K hK => ?_) AllReadyH.nil)
      go_simp
      refine (ND.out _ (hL.out _ hHeld.1)).mono ?_
      rintro e v15 ⟨rfl, hb15⟩
      refine hK.out _ _ (hHeld.below hb15) (fun hHeld => ?_)
      try (have HN2 := HN.out.below hb15; clear HN; have HN : Hid (NB _ _ _ _ _) := HN2; clear HN2)
      clear hK K hb15
      refine wpAnyH_ready (rs := [5]) (by kernel_rfl) (by simp) (AllReadyH.cons (o := { dst := some 34, op := _, type := _, pos := _, after := _, guard := none }) rfl (fun K hK => ?_) AllReadyH.nil)
      go_simp
      refine (MK.out _).mono ?_
      rintro e v16 ⟨rfl, hb16⟩
      refine hK.out _ _ (hHeld.below hb16) (fun hHeld => ?_)
      try (have HN2 := HN.out.below hb16; clear HN; have HN : Hid (NB _ _ _ _ _) := HN2; clear HN2)
      clear hK K hb16
      refine wpAnyH_take (i := 6) (v := ?_) (oi := { dst := some 28, op := _, type := _, pos := _, after := _, guard := none }) rfl (by kernel_rfl) (by kernel_rfl) (by kernel_rfl) (fun _ _ _ h => h) (Or.inl ⟨by kernel_rfl, ?_⟩) (by assumption) ?_
      case refine_2 => (intro w9 hSw; clear hSw; go_simp; try with_reducible rfl)
      simp only [Act.put, List.setIfInBounds_toArray, List.set_cons_zero, List.set_cons_succ]
      refine wpAnyH_take (i := 7) (v := ?_) (oi := { dst := some 35, op := _, type := _, pos := _, after := _, guard := none }) rfl (by kernel_rfl) (by kernel_rfl) (by kernel_rfl) (fun _ _ _ h => h) (Or.inl ⟨by kernel_rfl, ?_⟩) (by assumption) ?_
      case refine_2 => (intro w9 hSw; clear hSw; go_simp; try with_reducible rfl)
      simp only [Act.put, List.setIfInBounds_toArray, List.set_cons_zero, List.set_cons_succ]
      refine wpAnyH_take (i := 8) (v := ?_) (oi := { dst := some 36, op := _, type := _, pos := _, after := _, guard := none }) rfl (by kernel_rfl) (by kernel_rfl) (by kernel_rfl) (fun _ _ _ h => h) (Or.inl ⟨by kernel_rfl, ?_⟩) (by assumption) ?_
      case refine_2 => (intro w9 hSw; clear hSw; go_simp; try with_reducible rfl)
      simp only [Act.put, List.setIfInBounds_toArray, List.set_cons_zero, List.set_cons_succ]
      refine wpAnyH_ready (rs := [10]) (by kernel_rfl) (by simp) (AllReadyH.cons (o := { dst := none, op := _, type := _, pos := _, after := _, guard := none }) rfl (fun K hK => ?_) AllReadyH.nil)
      refine (if_pos (by kernel_rfl)).mpr (wp_store_mid 40 _ _ rfl _ 0 #[.int .i64 0, .int .i64 dx] rfl rfl HN.out.1.there (by kernel_rfl) (by simp [Value.oneCell']) (hK.out _ _ (hHeld.off HN.out.2.1 HN.out.2.2 _) (fun hHeld => ?_)))
      have HN2 : Hid (BS w ((_, [.int .i64 0, .int .i64 dx]) :: [(w.heap.size, [.int .i64 0, .int .i64 u])]) _ ∧ _) := ⟨⟨hHeld.1, fun x hx => by rcases List.mem_cons.1 hx with rfl | hx; exact ⟨HN.out.2.1, HN.out.1.setAll _ rfl⟩; exact hHeld.2 x hx⟩, HN.out.2.2⟩
      clear hK K HN
      refine wpAnyH_take (i := 11) (v := ?_) (oi := { dst := some 5, op := _, type := _, pos := _, after := _, guard := none }) rfl (by kernel_rfl) (by kernel_rfl) (by kernel_rfl) (fun _ _ _ h => h) (Or.inl ⟨by kernel_rfl, ?_⟩) (by assumption) ?_
      case refine_2 => (intro w9 hSw; clear hSw; go_simp; try with_reducible rfl)
      simp only [Act.put, List.setIfInBounds_toArray, List.set_cons_zero, List.set_cons_succ]
      refine wpAnyH_done (by kernel_rfl) ?_ _
      go_wp2_with fail
      go_meet
      case rel => exact ⟨_, rfl, rfl, HN2.out⟩
  case rest =>
    clear c2_0_0 c2_0_1
    obtain ⟨nb2, rfl, rfl, KK⟩ := hcut
    clear K2
    have K3 : Hid (BS w [(nb2, [.int .i64 0, .int .i64 dx]), (w.heap.size, [.int .i64 0, .int .i64 u])] wc) := KK.out.1
    have ne3_0 : w.heap.size ≠ nb2 := KK.out.2 (w.heap.size, [.int .i64 0, .int .i64 u]) (by simp)
    clear KK
    obtain ⟨c3_0_0, c3_0_1⟩ := (bo1 K3).c2
    obtain ⟨c3_1_0, c3_1_1⟩ := (bo2 K3).c2
    go_upto_region 7 with fail
    go_cut [6] (fun v0 wx => v0 = .int .i64 D ∧ Hid (BS w [(nb2, [.int .i64 0, .int .i64 dx]), (w.heap.size, [.int .i64 0, .int .i64 u])] wx))
    case first =>
      refine wp_region_held_drew (S := BS w [(nb2, [.int .i64 0, .int .i64 dx]), (w.heap.size, [.int .i64 0, .int .i64 u])]) (by kernel_rfl) K3.out.drew (fun hHeld => ?_)
      refine wpAnyH_take (i := 0) (v := ?_) (oi := { dst := some 37, op := _, type := _, pos := _, after := _, guard := none }) rfl (by kernel_rfl) (by kernel_rfl) (by kernel_rfl) (fun _ _ _ h => h) (Or.inl ⟨by kernel_rfl, ?_⟩) (by assumption) ?_
      case refine_2 => (intro w9 hSw; have l0_0 := (hSw.at (nb2) [.int .i64 0, .int .i64 dx] (by simp)).c 0 rfl; have l0_1 := (hSw.at (nb2) [.int .i64 0, .int .i64 dx] (by simp)).c 1 rfl; have l1_0 := (hSw.at (w.heap.size) [.int .i64 0, .int .i64 u] (by simp)).c 0 rfl; have l1_1 := (hSw.at (w.heap.size) [.int .i64 0, .int .i64 u] (by simp)).c 1 rfl; clear hSw; go_simp; try with_reducible rfl)
      simp only [Act.put, List.setIfInBounds_toArray, List.set_cons_zero, List.set_cons_succ]
      refine wpAnyH_take (i := 4) (v := ?_) (oi := { dst := some 41, op := _, type := _, pos := _, after := _, guard := none }) rfl (by kernel_rfl) (by kernel_rfl) (by kernel_rfl) (fun _ _ _ h => h) (Or.inl ⟨by kernel_rfl, ?_⟩) (by assumption) ?_
      case refine_2 => (intro w9 hSw; have l0_0 := (hSw.at (nb2) [.int .i64 0, .int .i64 dx] (by simp)).c 0 rfl; have l0_1 := (hSw.at (nb2) [.int .i64 0, .int .i64 dx] (by simp)).c 1 rfl; have l1_0 := (hSw.at (w.heap.size) [.int .i64 0, .int .i64 u] (by simp)).c 0 rfl; have l1_1 := (hSw.at (w.heap.size) [.int .i64 0, .int .i64 u] (by simp)).c 1 rfl; clear hSw; go_simp; try with_reducible rfl)
      simp only [Act.put, List.setIfInBounds_toArray, List.set_cons_zero, List.set_cons_succ]
      refine wpAnyH_take (i := 9) (v := ?_) (oi := { dst := some 46, op := _, type := _, pos := _, after := _, guard := none }) rfl (by kernel_rfl) (by kernel_rfl) (by kernel_rfl) (fun _ _ _ h => h) (Or.inl ⟨by kernel_rfl, ?_⟩) (by assumption) ?_
      case refine_2 => (intro w9 hSw; have l0_0 := (hSw.at (nb2) [.int .i64 0, .int .i64 dx] (by simp)).c 0 rfl; have l0_1 := (hSw.at (nb2) [.int .i64 0, .int .i64 dx] (by simp)).c 1 rfl; have l1_0 := (hSw.at (w.heap.size) [.int .i64 0, .int .i64 u] (by simp)).c 0 rfl; have l1_1 := (hSw.at (w.heap.size) [.int .i64 0, .int .i64 u] (by simp)).c 1 rfl; clear hSw; go_simp; try with_reducible rfl)
      simp only [Act.put, List.setIfInBounds_toArray, List.set_cons_zero, List.set_cons_succ]
      refine wpAnyH_ready (rs := [1]) (by kernel_rfl) (by simp) (AllReadyH.cons (o := { dst := some 38, op := _, type := _, pos := _, after := _, guard := none }) rfl (fun K hK => ?_) AllReadyH.nil)
      go_simp
      refine (NH.out _ (hL.out _ hHeld.1)).mono ?_
      rintro e v1 ⟨rfl, hb1⟩
      refine hK.out _ _ (hHeld.below hb1) (fun hHeld => ?_)
      clear hK K hb1
      refine wpAnyH_take (i := 2) (v := ?_) (oi := { dst := some 39, op := _, type := _, pos := _, after := _, guard := none }) rfl (by kernel_rfl) (by kernel_rfl) (by kernel_rfl) (fun _ _ _ h => h) (Or.inl ⟨by kernel_rfl, ?_⟩) (by assumption) ?_
      case refine_2 => (intro w9 hSw; clear hSw; go_simp; try with_reducible rfl)
      simp only [Act.put, List.setIfInBounds_toArray, List.set_cons_zero, List.set_cons_succ]
      refine wpAnyH_take (i := 3) (v := ?_) (oi := { dst := some 40, op := _, type := _, pos := _, after := _, guard := none }) rfl (by kernel_rfl) (by kernel_rfl) (by kernel_rfl) (fun _ _ _ h => h) (Or.inl ⟨by kernel_rfl, ?_⟩) (by assumption) ?_
      case refine_2 => (intro w9 hSw; clear hSw; go_simp; try with_reducible rfl)
      simp only [Act.put, List.setIfInBounds_toArray, List.set_cons_zero, List.set_cons_succ]
      refine wpAnyH_ready (rs := [5]) (by kernel_rfl) (by simp) (AllReadyH.cons (o := { dst := some 42, op := _, type := _, pos := _, after := _, guard := none }) rfl (fun K hK => ?_) AllReadyH.nil)
      go_simp
      refine (NI.out _ (hL.out _ hHeld.1)).mono ?_
      rintro e v2 ⟨rfl, hb2⟩
      refine hK.out _ _ (hHeld.below hb2) (fun hHeld => ?_)
      clear hK K hb2
      refine wpAnyH_take (i := 6) (v := ?_) (oi := { dst := some 43, op := _, type := _, pos := _, after := _, guard := none }) rfl (by kernel_rfl) (by kernel_rfl) (by kernel_rfl) (fun _ _ _ h => h) (Or.inl ⟨by kernel_rfl, ?_⟩) (by assumption) ?_
      case refine_2 => (intro w9 hSw; clear hSw; go_simp; try with_reducible rfl)
      simp only [Act.put, List.setIfInBounds_toArray, List.set_cons_zero, List.set_cons_succ]
      refine wpAnyH_take (i := 7) (v := ?_) (oi := { dst := some 44, op := _, type := _, pos := _, after := _, guard := none }) rfl (by kernel_rfl) (by kernel_rfl) (by kernel_rfl) (fun _ _ _ h => h) (Or.inl ⟨by kernel_rfl, ?_⟩) (by assumption) ?_
      case refine_2 => (intro w9 hSw; clear hSw; go_simp; try with_reducible rfl)
      simp only [Act.put, List.setIfInBounds_toArray, List.set_cons_zero, List.set_cons_succ]
      refine wpAnyH_take (i := 8) (v := ?_) (oi := { dst := some 45, op := _, type := _, pos := _, after := _, guard := none }) rfl (by kernel_rfl) (by kernel_rfl) (by kernel_rfl) (fun _ _ _ h => h) (Or.inl ⟨by kernel_rfl, ?_⟩) (by assumption) ?_
      case refine_2 => (intro w9 hSw; clear hSw; go_simp; try with_reducible rfl)
      simp only [Act.put, List.setIfInBounds_toArray, List.set_cons_zero, List.set_cons_succ]
      refine wpAnyH_ready (rs := [10]) (by kernel_rfl) (by simp) (AllReadyH.cons (o := { dst := some 47, op := _, type := _, pos := _, after := _, guard := none }) rfl (fun K hK => ?_) AllReadyH.nil)
      go_simp
      refine (NU.out _ (hL.out _ hHeld.1)).mono ?_
      rintro e v3 ⟨rfl, hb3⟩
      refine hK.out _ _ (hHeld.below hb3) (fun hHeld => ?_)
      clear hK K hb3
      refine wpAnyH_take (i := 11) (v := ?_) (oi := { dst := some 48, op := _, type := _, pos := _, after := _, guard := none }) rfl (by kernel_rfl) (by kernel_rfl) (by kernel_rfl) (fun _ _ _ h => h) (Or.inl ⟨by kernel_rfl, ?_⟩) (by assumption) ?_
      case refine_2 => (intro w9 hSw; clear hSw; go_simp; try with_reducible rfl)
      simp only [Act.put, List.setIfInBounds_toArray, List.set_cons_zero, List.set_cons_succ]
      refine wpAnyH_take (i := 12) (v := ?_) (oi := { dst := some 6, op := _, type := _, pos := _, after := _, guard := none }) rfl (by kernel_rfl) (by kernel_rfl) (by kernel_rfl) (fun _ _ _ h => h) (Or.inl ⟨by kernel_rfl, ?_⟩) (by assumption) ?_
      case refine_2 => (intro w9 hSw; clear hSw; go_simp; try with_reducible rfl)
      simp only [Act.put, List.setIfInBounds_toArray, List.set_cons_zero, List.set_cons_succ]
      refine wpAnyH_done (by kernel_rfl) ?_ _
      go_wp2_with fail
      go_meet
      case rel => exact ⟨rfl, hHeld⟩
    case rest =>
      clear c3_0_0 c3_0_1 c3_1_0 c3_1_1
      obtain ⟨rfl, K4⟩ := hcut
      clear K3
      skip
      obtain ⟨c4_0_0, c4_0_1⟩ := (bo1 K4).c2
      obtain ⟨c4_1_0, c4_1_1⟩ := (bo2 K4).c2
      go_wp2_with fail
      refine (SM.out _).mono ?_
      rintro e W5 ⟨rfl, hb⟩
      have K5 := bsb K4 hb
      clear c4_0_0 c4_0_1 c4_1_0 c4_1_1
      clear hb K4
      obtain ⟨c5_0_0, c5_0_1⟩ := (bo1 K5).c2
      obtain ⟨c5_1_0, c5_1_1⟩ := (bo2 K5).c2
      have Mz5 := bsn K5 [.int .i64 0, .int .i64 u] 23
      have lt5_0 := (bo1 K5).1
      have lt5_1 := (bo2 K5).1
      go_upto_region 9 with fail
      refine bs_to Mz5 ?_
      clear c5_0_0 c5_0_1 c5_1_0 c5_1_1
      intro W6 K6
      clear Mz5 K5
      obtain ⟨c6_0_0, c6_0_1⟩ := (bo1 K6).c2
      obtain ⟨c6_1_0, c6_1_1⟩ := (bo2 K6).c2
      obtain ⟨c6_2_0, c6_2_1⟩ := (bo3 K6).c2
      go_wp2_with fail
      refine (NQ.out _ (hL.out _ K6.out.1)).mono ?_
      rintro e W7 ⟨rfl, hb⟩
      have K7 := bsb K6 hb
      clear c6_0_0 c6_0_1 c6_1_0 c6_1_1 c6_2_0 c6_2_1
      clear hb K6
      obtain ⟨c7_0_0, c7_0_1⟩ := (bo1 K7).c2
      obtain ⟨c7_1_0, c7_1_1⟩ := (bo2 K7).c2
      obtain ⟨c7_2_0, c7_2_1⟩ := (bo3 K7).c2
      go_wp2_with fail
      refine (NM.out _ (hL.out _ K7.out.1)).mono ?_
      rintro e W8 ⟨rfl, hb⟩
      have K8 := bsb K7 hb
      clear c7_0_0 c7_0_1 c7_1_0 c7_1_1 c7_2_0 c7_2_1
      clear hb K7
      obtain ⟨c8_0_0, c8_0_1⟩ := (bo1 K8).c2
      obtain ⟨c8_1_0, c8_1_1⟩ := (bo2 K8).c2
      obtain ⟨c8_2_0, c8_2_1⟩ := (bo3 K8).c2
      go_upto_region 11 with fail
      go_cut [11, 12] (fun v0 v1 wx => ∃ nb, v0 = .pointer (some ⟨nb, 0, none⟩) ∧ v1 = .int .i64 0 ∧ Hid (BS w ((nb, [.int .i64 v, .int .i64 sc]) :: [(W5.heap.size, [.int .i64 0, .int .i64 u]), (nb2, [.int .i64 0, .int .i64 dx]), (w.heap.size, [.int .i64 0, .int .i64 u])]) wx ∧ (∀ x ∈ ([(W5.heap.size, [.int .i64 0, .int .i64 u]), (nb2, [.int .i64 0, .int .i64 dx]), (w.heap.size, [.int .i64 0, .int .i64 u])] : List (Nat × List Value)), x.1 ≠ nb)))
      case first =>
        refine wp_region_held_drew (S := BS w [(W5.heap.size, [.int .i64 0, .int .i64 u]), (nb2, [.int .i64 0, .int .i64 dx]), (w.heap.size, [.int .i64 0, .int .i64 u])]) (by kernel_rfl) K8.out.drew (fun hHeld => ?_)
        refine wpAnyH_take (i := 1) (v := ?_) (oi := { dst := some 61, op := _, type := _, pos := _, after := _, guard := none }) rfl (by kernel_rfl) (by kernel_rfl) (by kernel_rfl) (fun _ _ _ h => h) (Or.inl ⟨by kernel_rfl, ?_⟩) (by assumption) ?_
        case refine_2 => (intro w9 hSw; have l0_0 := (hSw.at (W5.heap.size) [.int .i64 0, .int .i64 u] (by simp)).c 0 rfl; have l0_1 := (hSw.at (W5.heap.size) [.int .i64 0, .int .i64 u] (by simp)).c 1 rfl; have l1_0 := (hSw.at (nb2) [.int .i64 0, .int .i64 dx] (by simp)).c 0 rfl; have l1_1 := (hSw.at (nb2) [.int .i64 0, .int .i64 dx] (by simp)).c 1 rfl; have l2_0 := (hSw.at (w.heap.size) [.int .i64 0, .int .i64 u] (by simp)).c 0 rfl; have l2_1 := (hSw.at (w.heap.size) [.int .i64 0, .int .i64 u] (by simp)).c 1 rfl; clear hSw; go_simp; try with_reducible rfl)
        simp only [Act.put, List.setIfInBounds_toArray, List.set_cons_zero, List.set_cons_succ]
        refine wpAnyH_take (i := 2) (v := ?_) (oi := { dst := some 62, op := _, type := _, pos := _, after := _, guard := none }) rfl (by kernel_rfl) (by kernel_rfl) (by kernel_rfl) (fun _ _ _ h => h) (Or.inl ⟨by kernel_rfl, ?_⟩) (by assumption) ?_
        case refine_2 => (intro w9 hSw; clear hSw; go_simp; try with_reducible rfl)
        simp only [Act.put, List.setIfInBounds_toArray, List.set_cons_zero, List.set_cons_succ]
        refine wpAnyH_ready (rs := [0, 7]) (by kernel_rfl) (by simp) (AllReadyH.cons (o := { dst := some 60, op := _, type := _, pos := _, after := _, guard := none }) rfl (fun K hK => ?_) (AllReadyH.cons (o := { dst := some 11, op := _, type := _, pos := _, after := _, guard := none }) rfl (fun K hK => ?_) AllReadyH.nil))
        ·
          go_simp
          refine (UT.out _).mono ?_
          rintro e v1 ⟨rfl, hb1⟩
          refine hK.out _ _ (hHeld.below hb1) (fun hHeld => ?_)
          try (have HN2 := HN.out.below hb1; clear HN; have HN : Hid (NB _ _ _ _ _) := HN2; clear HN2)
          clear hK K hb1
          refine wpAnyH_ready (rs := [3, 7]) (by kernel_rfl) (by simp) (AllReadyH.cons (o := { dst := some 63, op := _, type := _, pos := _, after := _, guard := none }) rfl (fun K hK => ?_) (AllReadyH.cons (o := { dst := some 11, op := _, type := _, pos := _, after := _, guard := none }) rfl (fun K hK => ?_) AllReadyH.nil))
          ·
            go_simp
            refine (EX.out _ (hL.out _ hHeld.1)).mono ?_
            rintro e v2 ⟨rfl, hb2⟩
            refine hK.out _ _ (hHeld.below hb2) (fun hHeld => ?_)
            try (have HN2 := HN.out.below hb2; clear HN; have HN : Hid (NB _ _ _ _ _) := HN2; clear HN2)
            clear hK K hb2
            refine wpAnyH_take (i := 4) (v := ?_) (oi := { dst := some 59, op := _, type := _, pos := _, after := _, guard := none }) rfl (by kernel_rfl) (by kernel_rfl) (by kernel_rfl) (fun _ _ _ h => h) (Or.inl ⟨by kernel_rfl, ?_⟩) (by assumption) ?_
            case refine_2 => (intro w9 hSw; clear hSw; go_simp; try with_reducible rfl)
            simp only [Act.put, List.setIfInBounds_toArray, List.set_cons_zero, List.set_cons_succ]
            refine wpAnyH_take (i := 5) (v := ?_) (oi := { dst := some 64, op := _, type := _, pos := _, after := _, guard := none }) rfl (by kernel_rfl) (by kernel_rfl) (by kernel_rfl) (fun _ _ _ h => h) (Or.inl ⟨by kernel_rfl, ?_⟩) (by assumption) ?_
            case refine_2 => (intro w9 hSw; clear hSw; go_simp; try with_reducible rfl)
            simp only [Act.put, List.setIfInBounds_toArray, List.set_cons_zero, List.set_cons_succ]
            refine wpAnyH_take (i := 6) (v := ?_) (oi := { dst := some 65, op := _, type := _, pos := _, after := _, guard := none }) rfl (by kernel_rfl) (by kernel_rfl) (by kernel_rfl) (fun _ _ _ h => h) (Or.inl ⟨by kernel_rfl, ?_⟩) (by assumption) ?_
            case refine_2 => (intro w9 hSw; clear hSw; go_simp; try with_reducible rfl)
            simp only [Act.put, List.setIfInBounds_toArray, List.set_cons_zero, List.set_cons_succ]
            refine wpAnyH_ready (rs := [7]) (by kernel_rfl) (by simp) (AllReadyH.cons (o := { dst := some 11, op := _, type := _, pos := _, after := _, guard := none }) rfl (fun K hK => ?_) AllReadyH.nil)
            go_simp
            have hH0 := hHeld
            refine hK.out _ _ (hHeld.alloc _) (fun hHeld => ?_)
            have HN : Hid (NB _ _ _ _ [.int .i64 0, .int .i64 0]) := hH0.nb hHeld
            clear hK K hH0
            refine wpAnyH_ready (rs := [8]) (by kernel_rfl) (by simp) (AllReadyH.cons (o := { dst := none, op := _, type := _, pos := _, after := _, guard := none }) rfl (fun K hK => ?_) AllReadyH.nil)
            refine (if_pos (by kernel_rfl)).mpr (wp_store_mid 45 _ _ rfl _ 0 #[.int .i64 v, .int .i64 sc] rfl rfl HN.out.1.there (by kernel_rfl) (by simp [Value.oneCell']) (hK.out _ _ (hHeld.off HN.out.2.1 HN.out.2.2 _) (fun hHeld => ?_)))
            have HN2 : Hid (BS w ((_, [.int .i64 v, .int .i64 sc]) :: [(W5.heap.size, [.int .i64 0, .int .i64 u]), (nb2, [.int .i64 0, .int .i64 dx]), (w.heap.size, [.int .i64 0, .int .i64 u])]) _ ∧ _) := ⟨⟨hHeld.1, fun x hx => by rcases List.mem_cons.1 hx with rfl | hx; exact ⟨HN.out.2.1, HN.out.1.setAll _ rfl⟩; exact hHeld.2 x hx⟩, HN.out.2.2⟩
            clear hK K HN
            refine wpAnyH_take (i := 9) (v := ?_) (oi := { dst := some 12, op := _, type := _, pos := _, after := _, guard := none }) rfl (by kernel_rfl) (by kernel_rfl) (by kernel_rfl) (fun _ _ _ h => h) (Or.inl ⟨by kernel_rfl, ?_⟩) (by assumption) ?_
            case refine_2 => (intro w9 hSw; clear hSw; go_simp; try with_reducible rfl)
            simp only [Act.put, List.setIfInBounds_toArray, List.set_cons_zero, List.set_cons_succ]
            refine wpAnyH_done (by kernel_rfl) ?_ _
            go_wp2_with fail
            go_meet
            case rel => exact ⟨_, rfl, rfl, HN2.out⟩
          ·
            go_simp
            have hH0 := hHeld
            refine hK.out _ _ (hHeld.alloc _) (fun hHeld => ?_)
            have HN : Hid (NB _ _ _ _ [.int .i64 0, .int .i64 0]) := hH0.nb hHeld
            clear hK K hH0
            refine wpAnyH_ready (rs := [3]) (by kernel_rfl) (by simp) (AllReadyH.cons (o := { dst := some 63, op := _, type := _, pos := _, after := _, guard := none }) rfl (fun K hK => ?_) AllReadyH.nil)
            go_simp
            refine (EX.out _ (hL.out _ hHeld.1)).mono ?_
            rintro e v6 ⟨rfl, hb6⟩
            refine hK.out _ _ (hHeld.below hb6) (fun hHeld => ?_)
            try (have HN2 := HN.out.below hb6; clear HN; have HN : Hid (NB _ _ _ _ _) := HN2; clear HN2)
            clear hK K hb6
            refine wpAnyH_take (i := 4) (v := ?_) (oi := { dst := some 59, op := _, type := _, pos := _, after := _, guard := none }) rfl (by kernel_rfl) (by kernel_rfl) (by kernel_rfl) (fun _ _ _ h => h) (Or.inl ⟨by kernel_rfl, ?_⟩) (by assumption) ?_
            case refine_2 => (intro w9 hSw; clear hSw; go_simp; try with_reducible rfl)
            simp only [Act.put, List.setIfInBounds_toArray, List.set_cons_zero, List.set_cons_succ]
            refine wpAnyH_take (i := 5) (v := ?_) (oi := { dst := some 64, op := _, type := _, pos := _, after := _, guard := none }) rfl (by kernel_rfl) (by kernel_rfl) (by kernel_rfl) (fun _ _ _ h => h) (Or.inl ⟨by kernel_rfl, ?_⟩) (by assumption) ?_
            case refine_2 => (intro w9 hSw; clear hSw; go_simp; try with_reducible rfl)
            simp only [Act.put, List.setIfInBounds_toArray, List.set_cons_zero, List.set_cons_succ]
            refine wpAnyH_take (i := 6) (v := ?_) (oi := { dst := some 65, op := _, type := _, pos := _, after := _, guard := none }) rfl (by kernel_rfl) (by kernel_rfl) (by kernel_rfl) (fun _ _ _ h => h) (Or.inl ⟨by kernel_rfl, ?_⟩) (by assumption) ?_
            case refine_2 => (intro w9 hSw; clear hSw; go_simp; try with_reducible rfl)
            simp only [Act.put, List.setIfInBounds_toArray, List.set_cons_zero, List.set_cons_succ]
            refine wpAnyH_ready (rs := [8]) (by kernel_rfl) (by simp) (AllReadyH.cons (o := { dst := none, op := _, type := _, pos := _, after := _, guard := none }) rfl (fun K hK => ?_) AllReadyH.nil)
            refine (if_pos (by kernel_rfl)).mpr (wp_store_mid 45 _ _ rfl _ 0 #[.int .i64 v, .int .i64 sc] rfl rfl HN.out.1.there (by kernel_rfl) (by simp [Value.oneCell']) (hK.out _ _ (hHeld.off HN.out.2.1 HN.out.2.2 _) (fun hHeld => ?_)))
            have HN2 : Hid (BS w ((_, [.int .i64 v, .int .i64 sc]) :: [(W5.heap.size, [.int .i64 0, .int .i64 u]), (nb2, [.int .i64 0, .int .i64 dx]), (w.heap.size, [.int .i64 0, .int .i64 u])]) _ ∧ _) := ⟨⟨hHeld.1, fun x hx => by rcases List.mem_cons.1 hx with rfl | hx; exact ⟨HN.out.2.1, HN.out.1.setAll _ rfl⟩; exact hHeld.2 x hx⟩, HN.out.2.2⟩
            clear hK K HN
            refine wpAnyH_take (i := 9) (v := ?_) (oi := { dst := some 12, op := _, type := _, pos := _, after := _, guard := none }) rfl (by kernel_rfl) (by kernel_rfl) (by kernel_rfl) (fun _ _ _ h => h) (Or.inl ⟨by kernel_rfl, ?_⟩) (by assumption) ?_
            case refine_2 => (intro w9 hSw; clear hSw; go_simp; try with_reducible rfl)
            simp only [Act.put, List.setIfInBounds_toArray, List.set_cons_zero, List.set_cons_succ]
            refine wpAnyH_done (by kernel_rfl) ?_ _
            go_wp2_with fail
            go_meet
            case rel => exact ⟨_, rfl, rfl, HN2.out⟩
        ·
          go_simp
          have hH0 := hHeld
          refine hK.out _ _ (hHeld.alloc _) (fun hHeld => ?_)
          have HN : Hid (NB _ _ _ _ [.int .i64 0, .int .i64 0]) := hH0.nb hHeld
          clear hK K hH0
          refine wpAnyH_ready (rs := [0]) (by kernel_rfl) (by simp) (AllReadyH.cons (o := { dst := some 60, op := _, type := _, pos := _, after := _, guard := none }) rfl (fun K hK => ?_) AllReadyH.nil)
          go_simp
          refine (UT.out _).mono ?_
          rintro e v9 ⟨rfl, hb9⟩
          refine hK.out _ _ (hHeld.below hb9) (fun hHeld => ?_)
          try (have HN2 := HN.out.below hb9; clear HN; have HN : Hid (NB _ _ _ _ _) := HN2; clear HN2)
          clear hK K hb9
          refine wpAnyH_ready (rs := [3]) (by kernel_rfl) (by simp) (AllReadyH.cons (o := { dst := some 63, op := _, type := _, pos := _, after := _, guard := none }) rfl (fun K hK => ?_) AllReadyH.nil)
          go_simp
          refine (EX.out _ (hL.out _ hHeld.1)).mono ?_
          rintro e v10 ⟨rfl, hb10⟩
          refine hK.out _ _ (hHeld.below hb10) (fun hHeld => ?_)
          try (have HN2 := HN.out.below hb10; clear HN; have HN : Hid (NB _ _ _ _ _) := HN2; clear HN2)
          clear hK K hb10
          refine wpAnyH_take (i := 4) (v := ?_) (oi := { dst := some 59, op := _, type := _, pos := _, after := _, guard := none }) rfl (by kernel_rfl) (by kernel_rfl) (by kernel_rfl) (fun _ _ _ h => h) (Or.inl ⟨by kernel_rfl, ?_⟩) (by assumption) ?_
          case refine_2 => (intro w9 hSw; clear hSw; go_simp; try with_reducible rfl)
          simp only [Act.put, List.setIfInBounds_toArray, List.set_cons_zero, List.set_cons_succ]
          refine wpAnyH_take (i := 5) (v := ?_) (oi := { dst := some 64, op := _, type := _, pos := _, after := _, guard := none }) rfl (by kernel_rfl) (by kernel_rfl) (by kernel_rfl) (fun _ _ _ h => h) (Or.inl ⟨by kernel_rfl, ?_⟩) (by assumption) ?_
          case refine_2 => (intro w9 hSw; clear hSw; go_simp; try with_reducible rfl)
          simp only [Act.put, List.setIfInBounds_toArray, List.set_cons_zero, List.set_cons_succ]
          refine wpAnyH_take (i := 6) (v := ?_) (oi := { dst := some 65, op := _, type := _, pos := _, after := _, guard := none }) rfl (by kernel_rfl) (by kernel_rfl) (by kernel_rfl) (fun _ _ _ h => h) (Or.inl ⟨by kernel_rfl, ?_⟩) (by assumption) ?_
          case refine_2 => (intro w9 hSw; clear hSw; go_simp; try with_reducible rfl)
          simp only [Act.put, List.setIfInBounds_toArray, List.set_cons_zero, List.set_cons_succ]
          refine wpAnyH_ready (rs := [8]) (by kernel_rfl) (by simp) (AllReadyH.cons (o := { dst := none, op := _, type := _, pos := _, after := _, guard := none }) rfl (fun K hK => ?_) AllReadyH.nil)
          refine (if_pos (by kernel_rfl)).mpr (wp_store_mid 45 _ _ rfl _ 0 #[.int .i64 v, .int .i64 sc] rfl rfl HN.out.1.there (by kernel_rfl) (by simp [Value.oneCell']) (hK.out _ _ (hHeld.off HN.out.2.1 HN.out.2.2 _) (fun hHeld => ?_)))
          have HN2 : Hid (BS w ((_, [.int .i64 v, .int .i64 sc]) :: [(W5.heap.size, [.int .i64 0, .int .i64 u]), (nb2, [.int .i64 0, .int .i64 dx]), (w.heap.size, [.int .i64 0, .int .i64 u])]) _ ∧ _) := ⟨⟨hHeld.1, fun x hx => by rcases List.mem_cons.1 hx with rfl | hx; exact ⟨HN.out.2.1, HN.out.1.setAll _ rfl⟩; exact hHeld.2 x hx⟩, HN.out.2.2⟩
          clear hK K HN
          refine wpAnyH_take (i := 9) (v := ?_) (oi := { dst := some 12, op := _, type := _, pos := _, after := _, guard := none }) rfl (by kernel_rfl) (by kernel_rfl) (by kernel_rfl) (fun _ _ _ h => h) (Or.inl ⟨by kernel_rfl, ?_⟩) (by assumption) ?_
          case refine_2 => (intro w9 hSw; clear hSw; go_simp; try with_reducible rfl)
          simp only [Act.put, List.setIfInBounds_toArray, List.set_cons_zero, List.set_cons_succ]
          refine wpAnyH_done (by kernel_rfl) ?_ _
          go_wp2_with fail
          go_meet
          case rel => exact ⟨_, rfl, rfl, HN2.out⟩
      case rest =>
        clear c8_0_0 c8_0_1 c8_1_0 c8_1_1 c8_2_0 c8_2_1
        obtain ⟨nb8, rfl, rfl, KK⟩ := hcut
        clear K8
        have K9 : Hid (BS w [(nb8, [.int .i64 v, .int .i64 sc]), (W5.heap.size, [.int .i64 0, .int .i64 u]), (nb2, [.int .i64 0, .int .i64 dx]), (w.heap.size, [.int .i64 0, .int .i64 u])] wc) := KK.out.1
        have ne9_0 : W5.heap.size ≠ nb8 := KK.out.2 (W5.heap.size, [.int .i64 0, .int .i64 u]) (by simp)
        have ne9_1 : nb2 ≠ nb8 := KK.out.2 (nb2, [.int .i64 0, .int .i64 dx]) (by simp)
        have ne9_2 : w.heap.size ≠ nb8 := KK.out.2 (w.heap.size, [.int .i64 0, .int .i64 u]) (by simp)
        clear KK
        obtain ⟨c9_0_0, c9_0_1⟩ := (bo1 K9).c2
        obtain ⟨c9_1_0, c9_1_1⟩ := (bo2 K9).c2
        obtain ⟨c9_2_0, c9_2_1⟩ := (bo3 K9).c2
        obtain ⟨c9_3_0, c9_3_1⟩ := (bo4 K9).c2
        go_wp2_with fail
        refine (DR.out _).mono ?_
        rintro e W10 ⟨rfl, hb⟩
        have K10 := bsb K9 hb
        clear c9_0_0 c9_0_1 c9_1_0 c9_1_1 c9_2_0 c9_2_1 c9_3_0 c9_3_1
        clear hb K9
        obtain ⟨c10_0_0, c10_0_1⟩ := (bo1 K10).c2
        obtain ⟨c10_1_0, c10_1_1⟩ := (bo2 K10).c2
        obtain ⟨c10_2_0, c10_2_1⟩ := (bo3 K10).c2
        obtain ⟨c10_3_0, c10_3_1⟩ := (bo4 K10).c2
        go_wp2_with fail
        refine (KN.out _ (hL.out _ K10.out.1)).mono ?_
        rintro e W11 ⟨rfl, hb⟩
        have K11 := bsb K10 hb
        clear c10_0_0 c10_0_1 c10_1_0 c10_1_1 c10_2_0 c10_2_1 c10_3_0 c10_3_1
        clear hb K10
        obtain ⟨c11_0_0, c11_0_1⟩ := (bo1 K11).c2
        obtain ⟨c11_1_0, c11_1_1⟩ := (bo2 K11).c2
        obtain ⟨c11_2_0, c11_2_1⟩ := (bo3 K11).c2
        obtain ⟨c11_3_0, c11_3_1⟩ := (bo4 K11).c2
        go_wp2
        go_ret
        exact ⟨rfl, K11.out.1⟩

set_option maxRecDepth 100000 in
set_option maxHeartbeats 4000000 in
theorem mk_01 (u dx Y y m q n h mi us D v sc g : Int) (b1 : -1000000 ≤ Y) (b2 : Y ≤ 1000000) (h1 : 0 ≤ h) (h2 : h ≤ 24) (m1 : 0 ≤ mi) (m2 : mi ≤ 60) (u1 : 0 ≤ us) (u2 : us ≤ 60000000) (m3 : 1 ≤ m) (m4 : m ≤ 12) (hn : n = (m + 2) / 3) (sy : ¬ Y < 0) (hy : Y = y) (hh : h * 3600 * 1000000 + mi * 60 * 1000000 + us = D) (hg : g ≠ 0)
    (RR : Hid (∀ w : World, Calls Tryz.prog 13 #[.agg #[.int .i64 0, .int .i64 u]] w fun r' w' => r' = .returned (.bool true) ∧ Below w.heap.size w w'))
    (NY : Hid (∀ w : World, LO w → Calls Tryz.prog 14 #[.string ⟨#[121, 101, 97, 114]⟩, .agg #[.int .i64 0, .int .i64 u]] w fun r' w' => r' = .returned (.int .i64 Y) ∧ Below w.heap.size w w'))
    (NM : Hid (∀ w : World, LO w → Calls Tryz.prog 14 #[.string ⟨#[109, 111, 110, 116, 104]⟩, .agg #[.int .i64 0, .int .i64 u]] w fun r' w' => r' = .returned (.int .i64 m) ∧ Below w.heap.size w w'))
    (ND : Hid (∀ w : World, LO w → Calls Tryz.prog 14 #[.string ⟨#[100, 97, 121]⟩, .agg #[.int .i64 0, .int .i64 u]] w fun r' w' => r' = .returned (.int .i64 q) ∧ Below w.heap.size w w'))
    (MK : Hid (∀ w : World, Calls Tryz.prog 15 #[.int .i64 y, .int .i64 m, .int .i64 q] w fun r' w' => r' = .returned (.tuple #[.agg #[.int .i64 0, .int .i64 dx], .int .i64 0]) ∧ Below w.heap.size w w'))
    (NH : Hid (∀ w : World, LO w → Calls Tryz.prog 14 #[.string ⟨#[104, 111, 117, 114]⟩, .agg #[.int .i64 0, .int .i64 u]] w fun r' w' => r' = .returned (.int .i64 h) ∧ Below w.heap.size w w'))
    (NI : Hid (∀ w : World, LO w → Calls Tryz.prog 14 #[.string ⟨#[109, 105, 110, 117, 116, 101]⟩, .agg #[.int .i64 0, .int .i64 u]] w fun r' w' => r' = .returned (.int .i64 mi) ∧ Below w.heap.size w w'))
    (NU : Hid (∀ w : World, LO w → Calls Tryz.prog 14 #[.string ⟨#[109, 105, 99, 114, 111, 115, 101, 99, 111, 110, 100, 115]⟩, .agg #[.int .i64 0, .int .i64 u]] w fun r' w' => r' = .returned (.int .i64 us) ∧ Below w.heap.size w w'))
    (SM : Hid (∀ w : World, Calls Tryz.prog 16 #[.agg #[.int .i64 0, .int .i64 dx], .int .i64 D] w fun r' w' => r' = .returned (.tuple #[.agg #[.int .i64 0, .int .i64 u], .int .i64 0]) ∧ Below w.heap.size w w'))
    (NQ : Hid (∀ w : World, LO w → Calls Tryz.prog 14 #[.string ⟨#[113, 117, 97, 114, 116, 101, 114]⟩, .agg #[.int .i64 0, .int .i64 u]] w fun r' w' => r' = .returned (.int .i64 n) ∧ Below w.heap.size w w'))
    (EX : Hid (∀ w : World, LO w → Calls Tryz.prog 17 #[.agg utL.toArray, .string ⟨#[101, 112, 111, 99, 104]⟩, .agg (v_st 0 u).toArray] w fun r' w' => r' = .returned (.tuple #[.agg #[.int .i64 v, .int .i64 sc], .int .i64 g]) ∧ Below w.heap.size w w'))
    (DR : Hid (∀ w : World, Calls Tryz.prog 19 #[.agg #[.int .i64 v, .int .i64 sc]] w fun r' w' => r' = .returned (.bool true) ∧ Below w.heap.size w w'))
    (KN : Hid (∀ w : World, LO w → Calls Tryz.prog 9 #[] w fun r' w' => r' = .returned (.bool true) ∧ Below w.heap.size w w'))
    (w : World) (hL : Hid (∀ W : World, Below w.heap.size w W → LO W)) :
    Calls Tryz.prog 6 #[.agg #[.int .i64 0, .int .i64 u]] w fun r' w' => r' = .returned (.bool true) ∧ Below w.heap.size w w' := by
  have UT : Hid (∀ w : World, Calls Tryz.prog 18 #[] w fun e w' => e = .returned (.agg utL.toArray) ∧ Below w.heap.size w w') := utc_any
  have g1 : (g == 0) = false := by simpa using hg
  have t1 : IntKind.i64.wrap (h * 3600) = h * 3600 := by rw [IntKind.wrap_i64]; omega
  have t2 : IntKind.i64.wrap (h * 3600 * 1000000) = h * 3600 * 1000000 := by rw [IntKind.wrap_i64]; omega
  have t3 : IntKind.i64.wrap (mi * 60) = mi * 60 := by rw [IntKind.wrap_i64]; omega
  have t4 : IntKind.i64.wrap (mi * 60 * 1000000) = mi * 60 * 1000000 := by rw [IntKind.wrap_i64]; omega
  have t5 : IntKind.i64.wrap (h * 3600 * 1000000 + mi * 60 * 1000000) = h * 3600 * 1000000 + mi * 60 * 1000000 := by rw [IntKind.wrap_i64]; omega
  have t6 : IntKind.i64.wrap D = D := by rw [IntKind.wrap_i64]; omega
  have q1 : (n == (m + 2) / 3) = true := by simpa using hn
  have q2 : 0 ≤ m + 2 := by omega
  clear hn
  have K0 : Hid (BS w [(w.heap.size, [.int .i64 0, .int .i64 u])] (w.alloc (.cells #[.int .i64 0, .int .i64 u] 23))) := ((BS.start w).new [.int .i64 0, .int .i64 u] 23 rfl)
  go_enter Tryz.func6, Tryz.ntmps6
  go_wp2_with fail
  refine (RR.out _).mono ?_
  rintro e W1 ⟨rfl, hb⟩
  have K1 := bsb K0 hb
  clear hb K0
  obtain ⟨c1_0_0, c1_0_1⟩ := (bo1 K1).c2
  go_wp2_with fail
  refine (NY.out _ (hL.out _ K1.out.1)).mono ?_
  rintro e W2 ⟨rfl, hb⟩
  have K2 := bsb K1 hb
  clear c1_0_0 c1_0_1
  clear hb K1
  obtain ⟨c2_0_0, c2_0_1⟩ := (bo1 K2).c2
  go_upto_region 6 with fail
  go_cut [4, 5] (fun v0 v1 wx => ∃ nb, v0 = .pointer (some ⟨nb, 0, none⟩) ∧ v1 = .int .i64 0 ∧ Hid (BS w ((nb, [.int .i64 0, .int .i64 dx]) :: [(w.heap.size, [.int .i64 0, .int .i64 u])]) wx ∧ (∀ x ∈ ([(w.heap.size, [.int .i64 0, .int .i64 u])] : List (Nat × List Value)), x.1 ≠ nb)))
  case first =>
    refine wp_region_held_drew (S := BS w [(w.heap.size, [.int .i64 0, .int .i64 u])]) (by kernel_rfl) K2.out.drew (fun hHeld => ?_)
    refine wpAnyH_take (i := 0) (v := ?_) (oi := { dst := some 29, op := _, type := _, pos := _, after := _, guard := none }) rfl (by kernel_rfl) (by kernel_rfl) (by kernel_rfl) (fun _ _ _ h => h) (Or.inl ⟨by kernel_rfl, ?_⟩) (by assumption) ?_
    case refine_2 => (intro w9 hSw; clear hSw; go_simp; try with_reducible rfl)
    simp only [Act.put, List.setIfInBounds_toArray, List.set_cons_zero, List.set_cons_succ]
    refine wpAnyH_take (i := 1) (v := ?_) (oi := { dst := some 30, op := _, type := _, pos := _, after := _, guard := none }) rfl (by kernel_rfl) (by kernel_rfl) (by kernel_rfl) (fun _ _ _ h => h) (Or.inl ⟨by kernel_rfl, ?_⟩) (by assumption) ?_
    case refine_2 => (intro w9 hSw; have l0_0 := (hSw.at (w.heap.size) [.int .i64 0, .int .i64 u] (by simp)).c 0 rfl; have l0_1 := (hSw.at (w.heap.size) [.int .i64 0, .int .i64 u] (by simp)).c 1 rfl; clear hSw; go_simp; try with_reducible rfl)
    simp only [Act.put, List.setIfInBounds_toArray, List.set_cons_zero, List.set_cons_succ]
    refine wpAnyH_take (i := 3) (v := ?_) (oi := { dst := some 32, op := _, type := _, pos := _, after := _, guard := none }) rfl (by kernel_rfl) (by kernel_rfl) (by kernel_rfl) (fun _ _ _ h => h) (Or.inl ⟨by kernel_rfl, ?_⟩) (by assumption) ?_
    case refine_2 => (intro w9 hSw; have l0_0 := (hSw.at (w.heap.size) [.int .i64 0, .int .i64 u] (by simp)).c 0 rfl; have l0_1 := (hSw.at (w.heap.size) [.int .i64 0, .int .i64 u] (by simp)).c 1 rfl; clear hSw; go_simp; try with_reducible rfl)
    simp only [Act.put, List.setIfInBounds_toArray, List.set_cons_zero, List.set_cons_succ]
    refine wpAnyH_ready (rs := [2, 9]) (by kernel_rfl) (by simp) (AllReadyH.cons (o := { dst := some 31, op := _, type := _, pos := _, after := _, guard := none }) rfl (fun K hK => ?_) (AllReadyH.cons (o := { dst := some 4, op := _, type := _, pos := _, after := _, guard := none }) rfl (fun K hK => ?_) AllReadyH.nil))
    ·
      go_simp
      refine (NM.out _ (hL.out _ hHeld.1)).mono ?_
      rintro e v1 ⟨rfl, hb1⟩
      refine hK.out _ _ (hHeld.below hb1) (fun hHeld => ?_)
      try (have HN2 := HN.out.below hb1; clear HN; have HN : Hid (NB _ _ _ _ _) := HN2; clear HN2)
      clear hK K hb1
      refine wpAnyH_ready (rs := [4, 9]) (by kernel_rfl) (by simp) (AllReadyH.cons (o := { dst := some 33, op := _, type := _, pos := _, after := _, guard := none }) rfl (fun K hK => ?_) (AllReadyH.cons (o := { dst := some 4, op := _, type := _, pos := _, after := _, guard := none }) rfl (fun K hK => ?_) AllReadyH.nil))
      ·
        go_simp
        refine (ND.out _ (hL.out _ hHeld.1)).mono ?_
        rintro e v2 ⟨rfl, hb2⟩
        refine hK.out _ _ (hHeld.below hb2) (fun hHeld => ?_)
        try (have HN2 := HN.out.below hb2; clear HN; have HN : Hid (NB _ _ _ _ _) := HN2; clear HN2)
        clear hK K hb2
        refine wpAnyH_ready (rs := [5, 9]) (by kernel_rfl) (by simp) (AllReadyH.cons (o := { dst := some 34, op := _, type := _, pos := _, after := _, guard := none }) rfl (fun K hK => ?_) (AllReadyH.cons (o := { dst := some 4, op := _, type := _, pos := _, after := _, guard := none }) rfl (fun K hK => ?_) AllReadyH.nil))
        ·
          go_simp
          refine (MK.out _).mono ?_
          rintro e v3 ⟨rfl, hb3⟩
          refine hK.out _ _ (hHeld.below hb3) (fun hHeld => ?_)
          try (have HN2 := HN.out.below hb3; clear HN; have HN : Hid (NB _ _ _ _ _) := HN2; clear HN2)
          clear hK K hb3
          refine wpAnyH_take (i := 6) (v := ?_) (oi := { dst := some 28, op := _, type := _, pos := _, after := _, guard := none }) rfl (by kernel_rfl) (by kernel_rfl) (by kernel_rfl) (fun _ _ _ h => h) (Or.inl ⟨by kernel_rfl, ?_⟩) (by assumption) ?_
          case refine_2 => (intro w9 hSw; clear hSw; go_simp; try with_reducible rfl)
          simp only [Act.put, List.setIfInBounds_toArray, List.set_cons_zero, List.set_cons_succ]
          refine wpAnyH_take (i := 7) (v := ?_) (oi := { dst := some 35, op := _, type := _, pos := _, after := _, guard := none }) rfl (by kernel_rfl) (by kernel_rfl) (by kernel_rfl) (fun _ _ _ h => h) (Or.inl ⟨by kernel_rfl, ?_⟩) (by assumption) ?_
          case refine_2 => (intro w9 hSw; clear hSw; go_simp; try with_reducible rfl)
          simp only [Act.put, List.setIfInBounds_toArray, List.set_cons_zero, List.set_cons_succ]
          refine wpAnyH_take (i := 8) (v := ?_) (oi := { dst := some 36, op := _, type := _, pos := _, after := _, guard := none }) rfl (by kernel_rfl) (by kernel_rfl) (by kernel_rfl) (fun _ _ _ h => h) (Or.inl ⟨by kernel_rfl, ?_⟩) (by assumption) ?_
          case refine_2 => (intro w9 hSw; clear hSw; go_simp; try with_reducible rfl)
          simp only [Act.put, List.setIfInBounds_toArray, List.set_cons_zero, List.set_cons_succ]
          refine wpAnyH_ready (rs := [9]) (by kernel_rfl) (by simp) (AllReadyH.cons (o := { dst := some 4, op := _, type := _, pos := _, after := _, guard := none }) rfl (fun K hK => ?_) AllReadyH.nil)
          go_simp
          have hH0 := hHeld
          refine hK.out _ _ (hHeld.alloc _) (fun hHeld => ?_)
          have HN : Hid (NB _ _ _ _ [.int .i64 0, .int .i64 0]) := hH0.nb hHeld
          clear hK K hH0
          refine wpAnyH_ready (rs := [10]) (by kernel_rfl) (by simp) (AllReadyH.cons (o := { dst := none, op := _, type := _, pos := _, after := _, guard := none }) rfl (fun K hK => ?_) AllReadyH.nil)
          refine (if_pos (by kernel_rfl)).mpr (wp_store_mid 40 _ _ rfl _ 0 #[.int .i64 0, .int .i64 dx] rfl rfl HN.out.1.there (by kernel_rfl) (by simp [Value.oneCell']) (hK.out _ _ (hHeld.off HN.out.2.1 HN.out.2.2 _) (fun hHeld => ?_)))
          have HN2 : Hid (BS w ((_, [.int .i64 0, .int .i64 dx]) :: [(w.heap.size, [.int .i64 0, .int .i64 u])]) _ ∧ _) := ⟨⟨hHeld.1, fun x hx => by rcases List.mem_cons.1 hx with rfl | hx; exact ⟨HN.out.2.1, HN.out.1.setAll _ rfl⟩; exact hHeld.2 x hx⟩, HN.out.2.2⟩
          clear hK K HN
          refine wpAnyH_take (i := 11) (v := ?_) (oi := { dst := some 5, op := _, type := _, pos := _, after := _, guard := none }) rfl (by kernel_rfl) (by kernel_rfl) (by kernel_rfl) (fun _ _ _ h => h) (Or.inl ⟨by kernel_rfl, ?_⟩) (by assumption) ?_
          case refine_2 => (intro w9 hSw; clear hSw; go_simp; try with_reducible rfl)
          simp only [Act.put, List.setIfInBounds_toArray, List.set_cons_zero, List.set_cons_succ]
          refine wpAnyH_done (by kernel_rfl) ?_ _
          go_wp2_with fail
          go_meet
          case rel => exact ⟨_, rfl, rfl, HN2.out⟩
        ·
          go_simp
          have hH0 := hHeld
          refine hK.out _ _ (hHeld.alloc _) (fun hHeld => ?_)
          have HN : Hid (NB _ _ _ _ [.int .i64 0, .int .i64 0]) := hH0.nb hHeld
          clear hK K hH0
          refine wpAnyH_ready (rs := [5]) (by kernel_rfl) (by simp) (AllReadyH.cons (o := { dst := some 34, op := _, type := _, pos := _, after := _, guard := none }) rfl (fun K hK => ?_) AllReadyH.nil)
          go_simp
          refine (MK.out _).mono ?_
          rintro e v7 ⟨rfl, hb7⟩
          refine hK.out _ _ (hHeld.below hb7) (fun hHeld => ?_)
          try (have HN2 := HN.out.below hb7; clear HN; have HN : Hid (NB _ _ _ _ _) := HN2; clear HN2)
          clear hK K hb7
          refine wpAnyH_take (i := 6) (v := ?_) (oi := { dst := some 28, op := _, type := _, pos := _, after := _, guard := none }) rfl (by kernel_rfl) (by kernel_rfl) (by kernel_rfl) (fun _ _ _ h => h) (Or.inl ⟨by kernel_rfl, ?_⟩) (by assumption) ?_
          case refine_2 => (intro w9 hSw; clear hSw; go_simp; try with_reducible rfl)
          simp only [Act.put, List.setIfInBounds_toArray, List.set_cons_zero, List.set_cons_succ]
          refine wpAnyH_take (i := 7) (v := ?_) (oi := { dst := some 35, op := _, type := _, pos := _, after := _, guard := none }) rfl (by kernel_rfl) (by kernel_rfl) (by kernel_rfl) (fun _ _ _ h => h) (Or.inl ⟨by kernel_rfl, ?_⟩) (by assumption) ?_
          case refine_2 => (intro w9 hSw; clear hSw; go_simp; try with_reducible rfl)
          simp only [Act.put, List.setIfInBounds_toArray, List.set_cons_zero, List.set_cons_succ]
          refine wpAnyH_take (i := 8) (v := ?_) (oi := { dst := some 36, op := _, type := _, pos := _, after := _, guard := none }) rfl (by kernel_rfl) (by kernel_rfl) (by kernel_rfl) (fun _ _ _ h => h) (Or.inl ⟨by kernel_rfl, ?_⟩) (by assumption) ?_
          case refine_2 => (intro w9 hSw; clear hSw; go_simp; try with_reducible rfl)
          simp only [Act.put, List.setIfInBounds_toArray, List.set_cons_zero, List.set_cons_succ]
          refine wpAnyH_ready (rs := [10]) (by kernel_rfl) (by simp) (AllReadyH.cons (o := { dst := none, op := _, type := _, pos := _, after := _, guard := none }) rfl (fun K hK => ?_) AllReadyH.nil)
          refine (if_pos (by kernel_rfl)).mpr (wp_store_mid 40 _ _ rfl _ 0 #[.int .i64 0, .int .i64 dx] rfl rfl HN.out.1.there (by kernel_rfl) (by simp [Value.oneCell']) (hK.out _ _ (hHeld.off HN.out.2.1 HN.out.2.2 _) (fun hHeld => ?_)))
          have HN2 : Hid (BS w ((_, [.int .i64 0, .int .i64 dx]) :: [(w.heap.size, [.int .i64 0, .int .i64 u])]) _ ∧ _) := ⟨⟨hHeld.1, fun x hx => by rcases List.mem_cons.1 hx with rfl | hx; exact ⟨HN.out.2.1, HN.out.1.setAll _ rfl⟩; exact hHeld.2 x hx⟩, HN.out.2.2⟩
          clear hK K HN
          refine wpAnyH_take (i := 11) (v := ?_) (oi := { dst := some 5, op := _, type := _, pos := _, after := _, guard := none }) rfl (by kernel_rfl) (by kernel_rfl) (by kernel_rfl) (fun _ _ _ h => h) (Or.inl ⟨by kernel_rfl, ?_⟩) (by assumption) ?_
          case refine_2 => (intro w9 hSw; clear hSw; go_simp; try with_reducible rfl)
          simp only [Act.put, List.setIfInBounds_toArray, List.set_cons_zero, List.set_cons_succ]
          refine wpAnyH_done (by kernel_rfl) ?_ _
          go_wp2_with fail
          go_meet
          case rel => exact ⟨_, rfl, rfl, HN2.out⟩
      ·
        go_simp
        have hH0 := hHeld
        refine hK.out _ _ (hHeld.alloc _) (fun hHeld => ?_)
        have HN : Hid (NB _ _ _ _ [.int .i64 0, .int .i64 0]) := hH0.nb hHeld
        clear hK K hH0
        refine wpAnyH_ready (rs := [4]) (by kernel_rfl) (by simp) (AllReadyH.cons (o := { dst := some 33, op := _, type := _, pos := _, after := _, guard := none }) rfl (fun K hK => ?_) AllReadyH.nil)
        go_simp
        refine (ND.out _ (hL.out _ hHeld.1)).mono ?_
        rintro e v10 ⟨rfl, hb10⟩
        refine hK.out _ _ (hHeld.below hb10) (fun hHeld => ?_)
        try (have HN2 := HN.out.below hb10; clear HN; have HN : Hid (NB _ _ _ _ _) := HN2; clear HN2)
        clear hK K hb10
        refine wpAnyH_ready (rs := [5]) (by kernel_rfl) (by simp) (AllReadyH.cons (o := { dst := some 34, op := _, type := _, pos := _, after := _, guard := none }) rfl (fun K hK => ?_) AllReadyH.nil)
        go_simp
        refine (MK.out _).mono ?_
        rintro e v11 ⟨rfl, hb11⟩
        refine hK.out _ _ (hHeld.below hb11) (fun hHeld => ?_)
        try (have HN2 := HN.out.below hb11; clear HN; have HN : Hid (NB _ _ _ _ _) := HN2; clear HN2)
        clear hK K hb11
        refine wpAnyH_take (i := 6) (v := ?_) (oi := { dst := some 28, op := _, type := _, pos := _, after := _, guard := none }) rfl (by kernel_rfl) (by kernel_rfl) (by kernel_rfl) (fun _ _ _ h => h) (Or.inl ⟨by kernel_rfl, ?_⟩) (by assumption) ?_
        case refine_2 => (intro w9 hSw; clear hSw; go_simp; try with_reducible rfl)
        simp only [Act.put, List.setIfInBounds_toArray, List.set_cons_zero, List.set_cons_succ]
        refine wpAnyH_take (i := 7) (v := ?_) (oi := { dst := some 35, op := _, type := _, pos := _, after := _, guard := none }) rfl (by kernel_rfl) (by kernel_rfl) (by kernel_rfl) (fun _ _ _ h => h) (Or.inl ⟨by kernel_rfl, ?_⟩) (by assumption) ?_
        case refine_2 => (intro w9 hSw; clear hSw; go_simp; try with_reducible rfl)
        simp only [Act.put, List.setIfInBounds_toArray, List.set_cons_zero, List.set_cons_succ]
        refine wpAnyH_take (i := 8) (v := ?_) (oi := { dst := some 36, op := _, type := _, pos := _, after := _, guard := none }) rfl (by kernel_rfl) (by kernel_rfl) (by kernel_rfl) (fun _ _ _ h => h) (Or.inl ⟨by kernel_rfl, ?_⟩) (by assumption) ?_
        case refine_2 => (intro w9 hSw; clear hSw; go_simp; try with_reducible rfl)
        simp only [Act.put, List.setIfInBounds_toArray, List.set_cons_zero, List.set_cons_succ]
        refine wpAnyH_ready (rs := [10]) (by kernel_rfl) (by simp) (AllReadyH.cons (o := { dst := none, op := _, type := _, pos := _, after := _, guard := none }) rfl (fun K hK => ?_) AllReadyH.nil)
        refine (if_pos (by kernel_rfl)).mpr (wp_store_mid 40 _ _ rfl _ 0 #[.int .i64 0, .int .i64 dx] rfl rfl HN.out.1.there (by kernel_rfl) (by simp [Value.oneCell']) (hK.out _ _ (hHeld.off HN.out.2.1 HN.out.2.2 _) (fun hHeld => ?_)))
        have HN2 : Hid (BS w ((_, [.int .i64 0, .int .i64 dx]) :: [(w.heap.size, [.int .i64 0, .int .i64 u])]) _ ∧ _) := ⟨⟨hHeld.1, fun x hx => by rcases List.mem_cons.1 hx with rfl | hx; exact ⟨HN.out.2.1, HN.out.1.setAll _ rfl⟩; exact hHeld.2 x hx⟩, HN.out.2.2⟩
        clear hK K HN
        refine wpAnyH_take (i := 11) (v := ?_) (oi := { dst := some 5, op := _, type := _, pos := _, after := _, guard := none }) rfl (by kernel_rfl) (by kernel_rfl) (by kernel_rfl) (fun _ _ _ h => h) (Or.inl ⟨by kernel_rfl, ?_⟩) (by assumption) ?_
        case refine_2 => (intro w9 hSw; clear hSw; go_simp; try with_reducible rfl)
        simp only [Act.put, List.setIfInBounds_toArray, List.set_cons_zero, List.set_cons_succ]
        refine wpAnyH_done (by kernel_rfl) ?_ _
        go_wp2_with fail
        go_meet
        case rel => exact ⟨_, rfl, rfl, HN2.out⟩
    ·
      go_simp
      have hH0 := hHeld
      refine hK.out _ _ (hHeld.alloc _) (fun hHeld => ?_)
      have HN : Hid (NB _ _ _ _ [.int .i64 0, .int .i64 0]) := hH0.nb hHeld
      clear hK K hH0
      refine wpAnyH_ready (rs := [2]) (by kernel_rfl) (by simp) (AllReadyH.cons (o := { dst := some 31, op := _, type := _, pos := _, after := _, guard := none }) rfl (fun K hK => ?_) AllReadyH.nil)
      go_simp
      refine (NM.out _ (hL.out _ hHeld.1)).mono ?_
      rintro e v14 ⟨rfl, hb14⟩
      refine hK.out _ _ (hHeld.below hb14) (fun hHeld => ?_)
      try (have HN2 := HN.out.below hb14; clear HN; have HN : Hid (NB _ _ _ _ _) := HN2; clear HN2)
      clear hK K hb14
      refine wpAnyH_ready (rs := [4]) (by kernel_rfl) (by simp) (AllReadyH.cons (o := { dst := some 33, op := _, type := _, pos := _, after := _, guard := none }) rfl (fun K hK => ?_) AllReadyH.nil)
      go_simp
      refine (ND.out _ (hL.out _ hHeld.1)).mono ?_
      rintro e v15 ⟨rfl, hb15⟩
      refine hK.out _ _ (hHeld.below hb15) (fun hHeld => ?_)
      try (have HN2 := HN.out.below hb15; clear HN; have HN : Hid (NB _ _ _ _ _) := HN2; clear HN2)
      clear hK K hb15
      refine wpAnyH_ready (rs := [5]) (by kernel_rfl) (by simp) (AllReadyH.cons (o := { dst := some 34, op := _, type := _, pos := _, after := _, guard := none }) rfl (fun K hK => ?_) AllReadyH.nil)
      go_simp
      refine (MK.out _).mono ?_
      rintro e v16 ⟨rfl, hb16⟩
      refine hK.out _ _ (hHeld.below hb16) (fun hHeld => ?_)
      try (have HN2 := HN.out.below hb16; clear HN; have HN : Hid (NB _ _ _ _ _) := HN2; clear HN2)
      clear hK K hb16
      refine wpAnyH_take (i := 6) (v := ?_) (oi := { dst := some 28, op := _, type := _, pos := _, after := _, guard := none }) rfl (by kernel_rfl) (by kernel_rfl) (by kernel_rfl) (fun _ _ _ h => h) (Or.inl ⟨by kernel_rfl, ?_⟩) (by assumption) ?_
      case refine_2 => (intro w9 hSw; clear hSw; go_simp; try with_reducible rfl)
      simp only [Act.put, List.setIfInBounds_toArray, List.set_cons_zero, List.set_cons_succ]
      refine wpAnyH_take (i := 7) (v := ?_) (oi := { dst := some 35, op := _, type := _, pos := _, after := _, guard := none }) rfl (by kernel_rfl) (by kernel_rfl) (by kernel_rfl) (fun _ _ _ h => h) (Or.inl ⟨by kernel_rfl, ?_⟩) (by assumption) ?_
      case refine_2 => (intro w9 hSw; clear hSw; go_simp; try with_reducible rfl)
      simp only [Act.put, List.setIfInBounds_toArray, List.set_cons_zero, List.set_cons_succ]
      refine wpAnyH_take (i := 8) (v := ?_) (oi := { dst := some 36, op := _, type := _, pos := _, after := _, guard := none }) rfl (by kernel_rfl) (by kernel_rfl) (by kernel_rfl) (fun _ _ _ h => h) (Or.inl ⟨by kernel_rfl, ?_⟩) (by assumption) ?_
      case refine_2 => (intro w9 hSw; clear hSw; go_simp; try with_reducible rfl)
      simp only [Act.put, List.setIfInBounds_toArray, List.set_cons_zero, List.set_cons_succ]
      refine wpAnyH_ready (rs := [10]) (by kernel_rfl) (by simp) (AllReadyH.cons (o := { dst := none, op := _, type := _, pos := _, after := _, guard := none }) rfl (fun K hK => ?_) AllReadyH.nil)
      refine (if_pos (by kernel_rfl)).mpr (wp_store_mid 40 _ _ rfl _ 0 #[.int .i64 0, .int .i64 dx] rfl rfl HN.out.1.there (by kernel_rfl) (by simp [Value.oneCell']) (hK.out _ _ (hHeld.off HN.out.2.1 HN.out.2.2 _) (fun hHeld => ?_)))
      have HN2 : Hid (BS w ((_, [.int .i64 0, .int .i64 dx]) :: [(w.heap.size, [.int .i64 0, .int .i64 u])]) _ ∧ _) := ⟨⟨hHeld.1, fun x hx => by rcases List.mem_cons.1 hx with rfl | hx; exact ⟨HN.out.2.1, HN.out.1.setAll _ rfl⟩; exact hHeld.2 x hx⟩, HN.out.2.2⟩
      clear hK K HN
      refine wpAnyH_take (i := 11) (v := ?_) (oi := { dst := some 5, op := _, type := _, pos := _, after := _, guard := none }) rfl (by kernel_rfl) (by kernel_rfl) (by kernel_rfl) (fun _ _ _ h => h) (Or.inl ⟨by kernel_rfl, ?_⟩) (by assumption) ?_
      case refine_2 => (intro w9 hSw; clear hSw; go_simp; try with_reducible rfl)
      simp only [Act.put, List.setIfInBounds_toArray, List.set_cons_zero, List.set_cons_succ]
      refine wpAnyH_done (by kernel_rfl) ?_ _
      go_wp2_with fail
      go_meet
      case rel => exact ⟨_, rfl, rfl, HN2.out⟩
  case rest =>
    clear c2_0_0 c2_0_1
    obtain ⟨nb2, rfl, rfl, KK⟩ := hcut
    clear K2
    have K3 : Hid (BS w [(nb2, [.int .i64 0, .int .i64 dx]), (w.heap.size, [.int .i64 0, .int .i64 u])] wc) := KK.out.1
    have ne3_0 : w.heap.size ≠ nb2 := KK.out.2 (w.heap.size, [.int .i64 0, .int .i64 u]) (by simp)
    clear KK
    obtain ⟨c3_0_0, c3_0_1⟩ := (bo1 K3).c2
    obtain ⟨c3_1_0, c3_1_1⟩ := (bo2 K3).c2
    go_upto_region 7 with fail
    go_cut [6] (fun v0 wx => v0 = .int .i64 D ∧ Hid (BS w [(nb2, [.int .i64 0, .int .i64 dx]), (w.heap.size, [.int .i64 0, .int .i64 u])] wx))
    case first =>
      refine wp_region_held_drew (S := BS w [(nb2, [.int .i64 0, .int .i64 dx]), (w.heap.size, [.int .i64 0, .int .i64 u])]) (by kernel_rfl) K3.out.drew (fun hHeld => ?_)
      refine wpAnyH_take (i := 0) (v := ?_) (oi := { dst := some 37, op := _, type := _, pos := _, after := _, guard := none }) rfl (by kernel_rfl) (by kernel_rfl) (by kernel_rfl) (fun _ _ _ h => h) (Or.inl ⟨by kernel_rfl, ?_⟩) (by assumption) ?_
      case refine_2 => (intro w9 hSw; have l0_0 := (hSw.at (nb2) [.int .i64 0, .int .i64 dx] (by simp)).c 0 rfl; have l0_1 := (hSw.at (nb2) [.int .i64 0, .int .i64 dx] (by simp)).c 1 rfl; have l1_0 := (hSw.at (w.heap.size) [.int .i64 0, .int .i64 u] (by simp)).c 0 rfl; have l1_1 := (hSw.at (w.heap.size) [.int .i64 0, .int .i64 u] (by simp)).c 1 rfl; clear hSw; go_simp; try with_reducible rfl)
      simp only [Act.put, List.setIfInBounds_toArray, List.set_cons_zero, List.set_cons_succ]
      refine wpAnyH_take (i := 4) (v := ?_) (oi := { dst := some 41, op := _, type := _, pos := _, after := _, guard := none }) rfl (by kernel_rfl) (by kernel_rfl) (by kernel_rfl) (fun _ _ _ h => h) (Or.inl ⟨by kernel_rfl, ?_⟩) (by assumption) ?_
      case refine_2 => (intro w9 hSw; have l0_0 := (hSw.at (nb2) [.int .i64 0, .int .i64 dx] (by simp)).c 0 rfl; have l0_1 := (hSw.at (nb2) [.int .i64 0, .int .i64 dx] (by simp)).c 1 rfl; have l1_0 := (hSw.at (w.heap.size) [.int .i64 0, .int .i64 u] (by simp)).c 0 rfl; have l1_1 := (hSw.at (w.heap.size) [.int .i64 0, .int .i64 u] (by simp)).c 1 rfl; clear hSw; go_simp; try with_reducible rfl)
      simp only [Act.put, List.setIfInBounds_toArray, List.set_cons_zero, List.set_cons_succ]
      refine wpAnyH_take (i := 9) (v := ?_) (oi := { dst := some 46, op := _, type := _, pos := _, after := _, guard := none }) rfl (by kernel_rfl) (by kernel_rfl) (by kernel_rfl) (fun _ _ _ h => h) (Or.inl ⟨by kernel_rfl, ?_⟩) (by assumption) ?_
      case refine_2 => (intro w9 hSw; have l0_0 := (hSw.at (nb2) [.int .i64 0, .int .i64 dx] (by simp)).c 0 rfl; have l0_1 := (hSw.at (nb2) [.int .i64 0, .int .i64 dx] (by simp)).c 1 rfl; have l1_0 := (hSw.at (w.heap.size) [.int .i64 0, .int .i64 u] (by simp)).c 0 rfl; have l1_1 := (hSw.at (w.heap.size) [.int .i64 0, .int .i64 u] (by simp)).c 1 rfl; clear hSw; go_simp; try with_reducible rfl)
      simp only [Act.put, List.setIfInBounds_toArray, List.set_cons_zero, List.set_cons_succ]
      refine wpAnyH_ready (rs := [1]) (by kernel_rfl) (by simp) (AllReadyH.cons (o := { dst := some 38, op := _, type := _, pos := _, after := _, guard := none }) rfl (fun K hK => ?_) AllReadyH.nil)
      go_simp
      refine (NH.out _ (hL.out _ hHeld.1)).mono ?_
      rintro e v1 ⟨rfl, hb1⟩
      refine hK.out _ _ (hHeld.below hb1) (fun hHeld => ?_)
      clear hK K hb1
      refine wpAnyH_take (i := 2) (v := ?_) (oi := { dst := some 39, op := _, type := _, pos := _, after := _, guard := none }) rfl (by kernel_rfl) (by kernel_rfl) (by kernel_rfl) (fun _ _ _ h => h) (Or.inl ⟨by kernel_rfl, ?_⟩) (by assumption) ?_
      case refine_2 => (intro w9 hSw; clear hSw; go_simp; try with_reducible rfl)
      simp only [Act.put, List.setIfInBounds_toArray, List.set_cons_zero, List.set_cons_succ]
      refine wpAnyH_take (i := 3) (v := ?_) (oi := { dst := some 40, op := _, type := _, pos := _, after := _, guard := none }) rfl (by kernel_rfl) (by kernel_rfl) (by kernel_rfl) (fun _ _ _ h => h) (Or.inl ⟨by kernel_rfl, ?_⟩) (by assumption) ?_
      case refine_2 => (intro w9 hSw; clear hSw; go_simp; try with_reducible rfl)
      simp only [Act.put, List.setIfInBounds_toArray, List.set_cons_zero, List.set_cons_succ]
      refine wpAnyH_ready (rs := [5]) (by kernel_rfl) (by simp) (AllReadyH.cons (o := { dst := some 42, op := _, type := _, pos := _, after := _, guard := none }) rfl (fun K hK => ?_) AllReadyH.nil)
      go_simp
      refine (NI.out _ (hL.out _ hHeld.1)).mono ?_
      rintro e v2 ⟨rfl, hb2⟩
      refine hK.out _ _ (hHeld.below hb2) (fun hHeld => ?_)
      clear hK K hb2
      refine wpAnyH_take (i := 6) (v := ?_) (oi := { dst := some 43, op := _, type := _, pos := _, after := _, guard := none }) rfl (by kernel_rfl) (by kernel_rfl) (by kernel_rfl) (fun _ _ _ h => h) (Or.inl ⟨by kernel_rfl, ?_⟩) (by assumption) ?_
      case refine_2 => (intro w9 hSw; clear hSw; go_simp; try with_reducible rfl)
      simp only [Act.put, List.setIfInBounds_toArray, List.set_cons_zero, List.set_cons_succ]
      refine wpAnyH_take (i := 7) (v := ?_) (oi := { dst := some 44, op := _, type := _, pos := _, after := _, guard := none }) rfl (by kernel_rfl) (by kernel_rfl) (by kernel_rfl) (fun _ _ _ h => h) (Or.inl ⟨by kernel_rfl, ?_⟩) (by assumption) ?_
      case refine_2 => (intro w9 hSw; clear hSw; go_simp; try with_reducible rfl)
      simp only [Act.put, List.setIfInBounds_toArray, List.set_cons_zero, List.set_cons_succ]
      refine wpAnyH_take (i := 8) (v := ?_) (oi := { dst := some 45, op := _, type := _, pos := _, after := _, guard := none }) rfl (by kernel_rfl) (by kernel_rfl) (by kernel_rfl) (fun _ _ _ h => h) (Or.inl ⟨by kernel_rfl, ?_⟩) (by assumption) ?_
      case refine_2 => (intro w9 hSw; clear hSw; go_simp; try with_reducible rfl)
      simp only [Act.put, List.setIfInBounds_toArray, List.set_cons_zero, List.set_cons_succ]
      refine wpAnyH_ready (rs := [10]) (by kernel_rfl) (by simp) (AllReadyH.cons (o := { dst := some 47, op := _, type := _, pos := _, after := _, guard := none }) rfl (fun K hK => ?_) AllReadyH.nil)
      go_simp
      refine (NU.out _ (hL.out _ hHeld.1)).mono ?_
      rintro e v3 ⟨rfl, hb3⟩
      refine hK.out _ _ (hHeld.below hb3) (fun hHeld => ?_)
      clear hK K hb3
      refine wpAnyH_take (i := 11) (v := ?_) (oi := { dst := some 48, op := _, type := _, pos := _, after := _, guard := none }) rfl (by kernel_rfl) (by kernel_rfl) (by kernel_rfl) (fun _ _ _ h => h) (Or.inl ⟨by kernel_rfl, ?_⟩) (by assumption) ?_
      case refine_2 => (intro w9 hSw; clear hSw; go_simp; try with_reducible rfl)
      simp only [Act.put, List.setIfInBounds_toArray, List.set_cons_zero, List.set_cons_succ]
      refine wpAnyH_take (i := 12) (v := ?_) (oi := { dst := some 6, op := _, type := _, pos := _, after := _, guard := none }) rfl (by kernel_rfl) (by kernel_rfl) (by kernel_rfl) (fun _ _ _ h => h) (Or.inl ⟨by kernel_rfl, ?_⟩) (by assumption) ?_
      case refine_2 => (intro w9 hSw; clear hSw; go_simp; try with_reducible rfl)
      simp only [Act.put, List.setIfInBounds_toArray, List.set_cons_zero, List.set_cons_succ]
      refine wpAnyH_done (by kernel_rfl) ?_ _
      go_wp2_with fail
      go_meet
      case rel => exact ⟨rfl, hHeld⟩
    case rest =>
      clear c3_0_0 c3_0_1 c3_1_0 c3_1_1
      obtain ⟨rfl, K4⟩ := hcut
      clear K3
      skip
      obtain ⟨c4_0_0, c4_0_1⟩ := (bo1 K4).c2
      obtain ⟨c4_1_0, c4_1_1⟩ := (bo2 K4).c2
      go_wp2_with fail
      refine (SM.out _).mono ?_
      rintro e W5 ⟨rfl, hb⟩
      have K5 := bsb K4 hb
      clear c4_0_0 c4_0_1 c4_1_0 c4_1_1
      clear hb K4
      obtain ⟨c5_0_0, c5_0_1⟩ := (bo1 K5).c2
      obtain ⟨c5_1_0, c5_1_1⟩ := (bo2 K5).c2
      have Mz5 := bsn K5 [.int .i64 0, .int .i64 u] 23
      have lt5_0 := (bo1 K5).1
      have lt5_1 := (bo2 K5).1
      go_upto_region 9 with fail
      refine bs_to Mz5 ?_
      clear c5_0_0 c5_0_1 c5_1_0 c5_1_1
      intro W6 K6
      clear Mz5 K5
      obtain ⟨c6_0_0, c6_0_1⟩ := (bo1 K6).c2
      obtain ⟨c6_1_0, c6_1_1⟩ := (bo2 K6).c2
      obtain ⟨c6_2_0, c6_2_1⟩ := (bo3 K6).c2
      go_wp2_with fail
      refine (NQ.out _ (hL.out _ K6.out.1)).mono ?_
      rintro e W7 ⟨rfl, hb⟩
      have K7 := bsb K6 hb
      clear c6_0_0 c6_0_1 c6_1_0 c6_1_1 c6_2_0 c6_2_1
      clear hb K6
      obtain ⟨c7_0_0, c7_0_1⟩ := (bo1 K7).c2
      obtain ⟨c7_1_0, c7_1_1⟩ := (bo2 K7).c2
      obtain ⟨c7_2_0, c7_2_1⟩ := (bo3 K7).c2
      go_wp2_with fail
      refine (NM.out _ (hL.out _ K7.out.1)).mono ?_
      rintro e W8 ⟨rfl, hb⟩
      have K8 := bsb K7 hb
      clear c7_0_0 c7_0_1 c7_1_0 c7_1_1 c7_2_0 c7_2_1
      clear hb K7
      obtain ⟨c8_0_0, c8_0_1⟩ := (bo1 K8).c2
      obtain ⟨c8_1_0, c8_1_1⟩ := (bo2 K8).c2
      obtain ⟨c8_2_0, c8_2_1⟩ := (bo3 K8).c2
      go_upto_region 11 with fail
      go_cut [11, 12] (fun v0 v1 wx => ∃ nb, v0 = .pointer (some ⟨nb, 0, none⟩) ∧ v1 = .int .i64 g ∧ Hid (BS w ((nb, [.int .i64 v, .int .i64 sc]) :: [(W5.heap.size, [.int .i64 0, .int .i64 u]), (nb2, [.int .i64 0, .int .i64 dx]), (w.heap.size, [.int .i64 0, .int .i64 u])]) wx ∧ (∀ x ∈ ([(W5.heap.size, [.int .i64 0, .int .i64 u]), (nb2, [.int .i64 0, .int .i64 dx]), (w.heap.size, [.int .i64 0, .int .i64 u])] : List (Nat × List Value)), x.1 ≠ nb)))
      case first =>
        refine wp_region_held_drew (S := BS w [(W5.heap.size, [.int .i64 0, .int .i64 u]), (nb2, [.int .i64 0, .int .i64 dx]), (w.heap.size, [.int .i64 0, .int .i64 u])]) (by kernel_rfl) K8.out.drew (fun hHeld => ?_)
        refine wpAnyH_take (i := 1) (v := ?_) (oi := { dst := some 61, op := _, type := _, pos := _, after := _, guard := none }) rfl (by kernel_rfl) (by kernel_rfl) (by kernel_rfl) (fun _ _ _ h => h) (Or.inl ⟨by kernel_rfl, ?_⟩) (by assumption) ?_
        case refine_2 => (intro w9 hSw; have l0_0 := (hSw.at (W5.heap.size) [.int .i64 0, .int .i64 u] (by simp)).c 0 rfl; have l0_1 := (hSw.at (W5.heap.size) [.int .i64 0, .int .i64 u] (by simp)).c 1 rfl; have l1_0 := (hSw.at (nb2) [.int .i64 0, .int .i64 dx] (by simp)).c 0 rfl; have l1_1 := (hSw.at (nb2) [.int .i64 0, .int .i64 dx] (by simp)).c 1 rfl; have l2_0 := (hSw.at (w.heap.size) [.int .i64 0, .int .i64 u] (by simp)).c 0 rfl; have l2_1 := (hSw.at (w.heap.size) [.int .i64 0, .int .i64 u] (by simp)).c 1 rfl; clear hSw; go_simp; try with_reducible rfl)
        simp only [Act.put, List.setIfInBounds_toArray, List.set_cons_zero, List.set_cons_succ]
        refine wpAnyH_take (i := 2) (v := ?_) (oi := { dst := some 62, op := _, type := _, pos := _, after := _, guard := none }) rfl (by kernel_rfl) (by kernel_rfl) (by kernel_rfl) (fun _ _ _ h => h) (Or.inl ⟨by kernel_rfl, ?_⟩) (by assumption) ?_
        case refine_2 => (intro w9 hSw; clear hSw; go_simp; try with_reducible rfl)
        simp only [Act.put, List.setIfInBounds_toArray, List.set_cons_zero, List.set_cons_succ]
        refine wpAnyH_ready (rs := [0, 7]) (by kernel_rfl) (by simp) (AllReadyH.cons (o := { dst := some 60, op := _, type := _, pos := _, after := _, guard := none }) rfl (fun K hK => ?_) (AllReadyH.cons (o := { dst := some 11, op := _, type := _, pos := _, after := _, guard := none }) rfl (fun K hK => ?_) AllReadyH.nil))
        ·
          go_simp
          refine (UT.out _).mono ?_
          rintro e v1 ⟨rfl, hb1⟩
          refine hK.out _ _ (hHeld.below hb1) (fun hHeld => ?_)
          try (have HN2 := HN.out.below hb1; clear HN; have HN : Hid (NB _ _ _ _ _) := HN2; clear HN2)
          clear hK K hb1
          refine wpAnyH_ready (rs := [3, 7]) (by kernel_rfl) (by simp) (AllReadyH.cons (o := { dst := some 63, op := _, type := _, pos := _, after := _, guard := none }) rfl (fun K hK => ?_) (AllReadyH.cons (o := { dst := some 11, op := _, type := _, pos := _, after := _, guard := none }) rfl (fun K hK => ?_) AllReadyH.nil))
          ·
            go_simp
            refine (EX.out _ (hL.out _ hHeld.1)).mono ?_
            rintro e v2 ⟨rfl, hb2⟩
            refine hK.out _ _ (hHeld.below hb2) (fun hHeld => ?_)
            try (have HN2 := HN.out.below hb2; clear HN; have HN : Hid (NB _ _ _ _ _) := HN2; clear HN2)
            clear hK K hb2
            refine wpAnyH_take (i := 4) (v := ?_) (oi := { dst := some 59, op := _, type := _, pos := _, after := _, guard := none }) rfl (by kernel_rfl) (by kernel_rfl) (by kernel_rfl) (fun _ _ _ h => h) (Or.inl ⟨by kernel_rfl, ?_⟩) (by assumption) ?_
            case refine_2 => (intro w9 hSw; clear hSw; go_simp; try with_reducible rfl)
            simp only [Act.put, List.setIfInBounds_toArray, List.set_cons_zero, List.set_cons_succ]
            refine wpAnyH_take (i := 5) (v := ?_) (oi := { dst := some 64, op := _, type := _, pos := _, after := _, guard := none }) rfl (by kernel_rfl) (by kernel_rfl) (by kernel_rfl) (fun _ _ _ h => h) (Or.inl ⟨by kernel_rfl, ?_⟩) (by assumption) ?_
            case refine_2 => (intro w9 hSw; clear hSw; go_simp; try with_reducible rfl)
            simp only [Act.put, List.setIfInBounds_toArray, List.set_cons_zero, List.set_cons_succ]
            refine wpAnyH_take (i := 6) (v := ?_) (oi := { dst := some 65, op := _, type := _, pos := _, after := _, guard := none }) rfl (by kernel_rfl) (by kernel_rfl) (by kernel_rfl) (fun _ _ _ h => h) (Or.inl ⟨by kernel_rfl, ?_⟩) (by assumption) ?_
            case refine_2 => (intro w9 hSw; clear hSw; go_simp; try with_reducible rfl)
            simp only [Act.put, List.setIfInBounds_toArray, List.set_cons_zero, List.set_cons_succ]
            refine wpAnyH_ready (rs := [7]) (by kernel_rfl) (by simp) (AllReadyH.cons (o := { dst := some 11, op := _, type := _, pos := _, after := _, guard := none }) rfl (fun K hK => ?_) AllReadyH.nil)
            go_simp
            have hH0 := hHeld
            refine hK.out _ _ (hHeld.alloc _) (fun hHeld => ?_)
            have HN : Hid (NB _ _ _ _ [.int .i64 0, .int .i64 0]) := hH0.nb hHeld
            clear hK K hH0
            refine wpAnyH_ready (rs := [8]) (by kernel_rfl) (by simp) (AllReadyH.cons (o := { dst := none, op := _, type := _, pos := _, after := _, guard := none }) rfl (fun K hK => ?_) AllReadyH.nil)
            refine (if_pos (by kernel_rfl)).mpr (wp_store_mid 45 _ _ rfl _ 0 #[.int .i64 v, .int .i64 sc] rfl rfl HN.out.1.there (by kernel_rfl) (by simp [Value.oneCell']) (hK.out _ _ (hHeld.off HN.out.2.1 HN.out.2.2 _) (fun hHeld => ?_)))
            have HN2 : Hid (BS w ((_, [.int .i64 v, .int .i64 sc]) :: [(W5.heap.size, [.int .i64 0, .int .i64 u]), (nb2, [.int .i64 0, .int .i64 dx]), (w.heap.size, [.int .i64 0, .int .i64 u])]) _ ∧ _) := ⟨⟨hHeld.1, fun x hx => by rcases List.mem_cons.1 hx with rfl | hx; exact ⟨HN.out.2.1, HN.out.1.setAll _ rfl⟩; exact hHeld.2 x hx⟩, HN.out.2.2⟩
            clear hK K HN
            refine wpAnyH_take (i := 9) (v := ?_) (oi := { dst := some 12, op := _, type := _, pos := _, after := _, guard := none }) rfl (by kernel_rfl) (by kernel_rfl) (by kernel_rfl) (fun _ _ _ h => h) (Or.inl ⟨by kernel_rfl, ?_⟩) (by assumption) ?_
            case refine_2 => (intro w9 hSw; clear hSw; go_simp; try with_reducible rfl)
            simp only [Act.put, List.setIfInBounds_toArray, List.set_cons_zero, List.set_cons_succ]
            refine wpAnyH_done (by kernel_rfl) ?_ _
            go_wp2_with fail
            go_meet
            case rel => exact ⟨_, rfl, rfl, HN2.out⟩
          ·
            go_simp
            have hH0 := hHeld
            refine hK.out _ _ (hHeld.alloc _) (fun hHeld => ?_)
            have HN : Hid (NB _ _ _ _ [.int .i64 0, .int .i64 0]) := hH0.nb hHeld
            clear hK K hH0
            refine wpAnyH_ready (rs := [3]) (by kernel_rfl) (by simp) (AllReadyH.cons (o := { dst := some 63, op := _, type := _, pos := _, after := _, guard := none }) rfl (fun K hK => ?_) AllReadyH.nil)
            go_simp
            refine (EX.out _ (hL.out _ hHeld.1)).mono ?_
            rintro e v6 ⟨rfl, hb6⟩
            refine hK.out _ _ (hHeld.below hb6) (fun hHeld => ?_)
            try (have HN2 := HN.out.below hb6; clear HN; have HN : Hid (NB _ _ _ _ _) := HN2; clear HN2)
            clear hK K hb6
            refine wpAnyH_take (i := 4) (v := ?_) (oi := { dst := some 59, op := _, type := _, pos := _, after := _, guard := none }) rfl (by kernel_rfl) (by kernel_rfl) (by kernel_rfl) (fun _ _ _ h => h) (Or.inl ⟨by kernel_rfl, ?_⟩) (by assumption) ?_
            case refine_2 => (intro w9 hSw; clear hSw; go_simp; try with_reducible rfl)
            simp only [Act.put, List.setIfInBounds_toArray, List.set_cons_zero, List.set_cons_succ]
            refine wpAnyH_take (i := 5) (v := ?_) (oi := { dst := some 64, op := _, type := _, pos := _, after := _, guard := none }) rfl (by kernel_rfl) (by kernel_rfl) (by kernel_rfl) (fun _ _ _ h => h) (Or.inl ⟨by kernel_rfl, ?_⟩) (by assumption) ?_
            case refine_2 => (intro w9 hSw; clear hSw; go_simp; try with_reducible rfl)
            simp only [Act.put, List.setIfInBounds_toArray, List.set_cons_zero, List.set_cons_succ]
            refine wpAnyH_take (i := 6) (v := ?_) (oi := { dst := some 65, op := _, type := _, pos := _, after := _, guard := none }) rfl (by kernel_rfl) (by kernel_rfl) (by kernel_rfl) (fun _ _ _ h => h) (Or.inl ⟨by kernel_rfl, ?_⟩) (by assumption) ?_
            case refine_2 => (intro w9 hSw; clear hSw; go_simp; try with_reducible rfl)
            simp only [Act.put, List.setIfInBounds_toArray, List.set_cons_zero, List.set_cons_succ]
            refine wpAnyH_ready (rs := [8]) (by kernel_rfl) (by simp) (AllReadyH.cons (o := { dst := none, op := _, type := _, pos := _, after := _, guard := none }) rfl (fun K hK => ?_) AllReadyH.nil)
            refine (if_pos (by kernel_rfl)).mpr (wp_store_mid 45 _ _ rfl _ 0 #[.int .i64 v, .int .i64 sc] rfl rfl HN.out.1.there (by kernel_rfl) (by simp [Value.oneCell']) (hK.out _ _ (hHeld.off HN.out.2.1 HN.out.2.2 _) (fun hHeld => ?_)))
            have HN2 : Hid (BS w ((_, [.int .i64 v, .int .i64 sc]) :: [(W5.heap.size, [.int .i64 0, .int .i64 u]), (nb2, [.int .i64 0, .int .i64 dx]), (w.heap.size, [.int .i64 0, .int .i64 u])]) _ ∧ _) := ⟨⟨hHeld.1, fun x hx => by rcases List.mem_cons.1 hx with rfl | hx; exact ⟨HN.out.2.1, HN.out.1.setAll _ rfl⟩; exact hHeld.2 x hx⟩, HN.out.2.2⟩
            clear hK K HN
            refine wpAnyH_take (i := 9) (v := ?_) (oi := { dst := some 12, op := _, type := _, pos := _, after := _, guard := none }) rfl (by kernel_rfl) (by kernel_rfl) (by kernel_rfl) (fun _ _ _ h => h) (Or.inl ⟨by kernel_rfl, ?_⟩) (by assumption) ?_
            case refine_2 => (intro w9 hSw; clear hSw; go_simp; try with_reducible rfl)
            simp only [Act.put, List.setIfInBounds_toArray, List.set_cons_zero, List.set_cons_succ]
            refine wpAnyH_done (by kernel_rfl) ?_ _
            go_wp2_with fail
            go_meet
            case rel => exact ⟨_, rfl, rfl, HN2.out⟩
        ·
          go_simp
          have hH0 := hHeld
          refine hK.out _ _ (hHeld.alloc _) (fun hHeld => ?_)
          have HN : Hid (NB _ _ _ _ [.int .i64 0, .int .i64 0]) := hH0.nb hHeld
          clear hK K hH0
          refine wpAnyH_ready (rs := [0]) (by kernel_rfl) (by simp) (AllReadyH.cons (o := { dst := some 60, op := _, type := _, pos := _, after := _, guard := none }) rfl (fun K hK => ?_) AllReadyH.nil)
          go_simp
          refine (UT.out _).mono ?_
          rintro e v9 ⟨rfl, hb9⟩
          refine hK.out _ _ (hHeld.below hb9) (fun hHeld => ?_)
          try (have HN2 := HN.out.below hb9; clear HN; have HN : Hid (NB _ _ _ _ _) := HN2; clear HN2)
          clear hK K hb9
          refine wpAnyH_ready (rs := [3]) (by kernel_rfl) (by simp) (AllReadyH.cons (o := { dst := some 63, op := _, type := _, pos := _, after := _, guard := none }) rfl (fun K hK => ?_) AllReadyH.nil)
          go_simp
          refine (EX.out _ (hL.out _ hHeld.1)).mono ?_
          rintro e v10 ⟨rfl, hb10⟩
          refine hK.out _ _ (hHeld.below hb10) (fun hHeld => ?_)
          try (have HN2 := HN.out.below hb10; clear HN; have HN : Hid (NB _ _ _ _ _) := HN2; clear HN2)
          clear hK K hb10
          refine wpAnyH_take (i := 4) (v := ?_) (oi := { dst := some 59, op := _, type := _, pos := _, after := _, guard := none }) rfl (by kernel_rfl) (by kernel_rfl) (by kernel_rfl) (fun _ _ _ h => h) (Or.inl ⟨by kernel_rfl, ?_⟩) (by assumption) ?_
          case refine_2 => (intro w9 hSw; clear hSw; go_simp; try with_reducible rfl)
          simp only [Act.put, List.setIfInBounds_toArray, List.set_cons_zero, List.set_cons_succ]
          refine wpAnyH_take (i := 5) (v := ?_) (oi := { dst := some 64, op := _, type := _, pos := _, after := _, guard := none }) rfl (by kernel_rfl) (by kernel_rfl) (by kernel_rfl) (fun _ _ _ h => h) (Or.inl ⟨by kernel_rfl, ?_⟩) (by assumption) ?_
          case refine_2 => (intro w9 hSw; clear hSw; go_simp; try with_reducible rfl)
          simp only [Act.put, List.setIfInBounds_toArray, List.set_cons_zero, List.set_cons_succ]
          refine wpAnyH_take (i := 6) (v := ?_) (oi := { dst := some 65, op := _, type := _, pos := _, after := _, guard := none }) rfl (by kernel_rfl) (by kernel_rfl) (by kernel_rfl) (fun _ _ _ h => h) (Or.inl ⟨by kernel_rfl, ?_⟩) (by assumption) ?_
          case refine_2 => (intro w9 hSw; clear hSw; go_simp; try with_reducible rfl)
          simp only [Act.put, List.setIfInBounds_toArray, List.set_cons_zero, List.set_cons_succ]
          refine wpAnyH_ready (rs := [8]) (by kernel_rfl) (by simp) (AllReadyH.cons (o := { dst := none, op := _, type := _, pos := _, after := _, guard := none }) rfl (fun K hK => ?_) AllReadyH.nil)
          refine (if_pos (by kernel_rfl)).mpr (wp_store_mid 45 _ _ rfl _ 0 #[.int .i64 v, .int .i64 sc] rfl rfl HN.out.1.there (by kernel_rfl) (by simp [Value.oneCell']) (hK.out _ _ (hHeld.off HN.out.2.1 HN.out.2.2 _) (fun hHeld => ?_)))
          have HN2 : Hid (BS w ((_, [.int .i64 v, .int .i64 sc]) :: [(W5.heap.size, [.int .i64 0, .int .i64 u]), (nb2, [.int .i64 0, .int .i64 dx]), (w.heap.size, [.int .i64 0, .int .i64 u])]) _ ∧ _) := ⟨⟨hHeld.1, fun x hx => by rcases List.mem_cons.1 hx with rfl | hx; exact ⟨HN.out.2.1, HN.out.1.setAll _ rfl⟩; exact hHeld.2 x hx⟩, HN.out.2.2⟩
          clear hK K HN
          refine wpAnyH_take (i := 9) (v := ?_) (oi := { dst := some 12, op := _, type := _, pos := _, after := _, guard := none }) rfl (by kernel_rfl) (by kernel_rfl) (by kernel_rfl) (fun _ _ _ h => h) (Or.inl ⟨by kernel_rfl, ?_⟩) (by assumption) ?_
          case refine_2 => (intro w9 hSw; clear hSw; go_simp; try with_reducible rfl)
          simp only [Act.put, List.setIfInBounds_toArray, List.set_cons_zero, List.set_cons_succ]
          refine wpAnyH_done (by kernel_rfl) ?_ _
          go_wp2_with fail
          go_meet
          case rel => exact ⟨_, rfl, rfl, HN2.out⟩
      case rest =>
        clear c8_0_0 c8_0_1 c8_1_0 c8_1_1 c8_2_0 c8_2_1
        obtain ⟨nb8, rfl, rfl, KK⟩ := hcut
        clear K8
        have K9 : Hid (BS w [(nb8, [.int .i64 v, .int .i64 sc]), (W5.heap.size, [.int .i64 0, .int .i64 u]), (nb2, [.int .i64 0, .int .i64 dx]), (w.heap.size, [.int .i64 0, .int .i64 u])] wc) := KK.out.1
        have ne9_0 : W5.heap.size ≠ nb8 := KK.out.2 (W5.heap.size, [.int .i64 0, .int .i64 u]) (by simp)
        have ne9_1 : nb2 ≠ nb8 := KK.out.2 (nb2, [.int .i64 0, .int .i64 dx]) (by simp)
        have ne9_2 : w.heap.size ≠ nb8 := KK.out.2 (w.heap.size, [.int .i64 0, .int .i64 u]) (by simp)
        clear KK
        obtain ⟨c9_0_0, c9_0_1⟩ := (bo1 K9).c2
        obtain ⟨c9_1_0, c9_1_1⟩ := (bo2 K9).c2
        obtain ⟨c9_2_0, c9_2_1⟩ := (bo3 K9).c2
        obtain ⟨c9_3_0, c9_3_1⟩ := (bo4 K9).c2
        go_wp2_with fail
        refine (DR.out _).mono ?_
        rintro e W10 ⟨rfl, hb⟩
        have K10 := bsb K9 hb
        clear c9_0_0 c9_0_1 c9_1_0 c9_1_1 c9_2_0 c9_2_1 c9_3_0 c9_3_1
        clear hb K9
        obtain ⟨c10_0_0, c10_0_1⟩ := (bo1 K10).c2
        obtain ⟨c10_1_0, c10_1_1⟩ := (bo2 K10).c2
        obtain ⟨c10_2_0, c10_2_1⟩ := (bo3 K10).c2
        obtain ⟨c10_3_0, c10_3_1⟩ := (bo4 K10).c2
        go_wp2_with fail
        refine (KN.out _ (hL.out _ K10.out.1)).mono ?_
        rintro e W11 ⟨rfl, hb⟩
        have K11 := bsb K10 hb
        clear c10_0_0 c10_0_1 c10_1_0 c10_1_1 c10_2_0 c10_2_1 c10_3_0 c10_3_1
        clear hb K10
        obtain ⟨c11_0_0, c11_0_1⟩ := (bo1 K11).c2
        obtain ⟨c11_1_0, c11_1_1⟩ := (bo2 K11).c2
        obtain ⟨c11_2_0, c11_2_1⟩ := (bo3 K11).c2
        obtain ⟨c11_3_0, c11_3_1⟩ := (bo4 K11).c2
        go_wp2
        go_ret
        exact ⟨rfl, K11.out.1⟩

set_option maxRecDepth 100000 in
set_option maxHeartbeats 4000000 in
theorem mk_10 (u dx Y y m q n h mi us D v sc g : Int) (b1 : -1000000 ≤ Y) (b2 : Y ≤ 1000000) (h1 : 0 ≤ h) (h2 : h ≤ 24) (m1 : 0 ≤ mi) (m2 : mi ≤ 60) (u1 : 0 ≤ us) (u2 : us ≤ 60000000) (m3 : 1 ≤ m) (m4 : m ≤ 12) (hn : n = (m + 2) / 3) (sy : Y < 0) (hy : Y + 1 = y) (hh : h * 3600 * 1000000 + mi * 60 * 1000000 + us = D) (hv : IntKind.i64.wrap (u + 946684800000000) = v)
    (RR : Hid (∀ w : World, Calls Tryz.prog 13 #[.agg #[.int .i64 0, .int .i64 u]] w fun r' w' => r' = .returned (.bool true) ∧ Below w.heap.size w w'))
    (NY : Hid (∀ w : World, LO w → Calls Tryz.prog 14 #[.string ⟨#[121, 101, 97, 114]⟩, .agg #[.int .i64 0, .int .i64 u]] w fun r' w' => r' = .returned (.int .i64 Y) ∧ Below w.heap.size w w'))
    (NM : Hid (∀ w : World, LO w → Calls Tryz.prog 14 #[.string ⟨#[109, 111, 110, 116, 104]⟩, .agg #[.int .i64 0, .int .i64 u]] w fun r' w' => r' = .returned (.int .i64 m) ∧ Below w.heap.size w w'))
    (ND : Hid (∀ w : World, LO w → Calls Tryz.prog 14 #[.string ⟨#[100, 97, 121]⟩, .agg #[.int .i64 0, .int .i64 u]] w fun r' w' => r' = .returned (.int .i64 q) ∧ Below w.heap.size w w'))
    (MK : Hid (∀ w : World, Calls Tryz.prog 15 #[.int .i64 y, .int .i64 m, .int .i64 q] w fun r' w' => r' = .returned (.tuple #[.agg #[.int .i64 0, .int .i64 dx], .int .i64 0]) ∧ Below w.heap.size w w'))
    (NH : Hid (∀ w : World, LO w → Calls Tryz.prog 14 #[.string ⟨#[104, 111, 117, 114]⟩, .agg #[.int .i64 0, .int .i64 u]] w fun r' w' => r' = .returned (.int .i64 h) ∧ Below w.heap.size w w'))
    (NI : Hid (∀ w : World, LO w → Calls Tryz.prog 14 #[.string ⟨#[109, 105, 110, 117, 116, 101]⟩, .agg #[.int .i64 0, .int .i64 u]] w fun r' w' => r' = .returned (.int .i64 mi) ∧ Below w.heap.size w w'))
    (NU : Hid (∀ w : World, LO w → Calls Tryz.prog 14 #[.string ⟨#[109, 105, 99, 114, 111, 115, 101, 99, 111, 110, 100, 115]⟩, .agg #[.int .i64 0, .int .i64 u]] w fun r' w' => r' = .returned (.int .i64 us) ∧ Below w.heap.size w w'))
    (SM : Hid (∀ w : World, Calls Tryz.prog 16 #[.agg #[.int .i64 0, .int .i64 dx], .int .i64 D] w fun r' w' => r' = .returned (.tuple #[.agg #[.int .i64 0, .int .i64 u], .int .i64 0]) ∧ Below w.heap.size w w'))
    (NQ : Hid (∀ w : World, LO w → Calls Tryz.prog 14 #[.string ⟨#[113, 117, 97, 114, 116, 101, 114]⟩, .agg #[.int .i64 0, .int .i64 u]] w fun r' w' => r' = .returned (.int .i64 n) ∧ Below w.heap.size w w'))
    (EX : Hid (∀ w : World, LO w → Calls Tryz.prog 17 #[.agg utL.toArray, .string ⟨#[101, 112, 111, 99, 104]⟩, .agg (v_st 0 u).toArray] w fun r' w' => r' = .returned (.tuple #[.agg #[.int .i64 v, .int .i64 sc], .int .i64 0]) ∧ Below w.heap.size w w'))
    (DR : Hid (∀ w : World, Calls Tryz.prog 19 #[.agg #[.int .i64 v, .int .i64 sc]] w fun r' w' => r' = .returned (.bool true) ∧ Below w.heap.size w w'))
    (KN : Hid (∀ w : World, LO w → Calls Tryz.prog 9 #[] w fun r' w' => r' = .returned (.bool true) ∧ Below w.heap.size w w'))
    (w : World) (hL : Hid (∀ W : World, Below w.heap.size w W → LO W)) :
    Calls Tryz.prog 6 #[.agg #[.int .i64 0, .int .i64 u]] w fun r' w' => r' = .returned (.bool true) ∧ Below w.heap.size w w' := by
  have UT : Hid (∀ w : World, Calls Tryz.prog 18 #[] w fun e w' => e = .returned (.agg utL.toArray) ∧ Below w.heap.size w w') := utc_any
  have t1 : IntKind.i64.wrap (h * 3600) = h * 3600 := by rw [IntKind.wrap_i64]; omega
  have t2 : IntKind.i64.wrap (h * 3600 * 1000000) = h * 3600 * 1000000 := by rw [IntKind.wrap_i64]; omega
  have t3 : IntKind.i64.wrap (mi * 60) = mi * 60 := by rw [IntKind.wrap_i64]; omega
  have t4 : IntKind.i64.wrap (mi * 60 * 1000000) = mi * 60 * 1000000 := by rw [IntKind.wrap_i64]; omega
  have t5 : IntKind.i64.wrap (h * 3600 * 1000000 + mi * 60 * 1000000) = h * 3600 * 1000000 + mi * 60 * 1000000 := by rw [IntKind.wrap_i64]; omega
  have t6 : IntKind.i64.wrap D = D := by rw [IntKind.wrap_i64]; omega
  have q1 : (n == (m + 2) / 3) = true := by simpa using hn
  have q2 : 0 ≤ m + 2 := by omega
  clear hn
  have K0 : Hid (BS w [(w.heap.size, [.int .i64 0, .int .i64 u])] (w.alloc (.cells #[.int .i64 0, .int .i64 u] 23))) := ((BS.start w).new [.int .i64 0, .int .i64 u] 23 rfl)
  go_enter Tryz.func6, Tryz.ntmps6
  go_wp2_with fail
  refine (RR.out _).mono ?_
  rintro e W1 ⟨rfl, hb⟩
  have K1 := bsb K0 hb
  clear hb K0
  obtain ⟨c1_0_0, c1_0_1⟩ := (bo1 K1).c2
  go_wp2_with fail
  refine (NY.out _ (hL.out _ K1.out.1)).mono ?_
  rintro e W2 ⟨rfl, hb⟩
  have K2 := bsb K1 hb
  clear c1_0_0 c1_0_1
  clear hb K1
  obtain ⟨c2_0_0, c2_0_1⟩ := (bo1 K2).c2
  go_upto_region 6 with fail
  go_cut [4, 5] (fun v0 v1 wx => ∃ nb, v0 = .pointer (some ⟨nb, 0, none⟩) ∧ v1 = .int .i64 0 ∧ Hid (BS w ((nb, [.int .i64 0, .int .i64 dx]) :: [(w.heap.size, [.int .i64 0, .int .i64 u])]) wx ∧ (∀ x ∈ ([(w.heap.size, [.int .i64 0, .int .i64 u])] : List (Nat × List Value)), x.1 ≠ nb)))
  case first =>
    refine wp_region_held_drew (S := BS w [(w.heap.size, [.int .i64 0, .int .i64 u])]) (by kernel_rfl) K2.out.drew (fun hHeld => ?_)
    refine wpAnyH_take (i := 0) (v := ?_) (oi := { dst := some 29, op := _, type := _, pos := _, after := _, guard := none }) rfl (by kernel_rfl) (by kernel_rfl) (by kernel_rfl) (fun _ _ _ h => h) (Or.inl ⟨by kernel_rfl, ?_⟩) (by assumption) ?_
    case refine_2 => (intro w9 hSw; clear hSw; go_simp; try with_reducible rfl)
    simp only [Act.put, List.setIfInBounds_toArray, List.set_cons_zero, List.set_cons_succ]
    refine wpAnyH_take (i := 1) (v := ?_) (oi := { dst := some 30, op := _, type := _, pos := _, after := _, guard := none }) rfl (by kernel_rfl) (by kernel_rfl) (by kernel_rfl) (fun _ _ _ h => h) (Or.inl ⟨by kernel_rfl, ?_⟩) (by assumption) ?_
    case refine_2 => (intro w9 hSw; have l0_0 := (hSw.at (w.heap.size) [.int .i64 0, .int .i64 u] (by simp)).c 0 rfl; have l0_1 := (hSw.at (w.heap.size) [.int .i64 0, .int .i64 u] (by simp)).c 1 rfl; clear hSw; go_simp; try with_reducible rfl)
    simp only [Act.put, List.setIfInBounds_toArray, List.set_cons_zero, List.set_cons_succ]
    refine wpAnyH_take (i := 3) (v := ?_) (oi := { dst := some 32, op := _, type := _, pos := _, after := _, guard := none }) rfl (by kernel_rfl) (by kernel_rfl) (by kernel_rfl) (fun _ _ _ h => h) (Or.inl ⟨by kernel_rfl, ?_⟩) (by assumption) ?_
    case refine_2 => (intro w9 hSw; have l0_0 := (hSw.at (w.heap.size) [.int .i64 0, .int .i64 u] (by simp)).c 0 rfl; have l0_1 := (hSw.at (w.heap.size) [.int .i64 0, .int .i64 u] (by simp)).c 1 rfl; clear hSw; go_simp; try with_reducible rfl)
    simp only [Act.put, List.setIfInBounds_toArray, List.set_cons_zero, List.set_cons_succ]
    refine wpAnyH_ready (rs := [2, 9]) (by kernel_rfl) (by simp) (AllReadyH.cons (o := { dst := some 31, op := _, type := _, pos := _, after := _, guard := none }) rfl (fun K hK => ?_) (AllReadyH.cons (o := { dst := some 4, op := _, type := _, pos := _, after := _, guard := none }) rfl (fun K hK => ?_) AllReadyH.nil))
    ·
      go_simp
      refine (NM.out _ (hL.out _ hHeld.1)).mono ?_
      rintro e v1 ⟨rfl, hb1⟩
      refine hK.out _ _ (hHeld.below hb1) (fun hHeld => ?_)
      try (have HN2 := HN.out.below hb1; clear HN; have HN : Hid (NB _ _ _ _ _) := HN2; clear HN2)
      clear hK K hb1
      refine wpAnyH_ready (rs := [4, 9]) (by kernel_rfl) (by simp) (AllReadyH.cons (o := { dst := some 33, op := _, type := _, pos := _, after := _, guard := none }) rfl (fun K hK => ?_) (AllReadyH.cons (o := { dst := some 4, op := _, type := _, pos := _, after := _, guard := none }) rfl (fun K hK => ?_) AllReadyH.nil))
      ·
        go_simp
        refine (ND.out _ (hL.out _ hHeld.1)).mono ?_
        rintro e v2 ⟨rfl, hb2⟩
        refine hK.out _ _ (hHeld.below hb2) (fun hHeld => ?_)
        try (have HN2 := HN.out.below hb2; clear HN; have HN : Hid (NB _ _ _ _ _) := HN2; clear HN2)
        clear hK K hb2
        refine wpAnyH_ready (rs := [5, 9]) (by kernel_rfl) (by simp) (AllReadyH.cons (o := { dst := some 34, op := _, type := _, pos := _, after := _, guard := none }) rfl (fun K hK => ?_) (AllReadyH.cons (o := { dst := some 4, op := _, type := _, pos := _, after := _, guard := none }) rfl (fun K hK => ?_) AllReadyH.nil))
        ·
          go_simp
          refine (MK.out _).mono ?_
          rintro e v3 ⟨rfl, hb3⟩
          refine hK.out _ _ (hHeld.below hb3) (fun hHeld => ?_)
          try (have HN2 := HN.out.below hb3; clear HN; have HN : Hid (NB _ _ _ _ _) := HN2; clear HN2)
          clear hK K hb3
          refine wpAnyH_take (i := 6) (v := ?_) (oi := { dst := some 28, op := _, type := _, pos := _, after := _, guard := none }) rfl (by kernel_rfl) (by kernel_rfl) (by kernel_rfl) (fun _ _ _ h => h) (Or.inl ⟨by kernel_rfl, ?_⟩) (by assumption) ?_
          case refine_2 => (intro w9 hSw; clear hSw; go_simp; try with_reducible rfl)
          simp only [Act.put, List.setIfInBounds_toArray, List.set_cons_zero, List.set_cons_succ]
          refine wpAnyH_take (i := 7) (v := ?_) (oi := { dst := some 35, op := _, type := _, pos := _, after := _, guard := none }) rfl (by kernel_rfl) (by kernel_rfl) (by kernel_rfl) (fun _ _ _ h => h) (Or.inl ⟨by kernel_rfl, ?_⟩) (by assumption) ?_
          case refine_2 => (intro w9 hSw; clear hSw; go_simp; try with_reducible rfl)
          simp only [Act.put, List.setIfInBounds_toArray, List.set_cons_zero, List.set_cons_succ]
          refine wpAnyH_take (i := 8) (v := ?_) (oi := { dst := some 36, op := _, type := _, pos := _, after := _, guard := none }) rfl (by kernel_rfl) (by kernel_rfl) (by kernel_rfl) (fun _ _ _ h => h) (Or.inl ⟨by kernel_rfl, ?_⟩) (by assumption) ?_
          case refine_2 => (intro w9 hSw; clear hSw; go_simp; try with_reducible rfl)
          simp only [Act.put, List.setIfInBounds_toArray, List.set_cons_zero, List.set_cons_succ]
          refine wpAnyH_ready (rs := [9]) (by kernel_rfl) (by simp) (AllReadyH.cons (o := { dst := some 4, op := _, type := _, pos := _, after := _, guard := none }) rfl (fun K hK => ?_) AllReadyH.nil)
          go_simp
          have hH0 := hHeld
          refine hK.out _ _ (hHeld.alloc _) (fun hHeld => ?_)
          have HN : Hid (NB _ _ _ _ [.int .i64 0, .int .i64 0]) := hH0.nb hHeld
          clear hK K hH0
          refine wpAnyH_ready (rs := [10]) (by kernel_rfl) (by simp) (AllReadyH.cons (o := { dst := none, op := _, type := _, pos := _, after := _, guard := none }) rfl (fun K hK => ?_) AllReadyH.nil)
          refine (if_pos (by kernel_rfl)).mpr (wp_store_mid 40 _ _ rfl _ 0 #[.int .i64 0, .int .i64 dx] rfl rfl HN.out.1.there (by kernel_rfl) (by simp [Value.oneCell']) (hK.out _ _ (hHeld.off HN.out.2.1 HN.out.2.2 _) (fun hHeld => ?_)))
          have HN2 : Hid (BS w ((_, [.int .i64 0, .int .i64 dx]) :: [(w.heap.size, [.int .i64 0, .int .i64 u])]) _ ∧ _) := ⟨⟨hHeld.1, fun x hx => by rcases List.mem_cons.1 hx with rfl | hx; exact ⟨HN.out.2.1, HN.out.1.setAll _ rfl⟩; exact hHeld.2 x hx⟩, HN.out.2.2⟩
          clear hK K HN
          refine wpAnyH_take (i := 11) (v := ?_) (oi := { dst := some 5, op := _, type := _, pos := _, after := _, guard := none }) rfl (by kernel_rfl) (by kernel_rfl) (by kernel_rfl) (fun _ _ _ h => h) (Or.inl ⟨by kernel_rfl, ?_⟩) (by assumption) ?_
          case refine_2 => (intro w9 hSw; clear hSw; go_simp; try with_reducible rfl)
          simp only [Act.put, List.setIfInBounds_toArray, List.set_cons_zero, List.set_cons_succ]
          refine wpAnyH_done (by kernel_rfl) ?_ _
          go_wp2_with fail
          go_meet
          case rel => exact ⟨_, rfl, rfl, HN2.out⟩
        ·
          go_simp
          have hH0 := hHeld
          refine hK.out _ _ (hHeld.alloc _) (fun hHeld => ?_)
          have HN : Hid (NB _ _ _ _ [.int .i64 0, .int .i64 0]) := hH0.nb hHeld
          clear hK K hH0
          refine wpAnyH_ready (rs := [5]) (by kernel_rfl) (by simp) (AllReadyH.cons (o := { dst := some 34, op := _, type := _, pos := _, after := _, guard := none }) rfl (fun K hK => ?_) AllReadyH.nil)
          go_simp
          refine (MK.out _).mono ?_
          rintro e v7 ⟨rfl, hb7⟩
          refine hK.out _ _ (hHeld.below hb7) (fun hHeld => ?_)
          try (have HN2 := HN.out.below hb7; clear HN; have HN : Hid (NB _ _ _ _ _) := HN2; clear HN2)
          clear hK K hb7
          refine wpAnyH_take (i := 6) (v := ?_) (oi := { dst := some 28, op := _, type := _, pos := _, after := _, guard := none }) rfl (by kernel_rfl) (by kernel_rfl) (by kernel_rfl) (fun _ _ _ h => h) (Or.inl ⟨by kernel_rfl, ?_⟩) (by assumption) ?_
          case refine_2 => (intro w9 hSw; clear hSw; go_simp; try with_reducible rfl)
          simp only [Act.put, List.setIfInBounds_toArray, List.set_cons_zero, List.set_cons_succ]
          refine wpAnyH_take (i := 7) (v := ?_) (oi := { dst := some 35, op := _, type := _, pos := _, after := _, guard := none }) rfl (by kernel_rfl) (by kernel_rfl) (by kernel_rfl) (fun _ _ _ h => h) (Or.inl ⟨by kernel_rfl, ?_⟩) (by assumption) ?_
          case refine_2 => (intro w9 hSw; clear hSw; go_simp; try with_reducible rfl)
          simp only [Act.put, List.setIfInBounds_toArray, List.set_cons_zero, List.set_cons_succ]
          refine wpAnyH_take (i := 8) (v := ?_) (oi := { dst := some 36, op := _, type := _, pos := _, after := _, guard := none }) rfl (by kernel_rfl) (by kernel_rfl) (by kernel_rfl) (fun _ _ _ h => h) (Or.inl ⟨by kernel_rfl, ?_⟩) (by assumption) ?_
          case refine_2 => (intro w9 hSw; clear hSw; go_simp; try with_reducible rfl)
          simp only [Act.put, List.setIfInBounds_toArray, List.set_cons_zero, List.set_cons_succ]
          refine wpAnyH_ready (rs := [10]) (by kernel_rfl) (by simp) (AllReadyH.cons (o := { dst := none, op := _, type := _, pos := _, after := _, guard := none }) rfl (fun K hK => ?_) AllReadyH.nil)
          refine (if_pos (by kernel_rfl)).mpr (wp_store_mid 40 _ _ rfl _ 0 #[.int .i64 0, .int .i64 dx] rfl rfl HN.out.1.there (by kernel_rfl) (by simp [Value.oneCell']) (hK.out _ _ (hHeld.off HN.out.2.1 HN.out.2.2 _) (fun hHeld => ?_)))
          have HN2 : Hid (BS w ((_, [.int .i64 0, .int .i64 dx]) :: [(w.heap.size, [.int .i64 0, .int .i64 u])]) _ ∧ _) := ⟨⟨hHeld.1, fun x hx => by rcases List.mem_cons.1 hx with rfl | hx; exact ⟨HN.out.2.1, HN.out.1.setAll _ rfl⟩; exact hHeld.2 x hx⟩, HN.out.2.2⟩
          clear hK K HN
          refine wpAnyH_take (i := 11) (v := ?_) (oi := { dst := some 5, op := _, type := _, pos := _, after := _, guard := none }) rfl (by kernel_rfl) (by kernel_rfl) (by kernel_rfl) (fun _ _ _ h => h) (Or.inl ⟨by kernel_rfl, ?_⟩) (by assumption) ?_
          case refine_2 => (intro w9 hSw; clear hSw; go_simp; try with_reducible rfl)
          simp only [Act.put, List.setIfInBounds_toArray, List.set_cons_zero, List.set_cons_succ]
          refine wpAnyH_done (by kernel_rfl) ?_ _
          go_wp2_with fail
          go_meet
          case rel => exact ⟨_, rfl, rfl, HN2.out⟩
      ·
        go_simp
        have hH0 := hHeld
        refine hK.out _ _ (hHeld.alloc _) (fun hHeld => ?_)
        have HN : Hid (NB _ _ _ _ [.int .i64 0, .int .i64 0]) := hH0.nb hHeld
        clear hK K hH0
        refine wpAnyH_ready (rs := [4]) (by kernel_rfl) (by simp) (AllReadyH.cons (o := { dst := some 33, op := _, type := _, pos := _, after := _, guard := none }) rfl (fun K hK => ?_) AllReadyH.nil)
        go_simp
        refine (ND.out _ (hL.out _ hHeld.1)).mono ?_
        rintro e v10 ⟨rfl, hb10⟩
        refine hK.out _ _ (hHeld.below hb10) (fun hHeld => ?_)
        try (have HN2 := HN.out.below hb10; clear HN; have HN : Hid (NB _ _ _ _ _) := HN2; clear HN2)
        clear hK K hb10
        refine wpAnyH_ready (rs := [5]) (by kernel_rfl) (by simp) (AllReadyH.cons (o := { dst := some 34, op := _, type := _, pos := _, after := _, guard := none }) rfl (fun K hK => ?_) AllReadyH.nil)
        go_simp
        refine (MK.out _).mono ?_
        rintro e v11 ⟨rfl, hb11⟩
        refine hK.out _ _ (hHeld.below hb11) (fun hHeld => ?_)
        try (have HN2 := HN.out.below hb11; clear HN; have HN : Hid (NB _ _ _ _ _) := HN2; clear HN2)
        clear hK K hb11
        refine wpAnyH_take (i := 6) (v := ?_) (oi := { dst := some 28, op := _, type := _, pos := _, after := _, guard := none }) rfl (by kernel_rfl) (by kernel_rfl) (by kernel_rfl) (fun _ _ _ h => h) (Or.inl ⟨by kernel_rfl, ?_⟩) (by assumption) ?_
        case refine_2 => (intro w9 hSw; clear hSw; go_simp; try with_reducible rfl)
        simp only [Act.put, List.setIfInBounds_toArray, List.set_cons_zero, List.set_cons_succ]
        refine wpAnyH_take (i := 7) (v := ?_) (oi := { dst := some 35, op := _, type := _, pos := _, after := _, guard := none }) rfl (by kernel_rfl) (by kernel_rfl) (by kernel_rfl) (fun _ _ _ h => h) (Or.inl ⟨by kernel_rfl, ?_⟩) (by assumption) ?_
        case refine_2 => (intro w9 hSw; clear hSw; go_simp; try with_reducible rfl)
        simp only [Act.put, List.setIfInBounds_toArray, List.set_cons_zero, List.set_cons_succ]
        refine wpAnyH_take (i := 8) (v := ?_) (oi := { dst := some 36, op := _, type := _, pos := _, after := _, guard := none }) rfl (by kernel_rfl) (by kernel_rfl) (by kernel_rfl) (fun _ _ _ h => h) (Or.inl ⟨by kernel_rfl, ?_⟩) (by assumption) ?_
        case refine_2 => (intro w9 hSw; clear hSw; go_simp; try with_reducible rfl)
        simp only [Act.put, List.setIfInBounds_toArray, List.set_cons_zero, List.set_cons_succ]
        refine wpAnyH_ready (rs := [10]) (by kernel_rfl) (by simp) (AllReadyH.cons (o := { dst := none, op := _, type := _, pos := _, after := _, guard := none }) rfl (fun K hK => ?_) AllReadyH.nil)
        refine (if_pos (by kernel_rfl)).mpr (wp_store_mid 40 _ _ rfl _ 0 #[.int .i64 0, .int .i64 dx] rfl rfl HN.out.1.there (by kernel_rfl) (by simp [Value.oneCell']) (hK.out _ _ (hHeld.off HN.out.2.1 HN.out.2.2 _) (fun hHeld => ?_)))
        have HN2 : Hid (BS w ((_, [.int .i64 0, .int .i64 dx]) :: [(w.heap.size, [.int .i64 0, .int .i64 u])]) _ ∧ _) := ⟨⟨hHeld.1, fun x hx => by rcases List.mem_cons.1 hx with rfl | hx; exact ⟨HN.out.2.1, HN.out.1.setAll _ rfl⟩; exact hHeld.2 x hx⟩, HN.out.2.2⟩
        clear hK K HN
        refine wpAnyH_take (i := 11) (v := ?_) (oi := { dst := some 5, op := _, type := _, pos := _, after := _, guard := none }) rfl (by kernel_rfl) (by kernel_rfl) (by kernel_rfl) (fun _ _ _ h => h) (Or.inl ⟨by kernel_rfl, ?_⟩) (by assumption) ?_
        case refine_2 => (intro w9 hSw; clear hSw; go_simp; try with_reducible rfl)
        simp only [Act.put, List.setIfInBounds_toArray, List.set_cons_zero, List.set_cons_succ]
        refine wpAnyH_done (by kernel_rfl) ?_ _
        go_wp2_with fail
        go_meet
        case rel => exact ⟨_, rfl, rfl, HN2.out⟩
    ·
      go_simp
      have hH0 := hHeld
      refine hK.out _ _ (hHeld.alloc _) (fun hHeld => ?_)
      have HN : Hid (NB _ _ _ _ [.int .i64 0, .int .i64 0]) := hH0.nb hHeld
      clear hK K hH0
      refine wpAnyH_ready (rs := [2]) (by kernel_rfl) (by simp) (AllReadyH.cons (o := { dst := some 31, op := _, type := _, pos := _, after := _, guard := none }) rfl (fun K hK => ?_) AllReadyH.nil)
      go_simp
      refine (NM.out _ (hL.out _ hHeld.1)).mono ?_
      rintro e v14 ⟨rfl, hb14⟩
      refine hK.out _ _ (hHeld.below hb14) (fun hHeld => ?_)
      try (have HN2 := HN.out.below hb14; clear HN; have HN : Hid (NB _ _ _ _ _) := HN2; clear HN2)
      clear hK K hb14
      refine wpAnyH_ready (rs := [4]) (by kernel_rfl) (by simp) (AllReadyH.cons (o := { dst := some 33, op := _, type := _, pos := _, after := _, guard := none }) rfl (fun K hK => ?_) AllReadyH.nil)
      go_simp
      refine (ND.out _ (hL.out _ hHeld.1)).mono ?_
      rintro e v15 ⟨rfl, hb15⟩
      refine hK.out _ _ (hHeld.below hb15) (fun hHeld => ?_)
      try (have HN2 := HN.out.below hb15; clear HN; have HN : Hid (NB _ _ _ _ _) := HN2; clear HN2)
      clear hK K hb15
      refine wpAnyH_ready (rs := [5]) (by kernel_rfl) (by simp) (AllReadyH.cons (o := { dst := some 34, op := _, type := _, pos := _, after := _, guard := none }) rfl (fun K hK => ?_) AllReadyH.nil)
      go_simp
      refine (MK.out _).mono ?_
      rintro e v16 ⟨rfl, hb16⟩
      refine hK.out _ _ (hHeld.below hb16) (fun hHeld => ?_)
      try (have HN2 := HN.out.below hb16; clear HN; have HN : Hid (NB _ _ _ _ _) := HN2; clear HN2)
      clear hK K hb16
      refine wpAnyH_take (i := 6) (v := ?_) (oi := { dst := some 28, op := _, type := _, pos := _, after := _, guard := none }) rfl (by kernel_rfl) (by kernel_rfl) (by kernel_rfl) (fun _ _ _ h => h) (Or.inl ⟨by kernel_rfl, ?_⟩) (by assumption) ?_
      case refine_2 => (intro w9 hSw; clear hSw; go_simp; try with_reducible rfl)
      simp only [Act.put, List.setIfInBounds_toArray, List.set_cons_zero, List.set_cons_succ]
      refine wpAnyH_take (i := 7) (v := ?_) (oi := { dst := some 35, op := _, type := _, pos := _, after := _, guard := none }) rfl (by kernel_rfl) (by kernel_rfl) (by kernel_rfl) (fun _ _ _ h => h) (Or.inl ⟨by kernel_rfl, ?_⟩) (by assumption) ?_
      case refine_2 => (intro w9 hSw; clear hSw; go_simp; try with_reducible rfl)
      simp only [Act.put, List.setIfInBounds_toArray, List.set_cons_zero, List.set_cons_succ]
      refine wpAnyH_take (i := 8) (v := ?_) (oi := { dst := some 36, op := _, type := _, pos := _, after := _, guard := none }) rfl (by kernel_rfl) (by kernel_rfl) (by kernel_rfl) (fun _ _ _ h => h) (Or.inl ⟨by kernel_rfl, ?_⟩) (by assumption) ?_
      case refine_2 => (intro w9 hSw; clear hSw; go_simp; try with_reducible rfl)
      simp only [Act.put, List.setIfInBounds_toArray, List.set_cons_zero, List.set_cons_succ]
      refine wpAnyH_ready (rs := [10]) (by kernel_rfl) (by simp) (AllReadyH.cons (o := { dst := none, op := _, type := _, pos := _, after := _, guard := none }) rfl (fun K hK => ?_) AllReadyH.nil)
      refine (if_pos (by kernel_rfl)).mpr (wp_store_mid 40 _ _ rfl _ 0 #[.int .i64 0, .int .i64 dx] rfl rfl HN.out.1.there (by kernel_rfl) (by simp [Value.oneCell']) (hK.out _ _ (hHeld.off HN.out.2.1 HN.out.2.2 _) (fun hHeld => ?_)))
      have HN2 : Hid (BS w ((_, [.int .i64 0, .int .i64 dx]) :: [(w.heap.size, [.int .i64 0, .int .i64 u])]) _ ∧ _) := ⟨⟨hHeld.1, fun x hx => by rcases List.mem_cons.1 hx with rfl | hx; exact ⟨HN.out.2.1, HN.out.1.setAll _ rfl⟩; exact hHeld.2 x hx⟩, HN.out.2.2⟩
      clear hK K HN
      refine wpAnyH_take (i := 11) (v := ?_) (oi := { dst := some 5, op := _, type := _, pos := _, after := _, guard := none }) rfl (by kernel_rfl) (by kernel_rfl) (by kernel_rfl) (fun _ _ _ h => h) (Or.inl ⟨by kernel_rfl, ?_⟩) (by assumption) ?_
      case refine_2 => (intro w9 hSw; clear hSw; go_simp; try with_reducible rfl)
      simp only [Act.put, List.setIfInBounds_toArray, List.set_cons_zero, List.set_cons_succ]
      refine wpAnyH_done (by kernel_rfl) ?_ _
      go_wp2_with fail
      go_meet
      case rel => exact ⟨_, rfl, rfl, HN2.out⟩
  case rest =>
    clear c2_0_0 c2_0_1
    obtain ⟨nb2, rfl, rfl, KK⟩ := hcut
    clear K2
    have K3 : Hid (BS w [(nb2, [.int .i64 0, .int .i64 dx]), (w.heap.size, [.int .i64 0, .int .i64 u])] wc) := KK.out.1
    have ne3_0 : w.heap.size ≠ nb2 := KK.out.2 (w.heap.size, [.int .i64 0, .int .i64 u]) (by simp)
    clear KK
    obtain ⟨c3_0_0, c3_0_1⟩ := (bo1 K3).c2
    obtain ⟨c3_1_0, c3_1_1⟩ := (bo2 K3).c2
    go_upto_region 7 with fail
    go_cut [6] (fun v0 wx => v0 = .int .i64 D ∧ Hid (BS w [(nb2, [.int .i64 0, .int .i64 dx]), (w.heap.size, [.int .i64 0, .int .i64 u])] wx))
    case first =>
      refine wp_region_held_drew (S := BS w [(nb2, [.int .i64 0, .int .i64 dx]), (w.heap.size, [.int .i64 0, .int .i64 u])]) (by kernel_rfl) K3.out.drew (fun hHeld => ?_)
      refine wpAnyH_take (i := 0) (v := ?_) (oi := { dst := some 37, op := _, type := _, pos := _, after := _, guard := none }) rfl (by kernel_rfl) (by kernel_rfl) (by kernel_rfl) (fun _ _ _ h => h) (Or.inl ⟨by kernel_rfl, ?_⟩) (by assumption) ?_
      case refine_2 => (intro w9 hSw; have l0_0 := (hSw.at (nb2) [.int .i64 0, .int .i64 dx] (by simp)).c 0 rfl; have l0_1 := (hSw.at (nb2) [.int .i64 0, .int .i64 dx] (by simp)).c 1 rfl; have l1_0 := (hSw.at (w.heap.size) [.int .i64 0, .int .i64 u] (by simp)).c 0 rfl; have l1_1 := (hSw.at (w.heap.size) [.int .i64 0, .int .i64 u] (by simp)).c 1 rfl; clear hSw; go_simp; try with_reducible rfl)
      simp only [Act.put, List.setIfInBounds_toArray, List.set_cons_zero, List.set_cons_succ]
      refine wpAnyH_take (i := 4) (v := ?_) (oi := { dst := some 41, op := _, type := _, pos := _, after := _, guard := none }) rfl (by kernel_rfl) (by kernel_rfl) (by kernel_rfl) (fun _ _ _ h => h) (Or.inl ⟨by kernel_rfl, ?_⟩) (by assumption) ?_
      case refine_2 => (intro w9 hSw; have l0_0 := (hSw.at (nb2) [.int .i64 0, .int .i64 dx] (by simp)).c 0 rfl; have l0_1 := (hSw.at (nb2) [.int .i64 0, .int .i64 dx] (by simp)).c 1 rfl; have l1_0 := (hSw.at (w.heap.size) [.int .i64 0, .int .i64 u] (by simp)).c 0 rfl; have l1_1 := (hSw.at (w.heap.size) [.int .i64 0, .int .i64 u] (by simp)).c 1 rfl; clear hSw; go_simp; try with_reducible rfl)
      simp only [Act.put, List.setIfInBounds_toArray, List.set_cons_zero, List.set_cons_succ]
      refine wpAnyH_take (i := 9) (v := ?_) (oi := { dst := some 46, op := _, type := _, pos := _, after := _, guard := none }) rfl (by kernel_rfl) (by kernel_rfl) (by kernel_rfl) (fun _ _ _ h => h) (Or.inl ⟨by kernel_rfl, ?_⟩) (by assumption) ?_
      case refine_2 => (intro w9 hSw; have l0_0 := (hSw.at (nb2) [.int .i64 0, .int .i64 dx] (by simp)).c 0 rfl; have l0_1 := (hSw.at (nb2) [.int .i64 0, .int .i64 dx] (by simp)).c 1 rfl; have l1_0 := (hSw.at (w.heap.size) [.int .i64 0, .int .i64 u] (by simp)).c 0 rfl; have l1_1 := (hSw.at (w.heap.size) [.int .i64 0, .int .i64 u] (by simp)).c 1 rfl; clear hSw; go_simp; try with_reducible rfl)
      simp only [Act.put, List.setIfInBounds_toArray, List.set_cons_zero, List.set_cons_succ]
      refine wpAnyH_ready (rs := [1]) (by kernel_rfl) (by simp) (AllReadyH.cons (o := { dst := some 38, op := _, type := _, pos := _, after := _, guard := none }) rfl (fun K hK => ?_) AllReadyH.nil)
      go_simp
      refine (NH.out _ (hL.out _ hHeld.1)).mono ?_
      rintro e v1 ⟨rfl, hb1⟩
      refine hK.out _ _ (hHeld.below hb1) (fun hHeld => ?_)
      clear hK K hb1
      refine wpAnyH_take (i := 2) (v := ?_) (oi := { dst := some 39, op := _, type := _, pos := _, after := _, guard := none }) rfl (by kernel_rfl) (by kernel_rfl) (by kernel_rfl) (fun _ _ _ h => h) (Or.inl ⟨by kernel_rfl, ?_⟩) (by assumption) ?_
      case refine_2 => (intro w9 hSw; clear hSw; go_simp; try with_reducible rfl)
      simp only [Act.put, List.setIfInBounds_toArray, List.set_cons_zero, List.set_cons_succ]
      refine wpAnyH_take (i := 3) (v := ?_) (oi := { dst := some 40, op := _, type := _, pos := _, after := _, guard := none }) rfl (by kernel_rfl) (by kernel_rfl) (by kernel_rfl) (fun _ _ _ h => h) (Or.inl ⟨by kernel_rfl, ?_⟩) (by assumption) ?_
      case refine_2 => (intro w9 hSw; clear hSw; go_simp; try with_reducible rfl)
      simp only [Act.put, List.setIfInBounds_toArray, List.set_cons_zero, List.set_cons_succ]
      refine wpAnyH_ready (rs := [5]) (by kernel_rfl) (by simp) (AllReadyH.cons (o := { dst := some 42, op := _, type := _, pos := _, after := _, guard := none }) rfl (fun K hK => ?_) AllReadyH.nil)
      go_simp
      refine (NI.out _ (hL.out _ hHeld.1)).mono ?_
      rintro e v2 ⟨rfl, hb2⟩
      refine hK.out _ _ (hHeld.below hb2) (fun hHeld => ?_)
      clear hK K hb2
      refine wpAnyH_take (i := 6) (v := ?_) (oi := { dst := some 43, op := _, type := _, pos := _, after := _, guard := none }) rfl (by kernel_rfl) (by kernel_rfl) (by kernel_rfl) (fun _ _ _ h => h) (Or.inl ⟨by kernel_rfl, ?_⟩) (by assumption) ?_
      case refine_2 => (intro w9 hSw; clear hSw; go_simp; try with_reducible rfl)
      simp only [Act.put, List.setIfInBounds_toArray, List.set_cons_zero, List.set_cons_succ]
      refine wpAnyH_take (i := 7) (v := ?_) (oi := { dst := some 44, op := _, type := _, pos := _, after := _, guard := none }) rfl (by kernel_rfl) (by kernel_rfl) (by kernel_rfl) (fun _ _ _ h => h) (Or.inl ⟨by kernel_rfl, ?_⟩) (by assumption) ?_
      case refine_2 => (intro w9 hSw; clear hSw; go_simp; try with_reducible rfl)
      simp only [Act.put, List.setIfInBounds_toArray, List.set_cons_zero, List.set_cons_succ]
      refine wpAnyH_take (i := 8) (v := ?_) (oi := { dst := some 45, op := _, type := _, pos := _, after := _, guard := none }) rfl (by kernel_rfl) (by kernel_rfl) (by kernel_rfl) (fun _ _ _ h => h) (Or.inl ⟨by kernel_rfl, ?_⟩) (by assumption) ?_
      case refine_2 => (intro w9 hSw; clear hSw; go_simp; try with_reducible rfl)
      simp only [Act.put, List.setIfInBounds_toArray, List.set_cons_zero, List.set_cons_succ]
      refine wpAnyH_ready (rs := [10]) (by kernel_rfl) (by simp) (AllReadyH.cons (o := { dst := some 47, op := _, type := _, pos := _, after := _, guard := none }) rfl (fun K hK => ?_) AllReadyH.nil)
      go_simp
      refine (NU.out _ (hL.out _ hHeld.1)).mono ?_
      rintro e v3 ⟨rfl, hb3⟩
      refine hK.out _ _ (hHeld.below hb3) (fun hHeld => ?_)
      clear hK K hb3
      refine wpAnyH_take (i := 11) (v := ?_) (oi := { dst := some 48, op := _, type := _, pos := _, after := _, guard := none }) rfl (by kernel_rfl) (by kernel_rfl) (by kernel_rfl) (fun _ _ _ h => h) (Or.inl ⟨by kernel_rfl, ?_⟩) (by assumption) ?_
      case refine_2 => (intro w9 hSw; clear hSw; go_simp; try with_reducible rfl)
      simp only [Act.put, List.setIfInBounds_toArray, List.set_cons_zero, List.set_cons_succ]
      refine wpAnyH_take (i := 12) (v := ?_) (oi := { dst := some 6, op := _, type := _, pos := _, after := _, guard := none }) rfl (by kernel_rfl) (by kernel_rfl) (by kernel_rfl) (fun _ _ _ h => h) (Or.inl ⟨by kernel_rfl, ?_⟩) (by assumption) ?_
      case refine_2 => (intro w9 hSw; clear hSw; go_simp; try with_reducible rfl)
      simp only [Act.put, List.setIfInBounds_toArray, List.set_cons_zero, List.set_cons_succ]
      refine wpAnyH_done (by kernel_rfl) ?_ _
      go_wp2_with fail
      go_meet
      case rel => exact ⟨rfl, hHeld⟩
    case rest =>
      clear c3_0_0 c3_0_1 c3_1_0 c3_1_1
      obtain ⟨rfl, K4⟩ := hcut
      clear K3
      skip
      obtain ⟨c4_0_0, c4_0_1⟩ := (bo1 K4).c2
      obtain ⟨c4_1_0, c4_1_1⟩ := (bo2 K4).c2
      go_wp2_with fail
      refine (SM.out _).mono ?_
      rintro e W5 ⟨rfl, hb⟩
      have K5 := bsb K4 hb
      clear c4_0_0 c4_0_1 c4_1_0 c4_1_1
      clear hb K4
      obtain ⟨c5_0_0, c5_0_1⟩ := (bo1 K5).c2
      obtain ⟨c5_1_0, c5_1_1⟩ := (bo2 K5).c2
      have Mz5 := bsn K5 [.int .i64 0, .int .i64 u] 23
      have lt5_0 := (bo1 K5).1
      have lt5_1 := (bo2 K5).1
      go_upto_region 9 with fail
      refine bs_to Mz5 ?_
      clear c5_0_0 c5_0_1 c5_1_0 c5_1_1
      intro W6 K6
      clear Mz5 K5
      obtain ⟨c6_0_0, c6_0_1⟩ := (bo1 K6).c2
      obtain ⟨c6_1_0, c6_1_1⟩ := (bo2 K6).c2
      obtain ⟨c6_2_0, c6_2_1⟩ := (bo3 K6).c2
      go_wp2_with fail
      refine (NQ.out _ (hL.out _ K6.out.1)).mono ?_
      rintro e W7 ⟨rfl, hb⟩
      have K7 := bsb K6 hb
      clear c6_0_0 c6_0_1 c6_1_0 c6_1_1 c6_2_0 c6_2_1
      clear hb K6
      obtain ⟨c7_0_0, c7_0_1⟩ := (bo1 K7).c2
      obtain ⟨c7_1_0, c7_1_1⟩ := (bo2 K7).c2
      obtain ⟨c7_2_0, c7_2_1⟩ := (bo3 K7).c2
      go_wp2_with fail
      refine (NM.out _ (hL.out _ K7.out.1)).mono ?_
      rintro e W8 ⟨rfl, hb⟩
      have K8 := bsb K7 hb
      clear c7_0_0 c7_0_1 c7_1_0 c7_1_1 c7_2_0 c7_2_1
      clear hb K7
      obtain ⟨c8_0_0, c8_0_1⟩ := (bo1 K8).c2
      obtain ⟨c8_1_0, c8_1_1⟩ := (bo2 K8).c2
      obtain ⟨c8_2_0, c8_2_1⟩ := (bo3 K8).c2
      go_upto_region 11 with fail
      go_cut [11, 12] (fun v0 v1 wx => ∃ nb, v0 = .pointer (some ⟨nb, 0, none⟩) ∧ v1 = .int .i64 0 ∧ Hid (BS w ((nb, [.int .i64 v, .int .i64 sc]) :: [(W5.heap.size, [.int .i64 0, .int .i64 u]), (nb2, [.int .i64 0, .int .i64 dx]), (w.heap.size, [.int .i64 0, .int .i64 u])]) wx ∧ (∀ x ∈ ([(W5.heap.size, [.int .i64 0, .int .i64 u]), (nb2, [.int .i64 0, .int .i64 dx]), (w.heap.size, [.int .i64 0, .int .i64 u])] : List (Nat × List Value)), x.1 ≠ nb)))
      case first =>
        refine wp_region_held_drew (S := BS w [(W5.heap.size, [.int .i64 0, .int .i64 u]), (nb2, [.int .i64 0, .int .i64 dx]), (w.heap.size, [.int .i64 0, .int .i64 u])]) (by kernel_rfl) K8.out.drew (fun hHeld => ?_)
        refine wpAnyH_take (i := 1) (v := ?_) (oi := { dst := some 61, op := _, type := _, pos := _, after := _, guard := none }) rfl (by kernel_rfl) (by kernel_rfl) (by kernel_rfl) (fun _ _ _ h => h) (Or.inl ⟨by kernel_rfl, ?_⟩) (by assumption) ?_
        case refine_2 => (intro w9 hSw; have l0_0 := (hSw.at (W5.heap.size) [.int .i64 0, .int .i64 u] (by simp)).c 0 rfl; have l0_1 := (hSw.at (W5.heap.size) [.int .i64 0, .int .i64 u] (by simp)).c 1 rfl; have l1_0 := (hSw.at (nb2) [.int .i64 0, .int .i64 dx] (by simp)).c 0 rfl; have l1_1 := (hSw.at (nb2) [.int .i64 0, .int .i64 dx] (by simp)).c 1 rfl; have l2_0 := (hSw.at (w.heap.size) [.int .i64 0, .int .i64 u] (by simp)).c 0 rfl; have l2_1 := (hSw.at (w.heap.size) [.int .i64 0, .int .i64 u] (by simp)).c 1 rfl; clear hSw; go_simp; try with_reducible rfl)
        simp only [Act.put, List.setIfInBounds_toArray, List.set_cons_zero, List.set_cons_succ]
        refine wpAnyH_take (i := 2) (v := ?_) (oi := { dst := some 62, op := _, type := _, pos := _, after := _, guard := none }) rfl (by kernel_rfl) (by kernel_rfl) (by kernel_rfl) (fun _ _ _ h => h) (Or.inl ⟨by kernel_rfl, ?_⟩) (by assumption) ?_
        case refine_2 => (intro w9 hSw; clear hSw; go_simp; try with_reducible rfl)
        simp only [Act.put, List.setIfInBounds_toArray, List.set_cons_zero, List.set_cons_succ]
        refine wpAnyH_ready (rs := [0, 7]) (by kernel_rfl) (by simp) (AllReadyH.cons (o := { dst := some 60, op := _, type := _, pos := _, after := _, guard := none }) rfl (fun K hK => ?_) (AllReadyH.cons (o := { dst := some 11, op := _, type := _, pos := _, after := _, guard := none }) rfl (fun K hK => ?_) AllReadyH.nil))
        ·
          go_simp
          refine (UT.out _).mono ?_
          rintro e v1 ⟨rfl, hb1⟩
          refine hK.out _ _ (hHeld.below hb1) (fun hHeld => ?_)
          try (have HN2 := HN.out.below hb1; clear HN; have HN : Hid (NB _ _ _ _ _) := HN2; clear HN2)
          clear hK K hb1
          refine wpAnyH_ready (rs := [3, 7]) (by kernel_rfl) (by simp) (AllReadyH.cons (o := { dst := some 63, op := _, type := _, pos := _, after := _, guard := none }) rfl (fun K hK => ?_) (AllReadyH.cons (o := { dst := some 11, op := _, type := _, pos := _, after := _, guard := none }) rfl (fun K hK => ?_) AllReadyH.nil))
          ·
            go_simp
            refine (EX.out _ (hL.out _ hHeld.1)).mono ?_
            rintro e v2 ⟨rfl, hb2⟩
            refine hK.out _ _ (hHeld.below hb2) (fun hHeld => ?_)
            try (have HN2 := HN.out.below hb2; clear HN; have HN : Hid (NB _ _ _ _ _) := HN2; clear HN2)
            clear hK K hb2
            refine wpAnyH_take (i := 4) (v := ?_) (oi := { dst := some 59, op := _, type := _, pos := _, after := _, guard := none }) rfl (by kernel_rfl) (by kernel_rfl) (by kernel_rfl) (fun _ _ _ h => h) (Or.inl ⟨by kernel_rfl, ?_⟩) (by assumption) ?_
            case refine_2 => (intro w9 hSw; clear hSw; go_simp; try with_reducible rfl)
            simp only [Act.put, List.setIfInBounds_toArray, List.set_cons_zero, List.set_cons_succ]
            refine wpAnyH_take (i := 5) (v := ?_) (oi := { dst := some 64, op := _, type := _, pos := _, after := _, guard := none }) rfl (by kernel_rfl) (by kernel_rfl) (by kernel_rfl) (fun _ _ _ h => h) (Or.inl ⟨by kernel_rfl, ?_⟩) (by assumption) ?_
            case refine_2 => (intro w9 hSw; clear hSw; go_simp; try with_reducible rfl)
            simp only [Act.put, List.setIfInBounds_toArray, List.set_cons_zero, List.set_cons_succ]
            refine wpAnyH_take (i := 6) (v := ?_) (oi := { dst := some 65, op := _, type := _, pos := _, after := _, guard := none }) rfl (by kernel_rfl) (by kernel_rfl) (by kernel_rfl) (fun _ _ _ h => h) (Or.inl ⟨by kernel_rfl, ?_⟩) (by assumption) ?_
            case refine_2 => (intro w9 hSw; clear hSw; go_simp; try with_reducible rfl)
            simp only [Act.put, List.setIfInBounds_toArray, List.set_cons_zero, List.set_cons_succ]
            refine wpAnyH_ready (rs := [7]) (by kernel_rfl) (by simp) (AllReadyH.cons (o := { dst := some 11, op := _, type := _, pos := _, after := _, guard := none }) rfl (fun K hK => ?_) AllReadyH.nil)
            go_simp
            have hH0 := hHeld
            refine hK.out _ _ (hHeld.alloc _) (fun hHeld => ?_)
            have HN : Hid (NB _ _ _ _ [.int .i64 0, .int .i64 0]) := hH0.nb hHeld
            clear hK K hH0
            refine wpAnyH_ready (rs := [8]) (by kernel_rfl) (by simp) (AllReadyH.cons (o := { dst := none, op := _, type := _, pos := _, after := _, guard := none }) rfl (fun K hK => ?_) AllReadyH.nil)
            refine (if_pos (by kernel_rfl)).mpr (wp_store_mid 45 _ _ rfl _ 0 #[.int .i64 v, .int .i64 sc] rfl rfl HN.out.1.there (by kernel_rfl) (by simp [Value.oneCell']) (hK.out _ _ (hHeld.off HN.out.2.1 HN.out.2.2 _) (fun hHeld => ?_)))
            have HN2 : Hid (BS w ((_, [.int .i64 v, .int .i64 sc]) :: [(W5.heap.size, [.int .i64 0, .int .i64 u]), (nb2, [.int .i64 0, .int .i64 dx]), (w.heap.size, [.int .i64 0, .int .i64 u])]) _ ∧ _) := ⟨⟨hHeld.1, fun x hx => by rcases List.mem_cons.1 hx with rfl | hx; exact ⟨HN.out.2.1, HN.out.1.setAll _ rfl⟩; exact hHeld.2 x hx⟩, HN.out.2.2⟩
            clear hK K HN
            refine wpAnyH_take (i := 9) (v := ?_) (oi := { dst := some 12, op := _, type := _, pos := _, after := _, guard := none }) rfl (by kernel_rfl) (by kernel_rfl) (by kernel_rfl) (fun _ _ _ h => h) (Or.inl ⟨by kernel_rfl, ?_⟩) (by assumption) ?_
            case refine_2 => (intro w9 hSw; clear hSw; go_simp; try with_reducible rfl)
            simp only [Act.put, List.setIfInBounds_toArray, List.set_cons_zero, List.set_cons_succ]
            refine wpAnyH_done (by kernel_rfl) ?_ _
            go_wp2_with fail
            go_meet
            case rel => exact ⟨_, rfl, rfl, HN2.out⟩
          ·
            go_simp
            have hH0 := hHeld
            refine hK.out _ _ (hHeld.alloc _) (fun hHeld => ?_)
            have HN : Hid (NB _ _ _ _ [.int .i64 0, .int .i64 0]) := hH0.nb hHeld
            clear hK K hH0
            refine wpAnyH_ready (rs := [3]) (by kernel_rfl) (by simp) (AllReadyH.cons (o := { dst := some 63, op := _, type := _, pos := _, after := _, guard := none }) rfl (fun K hK => ?_) AllReadyH.nil)
            go_simp
            refine (EX.out _ (hL.out _ hHeld.1)).mono ?_
            rintro e v6 ⟨rfl, hb6⟩
            refine hK.out _ _ (hHeld.below hb6) (fun hHeld => ?_)
            try (have HN2 := HN.out.below hb6; clear HN; have HN : Hid (NB _ _ _ _ _) := HN2; clear HN2)
            clear hK K hb6
            refine wpAnyH_take (i := 4) (v := ?_) (oi := { dst := some 59, op := _, type := _, pos := _, after := _, guard := none }) rfl (by kernel_rfl) (by kernel_rfl) (by kernel_rfl) (fun _ _ _ h => h) (Or.inl ⟨by kernel_rfl, ?_⟩) (by assumption) ?_
            case refine_2 => (intro w9 hSw; clear hSw; go_simp; try with_reducible rfl)
            simp only [Act.put, List.setIfInBounds_toArray, List.set_cons_zero, List.set_cons_succ]
            refine wpAnyH_take (i := 5) (v := ?_) (oi := { dst := some 64, op := _, type := _, pos := _, after := _, guard := none }) rfl (by kernel_rfl) (by kernel_rfl) (by kernel_rfl) (fun _ _ _ h => h) (Or.inl ⟨by kernel_rfl, ?_⟩) (by assumption) ?_
            case refine_2 => (intro w9 hSw; clear hSw; go_simp; try with_reducible rfl)
            simp only [Act.put, List.setIfInBounds_toArray, List.set_cons_zero, List.set_cons_succ]
            refine wpAnyH_take (i := 6) (v := ?_) (oi := { dst := some 65, op := _, type := _, pos := _, after := _, guard := none }) rfl (by kernel_rfl) (by kernel_rfl) (by kernel_rfl) (fun _ _ _ h => h) (Or.inl ⟨by kernel_rfl, ?_⟩) (by assumption) ?_
            case refine_2 => (intro w9 hSw; clear hSw; go_simp; try with_reducible rfl)
            simp only [Act.put, List.setIfInBounds_toArray, List.set_cons_zero, List.set_cons_succ]
            refine wpAnyH_ready (rs := [8]) (by kernel_rfl) (by simp) (AllReadyH.cons (o := { dst := none, op := _, type := _, pos := _, after := _, guard := none }) rfl (fun K hK => ?_) AllReadyH.nil)
            refine (if_pos (by kernel_rfl)).mpr (wp_store_mid 45 _ _ rfl _ 0 #[.int .i64 v, .int .i64 sc] rfl rfl HN.out.1.there (by kernel_rfl) (by simp [Value.oneCell']) (hK.out _ _ (hHeld.off HN.out.2.1 HN.out.2.2 _) (fun hHeld => ?_)))
            have HN2 : Hid (BS w ((_, [.int .i64 v, .int .i64 sc]) :: [(W5.heap.size, [.int .i64 0, .int .i64 u]), (nb2, [.int .i64 0, .int .i64 dx]), (w.heap.size, [.int .i64 0, .int .i64 u])]) _ ∧ _) := ⟨⟨hHeld.1, fun x hx => by rcases List.mem_cons.1 hx with rfl | hx; exact ⟨HN.out.2.1, HN.out.1.setAll _ rfl⟩; exact hHeld.2 x hx⟩, HN.out.2.2⟩
            clear hK K HN
            refine wpAnyH_take (i := 9) (v := ?_) (oi := { dst := some 12, op := _, type := _, pos := _, after := _, guard := none }) rfl (by kernel_rfl) (by kernel_rfl) (by kernel_rfl) (fun _ _ _ h => h) (Or.inl ⟨by kernel_rfl, ?_⟩) (by assumption) ?_
            case refine_2 => (intro w9 hSw; clear hSw; go_simp; try with_reducible rfl)
            simp only [Act.put, List.setIfInBounds_toArray, List.set_cons_zero, List.set_cons_succ]
            refine wpAnyH_done (by kernel_rfl) ?_ _
            go_wp2_with fail
            go_meet
            case rel => exact ⟨_, rfl, rfl, HN2.out⟩
        ·
          go_simp
          have hH0 := hHeld
          refine hK.out _ _ (hHeld.alloc _) (fun hHeld => ?_)
          have HN : Hid (NB _ _ _ _ [.int .i64 0, .int .i64 0]) := hH0.nb hHeld
          clear hK K hH0
          refine wpAnyH_ready (rs := [0]) (by kernel_rfl) (by simp) (AllReadyH.cons (o := { dst := some 60, op := _, type := _, pos := _, after := _, guard := none }) rfl (fun K hK => ?_) AllReadyH.nil)
          go_simp
          refine (UT.out _).mono ?_
          rintro e v9 ⟨rfl, hb9⟩
          refine hK.out _ _ (hHeld.below hb9) (fun hHeld => ?_)
          try (have HN2 := HN.out.below hb9; clear HN; have HN : Hid (NB _ _ _ _ _) := HN2; clear HN2)
          clear hK K hb9
          refine wpAnyH_ready (rs := [3]) (by kernel_rfl) (by simp) (AllReadyH.cons (o := { dst := some 63, op := _, type := _, pos := _, after := _, guard := none }) rfl (fun K hK => ?_) AllReadyH.nil)
          go_simp
          refine (EX.out _ (hL.out _ hHeld.1)).mono ?_
          rintro e v10 ⟨rfl, hb10⟩
          refine hK.out _ _ (hHeld.below hb10) (fun hHeld => ?_)
          try (have HN2 := HN.out.below hb10; clear HN; have HN : Hid (NB _ _ _ _ _) := HN2; clear HN2)
          clear hK K hb10
          refine wpAnyH_take (i := 4) (v := ?_) (oi := { dst := some 59, op := _, type := _, pos := _, after := _, guard := none }) rfl (by kernel_rfl) (by kernel_rfl) (by kernel_rfl) (fun _ _ _ h => h) (Or.inl ⟨by kernel_rfl, ?_⟩) (by assumption) ?_
          case refine_2 => (intro w9 hSw; clear hSw; go_simp; try with_reducible rfl)
          simp only [Act.put, List.setIfInBounds_toArray, List.set_cons_zero, List.set_cons_succ]
          refine wpAnyH_take (i := 5) (v := ?_) (oi := { dst := some 64, op := _, type := _, pos := _, after := _, guard := none }) rfl (by kernel_rfl) (by kernel_rfl) (by kernel_rfl) (fun _ _ _ h => h) (Or.inl ⟨by kernel_rfl, ?_⟩) (by assumption) ?_
          case refine_2 => (intro w9 hSw; clear hSw; go_simp; try with_reducible rfl)
          simp only [Act.put, List.setIfInBounds_toArray, List.set_cons_zero, List.set_cons_succ]
          refine wpAnyH_take (i := 6) (v := ?_) (oi := { dst := some 65, op := _, type := _, pos := _, after := _, guard := none }) rfl (by kernel_rfl) (by kernel_rfl) (by kernel_rfl) (fun _ _ _ h => h) (Or.inl ⟨by kernel_rfl, ?_⟩) (by assumption) ?_
          case refine_2 => (intro w9 hSw; clear hSw; go_simp; try with_reducible rfl)
          simp only [Act.put, List.setIfInBounds_toArray, List.set_cons_zero, List.set_cons_succ]
          refine wpAnyH_ready (rs := [8]) (by kernel_rfl) (by simp) (AllReadyH.cons (o := { dst := none, op := _, type := _, pos := _, after := _, guard := none }) rfl (fun K hK => ?_) AllReadyH.nil)
          refine (if_pos (by kernel_rfl)).mpr (wp_store_mid 45 _ _ rfl _ 0 #[.int .i64 v, .int .i64 sc] rfl rfl HN.out.1.there (by kernel_rfl) (by simp [Value.oneCell']) (hK.out _ _ (hHeld.off HN.out.2.1 HN.out.2.2 _) (fun hHeld => ?_)))
          have HN2 : Hid (BS w ((_, [.int .i64 v, .int .i64 sc]) :: [(W5.heap.size, [.int .i64 0, .int .i64 u]), (nb2, [.int .i64 0, .int .i64 dx]), (w.heap.size, [.int .i64 0, .int .i64 u])]) _ ∧ _) := ⟨⟨hHeld.1, fun x hx => by rcases List.mem_cons.1 hx with rfl | hx; exact ⟨HN.out.2.1, HN.out.1.setAll _ rfl⟩; exact hHeld.2 x hx⟩, HN.out.2.2⟩
          clear hK K HN
          refine wpAnyH_take (i := 9) (v := ?_) (oi := { dst := some 12, op := _, type := _, pos := _, after := _, guard := none }) rfl (by kernel_rfl) (by kernel_rfl) (by kernel_rfl) (fun _ _ _ h => h) (Or.inl ⟨by kernel_rfl, ?_⟩) (by assumption) ?_
          case refine_2 => (intro w9 hSw; clear hSw; go_simp; try with_reducible rfl)
          simp only [Act.put, List.setIfInBounds_toArray, List.set_cons_zero, List.set_cons_succ]
          refine wpAnyH_done (by kernel_rfl) ?_ _
          go_wp2_with fail
          go_meet
          case rel => exact ⟨_, rfl, rfl, HN2.out⟩
      case rest =>
        clear c8_0_0 c8_0_1 c8_1_0 c8_1_1 c8_2_0 c8_2_1
        obtain ⟨nb8, rfl, rfl, KK⟩ := hcut
        clear K8
        have K9 : Hid (BS w [(nb8, [.int .i64 v, .int .i64 sc]), (W5.heap.size, [.int .i64 0, .int .i64 u]), (nb2, [.int .i64 0, .int .i64 dx]), (w.heap.size, [.int .i64 0, .int .i64 u])] wc) := KK.out.1
        have ne9_0 : W5.heap.size ≠ nb8 := KK.out.2 (W5.heap.size, [.int .i64 0, .int .i64 u]) (by simp)
        have ne9_1 : nb2 ≠ nb8 := KK.out.2 (nb2, [.int .i64 0, .int .i64 dx]) (by simp)
        have ne9_2 : w.heap.size ≠ nb8 := KK.out.2 (w.heap.size, [.int .i64 0, .int .i64 u]) (by simp)
        clear KK
        obtain ⟨c9_0_0, c9_0_1⟩ := (bo1 K9).c2
        obtain ⟨c9_1_0, c9_1_1⟩ := (bo2 K9).c2
        obtain ⟨c9_2_0, c9_2_1⟩ := (bo3 K9).c2
        obtain ⟨c9_3_0, c9_3_1⟩ := (bo4 K9).c2
        go_wp2_with fail
        refine (DR.out _).mono ?_
        rintro e W10 ⟨rfl, hb⟩
        have K10 := bsb K9 hb
        clear c9_0_0 c9_0_1 c9_1_0 c9_1_1 c9_2_0 c9_2_1 c9_3_0 c9_3_1
        clear hb K9
        obtain ⟨c10_0_0, c10_0_1⟩ := (bo1 K10).c2
        obtain ⟨c10_1_0, c10_1_1⟩ := (bo2 K10).c2
        obtain ⟨c10_2_0, c10_2_1⟩ := (bo3 K10).c2
        obtain ⟨c10_3_0, c10_3_1⟩ := (bo4 K10).c2
        go_wp2_with fail
        refine (KN.out _ (hL.out _ K10.out.1)).mono ?_
        rintro e W11 ⟨rfl, hb⟩
        have K11 := bsb K10 hb
        clear c10_0_0 c10_0_1 c10_1_0 c10_1_1 c10_2_0 c10_2_1 c10_3_0 c10_3_1
        clear hb K10
        obtain ⟨c11_0_0, c11_0_1⟩ := (bo1 K11).c2
        obtain ⟨c11_1_0, c11_1_1⟩ := (bo2 K11).c2
        obtain ⟨c11_2_0, c11_2_1⟩ := (bo3 K11).c2
        obtain ⟨c11_3_0, c11_3_1⟩ := (bo4 K11).c2
        go_wp2
        go_ret
        exact ⟨rfl, K11.out.1⟩

set_option maxRecDepth 100000 in
set_option maxHeartbeats 4000000 in
theorem mk_11 (u dx Y y m q n h mi us D v sc g : Int) (b1 : -1000000 ≤ Y) (b2 : Y ≤ 1000000) (h1 : 0 ≤ h) (h2 : h ≤ 24) (m1 : 0 ≤ mi) (m2 : mi ≤ 60) (u1 : 0 ≤ us) (u2 : us ≤ 60000000) (m3 : 1 ≤ m) (m4 : m ≤ 12) (hn : n = (m + 2) / 3) (sy : Y < 0) (hy : Y + 1 = y) (hh : h * 3600 * 1000000 + mi * 60 * 1000000 + us = D) (hg : g ≠ 0)
    (RR : Hid (∀ w : World, Calls Tryz.prog 13 #[.agg #[.int .i64 0, .int .i64 u]] w fun r' w' => r' = .returned (.bool true) ∧ Below w.heap.size w w'))
    (NY : Hid (∀ w : World, LO w → Calls Tryz.prog 14 #[.string ⟨#[121, 101, 97, 114]⟩, .agg #[.int .i64 0, .int .i64 u]] w fun r' w' => r' = .returned (.int .i64 Y) ∧ Below w.heap.size w w'))
    (NM : Hid (∀ w : World, LO w → Calls Tryz.prog 14 #[.string ⟨#[109, 111, 110, 116, 104]⟩, .agg #[.int .i64 0, .int .i64 u]] w fun r' w' => r' = .returned (.int .i64 m) ∧ Below w.heap.size w w'))
    (ND : Hid (∀ w : World, LO w → Calls Tryz.prog 14 #[.string ⟨#[100, 97, 121]⟩, .agg #[.int .i64 0, .int .i64 u]] w fun r' w' => r' = .returned (.int .i64 q) ∧ Below w.heap.size w w'))
    (MK : Hid (∀ w : World, Calls Tryz.prog 15 #[.int .i64 y, .int .i64 m, .int .i64 q] w fun r' w' => r' = .returned (.tuple #[.agg #[.int .i64 0, .int .i64 dx], .int .i64 0]) ∧ Below w.heap.size w w'))
    (NH : Hid (∀ w : World, LO w → Calls Tryz.prog 14 #[.string ⟨#[104, 111, 117, 114]⟩, .agg #[.int .i64 0, .int .i64 u]] w fun r' w' => r' = .returned (.int .i64 h) ∧ Below w.heap.size w w'))
    (NI : Hid (∀ w : World, LO w → Calls Tryz.prog 14 #[.string ⟨#[109, 105, 110, 117, 116, 101]⟩, .agg #[.int .i64 0, .int .i64 u]] w fun r' w' => r' = .returned (.int .i64 mi) ∧ Below w.heap.size w w'))
    (NU : Hid (∀ w : World, LO w → Calls Tryz.prog 14 #[.string ⟨#[109, 105, 99, 114, 111, 115, 101, 99, 111, 110, 100, 115]⟩, .agg #[.int .i64 0, .int .i64 u]] w fun r' w' => r' = .returned (.int .i64 us) ∧ Below w.heap.size w w'))
    (SM : Hid (∀ w : World, Calls Tryz.prog 16 #[.agg #[.int .i64 0, .int .i64 dx], .int .i64 D] w fun r' w' => r' = .returned (.tuple #[.agg #[.int .i64 0, .int .i64 u], .int .i64 0]) ∧ Below w.heap.size w w'))
    (NQ : Hid (∀ w : World, LO w → Calls Tryz.prog 14 #[.string ⟨#[113, 117, 97, 114, 116, 101, 114]⟩, .agg #[.int .i64 0, .int .i64 u]] w fun r' w' => r' = .returned (.int .i64 n) ∧ Below w.heap.size w w'))
    (EX : Hid (∀ w : World, LO w → Calls Tryz.prog 17 #[.agg utL.toArray, .string ⟨#[101, 112, 111, 99, 104]⟩, .agg (v_st 0 u).toArray] w fun r' w' => r' = .returned (.tuple #[.agg #[.int .i64 v, .int .i64 sc], .int .i64 g]) ∧ Below w.heap.size w w'))
    (DR : Hid (∀ w : World, Calls Tryz.prog 19 #[.agg #[.int .i64 v, .int .i64 sc]] w fun r' w' => r' = .returned (.bool true) ∧ Below w.heap.size w w'))
    (KN : Hid (∀ w : World, LO w → Calls Tryz.prog 9 #[] w fun r' w' => r' = .returned (.bool true) ∧ Below w.heap.size w w'))
    (w : World) (hL : Hid (∀ W : World, Below w.heap.size w W → LO W)) :
    Calls Tryz.prog 6 #[.agg #[.int .i64 0, .int .i64 u]] w fun r' w' => r' = .returned (.bool true) ∧ Below w.heap.size w w' := by
  have UT : Hid (∀ w : World, Calls Tryz.prog 18 #[] w fun e w' => e = .returned (.agg utL.toArray) ∧ Below w.heap.size w w') := utc_any
  have g1 : (g == 0) = false := by simpa using hg
  have t1 : IntKind.i64.wrap (h * 3600) = h * 3600 := by rw [IntKind.wrap_i64]; omega
  have t2 : IntKind.i64.wrap (h * 3600 * 1000000) = h * 3600 * 1000000 := by rw [IntKind.wrap_i64]; omega
  have t3 : IntKind.i64.wrap (mi * 60) = mi * 60 := by rw [IntKind.wrap_i64]; omega
  have t4 : IntKind.i64.wrap (mi * 60 * 1000000) = mi * 60 * 1000000 := by rw [IntKind.wrap_i64]; omega
  have t5 : IntKind.i64.wrap (h * 3600 * 1000000 + mi * 60 * 1000000) = h * 3600 * 1000000 + mi * 60 * 1000000 := by rw [IntKind.wrap_i64]; omega
  have t6 : IntKind.i64.wrap D = D := by rw [IntKind.wrap_i64]; omega
  have q1 : (n == (m + 2) / 3) = true := by simpa using hn
  have q2 : 0 ≤ m + 2 := by omega
  clear hn
  have K0 : Hid (BS w [(w.heap.size, [.int .i64 0, .int .i64 u])] (w.alloc (.cells #[.int .i64 0, .int .i64 u] 23))) := ((BS.start w).new [.int .i64 0, .int .i64 u] 23 rfl)
  go_enter Tryz.func6, Tryz.ntmps6
  go_wp2_with fail
  refine (RR.out _).mono ?_
  rintro e W1 ⟨rfl, hb⟩
  have K1 := bsb K0 hb
  clear hb K0
  obtain ⟨c1_0_0, c1_0_1⟩ := (bo1 K1).c2
  go_wp2_with fail
  refine (NY.out _ (hL.out _ K1.out.1)).mono ?_
  rintro e W2 ⟨rfl, hb⟩
  have K2 := bsb K1 hb
  clear c1_0_0 c1_0_1
  clear hb K1
  obtain ⟨c2_0_0, c2_0_1⟩ := (bo1 K2).c2
  go_upto_region 6 with fail
  go_cut [4, 5] (fun v0 v1 wx => ∃ nb, v0 = .pointer (some ⟨nb, 0, none⟩) ∧ v1 = .int .i64 0 ∧ Hid (BS w ((nb, [.int .i64 0, .int .i64 dx]) :: [(w.heap.size, [.int .i64 0, .int .i64 u])]) wx ∧ (∀ x ∈ ([(w.heap.size, [.int .i64 0, .int .i64 u])] : List (Nat × List Value)), x.1 ≠ nb)))
  case first =>
    refine wp_region_held_drew (S := BS w [(w.heap.size, [.int .i64 0, .int .i64 u])]) (by kernel_rfl) K2.out.drew (fun hHeld => ?_)
    refine wpAnyH_take (i := 0) (v := ?_) (oi := { dst := some 29, op := _, type := _, pos := _, after := _, guard := none }) rfl (by kernel_rfl) (by kernel_rfl) (by kernel_rfl) (fun _ _ _ h => h) (Or.inl ⟨by kernel_rfl, ?_⟩) (by assumption) ?_
    case refine_2 => (intro w9 hSw; clear hSw; go_simp; try with_reducible rfl)
    simp only [Act.put, List.setIfInBounds_toArray, List.set_cons_zero, List.set_cons_succ]
    refine wpAnyH_take (i := 1) (v := ?_) (oi := { dst := some 30, op := _, type := _, pos := _, after := _, guard := none }) rfl (by kernel_rfl) (by kernel_rfl) (by kernel_rfl) (fun _ _ _ h => h) (Or.inl ⟨by kernel_rfl, ?_⟩) (by assumption) ?_
    case refine_2 => (intro w9 hSw; have l0_0 := (hSw.at (w.heap.size) [.int .i64 0, .int .i64 u] (by simp)).c 0 rfl; have l0_1 := (hSw.at (w.heap.size) [.int .i64 0, .int .i64 u] (by simp)).c 1 rfl; clear hSw; go_simp; try with_reducible rfl)
    simp only [Act.put, List.setIfInBounds_toArray, List.set_cons_zero, List.set_cons_succ]
    refine wpAnyH_take (i := 3) (v := ?_) (oi := { dst := some 32, op := _, type := _, pos := _, after := _, guard := none }) rfl (by kernel_rfl) (by kernel_rfl) (by kernel_rfl) (fun _ _ _ h => h) (Or.inl ⟨by kernel_rfl, ?_⟩) (by assumption) ?_
    case refine_2 => (intro w9 hSw; have l0_0 := (hSw.at (w.heap.size) [.int .i64 0, .int .i64 u] (by simp)).c 0 rfl; have l0_1 := (hSw.at (w.heap.size) [.int .i64 0, .int .i64 u] (by simp)).c 1 rfl; clear hSw; go_simp; try with_reducible rfl)
    simp only [Act.put, List.setIfInBounds_toArray, List.set_cons_zero, List.set_cons_succ]
    refine wpAnyH_ready (rs := [2, 9]) (by kernel_rfl) (by simp) (AllReadyH.cons (o := { dst := some 31, op := _, type := _, pos := _, after := _, guard := none }) rfl (fun K hK => ?_) (AllReadyH.cons (o := { dst := some 4, op := _, type := _, pos := _, after := _, guard := none }) rfl (fun K hK => ?_) AllReadyH.nil))
    ·
      go_simp
      refine (NM.out _ (hL.out _ hHeld.1)).mono ?_
      rintro e v1 ⟨rfl, hb1⟩
      refine hK.out _ _ (hHeld.below hb1) (fun hHeld => ?_)
      try (have HN2 := HN.out.below hb1; clear HN; have HN : Hid (NB _ _ _ _ _) := HN2; clear HN2)
      clear hK K hb1
      refine wpAnyH_ready (rs := [4, 9]) (by kernel_rfl) (by simp) (AllReadyH.cons (o := { dst := some 33, op := _, type := _, pos := _, after := _, guard := none }) rfl (fun K hK => ?_) (AllReadyH.cons (o := { dst := some 4, op := _, type := _, pos := _, after := _, guard := none }) rfl (fun K hK => ?_) AllReadyH.nil))
      ·
        go_simp
        refine (ND.out _ (hL.out _ hHeld.1)).mono ?_
        rintro e v2 ⟨rfl, hb2⟩
        refine hK.out _ _ (hHeld.below hb2) (fun hHeld => ?_)
        try (have HN2 := HN.out.below hb2; clear HN; have HN : Hid (NB _ _ _ _ _) := HN2; clear HN2)
        clear hK K hb2
        refine wpAnyH_ready (rs := [5, 9]) (by kernel_rfl) (by simp) (AllReadyH.cons (o := { dst := some 34, op := _, type := _, pos := _, after := _, guard := none }) rfl (fun K hK => ?_) (AllReadyH.cons (o := { dst := some 4, op := _, type := _, pos := _, after := _, guard := none }) rfl (fun K hK => ?_) AllReadyH.nil))
        ·
          go_simp
          refine (MK.out _).mono ?_
          rintro e v3 ⟨rfl, hb3⟩
          refine hK.out _ _ (hHeld.below hb3) (fun hHeld => ?_)
          try (have HN2 := HN.out.below hb3; clear HN; have HN : Hid (NB _ _ _ _ _) := HN2; clear HN2)
          clear hK K hb3
          refine wpAnyH_take (i := 6) (v := ?_) (oi := { dst := some 28, op := _, type := _, pos := _, after := _, guard := none }) rfl (by kernel_rfl) (by kernel_rfl) (by kernel_rfl) (fun _ _ _ h => h) (Or.inl ⟨by kernel_rfl, ?_⟩) (by assumption) ?_
          case refine_2 => (intro w9 hSw; clear hSw; go_simp; try with_reducible rfl)
          simp only [Act.put, List.setIfInBounds_toArray, List.set_cons_zero, List.set_cons_succ]
          refine wpAnyH_take (i := 7) (v := ?_) (oi := { dst := some 35, op := _, type := _, pos := _, after := _, guard := none }) rfl (by kernel_rfl) (by kernel_rfl) (by kernel_rfl) (fun _ _ _ h => h) (Or.inl ⟨by kernel_rfl, ?_⟩) (by assumption) ?_
          case refine_2 => (intro w9 hSw; clear hSw; go_simp; try with_reducible rfl)
          simp only [Act.put, List.setIfInBounds_toArray, List.set_cons_zero, List.set_cons_succ]
          refine wpAnyH_take (i := 8) (v := ?_) (oi := { dst := some 36, op := _, type := _, pos := _, after := _, guard := none }) rfl (by kernel_rfl) (by kernel_rfl) (by kernel_rfl) (fun _ _ _ h => h) (Or.inl ⟨by kernel_rfl, ?_⟩) (by assumption) ?_
          case refine_2 => (intro w9 hSw; clear hSw; go_simp; try with_reducible rfl)
          simp only [Act.put, List.setIfInBounds_toArray, List.set_cons_zero, List.set_cons_succ]
          refine wpAnyH_ready (rs := [9]) (by kernel_rfl) (by simp) (AllReadyH.cons (o := { dst := some 4, op := _, type := _, pos := _, after := _, guard := none }) rfl (fun K hK => ?_) AllReadyH.nil)
          go_simp
          have hH0 := hHeld
          refine hK.out _ _ (hHeld.alloc _) (fun hHeld => ?_)
          have HN : Hid (NB _ _ _ _ [.int .i64 0, .int .i64 0]) := hH0.nb hHeld
          clear hK K hH0
          refine wpAnyH_ready (rs := [10]) (by kernel_rfl) (by simp) (AllReadyH.cons (o := { dst := none, op := _, type := _, pos := _, after := _, guard := none }) rfl (fun K hK => ?_) AllReadyH.nil)
          refine (if_pos (by kernel_rfl)).mpr (wp_store_mid 40 _ _ rfl _ 0 #[.int .i64 0, .int .i64 dx] rfl rfl HN.out.1.there (by kernel_rfl) (by simp [Value.oneCell']) (hK.out _ _ (hHeld.off HN.out.2.1 HN.out.2.2 _) (fun hHeld => ?_)))
          have HN2 : Hid (BS w ((_, [.int .i64 0, .int .i64 dx]) :: [(w.heap.size, [.int .i64 0, .int .i64 u])]) _ ∧ _) := ⟨⟨hHeld.1, fun x hx => by rcases List.mem_cons.1 hx with rfl | hx; exact ⟨HN.out.2.1, HN.out.1.setAll _ rfl⟩; exact hHeld.2 x hx⟩, HN.out.2.2⟩
          clear hK K HN
          refine wpAnyH_take (i := 11) (v := ?_) (oi := { dst := some 5, op := _, type := _, pos := _, after := _, guard := none }) rfl (by kernel_rfl) (by kernel_rfl) (by kernel_rfl) (fun _ _ _ h => h) (Or.inl ⟨by kernel_rfl, ?_⟩) (by assumption) ?_
          case refine_2 => (intro w9 hSw; clear hSw; go_simp; try with_reducible rfl)
          simp only [Act.put, List.setIfInBounds_toArray, List.set_cons_zero, List.set_cons_succ]
          refine wpAnyH_done (by kernel_rfl) ?_ _
          go_wp2_with fail
          go_meet
          case rel => exact ⟨_, rfl, rfl, HN2.out⟩
        ·
          go_simp
          have hH0 := hHeld
          refine hK.out _ _ (hHeld.alloc _) (fun hHeld => ?_)
          have HN : Hid (NB _ _ _ _ [.int .i64 0, .int .i64 0]) := hH0.nb hHeld
          clear hK K hH0
          refine wpAnyH_ready (rs := [5]) (by kernel_rfl) (by simp) (AllReadyH.cons (o := { dst := some 34, op := _, type := _, pos := _, after := _, guard := none }) rfl (fun K hK => ?_) AllReadyH.nil)
          go_simp
          refine (MK.out _).mono ?_
          rintro e v7 ⟨rfl, hb7⟩
          refine hK.out _ _ (hHeld.below hb7) (fun hHeld => ?_)
          try (have HN2 := HN.out.below hb7; clear HN; have HN : Hid (NB _ _ _ _ _) := HN2; clear HN2)
          clear hK K hb7
          refine wpAnyH_take (i := 6) (v := ?_) (oi := { dst := some 28, op := _, type := _, pos := _, after := _, guard := none }) rfl (by kernel_rfl) (by kernel_rfl) (by kernel_rfl) (fun _ _ _ h => h) (Or.inl ⟨by kernel_rfl, ?_⟩) (by assumption) ?_
          case refine_2 => (intro w9 hSw; clear hSw; go_simp; try with_reducible rfl)
          simp only [Act.put, List.setIfInBounds_toArray, List.set_cons_zero, List.set_cons_succ]
          refine wpAnyH_take (i := 7) (v := ?_) (oi := { dst := some 35, op := _, type := _, pos := _, after := _, guard := none }) rfl (by kernel_rfl) (by kernel_rfl) (by kernel_rfl) (fun _ _ _ h => h) (Or.inl ⟨by kernel_rfl, ?_⟩) (by assumption) ?_
          case refine_2 => (intro w9 hSw; clear hSw; go_simp; try with_reducible rfl)
          simp only [Act.put, List.setIfInBounds_toArray, List.set_cons_zero, List.set_cons_succ]
          refine wpAnyH_take (i := 8) (v := ?_) (oi := { dst := some 36, op := _, type := _, pos := _, after := _, guard := none }) rfl (by kernel_rfl) (by kernel_rfl) (by kernel_rfl) (fun _ _ _ h => h) (Or.inl ⟨by kernel_rfl, ?_⟩) (by assumption) ?_
          case refine_2 => (intro w9 hSw; clear hSw; go_simp; try with_reducible rfl)
          simp only [Act.put, List.setIfInBounds_toArray, List.set_cons_zero, List.set_cons_succ]
          refine wpAnyH_ready (rs := [10]) (by kernel_rfl) (by simp) (AllReadyH.cons (o := { dst := none, op := _, type := _, pos := _, after := _, guard := none }) rfl (fun K hK => ?_) AllReadyH.nil)
          refine (if_pos (by kernel_rfl)).mpr (wp_store_mid 40 _ _ rfl _ 0 #[.int .i64 0, .int .i64 dx] rfl rfl HN.out.1.there (by kernel_rfl) (by simp [Value.oneCell']) (hK.out _ _ (hHeld.off HN.out.2.1 HN.out.2.2 _) (fun hHeld => ?_)))
          have HN2 : Hid (BS w ((_, [.int .i64 0, .int .i64 dx]) :: [(w.heap.size, [.int .i64 0, .int .i64 u])]) _ ∧ _) := ⟨⟨hHeld.1, fun x hx => by rcases List.mem_cons.1 hx with rfl | hx; exact ⟨HN.out.2.1, HN.out.1.setAll _ rfl⟩; exact hHeld.2 x hx⟩, HN.out.2.2⟩
          clear hK K HN
          refine wpAnyH_take (i := 11) (v := ?_) (oi := { dst := some 5, op := _, type := _, pos := _, after := _, guard := none }) rfl (by kernel_rfl) (by kernel_rfl) (by kernel_rfl) (fun _ _ _ h => h) (Or.inl ⟨by kernel_rfl, ?_⟩) (by assumption) ?_
          case refine_2 => (intro w9 hSw; clear hSw; go_simp; try with_reducible rfl)
          simp only [Act.put, List.setIfInBounds_toArray, List.set_cons_zero, List.set_cons_succ]
          refine wpAnyH_done (by kernel_rfl) ?_ _
          go_wp2_with fail
          go_meet
          case rel => exact ⟨_, rfl, rfl, HN2.out⟩
      ·
        go_simp
        have hH0 := hHeld
        refine hK.out _ _ (hHeld.alloc _) (fun hHeld => ?_)
        have HN : Hid (NB _ _ _ _ [.int .i64 0, .int .i64 0]) := hH0.nb hHeld
        clear hK K hH0
        refine wpAnyH_ready (rs := [4]) (by kernel_rfl) (by simp) (AllReadyH.cons (o := { dst := some 33, op := _, type := _, pos := _, after := _, guard := none }) rfl (fun K hK => ?_) AllReadyH.nil)
        go_simp
        refine (ND.out _ (hL.out _ hHeld.1)).mono ?_
        rintro e v10 ⟨rfl, hb10⟩
        refine hK.out _ _ (hHeld.below hb10) (fun hHeld => ?_)
        try (have HN2 := HN.out.below hb10; clear HN; have HN : Hid (NB _ _ _ _ _) := HN2; clear HN2)
        clear hK K hb10
        refine wpAnyH_ready (rs := [5]) (by kernel_rfl) (by simp) (AllReadyH.cons (o := { dst := some 34, op := _, type := _, pos := _, after := _, guard := none }) rfl (fun K hK => ?_) AllReadyH.nil)
        go_simp
        refine (MK.out _).mono ?_
        rintro e v11 ⟨rfl, hb11⟩
        refine hK.out _ _ (hHeld.below hb11) (fun hHeld => ?_)
        try (have HN2 := HN.out.below hb11; clear HN; have HN : Hid (NB _ _ _ _ _) := HN2; clear HN2)
        clear hK K hb11
        refine wpAnyH_take (i := 6) (v := ?_) (oi := { dst := some 28, op := _, type := _, pos := _, after := _, guard := none }) rfl (by kernel_rfl) (by kernel_rfl) (by kernel_rfl) (fun _ _ _ h => h) (Or.inl ⟨by kernel_rfl, ?_⟩) (by assumption) ?_
        case refine_2 => (intro w9 hSw; clear hSw; go_simp; try with_reducible rfl)
        simp only [Act.put, List.setIfInBounds_toArray, List.set_cons_zero, List.set_cons_succ]
        refine wpAnyH_take (i := 7) (v := ?_) (oi := { dst := some 35, op := _, type := _, pos := _, after := _, guard := none }) rfl (by kernel_rfl) (by kernel_rfl) (by kernel_rfl) (fun _ _ _ h => h) (Or.inl ⟨by kernel_rfl, ?_⟩) (by assumption) ?_
        case refine_2 => (intro w9 hSw; clear hSw; go_simp; try with_reducible rfl)
        simp only [Act.put, List.setIfInBounds_toArray, List.set_cons_zero, List.set_cons_succ]
        refine wpAnyH_take (i := 8) (v := ?_) (oi := { dst := some 36, op := _, type := _, pos := _, after := _, guard := none }) rfl (by kernel_rfl) (by kernel_rfl) (by kernel_rfl) (fun _ _ _ h => h) (Or.inl ⟨by kernel_rfl, ?_⟩) (by assumption) ?_
        case refine_2 => (intro w9 hSw; clear hSw; go_simp; try with_reducible rfl)
        simp only [Act.put, List.setIfInBounds_toArray, List.set_cons_zero, List.set_cons_succ]
        refine wpAnyH_ready (rs := [10]) (by kernel_rfl) (by simp) (AllReadyH.cons (o := { dst := none, op := _, type := _, pos := _, after := _, guard := none }) rfl (fun K hK => ?_) AllReadyH.nil)
        refine (if_pos (by kernel_rfl)).mpr (wp_store_mid 40 _ _ rfl _ 0 #[.int .i64 0, .int .i64 dx] rfl rfl HN.out.1.there (by kernel_rfl) (by simp [Value.oneCell']) (hK.out _ _ (hHeld.off HN.out.2.1 HN.out.2.2 _) (fun hHeld => ?_)))
        have HN2 : Hid (BS w ((_, [.int .i64 0, .int .i64 dx]) :: [(w.heap.size, [.int .i64 0, .int .i64 u])]) _ ∧ _) := ⟨⟨hHeld.1, fun x hx => by rcases List.mem_cons.1 hx with rfl | hx; exact ⟨HN.out.2.1, HN.out.1.setAll _ rfl⟩; exact hHeld.2 x hx⟩, HN.out.2.2⟩
        clear hK K HN
        refine wpAnyH_take (i := 11) (v := ?_) (oi := { dst := some 5, op := _, type := _, pos := _, after := _, guard := none }) rfl (by kernel_rfl) (by kernel_rfl) (by kernel_rfl) (fun _ _ _ h => h) (Or.inl ⟨by kernel_rfl, ?_⟩) (by assumption) ?_
        case refine_2 => (intro w9 hSw; clear hSw; go_simp; try with_reducible rfl)
        simp only [Act.put, List.setIfInBounds_toArray, List.set_cons_zero, List.set_cons_succ]
        refine wpAnyH_done (by kernel_rfl) ?_ _
        go_wp2_with fail
        go_meet
        case rel => exact ⟨_, rfl, rfl, HN2.out⟩
    ·
      go_simp
      have hH0 := hHeld
      refine hK.out _ _ (hHeld.alloc _) (fun hHeld => ?_)
      have HN : Hid (NB _ _ _ _ [.int .i64 0, .int .i64 0]) := hH0.nb hHeld
      clear hK K hH0
      refine wpAnyH_ready (rs := [2]) (by kernel_rfl) (by simp) (AllReadyH.cons (o := { dst := some 31, op := _, type := _, pos := _, after := _, guard := none }) rfl (fun K hK => ?_) AllReadyH.nil)
      go_simp
      refine (NM.out _ (hL.out _ hHeld.1)).mono ?_
      rintro e v14 ⟨rfl, hb14⟩
      refine hK.out _ _ (hHeld.below hb14) (fun hHeld => ?_)
      try (have HN2 := HN.out.below hb14; clear HN; have HN : Hid (NB _ _ _ _ _) := HN2; clear HN2)
      clear hK K hb14
      refine wpAnyH_ready (rs := [4]) (by kernel_rfl) (by simp) (AllReadyH.cons (o := { dst := some 33, op := _, type := _, pos := _, after := _, guard := none }) rfl (fun K hK => ?_) AllReadyH.nil)
      go_simp
      refine (ND.out _ (hL.out _ hHeld.1)).mono ?_
      rintro e v15 ⟨rfl, hb15⟩
      refine hK.out _ _ (hHeld.below hb15) (fun hHeld => ?_)
      try (have HN2 := HN.out.below hb15; clear HN; have HN : Hid (NB _ _ _ _ _) := HN2; clear HN2)
      clear hK K hb15
      refine wpAnyH_ready (rs := [5]) (by kernel_rfl) (by simp) (AllReadyH.cons (o := { dst := some 34, op := _, type := _, pos := _, after := _, guard := none }) rfl (fun K hK => ?_) AllReadyH.nil)
      go_simp
      refine (MK.out _).mono ?_
      rintro e v16 ⟨rfl, hb16⟩
      refine hK.out _ _ (hHeld.below hb16) (fun hHeld => ?_)
      try (have HN2 := HN.out.below hb16; clear HN; have HN : Hid (NB _ _ _ _ _) := HN2; clear HN2)
      clear hK K hb16
      refine wpAnyH_take (i := 6) (v := ?_) (oi := { dst := some 28, op := _, type := _, pos := _, after := _, guard := none }) rfl (by kernel_rfl) (by kernel_rfl) (by kernel_rfl) (fun _ _ _ h => h) (Or.inl ⟨by kernel_rfl, ?_⟩) (by assumption) ?_
      case refine_2 => (intro w9 hSw; clear hSw; go_simp; try with_reducible rfl)
      simp only [Act.put, List.setIfInBounds_toArray, List.set_cons_zero, List.set_cons_succ]
      refine wpAnyH_take (i := 7) (v := ?_) (oi := { dst := some 35, op := _, type := _, pos := _, after := _, guard := none }) rfl (by kernel_rfl) (by kernel_rfl) (by kernel_rfl) (fun _ _ _ h => h) (Or.inl ⟨by kernel_rfl, ?_⟩) (by assumption) ?_
      case refine_2 => (intro w9 hSw; clear hSw; go_simp; try with_reducible rfl)
      simp only [Act.put, List.setIfInBounds_toArray, List.set_cons_zero, List.set_cons_succ]
      refine wpAnyH_take (i := 8) (v := ?_) (oi := { dst := some 36, op := _, type := _, pos := _, after := _, guard := none }) rfl (by kernel_rfl) (by kernel_rfl) (by kernel_rfl) (fun _ _ _ h => h) (Or.inl ⟨by kernel_rfl, ?_⟩) (by assumption) ?_
      case refine_2 => (intro w9 hSw; clear hSw; go_simp; try with_reducible rfl)
      simp only [Act.put, List.setIfInBounds_toArray, List.set_cons_zero, List.set_cons_succ]
      refine wpAnyH_ready (rs := [10]) (by kernel_rfl) (by simp) (AllReadyH.cons (o := { dst := none, op := _, type := _, pos := _, after := _, guard := none }) rfl (fun K hK => ?_) AllReadyH.nil)
      refine (if_pos (by kernel_rfl)).mpr (wp_store_mid 40 _ _ rfl _ 0 #[.int .i64 0, .int .i64 dx] rfl rfl HN.out.1.there (by kernel_rfl) (by simp [Value.oneCell']) (hK.out _ _ (hHeld.off HN.out.2.1 HN.out.2.2 _) (fun hHeld => ?_)))
      have HN2 : Hid (BS w ((_, [.int .i64 0, .int .i64 dx]) :: [(w.heap.size, [.int .i64 0, .int .i64 u])]) _ ∧ _) := ⟨⟨hHeld.1, fun x hx => by rcases List.mem_cons.1 hx with rfl | hx; exact ⟨HN.out.2.1, HN.out.1.setAll _ rfl⟩; exact hHeld.2 x hx⟩, HN.out.2.2⟩
      clear hK K HN
      refine wpAnyH_take (i := 11) (v := ?_) (oi := { dst := some 5, op := _, type := _, pos := _, after := _, guard := none }) rfl (by kernel_rfl) (by kernel_rfl) (by kernel_rfl) (fun _ _ _ h => h) (Or.inl ⟨by kernel_rfl, ?_⟩) (by assumption) ?_
      case refine_2 => (intro w9 hSw; clear hSw; go_simp; try with_reducible rfl)
      simp only [Act.put, List.setIfInBounds_toArray, List.set_cons_zero, List.set_cons_succ]
      refine wpAnyH_done (by kernel_rfl) ?_ _
      go_wp2_with fail
      go_meet
      case rel => exact ⟨_, rfl, rfl, HN2.out⟩
  case rest =>
    clear c2_0_0 c2_0_1
    obtain ⟨nb2, rfl, rfl, KK⟩ := hcut
    clear K2
    have K3 : Hid (BS w [(nb2, [.int .i64 0, .int .i64 dx]), (w.heap.size, [.int .i64 0, .int .i64 u])] wc) := KK.out.1
    have ne3_0 : w.heap.size ≠ nb2 := KK.out.2 (w.heap.size, [.int .i64 0, .int .i64 u]) (by simp)
    clear KK
    obtain ⟨c3_0_0, c3_0_1⟩ := (bo1 K3).c2
    obtain ⟨c3_1_0, c3_1_1⟩ := (bo2 K3).c2
    go_upto_region 7 with fail
    go_cut [6] (fun v0 wx => v0 = .int .i64 D ∧ Hid (BS w [(nb2, [.int .i64 0, .int .i64 dx]), (w.heap.size, [.int .i64 0, .int .i64 u])] wx))
    case first =>
      refine wp_region_held_drew (S := BS w [(nb2, [.int .i64 0, .int .i64 dx]), (w.heap.size, [.int .i64 0, .int .i64 u])]) (by kernel_rfl) K3.out.drew (fun hHeld => ?_)
      refine wpAnyH_take (i := 0) (v := ?_) (oi := { dst := some 37, op := _, type := _, pos := _, after := _, guard := none }) rfl (by kernel_rfl) (by kernel_rfl) (by kernel_rfl) (fun _ _ _ h => h) (Or.inl ⟨by kernel_rfl, ?_⟩) (by assumption) ?_
      case refine_2 => (intro w9 hSw; have l0_0 := (hSw.at (nb2) [.int .i64 0, .int .i64 dx] (by simp)).c 0 rfl; have l0_1 := (hSw.at (nb2) [.int .i64 0, .int .i64 dx] (by simp)).c 1 rfl; have l1_0 := (hSw.at (w.heap.size) [.int .i64 0, .int .i64 u] (by simp)).c 0 rfl; have l1_1 := (hSw.at (w.heap.size) [.int .i64 0, .int .i64 u] (by simp)).c 1 rfl; clear hSw; go_simp; try with_reducible rfl)
      simp only [Act.put, List.setIfInBounds_toArray, List.set_cons_zero, List.set_cons_succ]
      refine wpAnyH_take (i := 4) (v := ?_) (oi := { dst := some 41, op := _, type := _, pos := _, after := _, guard := none }) rfl (by kernel_rfl) (by kernel_rfl) (by kernel_rfl) (fun _ _ _ h => h) (Or.inl ⟨by kernel_rfl, ?_⟩) (by assumption) ?_
      case refine_2 => (intro w9 hSw; have l0_0 := (hSw.at (nb2) [.int .i64 0, .int .i64 dx] (by simp)).c 0 rfl; have l0_1 := (hSw.at (nb2) [.int .i64 0, .int .i64 dx] (by simp)).c 1 rfl; have l1_0 := (hSw.at (w.heap.size) [.int .i64 0, .int .i64 u] (by simp)).c 0 rfl; have l1_1 := (hSw.at (w.heap.size) [.int .i64 0, .int .i64 u] (by simp)).c 1 rfl; clear hSw; go_simp; try with_reducible rfl)
      simp only [Act.put, List.setIfInBounds_toArray, List.set_cons_zero, List.set_cons_succ]
      refine wpAnyH_take (i := 9) (v := ?_) (oi := { dst := some 46, op := _, type := _, pos := _, after := _, guard := none }) rfl (by kernel_rfl) (by kernel_rfl) (by kernel_rfl) (fun _ _ _ h => h) (Or.inl ⟨by kernel_rfl, ?_⟩) (by assumption) ?_
      case refine_2 => (intro w9 hSw; have l0_0 := (hSw.at (nb2) [.int .i64 0, .int .i64 dx] (by simp)).c 0 rfl; have l0_1 := (hSw.at (nb2) [.int .i64 0, .int .i64 dx] (by simp)).c 1 rfl; have l1_0 := (hSw.at (w.heap.size) [.int .i64 0, .int .i64 u] (by simp)).c 0 rfl; have l1_1 := (hSw.at (w.heap.size) [.int .i64 0, .int .i64 u] (by simp)).c 1 rfl; clear hSw; go_simp; try with_reducible rfl)
      simp only [Act.put, List.setIfInBounds_toArray, List.set_cons_zero, List.set_cons_succ]
      refine wpAnyH_ready (rs := [1]) (by kernel_rfl) (by simp) (AllReadyH.cons (o := { dst := some 38, op := _, type := _, pos := _, after := _, guard := none }) rfl (fun K hK => ?_) AllReadyH.nil)
      go_simp
      refine (NH.out _ (hL.out _ hHeld.1)).mono ?_
      rintro e v1 ⟨rfl, hb1⟩
      refine hK.out _ _ (hHeld.below hb1) (fun hHeld => ?_)
      clear hK K hb1
      refine wpAnyH_take (i := 2) (v := ?_) (oi := { dst := some 39, op := _, type := _, pos := _, after := _, guard := none }) rfl (by kernel_rfl) (by kernel_rfl) (by kernel_rfl) (fun _ _ _ h => h) (Or.inl ⟨by kernel_rfl, ?_⟩) (by assumption) ?_
      case refine_2 => (intro w9 hSw; clear hSw; go_simp; try with_reducible rfl)
      simp only [Act.put, List.setIfInBounds_toArray, List.set_cons_zero, List.set_cons_succ]
      refine wpAnyH_take (i := 3) (v := ?_) (oi := { dst := some 40, op := _, type := _, pos := _, after := _, guard := none }) rfl (by kernel_rfl) (by kernel_rfl) (by kernel_rfl) (fun _ _ _ h => h) (Or.inl ⟨by kernel_rfl, ?_⟩) (by assumption) ?_
      case refine_2 => (intro w9 hSw; clear hSw; go_simp; try with_reducible rfl)
      simp only [Act.put, List.setIfInBounds_toArray, List.set_cons_zero, List.set_cons_succ]
      refine wpAnyH_ready (rs := [5]) (by kernel_rfl) (by simp) (AllReadyH.cons (o := { dst := some 42, op := _, type := _, pos := _, after := _, guard := none }) rfl (fun K hK => ?_) AllReadyH.nil)
      go_simp
      refine (NI.out _ (hL.out _ hHeld.1)).mono ?_
      rintro e v2 ⟨rfl, hb2⟩
      refine hK.out _ _ (hHeld.below hb2) (fun hHeld => ?_)
      clear hK K hb2
      refine wpAnyH_take (i := 6) (v := ?_) (oi := { dst := some 43, op := _, type := _, pos := _, after := _, guard := none }) rfl (by kernel_rfl) (by kernel_rfl) (by kernel_rfl) (fun _ _ _ h => h) (Or.inl ⟨by kernel_rfl, ?_⟩) (by assumption) ?_
      case refine_2 => (intro w9 hSw; clear hSw; go_simp; try with_reducible rfl)
      simp only [Act.put, List.setIfInBounds_toArray, List.set_cons_zero, List.set_cons_succ]
      refine wpAnyH_take (i := 7) (v := ?_) (oi := { dst := some 44, op := _, type := _, pos := _, after := _, guard := none }) rfl (by kernel_rfl) (by kernel_rfl) (by kernel_rfl) (fun _ _ _ h => h) (Or.inl ⟨by kernel_rfl, ?_⟩) (by assumption) ?_
      case refine_2 => (intro w9 hSw; clear hSw; go_simp; try with_reducible rfl)
      simp only [Act.put, List.setIfInBounds_toArray, List.set_cons_zero, List.set_cons_succ]
      refine wpAnyH_take (i := 8) (v := ?_) (oi := { dst := some 45, op := _, type := _, pos := _, after := _, guard := none }) rfl (by kernel_rfl) (by kernel_rfl) (by kernel_rfl) (fun _ _ _ h => h) (Or.inl ⟨by kernel_rfl, ?_⟩) (by assumption) ?_
      case refine_2 => (intro w9 hSw; clear hSw; go_simp; try with_reducible rfl)
      simp only [Act.put, List.setIfInBounds_toArray, List.set_cons_zero, List.set_cons_succ]
      refine wpAnyH_ready (rs := [10]) (by kernel_rfl) (by simp) (AllReadyH.cons (o := { dst := some 47, op := _, type := _, pos := _, after := _, guard := none }) rfl (fun K hK => ?_) AllReadyH.nil)
      go_simp
      refine (NU.out _ (hL.out _ hHeld.1)).mono ?_
      rintro e v3 ⟨rfl, hb3⟩
      refine hK.out _ _ (hHeld.below hb3) (fun hHeld => ?_)
      clear hK K hb3
      refine wpAnyH_take (i := 11) (v := ?_) (oi := { dst := some 48, op := _, type := _, pos := _, after := _, guard := none }) rfl (by kernel_rfl) (by kernel_rfl) (by kernel_rfl) (fun _ _ _ h => h) (Or.inl ⟨by kernel_rfl, ?_⟩) (by assumption) ?_
      case refine_2 => (intro w9 hSw; clear hSw; go_simp; try with_reducible rfl)
      simp only [Act.put, List.setIfInBounds_toArray, List.set_cons_zero, List.set_cons_succ]
      refine wpAnyH_take (i := 12) (v := ?_) (oi := { dst := some 6, op := _, type := _, pos := _, after := _, guard := none }) rfl (by kernel_rfl) (by kernel_rfl) (by kernel_rfl) (fun _ _ _ h => h) (Or.inl ⟨by kernel_rfl, ?_⟩) (by assumption) ?_
      case refine_2 => (intro w9 hSw; clear hSw; go_simp; try with_reducible rfl)
      simp only [Act.put, List.setIfInBounds_toArray, List.set_cons_zero, List.set_cons_succ]
      refine wpAnyH_done (by kernel_rfl) ?_ _
      go_wp2_with fail
      go_meet
      case rel => exact ⟨rfl, hHeld⟩
    case rest =>
      clear c3_0_0 c3_0_1 c3_1_0 c3_1_1
      obtain ⟨rfl, K4⟩ := hcut
      clear K3
      skip
      obtain ⟨c4_0_0, c4_0_1⟩ := (bo1 K4).c2
      obtain ⟨c4_1_0, c4_1_1⟩ := (bo2 K4).c2
      go_wp2_with fail
      refine (SM.out _).mono ?_
      rintro e W5 ⟨rfl, hb⟩
      have K5 := bsb K4 hb
      clear c4_0_0 c4_0_1 c4_1_0 c4_1_1
      clear hb K4
      obtain ⟨c5_0_0, c5_0_1⟩ := (bo1 K5).c2
      obtain ⟨c5_1_0, c5_1_1⟩ := (bo2 K5).c2
      have Mz5 := bsn K5 [.int .i64 0, .int .i64 u] 23
      have lt5_0 := (bo1 K5).1
      have lt5_1 := (bo2 K5).1
      go_upto_region 9 with fail
      refine bs_to Mz5 ?_
      clear c5_0_0 c5_0_1 c5_1_0 c5_1_1
      intro W6 K6
      clear Mz5 K5
      obtain ⟨c6_0_0, c6_0_1⟩ := (bo1 K6).c2
      obtain ⟨c6_1_0, c6_1_1⟩ := (bo2 K6).c2
      obtain ⟨c6_2_0, c6_2_1⟩ := (bo3 K6).c2
      go_wp2_with fail
      refine (NQ.out _ (hL.out _ K6.out.1)).mono ?_
      rintro e W7 ⟨rfl, hb⟩
      have K7 := bsb K6 hb
      clear c6_0_0 c6_0_1 c6_1_0 c6_1_1 c6_2_0 c6_2_1
      clear hb K6
      obtain ⟨c7_0_0, c7_0_1⟩ := (bo1 K7).c2
      obtain ⟨c7_1_0, c7_1_1⟩ := (bo2 K7).c2
      obtain ⟨c7_2_0, c7_2_1⟩ := (bo3 K7).c2
      go_wp2_with fail
      refine (NM.out _ (hL.out _ K7.out.1)).mono ?_
      rintro e W8 ⟨rfl, hb⟩
      have K8 := bsb K7 hb
      clear c7_0_0 c7_0_1 c7_1_0 c7_1_1 c7_2_0 c7_2_1
      clear hb K7
      obtain ⟨c8_0_0, c8_0_1⟩ := (bo1 K8).c2
      obtain ⟨c8_1_0, c8_1_1⟩ := (bo2 K8).c2
      obtain ⟨c8_2_0, c8_2_1⟩ := (bo3 K8).c2
      go_upto_region 11 with fail
      go_cut [11, 12] (fun v0 v1 wx => ∃ nb, v0 = .pointer (some ⟨nb, 0, none⟩) ∧ v1 = .int .i64 g ∧ Hid (BS w ((nb, [.int .i64 v, .int .i64 sc]) :: [(W5.heap.size, [.int .i64 0, .int .i64 u]), (nb2, [.int .i64 0, .int .i64 dx]), (w.heap.size, [.int .i64 0, .int .i64 u])]) wx ∧ (∀ x ∈ ([(W5.heap.size, [.int .i64 0, .int .i64 u]), (nb2, [.int .i64 0, .int .i64 dx]), (w.heap.size, [.int .i64 0, .int .i64 u])] : List (Nat × List Value)), x.1 ≠ nb)))
      case first =>
        refine wp_region_held_drew (S := BS w [(W5.heap.size, [.int .i64 0, .int .i64 u]), (nb2, [.int .i64 0, .int .i64 dx]), (w.heap.size, [.int .i64 0, .int .i64 u])]) (by kernel_rfl) K8.out.drew (fun hHeld => ?_)
        refine wpAnyH_take (i := 1) (v := ?_) (oi := { dst := some 61, op := _, type := _, pos := _, after := _, guard := none }) rfl (by kernel_rfl) (by kernel_rfl) (by kernel_rfl) (fun _ _ _ h => h) (Or.inl ⟨by kernel_rfl, ?_⟩) (by assumption) ?_
        case refine_2 => (intro w9 hSw; have l0_0 := (hSw.at (W5.heap.size) [.int .i64 0, .int .i64 u] (by simp)).c 0 rfl; have l0_1 := (hSw.at (W5.heap.size) [.int .i64 0, .int .i64 u] (by simp)).c 1 rfl; have l1_0 := (hSw.at (nb2) [.int .i64 0, .int .i64 dx] (by simp)).c 0 rfl; have l1_1 := (hSw.at (nb2) [.int .i64 0, .int .i64 dx] (by simp)).c 1 rfl; have l2_0 := (hSw.at (w.heap.size) [.int .i64 0, .int .i64 u] (by simp)).c 0 rfl; have l2_1 := (hSw.at (w.heap.size) [.int .i64 0, .int .i64 u] (by simp)).c 1 rfl; clear hSw; go_simp; try with_reducible rfl)
        simp only [Act.put, List.setIfInBounds_toArray, List.set_cons_zero, List.set_cons_succ]
        refine wpAnyH_take (i := 2) (v := ?_) (oi := { dst := some 62, op := _, type := _, pos := _, after := _, guard := none }) rfl (by kernel_rfl) (by kernel_rfl) (by kernel_rfl) (fun _ _ _ h => h) (Or.inl ⟨by kernel_rfl, ?_⟩) (by assumption) ?_
        case refine_2 => (intro w9 hSw; clear hSw; go_simp; try with_reducible rfl)
        simp only [Act.put, List.setIfInBounds_toArray, List.set_cons_zero, List.set_cons_succ]
        refine wpAnyH_ready (rs := [0, 7]) (by kernel_rfl) (by simp) (AllReadyH.cons (o := { dst := some 60, op := _, type := _, pos := _, after := _, guard := none }) rfl (fun K hK => ?_) (AllReadyH.cons (o := { dst := some 11, op := _, type := _, pos := _, after := _, guard := none }) rfl (fun K hK => ?_) AllReadyH.nil))
        ·
          go_simp
          refine (UT.out _).mono ?_
          rintro e v1 ⟨rfl, hb1⟩
          refine hK.out _ _ (hHeld.below hb1) (fun hHeld => ?_)
          try (have HN2 := HN.out.below hb1; clear HN; have HN : Hid (NB _ _ _ _ _) := HN2; clear HN2)
          clear hK K hb1
          refine wpAnyH_ready (rs := [3, 7]) (by kernel_rfl) (by simp) (AllReadyH.cons (o := { dst := some 63, op := _, type := _, pos := _, after := _, guard := none }) rfl (fun K hK => ?_) (AllReadyH.cons (o := { dst := some 11, op := _, type := _, pos := _, after := _, guard := none }) rfl (fun K hK => ?_) AllReadyH.nil))
          ·
            go_simp
            refine (EX.out _ (hL.out _ hHeld.1)).mono ?_
            rintro e v2 ⟨rfl, hb2⟩
            refine hK.out _ _ (hHeld.below hb2) (fun hHeld => ?_)
            try (have HN2 := HN.out.below hb2; clear HN; have HN : Hid (NB _ _ _ _ _) := HN2; clear HN2)
            clear hK K hb2
            refine wpAnyH_take (i := 4) (v := ?_) (oi := { dst := some 59, op := _, type := _, pos := _, after := _, guard := none }) rfl (by kernel_rfl) (by kernel_rfl) (by kernel_rfl) (fun _ _ _ h => h) (Or.inl ⟨by kernel_rfl, ?_⟩) (by assumption) ?_
            case refine_2 => (intro w9 hSw; clear hSw; go_simp; try with_reducible rfl)
            simp only [Act.put, List.setIfInBounds_toArray, List.set_cons_zero, List.set_cons_succ]
            refine wpAnyH_take (i := 5) (v := ?_) (oi := { dst := some 64, op := _, type := _, pos := _, after := _, guard := none }) rfl (by kernel_rfl) (by kernel_rfl) (by kernel_rfl) (fun _ _ _ h => h) (Or.inl ⟨by kernel_rfl, ?_⟩) (by assumption) ?_
            case refine_2 => (intro w9 hSw; clear hSw; go_simp; try with_reducible rfl)
            simp only [Act.put, List.setIfInBounds_toArray, List.set_cons_zero, List.set_cons_succ]
            refine wpAnyH_take (i := 6) (v := ?_) (oi := { dst := some 65, op := _, type := _, pos := _, after := _, guard := none }) rfl (by kernel_rfl) (by kernel_rfl) (by kernel_rfl) (fun _ _ _ h => h) (Or.inl ⟨by kernel_rfl, ?_⟩) (by assumption) ?_
            case refine_2 => (intro w9 hSw; clear hSw; go_simp; try with_reducible rfl)
            simp only [Act.put, List.setIfInBounds_toArray, List.set_cons_zero, List.set_cons_succ]
            refine wpAnyH_ready (rs := [7]) (by kernel_rfl) (by simp) (AllReadyH.cons (o := { dst := some 11, op := _, type := _, pos := _, after := _, guard := none }) rfl (fun K hK => ?_) AllReadyH.nil)
            go_simp
            have hH0 := hHeld
            refine hK.out _ _ (hHeld.alloc _) (fun hHeld => ?_)
            have HN : Hid (NB _ _ _ _ [.int .i64 0, .int .i64 0]) := hH0.nb hHeld
            clear hK K hH0
            refine wpAnyH_ready (rs := [8]) (by kernel_rfl) (by simp) (AllReadyH.cons (o := { dst := none, op := _, type := _, pos := _, after := _, guard := none }) rfl (fun K hK => ?_) AllReadyH.nil)
            refine (if_pos (by kernel_rfl)).mpr (wp_store_mid 45 _ _ rfl _ 0 #[.int .i64 v, .int .i64 sc] rfl rfl HN.out.1.there (by kernel_rfl) (by simp [Value.oneCell']) (hK.out _ _ (hHeld.off HN.out.2.1 HN.out.2.2 _) (fun hHeld => ?_)))
            have HN2 : Hid (BS w ((_, [.int .i64 v, .int .i64 sc]) :: [(W5.heap.size, [.int .i64 0, .int .i64 u]), (nb2, [.int .i64 0, .int .i64 dx]), (w.heap.size, [.int .i64 0, .int .i64 u])]) _ ∧ _) := ⟨⟨hHeld.1, fun x hx => by rcases List.mem_cons.1 hx with rfl | hx; exact ⟨HN.out.2.1, HN.out.1.setAll _ rfl⟩; exact hHeld.2 x hx⟩, HN.out.2.2⟩
            clear hK K HN
            refine wpAnyH_take (i := 9) (v := ?_) (oi := { dst := some 12, op := _, type := _, pos := _, after := _, guard := none }) rfl (by kernel_rfl) (by kernel_rfl) (by kernel_rfl) (fun _ _ _ h => h) (Or.inl ⟨by kernel_rfl, ?_⟩) (by assumption) ?_
            case refine_2 => (intro w9 hSw; clear hSw; go_simp; try with_reducible rfl)
            simp only [Act.put, List.setIfInBounds_toArray, List.set_cons_zero, List.set_cons_succ]
            refine wpAnyH_done (by kernel_rfl) ?_ _
            go_wp2_with fail
            go_meet
            case rel => exact ⟨_, rfl, rfl, HN2.out⟩
          ·
            go_simp
            have hH0 := hHeld
            refine hK.out _ _ (hHeld.alloc _) (fun hHeld => ?_)
            have HN : Hid (NB _ _ _ _ [.int .i64 0, .int .i64 0]) := hH0.nb hHeld
            clear hK K hH0
            refine wpAnyH_ready (rs := [3]) (by kernel_rfl) (by simp) (AllReadyH.cons (o := { dst := some 63, op := _, type := _, pos := _, after := _, guard := none }) rfl (fun K hK => ?_) AllReadyH.nil)
            go_simp
            refine (EX.out _ (hL.out _ hHeld.1)).mono ?_
            rintro e v6 ⟨rfl, hb6⟩
            refine hK.out _ _ (hHeld.below hb6) (fun hHeld => ?_)
            try (have HN2 := HN.out.below hb6; clear HN; have HN : Hid (NB _ _ _ _ _) := HN2; clear HN2)
            clear hK K hb6
            refine wpAnyH_take (i := 4) (v := ?_) (oi := { dst := some 59, op := _, type := _, pos := _, after := _, guard := none }) rfl (by kernel_rfl) (by kernel_rfl) (by kernel_rfl) (fun _ _ _ h => h) (Or.inl ⟨by kernel_rfl, ?_⟩) (by assumption) ?_
            case refine_2 => (intro w9 hSw; clear hSw; go_simp; try with_reducible rfl)
            simp only [Act.put, List.setIfInBounds_toArray, List.set_cons_zero, List.set_cons_succ]
            refine wpAnyH_take (i := 5) (v := ?_) (oi := { dst := some 64, op := _, type := _, pos := _, after := _, guard := none }) rfl (by kernel_rfl) (by kernel_rfl) (by kernel_rfl) (fun _ _ _ h => h) (Or.inl ⟨by kernel_rfl, ?_⟩) (by assumption) ?_
            case refine_2 => (intro w9 hSw; clear hSw; go_simp; try with_reducible rfl)
            simp only [Act.put, List.setIfInBounds_toArray, List.set_cons_zero, List.set_cons_succ]
            refine wpAnyH_take (i := 6) (v := ?_) (oi := { dst := some 65, op := _, type := _, pos := _, after := _, guard := none }) rfl (by kernel_rfl) (by kernel_rfl) (by kernel_rfl) (fun _ _ _ h => h) (Or.inl ⟨by kernel_rfl, ?_⟩) (by assumption) ?_
            case refine_2 => (intro w9 hSw; clear hSw; go_simp; try with_reducible rfl)
            simp only [Act.put, List.setIfInBounds_toArray, List.set_cons_zero, List.set_cons_succ]
            refine wpAnyH_ready (rs := [8]) (by kernel_rfl) (by simp) (AllReadyH.cons (o := { dst := none, op := _, type := _, pos := _, after := _, guard := none }) rfl (fun K hK => ?_) AllReadyH.nil)
            refine (if_pos (by kernel_rfl)).mpr (wp_store_mid 45 _ _ rfl _ 0 #[.int .i64 v, .int .i64 sc] rfl rfl HN.out.1.there (by kernel_rfl) (by simp [Value.oneCell']) (hK.out _ _ (hHeld.off HN.out.2.1 HN.out.2.2 _) (fun hHeld => ?_)))
            have HN2 : Hid (BS w ((_, [.int .i64 v, .int .i64 sc]) :: [(W5.heap.size, [.int .i64 0, .int .i64 u]), (nb2, [.int .i64 0, .int .i64 dx]), (w.heap.size, [.int .i64 0, .int .i64 u])]) _ ∧ _) := ⟨⟨hHeld.1, fun x hx => by rcases List.mem_cons.1 hx with rfl | hx; exact ⟨HN.out.2.1, HN.out.1.setAll _ rfl⟩; exact hHeld.2 x hx⟩, HN.out.2.2⟩
            clear hK K HN
            refine wpAnyH_take (i := 9) (v := ?_) (oi := { dst := some 12, op := _, type := _, pos := _, after := _, guard := none }) rfl (by kernel_rfl) (by kernel_rfl) (by kernel_rfl) (fun _ _ _ h => h) (Or.inl ⟨by kernel_rfl, ?_⟩) (by assumption) ?_
            case refine_2 => (intro w9 hSw; clear hSw; go_simp; try with_reducible rfl)
            simp only [Act.put, List.setIfInBounds_toArray, List.set_cons_zero, List.set_cons_succ]
            refine wpAnyH_done (by kernel_rfl) ?_ _
            go_wp2_with fail
            go_meet
            case rel => exact ⟨_, rfl, rfl, HN2.out⟩
        ·
          go_simp
          have hH0 := hHeld
          refine hK.out _ _ (hHeld.alloc _) (fun hHeld => ?_)
          have HN : Hid (NB _ _ _ _ [.int .i64 0, .int .i64 0]) := hH0.nb hHeld
          clear hK K hH0
          refine wpAnyH_ready (rs := [0]) (by kernel_rfl) (by simp) (AllReadyH.cons (o := { dst := some 60, op := _, type := _, pos := _, after := _, guard := none }) rfl (fun K hK => ?_) AllReadyH.nil)
          go_simp
          refine (UT.out _).mono ?_
          rintro e v9 ⟨rfl, hb9⟩
          refine hK.out _ _ (hHeld.below hb9) (fun hHeld => ?_)
          try (have HN2 := HN.out.below hb9; clear HN; have HN : Hid (NB _ _ _ _ _) := HN2; clear HN2)
          clear hK K hb9
          refine wpAnyH_ready (rs := [3]) (by kernel_rfl) (by simp) (AllReadyH.cons (o := { dst := some 63, op := _, type := _, pos := _, after := _, guard := none }) rfl (fun K hK => ?_) AllReadyH.nil)
          go_simp
          refine (EX.out _ (hL.out _ hHeld.1)).mono ?_
          rintro e v10 ⟨rfl, hb10⟩
          refine hK.out _ _ (hHeld.below hb10) (fun hHeld => ?_)
          try (have HN2 := HN.out.below hb10; clear HN; have HN : Hid (NB _ _ _ _ _) := HN2; clear HN2)
          clear hK K hb10
          refine wpAnyH_take (i := 4) (v := ?_) (oi := { dst := some 59, op := _, type := _, pos := _, after := _, guard := none }) rfl (by kernel_rfl) (by kernel_rfl) (by kernel_rfl) (fun _ _ _ h => h) (Or.inl ⟨by kernel_rfl, ?_⟩) (by assumption) ?_
          case refine_2 => (intro w9 hSw; clear hSw; go_simp; try with_reducible rfl)
          simp only [Act.put, List.setIfInBounds_toArray, List.set_cons_zero, List.set_cons_succ]
          refine wpAnyH_take (i := 5) (v := ?_) (oi := { dst := some 64, op := _, type := _, pos := _, after := _, guard := none }) rfl (by kernel_rfl) (by kernel_rfl) (by kernel_rfl) (fun _ _ _ h => h) (Or.inl ⟨by kernel_rfl, ?_⟩) (by assumption) ?_
          case refine_2 => (intro w9 hSw; clear hSw; go_simp; try with_reducible rfl)
          simp only [Act.put, List.setIfInBounds_toArray, List.set_cons_zero, List.set_cons_succ]
          refine wpAnyH_take (i := 6) (v := ?_) (oi := { dst := some 65, op := _, type := _, pos := _, after := _, guard := none }) rfl (by kernel_rfl) (by kernel_rfl) (by kernel_rfl) (fun _ _ _ h => h) (Or.inl ⟨by kernel_rfl, ?_⟩) (by assumption) ?_
          case refine_2 => (intro w9 hSw; clear hSw; go_simp; try with_reducible rfl)
          simp only [Act.put, List.setIfInBounds_toArray, List.set_cons_zero, List.set_cons_succ]
          refine wpAnyH_ready (rs := [8]) (by kernel_rfl) (by simp) (AllReadyH.cons (o := { dst := none, op := _, type := _, pos := _, after := _, guard := none }) rfl (fun K hK => ?_) AllReadyH.nil)
          refine (if_pos (by kernel_rfl)).mpr (wp_store_mid 45 _ _ rfl _ 0 #[.int .i64 v, .int .i64 sc] rfl rfl HN.out.1.there (by kernel_rfl) (by simp [Value.oneCell']) (hK.out _ _ (hHeld.off HN.out.2.1 HN.out.2.2 _) (fun hHeld => ?_)))
          have HN2 : Hid (BS w ((_, [.int .i64 v, .int .i64 sc]) :: [(W5.heap.size, [.int .i64 0, .int .i64 u]), (nb2, [.int .i64 0, .int .i64 dx]), (w.heap.size, [.int .i64 0, .int .i64 u])]) _ ∧ _) := ⟨⟨hHeld.1, fun x hx => by rcases List.mem_cons.1 hx with rfl | hx; exact ⟨HN.out.2.1, HN.out.1.setAll _ rfl⟩; exact hHeld.2 x hx⟩, HN.out.2.2⟩
          clear hK K HN
          refine wpAnyH_take (i := 9) (v := ?_) (oi := { dst := some 12, op := _, type := _, pos := _, after := _, guard := none }) rfl (by kernel_rfl) (by kernel_rfl) (by kernel_rfl) (fun _ _ _ h => h) (Or.inl ⟨by kernel_rfl, ?_⟩) (by assumption) ?_
          case refine_2 => (intro w9 hSw; clear hSw; go_simp; try with_reducible rfl)
          simp only [Act.put, List.setIfInBounds_toArray, List.set_cons_zero, List.set_cons_succ]
          refine wpAnyH_done (by kernel_rfl) ?_ _
          go_wp2_with fail
          go_meet
          case rel => exact ⟨_, rfl, rfl, HN2.out⟩
      case rest =>
        clear c8_0_0 c8_0_1 c8_1_0 c8_1_1 c8_2_0 c8_2_1
        obtain ⟨nb8, rfl, rfl, KK⟩ := hcut
        clear K8
        have K9 : Hid (BS w [(nb8, [.int .i64 v, .int .i64 sc]), (W5.heap.size, [.int .i64 0, .int .i64 u]), (nb2, [.int .i64 0, .int .i64 dx]), (w.heap.size, [.int .i64 0, .int .i64 u])] wc) := KK.out.1
        have ne9_0 : W5.heap.size ≠ nb8 := KK.out.2 (W5.heap.size, [.int .i64 0, .int .i64 u]) (by simp)
        have ne9_1 : nb2 ≠ nb8 := KK.out.2 (nb2, [.int .i64 0, .int .i64 dx]) (by simp)
        have ne9_2 : w.heap.size ≠ nb8 := KK.out.2 (w.heap.size, [.int .i64 0, .int .i64 u]) (by simp)
        clear KK
        obtain ⟨c9_0_0, c9_0_1⟩ := (bo1 K9).c2
        obtain ⟨c9_1_0, c9_1_1⟩ := (bo2 K9).c2
        obtain ⟨c9_2_0, c9_2_1⟩ := (bo3 K9).c2
        obtain ⟨c9_3_0, c9_3_1⟩ := (bo4 K9).c2
        go_wp2_with fail
        refine (DR.out _).mono ?_
        rintro e W10 ⟨rfl, hb⟩
        have K10 := bsb K9 hb
        clear c9_0_0 c9_0_1 c9_1_0 c9_1_1 c9_2_0 c9_2_1 c9_3_0 c9_3_1
        clear hb K9
        obtain ⟨c10_0_0, c10_0_1⟩ := (bo1 K10).c2
        obtain ⟨c10_1_0, c10_1_1⟩ := (bo2 K10).c2
        obtain ⟨c10_2_0, c10_2_1⟩ := (bo3 K10).c2
        obtain ⟨c10_3_0, c10_3_1⟩ := (bo4 K10).c2
        go_wp2_with fail
        refine (KN.out _ (hL.out _ K10.out.1)).mono ?_
        rintro e W11 ⟨rfl, hb⟩
        have K11 := bsb K10 hb
        clear c10_0_0 c10_0_1 c10_1_0 c10_1_1 c10_2_0 c10_2_1 c10_3_0 c10_3_1
        clear hb K10
        obtain ⟨c11_0_0, c11_0_1⟩ := (bo1 K11).c2
        obtain ⟨c11_1_0, c11_1_1⟩ := (bo2 K11).c2
        obtain ⟨c11_2_0, c11_2_1⟩ := (bo3 K11).c2
        obtain ⟨c11_3_0, c11_3_1⟩ := (bo4 K11).c2
        go_wp2
        go_ret
        exact ⟨rfl, K11.out.1⟩


end Go.Proofs.YtofmmdfdiaahhaaGreatDoor
