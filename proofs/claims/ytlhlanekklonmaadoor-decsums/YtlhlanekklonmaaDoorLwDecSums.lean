/- The walk of DecSums. -/
import Derived.Test.YtlhlanekklonmaaDoorDecZ
namespace Go.Proofs.YtlhlanekklonmaaDoor
open Go.RowKit
set_option linter.unusedVariables false

set_option maxRecDepth 100000 in
set_option maxHeartbeats 16000000 in
theorem core_DecSums (xn xs yn ys an aS ae cn cS ce pn pS pe cv : Int) (rv : Bool)
    (HX : (Hid (∀ w : World, Calls Tryd.prog 24 #[.agg #[.int .i64 xn, .int .i64 xs]] w fun e w' => e = .returned (.agg #[.int .i64 xn, .int .i64 xs]) ∧ Below w.heap.size w w')))
    (HY : (Hid (∀ w : World, Calls Tryd.prog 24 #[.agg #[.int .i64 yn, .int .i64 ys]] w fun e w' => e = .returned (.agg #[.int .i64 yn, .int .i64 ys]) ∧ Below w.heap.size w w')))
    (DA : (Hid (∀ w : World, Calls Tryd.prog 23 #[.agg #[.int .i64 xn, .int .i64 xs], .agg #[.int .i64 yn, .int .i64 ys]] w fun e w' => e = .returned (.tuple #[.agg #[.int .i64 an, .int .i64 aS], .int .i64 ae]) ∧ Below w.heap.size w w')))
    (EA : (Hid (∀ w : World, Calls Tryd.prog 25 #[.agg #[.int .i64 xn, .int .i64 xs], .agg #[.int .i64 yn, .int .i64 ys]] w fun e w' => e = .returned (.tuple #[.agg #[.int .i64 an, .int .i64 aS], .int .i64 ae]) ∧ Below w.heap.size w w')))
    (DS : (Hid (∀ w : World, Calls Tryd.prog 26 #[.agg #[.int .i64 xn, .int .i64 xs], .agg #[.int .i64 yn, .int .i64 ys]] w fun e w' => e = .returned (.tuple #[.agg #[.int .i64 cn, .int .i64 cS], .int .i64 ce]) ∧ Below w.heap.size w w')))
    (ES : (Hid (∀ w : World, Calls Tryd.prog 27 #[.agg #[.int .i64 xn, .int .i64 xs], .agg #[.int .i64 yn, .int .i64 ys]] w fun e w' => e = .returned (.tuple #[.agg #[.int .i64 cn, .int .i64 cS], .int .i64 ce]) ∧ Below w.heap.size w w')))
    (DM : (Hid (∀ w : World, Calls Tryd.prog 28 #[.agg #[.int .i64 xn, .int .i64 xs], .agg #[.int .i64 yn, .int .i64 ys]] w fun e w' => e = .returned (.tuple #[.agg #[.int .i64 pn, .int .i64 pS], .int .i64 pe]) ∧ Below w.heap.size w w')))
    (EM : (Hid (∀ w : World, Calls Tryd.prog 29 #[.agg #[.int .i64 xn, .int .i64 xs], .agg #[.int .i64 yn, .int .i64 ys]] w fun e w' => e = .returned (.tuple #[.agg #[.int .i64 pn, .int .i64 pS], .int .i64 pe]) ∧ Below w.heap.size w w')))
    (TA : (Hid (∀ w : World, Calls Tryd.prog 30 #[.agg #[.int .i64 an, .int .i64 aS]] w fun e w' => e = .returned (.agg #[.int .i64 an, .int .i64 aS]) ∧ Below w.heap.size w w')))
    (TC : (Hid (∀ w : World, Calls Tryd.prog 30 #[.agg #[.int .i64 cn, .int .i64 cS]] w fun e w' => e = .returned (.agg #[.int .i64 cn, .int .i64 cS]) ∧ Below w.heap.size w w')))
    (TP : (Hid (∀ w : World, Calls Tryd.prog 30 #[.agg #[.int .i64 pn, .int .i64 pS]] w fun e w' => e = .returned (.agg #[.int .i64 pn, .int .i64 pS]) ∧ Below w.heap.size w w')))
    (DC : (Hid (∀ w : World, Calls Tryd.prog 31 #[.agg #[.int .i64 xn, .int .i64 xs], .agg #[.int .i64 yn, .int .i64 ys]] w fun e w' => e = .returned (.int .i64 cv) ∧ Below w.heap.size w w')))
    (EC : (Hid (∀ w : World, Calls Tryd.prog 32 #[.agg #[.int .i64 xn, .int .i64 xs], .agg #[.int .i64 yn, .int .i64 ys]] w fun e w' => e = .returned (.int .i64 cv) ∧ Below w.heap.size w w')))
    (DR : (Hid (∀ w : World, Calls Tryd.prog 33 #[.agg #[.int .i64 xn, .int .i64 xs]] w fun e w' => e = .returned (.bool rv) ∧ Below w.heap.size w w')))
    (ER : (Hid (∀ w : World, Calls Tryd.prog 34 #[.agg #[.int .i64 xn, .int .i64 xs]] w fun e w' => e = .returned (.bool rv) ∧ Below w.heap.size w w')))
    (KN : Hid (∀ w : World, Tab w → Calls Tryd.prog 35 #[] w fun e w' => e = .returned (.bool true) ∧ Below w.heap.size w w')) (w : World) (hT : Hid (Tab w)) :
    Calls Tryd.prog 6 #[.agg #[.int .i64 xn, .int .i64 xs], .agg #[.int .i64 yn, .int .i64 ys]] w fun e w' => e = .returned (.bool true) ∧ Below w.heap.size w w' := by
  have L0 := LS.start w xn xs yn ys 33
  go_enter Tryd.func6, Tryd.ntmps6
  go_wp2_with fail
  refine gen_world (LS w [(w.heap.size, xn, xs), (w.heap.size + 1, yn, ys)]) L0 ?_
  clear L0
  rintro W1 K1
  go_cut [5, 6] from 17 to 24 (fun p e wx => ∃ b, p = .pointer (some ⟨b, 0, none⟩) ∧ e = .int .i64 (ae) ∧ LS w [(w.heap.size, xn, xs), (w.heap.size + 1, yn, ys)] wx ∧ NB w [(w.heap.size, xn, xs), (w.heap.size + 1, yn, ys)] b (an) (aS) wx)
  case first =>
    refine wp_region_held_drew (S := LS w [(w.heap.size, xn, xs), (w.heap.size + 1, yn, ys)]) (by kernel_rfl) K1.drew (fun hHeld => ?_)
    refine wpAnyH_take (i := 0) (v := ?_) (oi := { dst := some 18, op := _, type := _, pos := _, after := _, guard := none }) rfl (by kernel_rfl) (by kernel_rfl) (by kernel_rfl) (fun _ _ _ h => h) (Or.inl ⟨by kernel_rfl, ?_⟩) (by assumption) ?_
    case refine_2 => (intro w9 hSw; obtain ⟨sa0, sb0, sc0, sd0, se0⟩ := hSw.2 (w.heap.size, xn, xs) (by simp); obtain ⟨sa1, sb1, sc1, sd1, se1⟩ := hSw.2 (w.heap.size + 1, yn, ys) (by simp); clear hSw; go_simp; try with_reducible rfl)
    simp only [Act.put, List.setIfInBounds_toArray, List.set_cons_zero, List.set_cons_succ]
    refine wpAnyH_take (i := 2) (v := ?_) (oi := { dst := some 20, op := _, type := _, pos := _, after := _, guard := none }) rfl (by kernel_rfl) (by kernel_rfl) (by kernel_rfl) (fun _ _ _ h => h) (Or.inl ⟨by kernel_rfl, ?_⟩) (by assumption) ?_
    case refine_2 => (intro w9 hSw; obtain ⟨sa0, sb0, sc0, sd0, se0⟩ := hSw.2 (w.heap.size, xn, xs) (by simp); obtain ⟨sa1, sb1, sc1, sd1, se1⟩ := hSw.2 (w.heap.size + 1, yn, ys) (by simp); clear hSw; go_simp; try with_reducible rfl)
    simp only [Act.put, List.setIfInBounds_toArray, List.set_cons_zero, List.set_cons_succ]
    refine wpAnyH_ready (rs := [1, 8]) (by kernel_rfl) (by simp) (AllReadyH.cons (o := { dst := some 19, op := _, type := _, pos := _, after := _, guard := none }) rfl (fun K hK => ?_) (AllReadyH.cons (o := { dst := some 5, op := _, type := _, pos := _, after := _, guard := none }) rfl (fun K hK => ?_) AllReadyH.nil))
    ·
      go_simp
      refine (HX.out _).mono ?_
      rintro e v1 ⟨rfl, hb1⟩
      refine hK.out _ _ (hHeld.below hb1) (fun hHeld => ?_)
      clear hK K hb1
      refine wpAnyH_ready (rs := [3, 8]) (by kernel_rfl) (by simp) (AllReadyH.cons (o := { dst := some 21, op := _, type := _, pos := _, after := _, guard := none }) rfl (fun K hK => ?_) (AllReadyH.cons (o := { dst := some 5, op := _, type := _, pos := _, after := _, guard := none }) rfl (fun K hK => ?_) AllReadyH.nil))
      ·
        go_simp
        refine (HY.out _).mono ?_
        rintro e v2 ⟨rfl, hb2⟩
        refine hK.out _ _ (hHeld.below hb2) (fun hHeld => ?_)
        clear hK K hb2
        refine wpAnyH_ready (rs := [4, 8]) (by kernel_rfl) (by simp) (AllReadyH.cons (o := { dst := some 22, op := _, type := _, pos := _, after := _, guard := none }) rfl (fun K hK => ?_) (AllReadyH.cons (o := { dst := some 5, op := _, type := _, pos := _, after := _, guard := none }) rfl (fun K hK => ?_) AllReadyH.nil))
        ·
          go_simp
          refine (DA.out _).mono ?_
          rintro e v3 ⟨rfl, hb3⟩
          refine hK.out _ _ (hHeld.below hb3) (fun hHeld => ?_)
          clear hK K hb3
          refine wpAnyH_take (i := 5) (v := ?_) (oi := { dst := some 17, op := _, type := _, pos := _, after := _, guard := none }) rfl (by kernel_rfl) (by kernel_rfl) (by kernel_rfl) (fun _ _ _ h => h) (Or.inl ⟨by kernel_rfl, ?_⟩) (by assumption) ?_
          case refine_2 => (intro w9 hSw; clear hSw; go_simp; try with_reducible rfl)
          simp only [Act.put, List.setIfInBounds_toArray, List.set_cons_zero, List.set_cons_succ]
          refine wpAnyH_take (i := 6) (v := ?_) (oi := { dst := some 23, op := _, type := _, pos := _, after := _, guard := none }) rfl (by kernel_rfl) (by kernel_rfl) (by kernel_rfl) (fun _ _ _ h => h) (Or.inl ⟨by kernel_rfl, ?_⟩) (by assumption) ?_
          case refine_2 => (intro w9 hSw; clear hSw; go_simp; try with_reducible rfl)
          simp only [Act.put, List.setIfInBounds_toArray, List.set_cons_zero, List.set_cons_succ]
          refine wpAnyH_take (i := 7) (v := ?_) (oi := { dst := some 24, op := _, type := _, pos := _, after := _, guard := none }) rfl (by kernel_rfl) (by kernel_rfl) (by kernel_rfl) (fun _ _ _ h => h) (Or.inl ⟨by kernel_rfl, ?_⟩) (by assumption) ?_
          case refine_2 => (intro w9 hSw; clear hSw; go_simp; try with_reducible rfl)
          simp only [Act.put, List.setIfInBounds_toArray, List.set_cons_zero, List.set_cons_succ]
          refine wpAnyH_ready (rs := [8]) (by kernel_rfl) (by simp) (AllReadyH.cons (o := { dst := some 5, op := _, type := _, pos := _, after := _, guard := none }) rfl (fun K hK => ?_) AllReadyH.nil)
          have N4 := hHeld.new 0 0 34
          go_simp
          refine hK.out _ _ (hHeld.alloc _) (fun hHeld2 => ?_)
          clear hK K
          have hHeld0 := hHeld
          clear hHeld
          have hHeld := hHeld2
          clear hHeld2
          refine wpAnyH_ready (rs := [9]) (by kernel_rfl) (by simp) (AllReadyH.cons (o := { dst := none, op := _, type := _, pos := _, after := _, guard := none }) rfl (fun K hK => ?_) AllReadyH.nil)
          go_simp
          have N5 := hHeld0.new (an) (aS) 34
          refine hK.out _ _ (hHeld0.alloc _) (fun hHeld2 => ?_)
          clear hK K hHeld hHeld0 N4
          have hHeld := hHeld2
          clear hHeld2
          refine wpAnyH_take (i := 10) (v := ?_) (oi := { dst := some 6, op := _, type := _, pos := _, after := _, guard := none }) rfl (by kernel_rfl) (by kernel_rfl) (by kernel_rfl) (fun _ _ _ h => h) (Or.inl ⟨by kernel_rfl, ?_⟩) (by assumption) ?_
          case refine_2 => (intro w9 hSw; clear hSw; go_simp; try with_reducible rfl)
          simp only [Act.put, List.setIfInBounds_toArray, List.set_cons_zero, List.set_cons_succ]
          refine wpAnyH_done (by kernel_rfl) ?_ _
          go_wp2_with fail
          go_meet
          case rel => exact ⟨_, rfl, rfl, hHeld, N5⟩
        ·
          have N6 := hHeld.new 0 0 34
          go_simp
          refine hK.out _ _ (hHeld.alloc _) (fun hHeld2 => ?_)
          clear hK K
          have hHeld0 := hHeld
          clear hHeld
          have hHeld := hHeld2
          clear hHeld2
          refine wpAnyH_ready (rs := [4]) (by kernel_rfl) (by simp) (AllReadyH.cons (o := { dst := some 22, op := _, type := _, pos := _, after := _, guard := none }) rfl (fun K hK => ?_) AllReadyH.nil)
          go_simp
          refine (DA.out _).mono ?_
          rintro e v7 ⟨rfl, hb7⟩
          have N7 := N6.below hb7
          refine hK.out _ _ (hHeld.below hb7) (fun hHeld => ?_)
          clear hK K hb7 N6
          refine wpAnyH_take (i := 5) (v := ?_) (oi := { dst := some 17, op := _, type := _, pos := _, after := _, guard := none }) rfl (by kernel_rfl) (by kernel_rfl) (by kernel_rfl) (fun _ _ _ h => h) (Or.inl ⟨by kernel_rfl, ?_⟩) (by assumption) ?_
          case refine_2 => (intro w9 hSw; clear hSw; go_simp; try with_reducible rfl)
          simp only [Act.put, List.setIfInBounds_toArray, List.set_cons_zero, List.set_cons_succ]
          refine wpAnyH_take (i := 6) (v := ?_) (oi := { dst := some 23, op := _, type := _, pos := _, after := _, guard := none }) rfl (by kernel_rfl) (by kernel_rfl) (by kernel_rfl) (fun _ _ _ h => h) (Or.inl ⟨by kernel_rfl, ?_⟩) (by assumption) ?_
          case refine_2 => (intro w9 hSw; clear hSw; go_simp; try with_reducible rfl)
          simp only [Act.put, List.setIfInBounds_toArray, List.set_cons_zero, List.set_cons_succ]
          refine wpAnyH_take (i := 7) (v := ?_) (oi := { dst := some 24, op := _, type := _, pos := _, after := _, guard := none }) rfl (by kernel_rfl) (by kernel_rfl) (by kernel_rfl) (fun _ _ _ h => h) (Or.inl ⟨by kernel_rfl, ?_⟩) (by assumption) ?_
          case refine_2 => (intro w9 hSw; clear hSw; go_simp; try with_reducible rfl)
          simp only [Act.put, List.setIfInBounds_toArray, List.set_cons_zero, List.set_cons_succ]
          refine wpAnyH_ready (rs := [9]) (by kernel_rfl) (by simp) (AllReadyH.cons (o := { dst := none, op := _, type := _, pos := _, after := _, guard := none }) rfl (fun K hK => ?_) AllReadyH.nil)
          obtain ⟨⟨ta8, tb8, tc8, td8, te8⟩, _⟩ := id N7
          go_simp
          have N8 := N7.set (an) (aS)
          refine hK.out _ _ (hHeld.set N7 _ _) (fun hHeld2 => ?_)
          clear hK K hHeld N7 ta8 tb8 tc8 td8 te8
          have hHeld := hHeld2
          clear hHeld2
          refine wpAnyH_take (i := 10) (v := ?_) (oi := { dst := some 6, op := _, type := _, pos := _, after := _, guard := none }) rfl (by kernel_rfl) (by kernel_rfl) (by kernel_rfl) (fun _ _ _ h => h) (Or.inl ⟨by kernel_rfl, ?_⟩) (by assumption) ?_
          case refine_2 => (intro w9 hSw; clear hSw; go_simp; try with_reducible rfl)
          simp only [Act.put, List.setIfInBounds_toArray, List.set_cons_zero, List.set_cons_succ]
          refine wpAnyH_done (by kernel_rfl) ?_ _
          go_wp2_with fail
          go_meet
          case rel => exact ⟨_, rfl, rfl, hHeld, N8⟩
      ·
        have N9 := hHeld.new 0 0 34
        go_simp
        refine hK.out _ _ (hHeld.alloc _) (fun hHeld2 => ?_)
        clear hK K
        have hHeld0 := hHeld
        clear hHeld
        have hHeld := hHeld2
        clear hHeld2
        refine wpAnyH_ready (rs := [3]) (by kernel_rfl) (by simp) (AllReadyH.cons (o := { dst := some 21, op := _, type := _, pos := _, after := _, guard := none }) rfl (fun K hK => ?_) AllReadyH.nil)
        go_simp
        refine (HY.out _).mono ?_
        rintro e v10 ⟨rfl, hb10⟩
        have N10 := N9.below hb10
        refine hK.out _ _ (hHeld.below hb10) (fun hHeld => ?_)
        clear hK K hb10 N9
        refine wpAnyH_ready (rs := [4]) (by kernel_rfl) (by simp) (AllReadyH.cons (o := { dst := some 22, op := _, type := _, pos := _, after := _, guard := none }) rfl (fun K hK => ?_) AllReadyH.nil)
        go_simp
        refine (DA.out _).mono ?_
        rintro e v11 ⟨rfl, hb11⟩
        have N11 := N10.below hb11
        refine hK.out _ _ (hHeld.below hb11) (fun hHeld => ?_)
        clear hK K hb11 N10
        refine wpAnyH_take (i := 5) (v := ?_) (oi := { dst := some 17, op := _, type := _, pos := _, after := _, guard := none }) rfl (by kernel_rfl) (by kernel_rfl) (by kernel_rfl) (fun _ _ _ h => h) (Or.inl ⟨by kernel_rfl, ?_⟩) (by assumption) ?_
        case refine_2 => (intro w9 hSw; clear hSw; go_simp; try with_reducible rfl)
        simp only [Act.put, List.setIfInBounds_toArray, List.set_cons_zero, List.set_cons_succ]
        refine wpAnyH_take (i := 6) (v := ?_) (oi := { dst := some 23, op := _, type := _, pos := _, after := _, guard := none }) rfl (by kernel_rfl) (by kernel_rfl) (by kernel_rfl) (fun _ _ _ h => h) (Or.inl ⟨by kernel_rfl, ?_⟩) (by assumption) ?_
        case refine_2 => (intro w9 hSw; clear hSw; go_simp; try with_reducible rfl)
        simp only [Act.put, List.setIfInBounds_toArray, List.set_cons_zero, List.set_cons_succ]
        refine wpAnyH_take (i := 7) (v := ?_) (oi := { dst := some 24, op := _, type := _, pos := _, after := _, guard := none }) rfl (by kernel_rfl) (by kernel_rfl) (by kernel_rfl) (fun _ _ _ h => h) (Or.inl ⟨by kernel_rfl, ?_⟩) (by assumption) ?_
        case refine_2 => (intro w9 hSw; clear hSw; go_simp; try with_reducible rfl)
        simp only [Act.put, List.setIfInBounds_toArray, List.set_cons_zero, List.set_cons_succ]
        refine wpAnyH_ready (rs := [9]) (by kernel_rfl) (by simp) (AllReadyH.cons (o := { dst := none, op := _, type := _, pos := _, after := _, guard := none }) rfl (fun K hK => ?_) AllReadyH.nil)
        obtain ⟨⟨ta12, tb12, tc12, td12, te12⟩, _⟩ := id N11
        go_simp
        have N12 := N11.set (an) (aS)
        refine hK.out _ _ (hHeld.set N11 _ _) (fun hHeld2 => ?_)
        clear hK K hHeld N11 ta12 tb12 tc12 td12 te12
        have hHeld := hHeld2
        clear hHeld2
        refine wpAnyH_take (i := 10) (v := ?_) (oi := { dst := some 6, op := _, type := _, pos := _, after := _, guard := none }) rfl (by kernel_rfl) (by kernel_rfl) (by kernel_rfl) (fun _ _ _ h => h) (Or.inl ⟨by kernel_rfl, ?_⟩) (by assumption) ?_
        case refine_2 => (intro w9 hSw; clear hSw; go_simp; try with_reducible rfl)
        simp only [Act.put, List.setIfInBounds_toArray, List.set_cons_zero, List.set_cons_succ]
        refine wpAnyH_done (by kernel_rfl) ?_ _
        go_wp2_with fail
        go_meet
        case rel => exact ⟨_, rfl, rfl, hHeld, N12⟩
    ·
      have N13 := hHeld.newd 0 0 34
      go_simp
      refine hK.out _ _ (hHeld.alloc _) (fun hHeld2 => ?_)
      clear hK K
      have hHeld0 := hHeld
      clear hHeld
      have hHeld := hHeld2
      clear hHeld2
      refine wpAnyH_ready (rs := [1]) (by kernel_rfl) (by simp) (AllReadyH.cons (o := { dst := some 19, op := _, type := _, pos := _, after := _, guard := none }) rfl (fun K hK => ?_) AllReadyH.nil)
      go_simp
      refine (HX.out _).mono ?_
      rintro e v14 ⟨rfl, hb14⟩
      have N14 := N13.below hb14
      refine hK.out _ _ (hHeld.below hb14) (fun hHeld => ?_)
      clear hK K hb14 N13
      refine wpAnyH_ready (rs := [3]) (by kernel_rfl) (by simp) (AllReadyH.cons (o := { dst := some 21, op := _, type := _, pos := _, after := _, guard := none }) rfl (fun K hK => ?_) AllReadyH.nil)
      go_simp
      refine (HY.out _).mono ?_
      rintro e v15 ⟨rfl, hb15⟩
      have N15 := N14.below hb15
      refine hK.out _ _ (hHeld.below hb15) (fun hHeld => ?_)
      clear hK K hb15 N14
      refine wpAnyH_ready (rs := [4]) (by kernel_rfl) (by simp) (AllReadyH.cons (o := { dst := some 22, op := _, type := _, pos := _, after := _, guard := none }) rfl (fun K hK => ?_) AllReadyH.nil)
      go_simp
      refine (DA.out _).mono ?_
      rintro e v16 ⟨rfl, hb16⟩
      have N16 := N15.below hb16
      refine hK.out _ _ (hHeld.below hb16) (fun hHeld => ?_)
      clear hK K hb16 N15
      refine wpAnyH_take (i := 5) (v := ?_) (oi := { dst := some 17, op := _, type := _, pos := _, after := _, guard := none }) rfl (by kernel_rfl) (by kernel_rfl) (by kernel_rfl) (fun _ _ _ h => h) (Or.inl ⟨by kernel_rfl, ?_⟩) (by assumption) ?_
      case refine_2 => (intro w9 hSw; clear hSw; go_simp; try with_reducible rfl)
      simp only [Act.put, List.setIfInBounds_toArray, List.set_cons_zero, List.set_cons_succ]
      refine wpAnyH_take (i := 6) (v := ?_) (oi := { dst := some 23, op := _, type := _, pos := _, after := _, guard := none }) rfl (by kernel_rfl) (by kernel_rfl) (by kernel_rfl) (fun _ _ _ h => h) (Or.inl ⟨by kernel_rfl, ?_⟩) (by assumption) ?_
      case refine_2 => (intro w9 hSw; clear hSw; go_simp; try with_reducible rfl)
      simp only [Act.put, List.setIfInBounds_toArray, List.set_cons_zero, List.set_cons_succ]
      refine wpAnyH_take (i := 7) (v := ?_) (oi := { dst := some 24, op := _, type := _, pos := _, after := _, guard := none }) rfl (by kernel_rfl) (by kernel_rfl) (by kernel_rfl) (fun _ _ _ h => h) (Or.inl ⟨by kernel_rfl, ?_⟩) (by assumption) ?_
      case refine_2 => (intro w9 hSw; clear hSw; go_simp; try with_reducible rfl)
      simp only [Act.put, List.setIfInBounds_toArray, List.set_cons_zero, List.set_cons_succ]
      refine wpAnyH_ready (rs := [9]) (by kernel_rfl) (by simp) (AllReadyH.cons (o := { dst := none, op := _, type := _, pos := _, after := _, guard := none }) rfl (fun K hK => ?_) AllReadyH.nil)
      obtain ⟨⟨ta17, tb17, tc17, td17, te17⟩, _⟩ := id N16
      go_simp
      have N17 := N16.set (an) (aS)
      refine hK.out _ _ (hHeld.set N16 _ _) (fun hHeld2 => ?_)
      clear hK K hHeld N16 ta17 tb17 tc17 td17 te17
      have hHeld := hHeld2
      clear hHeld2
      refine wpAnyH_take (i := 10) (v := ?_) (oi := { dst := some 6, op := _, type := _, pos := _, after := _, guard := none }) rfl (by kernel_rfl) (by kernel_rfl) (by kernel_rfl) (fun _ _ _ h => h) (Or.inl ⟨by kernel_rfl, ?_⟩) (by assumption) ?_
      case refine_2 => (intro w9 hSw; clear hSw; go_simp; try with_reducible rfl)
      simp only [Act.put, List.setIfInBounds_toArray, List.set_cons_zero, List.set_cons_succ]
      refine wpAnyH_done (by kernel_rfl) ?_ _
      go_wp2_with fail
      go_meet
      case rel => exact ⟨_, rfl, rfl, hHeld, N17⟩
  case rest =>
    clear K1
    obtain ⟨b1, rfl, rfl, L1, N1⟩ := hcut
    have M1 := L1.more N1
    clear L1 N1
    obtain ⟨qa0, qb0, qc0, qd0, qe0⟩ := M1.2 (b1, an, aS) (by simp)
    obtain ⟨qa1, qb1, qc1, qd1, qe1⟩ := M1.2 (w.heap.size, xn, xs) (by simp)
    obtain ⟨qa2, qb2, qc2, qd2, qe2⟩ := M1.2 (w.heap.size + 1, yn, ys) (by simp)
    go_wp2_with fail
    refine (EA.out _).mono ?_
    rintro e V2 ⟨rfl, hb⟩
    have K2 := M1.below hb
    clear hb M1
    clear qa0 qb0 qc0 qd0 qe0
    clear qa1 qb1 qc1 qd1 qe1
    clear qa2 qb2 qc2 qd2 qe2
    have N3 := K2.new (an) (aS) 33
    have M3 := (K2.alloc (.cells #[.int .i64 (an), .int .i64 (aS)] 33)).more N3
    clear N3 K2
    go_wp2_with fail
    refine gen_world (LS w [(V2.heap.size, an, aS), (b1, an, aS), (w.heap.size, xn, xs), (w.heap.size + 1, yn, ys)]) M3 ?_
    clear M3
    rintro W4 K4
    go_cut [9, 10] from 31 to 38 (fun p e wx => ∃ b, p = .pointer (some ⟨b, 0, none⟩) ∧ e = .int .i64 (ce) ∧ LS w [(V2.heap.size, an, aS), (b1, an, aS), (w.heap.size, xn, xs), (w.heap.size + 1, yn, ys)] wx ∧ NB w [(V2.heap.size, an, aS), (b1, an, aS), (w.heap.size, xn, xs), (w.heap.size + 1, yn, ys)] b (cn) (cS) wx)
    case first =>
      refine wp_region_held_drew (S := LS w [(V2.heap.size, an, aS), (b1, an, aS), (w.heap.size, xn, xs), (w.heap.size + 1, yn, ys)]) (by kernel_rfl) K4.drew (fun hHeld => ?_)
      refine wpAnyH_take (i := 0) (v := ?_) (oi := { dst := some 32, op := _, type := _, pos := _, after := _, guard := none }) rfl (by kernel_rfl) (by kernel_rfl) (by kernel_rfl) (fun _ _ _ h => h) (Or.inl ⟨by kernel_rfl, ?_⟩) (by assumption) ?_
      case refine_2 => (intro w9 hSw; obtain ⟨sa0, sb0, sc0, sd0, se0⟩ := hSw.2 (V2.heap.size, an, aS) (by simp); obtain ⟨sa1, sb1, sc1, sd1, se1⟩ := hSw.2 (b1, an, aS) (by simp); obtain ⟨sa2, sb2, sc2, sd2, se2⟩ := hSw.2 (w.heap.size, xn, xs) (by simp); obtain ⟨sa3, sb3, sc3, sd3, se3⟩ := hSw.2 (w.heap.size + 1, yn, ys) (by simp); clear hSw; go_simp; try with_reducible rfl)
      simp only [Act.put, List.setIfInBounds_toArray, List.set_cons_zero, List.set_cons_succ]
      refine wpAnyH_take (i := 2) (v := ?_) (oi := { dst := some 34, op := _, type := _, pos := _, after := _, guard := none }) rfl (by kernel_rfl) (by kernel_rfl) (by kernel_rfl) (fun _ _ _ h => h) (Or.inl ⟨by kernel_rfl, ?_⟩) (by assumption) ?_
      case refine_2 => (intro w9 hSw; obtain ⟨sa0, sb0, sc0, sd0, se0⟩ := hSw.2 (V2.heap.size, an, aS) (by simp); obtain ⟨sa1, sb1, sc1, sd1, se1⟩ := hSw.2 (b1, an, aS) (by simp); obtain ⟨sa2, sb2, sc2, sd2, se2⟩ := hSw.2 (w.heap.size, xn, xs) (by simp); obtain ⟨sa3, sb3, sc3, sd3, se3⟩ := hSw.2 (w.heap.size + 1, yn, ys) (by simp); clear hSw; go_simp; try with_reducible rfl)
      simp only [Act.put, List.setIfInBounds_toArray, List.set_cons_zero, List.set_cons_succ]
      refine wpAnyH_ready (rs := [1, 8]) (by kernel_rfl) (by simp) (AllReadyH.cons (o := { dst := some 33, op := _, type := _, pos := _, after := _, guard := none }) rfl (fun K hK => ?_) (AllReadyH.cons (o := { dst := some 9, op := _, type := _, pos := _, after := _, guard := none }) rfl (fun K hK => ?_) AllReadyH.nil))
      ·
        go_simp
        refine (HX.out _).mono ?_
        rintro e v1 ⟨rfl, hb1⟩
        refine hK.out _ _ (hHeld.below hb1) (fun hHeld => ?_)
        clear hK K hb1
        refine wpAnyH_ready (rs := [3, 8]) (by kernel_rfl) (by simp) (AllReadyH.cons (o := { dst := some 35, op := _, type := _, pos := _, after := _, guard := none }) rfl (fun K hK => ?_) (AllReadyH.cons (o := { dst := some 9, op := _, type := _, pos := _, after := _, guard := none }) rfl (fun K hK => ?_) AllReadyH.nil))
        ·
          go_simp
          refine (HY.out _).mono ?_
          rintro e v2 ⟨rfl, hb2⟩
          refine hK.out _ _ (hHeld.below hb2) (fun hHeld => ?_)
          clear hK K hb2
          refine wpAnyH_ready (rs := [4, 8]) (by kernel_rfl) (by simp) (AllReadyH.cons (o := { dst := some 36, op := _, type := _, pos := _, after := _, guard := none }) rfl (fun K hK => ?_) (AllReadyH.cons (o := { dst := some 9, op := _, type := _, pos := _, after := _, guard := none }) rfl (fun K hK => ?_) AllReadyH.nil))
          ·
            go_simp
            refine (DS.out _).mono ?_
            rintro e v3 ⟨rfl, hb3⟩
            refine hK.out _ _ (hHeld.below hb3) (fun hHeld => ?_)
            clear hK K hb3
            refine wpAnyH_take (i := 5) (v := ?_) (oi := { dst := some 31, op := _, type := _, pos := _, after := _, guard := none }) rfl (by kernel_rfl) (by kernel_rfl) (by kernel_rfl) (fun _ _ _ h => h) (Or.inl ⟨by kernel_rfl, ?_⟩) (by assumption) ?_
            case refine_2 => (intro w9 hSw; clear hSw; go_simp; try with_reducible rfl)
            simp only [Act.put, List.setIfInBounds_toArray, List.set_cons_zero, List.set_cons_succ]
            refine wpAnyH_take (i := 6) (v := ?_) (oi := { dst := some 37, op := _, type := _, pos := _, after := _, guard := none }) rfl (by kernel_rfl) (by kernel_rfl) (by kernel_rfl) (fun _ _ _ h => h) (Or.inl ⟨by kernel_rfl, ?_⟩) (by assumption) ?_
            case refine_2 => (intro w9 hSw; clear hSw; go_simp; try with_reducible rfl)
            simp only [Act.put, List.setIfInBounds_toArray, List.set_cons_zero, List.set_cons_succ]
            refine wpAnyH_take (i := 7) (v := ?_) (oi := { dst := some 38, op := _, type := _, pos := _, after := _, guard := none }) rfl (by kernel_rfl) (by kernel_rfl) (by kernel_rfl) (fun _ _ _ h => h) (Or.inl ⟨by kernel_rfl, ?_⟩) (by assumption) ?_
            case refine_2 => (intro w9 hSw; clear hSw; go_simp; try with_reducible rfl)
            simp only [Act.put, List.setIfInBounds_toArray, List.set_cons_zero, List.set_cons_succ]
            refine wpAnyH_ready (rs := [8]) (by kernel_rfl) (by simp) (AllReadyH.cons (o := { dst := some 9, op := _, type := _, pos := _, after := _, guard := none }) rfl (fun K hK => ?_) AllReadyH.nil)
            have N4 := hHeld.new 0 0 34
            go_simp
            refine hK.out _ _ (hHeld.alloc _) (fun hHeld2 => ?_)
            clear hK K
            have hHeld0 := hHeld
            clear hHeld
            have hHeld := hHeld2
            clear hHeld2
            refine wpAnyH_ready (rs := [9]) (by kernel_rfl) (by simp) (AllReadyH.cons (o := { dst := none, op := _, type := _, pos := _, after := _, guard := none }) rfl (fun K hK => ?_) AllReadyH.nil)
            go_simp
            have N5 := hHeld0.new (cn) (cS) 34
            refine hK.out _ _ (hHeld0.alloc _) (fun hHeld2 => ?_)
            clear hK K hHeld hHeld0 N4
            have hHeld := hHeld2
            clear hHeld2
            refine wpAnyH_take (i := 10) (v := ?_) (oi := { dst := some 10, op := _, type := _, pos := _, after := _, guard := none }) rfl (by kernel_rfl) (by kernel_rfl) (by kernel_rfl) (fun _ _ _ h => h) (Or.inl ⟨by kernel_rfl, ?_⟩) (by assumption) ?_
            case refine_2 => (intro w9 hSw; clear hSw; go_simp; try with_reducible rfl)
            simp only [Act.put, List.setIfInBounds_toArray, List.set_cons_zero, List.set_cons_succ]
            refine wpAnyH_done (by kernel_rfl) ?_ _
            go_wp2_with fail
            go_meet
            case rel => exact ⟨_, rfl, rfl, hHeld, N5⟩
          ·
            have N6 := hHeld.new 0 0 34
            go_simp
            refine hK.out _ _ (hHeld.alloc _) (fun hHeld2 => ?_)
            clear hK K
            have hHeld0 := hHeld
            clear hHeld
            have hHeld := hHeld2
            clear hHeld2
            refine wpAnyH_ready (rs := [4]) (by kernel_rfl) (by simp) (AllReadyH.cons (o := { dst := some 36, op := _, type := _, pos := _, after := _, guard := none }) rfl (fun K hK => ?_) AllReadyH.nil)
            go_simp
            refine (DS.out _).mono ?_
            rintro e v7 ⟨rfl, hb7⟩
            have N7 := N6.below hb7
            refine hK.out _ _ (hHeld.below hb7) (fun hHeld => ?_)
            clear hK K hb7 N6
            refine wpAnyH_take (i := 5) (v := ?_) (oi := { dst := some 31, op := _, type := _, pos := _, after := _, guard := none }) rfl (by kernel_rfl) (by kernel_rfl) (by kernel_rfl) (fun _ _ _ h => h) (Or.inl ⟨by kernel_rfl, ?_⟩) (by assumption) ?_
            case refine_2 => (intro w9 hSw; clear hSw; go_simp; try with_reducible rfl)
            simp only [Act.put, List.setIfInBounds_toArray, List.set_cons_zero, List.set_cons_succ]
            refine wpAnyH_take (i := 6) (v := ?_) (oi := { dst := some 37, op := _, type := _, pos := _, after := _, guard := none }) rfl (by kernel_rfl) (by kernel_rfl) (by kernel_rfl) (fun _ _ _ h => h) (Or.inl ⟨by kernel_rfl, ?_⟩) (by assumption) ?_
            case refine_2 => (intro w9 hSw; clear hSw; go_simp; try with_reducible rfl)
            simp only [Act.put, List.setIfInBounds_toArray, List.set_cons_zero, List.set_cons_succ]
            refine wpAnyH_take (i := 7) (v := ?_) (oi := { dst := some 38, op := _, type := _, pos := _, after := _, guard := none }) rfl (by kernel_rfl) (by kernel_rfl) (by kernel_rfl) (fun _ _ _ h => h) (Or.inl ⟨by kernel_rfl, ?_⟩) (by assumption) ?_
            case refine_2 => (intro w9 hSw; clear hSw; go_simp; try with_reducible rfl)
            simp only [Act.put, List.setIfInBounds_toArray, List.set_cons_zero, List.set_cons_succ]
            refine wpAnyH_ready (rs := [9]) (by kernel_rfl) (by simp) (AllReadyH.cons (o := { dst := none, op := _, type := _, pos := _, after := _, guard := none }) rfl (fun K hK => ?_) AllReadyH.nil)
            obtain ⟨⟨ta8, tb8, tc8, td8, te8⟩, _⟩ := id N7
            go_simp
            have N8 := N7.set (cn) (cS)
            refine hK.out _ _ (hHeld.set N7 _ _) (fun hHeld2 => ?_)
            clear hK K hHeld N7 ta8 tb8 tc8 td8 te8
            have hHeld := hHeld2
            clear hHeld2
            refine wpAnyH_take (i := 10) (v := ?_) (oi := { dst := some 10, op := _, type := _, pos := _, after := _, guard := none }) rfl (by kernel_rfl) (by kernel_rfl) (by kernel_rfl) (fun _ _ _ h => h) (Or.inl ⟨by kernel_rfl, ?_⟩) (by assumption) ?_
            case refine_2 => (intro w9 hSw; clear hSw; go_simp; try with_reducible rfl)
            simp only [Act.put, List.setIfInBounds_toArray, List.set_cons_zero, List.set_cons_succ]
            refine wpAnyH_done (by kernel_rfl) ?_ _
            go_wp2_with fail
            go_meet
            case rel => exact ⟨_, rfl, rfl, hHeld, N8⟩
        ·
          have N9 := hHeld.new 0 0 34
          go_simp
          refine hK.out _ _ (hHeld.alloc _) (fun hHeld2 => ?_)
          clear hK K
          have hHeld0 := hHeld
          clear hHeld
          have hHeld := hHeld2
          clear hHeld2
          refine wpAnyH_ready (rs := [3]) (by kernel_rfl) (by simp) (AllReadyH.cons (o := { dst := some 35, op := _, type := _, pos := _, after := _, guard := none }) rfl (fun K hK => ?_) AllReadyH.nil)
          go_simp
          refine (HY.out _).mono ?_
          rintro e v10 ⟨rfl, hb10⟩
          have N10 := N9.below hb10
          refine hK.out _ _ (hHeld.below hb10) (fun hHeld => ?_)
          clear hK K hb10 N9
          refine wpAnyH_ready (rs := [4]) (by kernel_rfl) (by simp) (AllReadyH.cons (o := { dst := some 36, op := _, type := _, pos := _, after := _, guard := none }) rfl (fun K hK => ?_) AllReadyH.nil)
          go_simp
          refine (DS.out _).mono ?_
          rintro e v11 ⟨rfl, hb11⟩
          have N11 := N10.below hb11
          refine hK.out _ _ (hHeld.below hb11) (fun hHeld => ?_)
          clear hK K hb11 N10
          refine wpAnyH_take (i := 5) (v := ?_) (oi := { dst := some 31, op := _, type := _, pos := _, after := _, guard := none }) rfl (by kernel_rfl) (by kernel_rfl) (by kernel_rfl) (fun _ _ _ h => h) (Or.inl ⟨by kernel_rfl, ?_⟩) (by assumption) ?_
          case refine_2 => (intro w9 hSw; clear hSw; go_simp; try with_reducible rfl)
          simp only [Act.put, List.setIfInBounds_toArray, List.set_cons_zero, List.set_cons_succ]
          refine wpAnyH_take (i := 6) (v := ?_) (oi := { dst := some 37, op := _, type := _, pos := _, after := _, guard := none }) rfl (by kernel_rfl) (by kernel_rfl) (by kernel_rfl) (fun _ _ _ h => h) (Or.inl ⟨by kernel_rfl, ?_⟩) (by assumption) ?_
          case refine_2 => (intro w9 hSw; clear hSw; go_simp; try with_reducible rfl)
          simp only [Act.put, List.setIfInBounds_toArray, List.set_cons_zero, List.set_cons_succ]
          refine wpAnyH_take (i := 7) (v := ?_) (oi := { dst := some 38, op := _, type := _, pos := _, after := _, guard := none }) rfl (by kernel_rfl) (by kernel_rfl) (by kernel_rfl) (fun _ _ _ h => h) (Or.inl ⟨by kernel_rfl, ?_⟩) (by assumption) ?_
          case refine_2 => (intro w9 hSw; clear hSw; go_simp; try with_reducible rfl)
          simp only [Act.put, List.setIfInBounds_toArray, List.set_cons_zero, List.set_cons_succ]
          refine wpAnyH_ready (rs := [9]) (by kernel_rfl) (by simp) (AllReadyH.cons (o := { dst := none, op := _, type := _, pos := _, after := _, guard := none }) rfl (fun K hK => ?_) AllReadyH.nil)
          obtain ⟨⟨ta12, tb12, tc12, td12, te12⟩, _⟩ := id N11
          go_simp
          have N12 := N11.set (cn) (cS)
          refine hK.out _ _ (hHeld.set N11 _ _) (fun hHeld2 => ?_)
          clear hK K hHeld N11 ta12 tb12 tc12 td12 te12
          have hHeld := hHeld2
          clear hHeld2
          refine wpAnyH_take (i := 10) (v := ?_) (oi := { dst := some 10, op := _, type := _, pos := _, after := _, guard := none }) rfl (by kernel_rfl) (by kernel_rfl) (by kernel_rfl) (fun _ _ _ h => h) (Or.inl ⟨by kernel_rfl, ?_⟩) (by assumption) ?_
          case refine_2 => (intro w9 hSw; clear hSw; go_simp; try with_reducible rfl)
          simp only [Act.put, List.setIfInBounds_toArray, List.set_cons_zero, List.set_cons_succ]
          refine wpAnyH_done (by kernel_rfl) ?_ _
          go_wp2_with fail
          go_meet
          case rel => exact ⟨_, rfl, rfl, hHeld, N12⟩
      ·
        have N13 := hHeld.newd 0 0 34
        go_simp
        refine hK.out _ _ (hHeld.alloc _) (fun hHeld2 => ?_)
        clear hK K
        have hHeld0 := hHeld
        clear hHeld
        have hHeld := hHeld2
        clear hHeld2
        refine wpAnyH_ready (rs := [1]) (by kernel_rfl) (by simp) (AllReadyH.cons (o := { dst := some 33, op := _, type := _, pos := _, after := _, guard := none }) rfl (fun K hK => ?_) AllReadyH.nil)
        go_simp
        refine (HX.out _).mono ?_
        rintro e v14 ⟨rfl, hb14⟩
        have N14 := N13.below hb14
        refine hK.out _ _ (hHeld.below hb14) (fun hHeld => ?_)
        clear hK K hb14 N13
        refine wpAnyH_ready (rs := [3]) (by kernel_rfl) (by simp) (AllReadyH.cons (o := { dst := some 35, op := _, type := _, pos := _, after := _, guard := none }) rfl (fun K hK => ?_) AllReadyH.nil)
        go_simp
        refine (HY.out _).mono ?_
        rintro e v15 ⟨rfl, hb15⟩
        have N15 := N14.below hb15
        refine hK.out _ _ (hHeld.below hb15) (fun hHeld => ?_)
        clear hK K hb15 N14
        refine wpAnyH_ready (rs := [4]) (by kernel_rfl) (by simp) (AllReadyH.cons (o := { dst := some 36, op := _, type := _, pos := _, after := _, guard := none }) rfl (fun K hK => ?_) AllReadyH.nil)
        go_simp
        refine (DS.out _).mono ?_
        rintro e v16 ⟨rfl, hb16⟩
        have N16 := N15.below hb16
        refine hK.out _ _ (hHeld.below hb16) (fun hHeld => ?_)
        clear hK K hb16 N15
        refine wpAnyH_take (i := 5) (v := ?_) (oi := { dst := some 31, op := _, type := _, pos := _, after := _, guard := none }) rfl (by kernel_rfl) (by kernel_rfl) (by kernel_rfl) (fun _ _ _ h => h) (Or.inl ⟨by kernel_rfl, ?_⟩) (by assumption) ?_
        case refine_2 => (intro w9 hSw; clear hSw; go_simp; try with_reducible rfl)
        simp only [Act.put, List.setIfInBounds_toArray, List.set_cons_zero, List.set_cons_succ]
        refine wpAnyH_take (i := 6) (v := ?_) (oi := { dst := some 37, op := _, type := _, pos := _, after := _, guard := none }) rfl (by kernel_rfl) (by kernel_rfl) (by kernel_rfl) (fun _ _ _ h => h) (Or.inl ⟨by kernel_rfl, ?_⟩) (by assumption) ?_
        case refine_2 => (intro w9 hSw; clear hSw; go_simp; try with_reducible rfl)
        simp only [Act.put, List.setIfInBounds_toArray, List.set_cons_zero, List.set_cons_succ]
        refine wpAnyH_take (i := 7) (v := ?_) (oi := { dst := some 38, op := _, type := _, pos := _, after := _, guard := none }) rfl (by kernel_rfl) (by kernel_rfl) (by kernel_rfl) (fun _ _ _ h => h) (Or.inl ⟨by kernel_rfl, ?_⟩) (by assumption) ?_
        case refine_2 => (intro w9 hSw; clear hSw; go_simp; try with_reducible rfl)
        simp only [Act.put, List.setIfInBounds_toArray, List.set_cons_zero, List.set_cons_succ]
        refine wpAnyH_ready (rs := [9]) (by kernel_rfl) (by simp) (AllReadyH.cons (o := { dst := none, op := _, type := _, pos := _, after := _, guard := none }) rfl (fun K hK => ?_) AllReadyH.nil)
        obtain ⟨⟨ta17, tb17, tc17, td17, te17⟩, _⟩ := id N16
        go_simp
        have N17 := N16.set (cn) (cS)
        refine hK.out _ _ (hHeld.set N16 _ _) (fun hHeld2 => ?_)
        clear hK K hHeld N16 ta17 tb17 tc17 td17 te17
        have hHeld := hHeld2
        clear hHeld2
        refine wpAnyH_take (i := 10) (v := ?_) (oi := { dst := some 10, op := _, type := _, pos := _, after := _, guard := none }) rfl (by kernel_rfl) (by kernel_rfl) (by kernel_rfl) (fun _ _ _ h => h) (Or.inl ⟨by kernel_rfl, ?_⟩) (by assumption) ?_
        case refine_2 => (intro w9 hSw; clear hSw; go_simp; try with_reducible rfl)
        simp only [Act.put, List.setIfInBounds_toArray, List.set_cons_zero, List.set_cons_succ]
        refine wpAnyH_done (by kernel_rfl) ?_ _
        go_wp2_with fail
        go_meet
        case rel => exact ⟨_, rfl, rfl, hHeld, N17⟩
    case rest =>
      clear K4
      obtain ⟨b4, rfl, rfl, L4, N4⟩ := hcut
      have M4 := L4.more N4
      clear L4 N4
      obtain ⟨qa0, qb0, qc0, qd0, qe0⟩ := M4.2 (b4, cn, cS) (by simp)
      obtain ⟨qa1, qb1, qc1, qd1, qe1⟩ := M4.2 (V2.heap.size, an, aS) (by simp)
      obtain ⟨qa2, qb2, qc2, qd2, qe2⟩ := M4.2 (b1, an, aS) (by simp)
      obtain ⟨qa3, qb3, qc3, qd3, qe3⟩ := M4.2 (w.heap.size, xn, xs) (by simp)
      obtain ⟨qa4, qb4, qc4, qd4, qe4⟩ := M4.2 (w.heap.size + 1, yn, ys) (by simp)
      go_wp2_with fail
      refine (ES.out _).mono ?_
      rintro e V5 ⟨rfl, hb⟩
      have K5 := M4.below hb
      clear hb M4
      clear qa0 qb0 qc0 qd0 qe0
      clear qa1 qb1 qc1 qd1 qe1
      clear qa2 qb2 qc2 qd2 qe2
      clear qa3 qb3 qc3 qd3 qe3
      clear qa4 qb4 qc4 qd4 qe4
      have N6 := K5.new (cn) (cS) 33
      have M6 := (K5.alloc (.cells #[.int .i64 (cn), .int .i64 (cS)] 33)).more N6
      clear N6 K5
      go_wp2_with fail
      refine gen_world (LS w [(V5.heap.size, cn, cS), (b4, cn, cS), (V2.heap.size, an, aS), (b1, an, aS), (w.heap.size, xn, xs), (w.heap.size + 1, yn, ys)]) M6 ?_
      clear M6
      rintro W7 K7
      go_cut [13, 14] from 45 to 52 (fun p e wx => ∃ b, p = .pointer (some ⟨b, 0, none⟩) ∧ e = .int .i64 (pe) ∧ LS w [(V5.heap.size, cn, cS), (b4, cn, cS), (V2.heap.size, an, aS), (b1, an, aS), (w.heap.size, xn, xs), (w.heap.size + 1, yn, ys)] wx ∧ NB w [(V5.heap.size, cn, cS), (b4, cn, cS), (V2.heap.size, an, aS), (b1, an, aS), (w.heap.size, xn, xs), (w.heap.size + 1, yn, ys)] b (pn) (pS) wx)
      case first =>
        refine wp_region_held_drew (S := LS w [(V5.heap.size, cn, cS), (b4, cn, cS), (V2.heap.size, an, aS), (b1, an, aS), (w.heap.size, xn, xs), (w.heap.size + 1, yn, ys)]) (by kernel_rfl) K7.drew (fun hHeld => ?_)
        refine wpAnyH_take (i := 0) (v := ?_) (oi := { dst := some 46, op := _, type := _, pos := _, after := _, guard := none }) rfl (by kernel_rfl) (by kernel_rfl) (by kernel_rfl) (fun _ _ _ h => h) (Or.inl ⟨by kernel_rfl, ?_⟩) (by assumption) ?_
        case refine_2 => (intro w9 hSw; obtain ⟨sa0, sb0, sc0, sd0, se0⟩ := hSw.2 (V5.heap.size, cn, cS) (by simp); obtain ⟨sa1, sb1, sc1, sd1, se1⟩ := hSw.2 (b4, cn, cS) (by simp); obtain ⟨sa2, sb2, sc2, sd2, se2⟩ := hSw.2 (V2.heap.size, an, aS) (by simp); obtain ⟨sa3, sb3, sc3, sd3, se3⟩ := hSw.2 (b1, an, aS) (by simp); obtain ⟨sa4, sb4, sc4, sd4, se4⟩ := hSw.2 (w.heap.size, xn, xs) (by simp); obtain ⟨sa5, sb5, sc5, sd5, se5⟩ := hSw.2 (w.heap.size + 1, yn, ys) (by simp); clear hSw; go_simp; try with_reducible rfl)
        simp only [Act.put, List.setIfInBounds_toArray, List.set_cons_zero, List.set_cons_succ]
        refine wpAnyH_take (i := 2) (v := ?_) (oi := { dst := some 48, op := _, type := _, pos := _, after := _, guard := none }) rfl (by kernel_rfl) (by kernel_rfl) (by kernel_rfl) (fun _ _ _ h => h) (Or.inl ⟨by kernel_rfl, ?_⟩) (by assumption) ?_
        case refine_2 => (intro w9 hSw; obtain ⟨sa0, sb0, sc0, sd0, se0⟩ := hSw.2 (V5.heap.size, cn, cS) (by simp); obtain ⟨sa1, sb1, sc1, sd1, se1⟩ := hSw.2 (b4, cn, cS) (by simp); obtain ⟨sa2, sb2, sc2, sd2, se2⟩ := hSw.2 (V2.heap.size, an, aS) (by simp); obtain ⟨sa3, sb3, sc3, sd3, se3⟩ := hSw.2 (b1, an, aS) (by simp); obtain ⟨sa4, sb4, sc4, sd4, se4⟩ := hSw.2 (w.heap.size, xn, xs) (by simp); obtain ⟨sa5, sb5, sc5, sd5, se5⟩ := hSw.2 (w.heap.size + 1, yn, ys) (by simp); clear hSw; go_simp; try with_reducible rfl)
        simp only [Act.put, List.setIfInBounds_toArray, List.set_cons_zero, List.set_cons_succ]
        refine wpAnyH_ready (rs := [1, 8]) (by kernel_rfl) (by simp) (AllReadyH.cons (o := { dst := some 47, op := _, type := _, pos := _, after := _, guard := none }) rfl (fun K hK => ?_) (AllReadyH.cons (o := { dst := some 13, op := _, type := _, pos := _, after := _, guard := none }) rfl (fun K hK => ?_) AllReadyH.nil))
        ·
          go_simp
          refine (HX.out _).mono ?_
          rintro e v1 ⟨rfl, hb1⟩
          refine hK.out _ _ (hHeld.below hb1) (fun hHeld => ?_)
          clear hK K hb1
          refine wpAnyH_ready (rs := [3, 8]) (by kernel_rfl) (by simp) (AllReadyH.cons (o := { dst := some 49, op := _, type := _, pos := _, after := _, guard := none }) rfl (fun K hK => ?_) (AllReadyH.cons (o := { dst := some 13, op := _, type := _, pos := _, after := _, guard := none }) rfl (fun K hK => ?_) AllReadyH.nil))
          ·
            go_simp
            refine (HY.out _).mono ?_
            rintro e v2 ⟨rfl, hb2⟩
            refine hK.out _ _ (hHeld.below hb2) (fun hHeld => ?_)
            clear hK K hb2
            refine wpAnyH_ready (rs := [4, 8]) (by kernel_rfl) (by simp) (AllReadyH.cons (o := { dst := some 50, op := _, type := _, pos := _, after := _, guard := none }) rfl (fun K hK => ?_) (AllReadyH.cons (o := { dst := some 13, op := _, type := _, pos := _, after := _, guard := none }) rfl (fun K hK => ?_) AllReadyH.nil))
            ·
              go_simp
              refine (DM.out _).mono ?_
              rintro e v3 ⟨rfl, hb3⟩
              refine hK.out _ _ (hHeld.below hb3) (fun hHeld => ?_)
              clear hK K hb3
              refine wpAnyH_take (i := 5) (v := ?_) (oi := { dst := some 45, op := _, type := _, pos := _, after := _, guard := none }) rfl (by kernel_rfl) (by kernel_rfl) (by kernel_rfl) (fun _ _ _ h => h) (Or.inl ⟨by kernel_rfl, ?_⟩) (by assumption) ?_
              case refine_2 => (intro w9 hSw; clear hSw; go_simp; try with_reducible rfl)
              simp only [Act.put, List.setIfInBounds_toArray, List.set_cons_zero, List.set_cons_succ]
              refine wpAnyH_take (i := 6) (v := ?_) (oi := { dst := some 51, op := _, type := _, pos := _, after := _, guard := none }) rfl (by kernel_rfl) (by kernel_rfl) (by kernel_rfl) (fun _ _ _ h => h) (Or.inl ⟨by kernel_rfl, ?_⟩) (by assumption) ?_
              case refine_2 => (intro w9 hSw; clear hSw; go_simp; try with_reducible rfl)
              simp only [Act.put, List.setIfInBounds_toArray, List.set_cons_zero, List.set_cons_succ]
              refine wpAnyH_take (i := 7) (v := ?_) (oi := { dst := some 52, op := _, type := _, pos := _, after := _, guard := none }) rfl (by kernel_rfl) (by kernel_rfl) (by kernel_rfl) (fun _ _ _ h => h) (Or.inl ⟨by kernel_rfl, ?_⟩) (by assumption) ?_
              case refine_2 => (intro w9 hSw; clear hSw; go_simp; try with_reducible rfl)
              simp only [Act.put, List.setIfInBounds_toArray, List.set_cons_zero, List.set_cons_succ]
              refine wpAnyH_ready (rs := [8]) (by kernel_rfl) (by simp) (AllReadyH.cons (o := { dst := some 13, op := _, type := _, pos := _, after := _, guard := none }) rfl (fun K hK => ?_) AllReadyH.nil)
              have N4 := hHeld.new 0 0 34
              go_simp
              refine hK.out _ _ (hHeld.alloc _) (fun hHeld2 => ?_)
              clear hK K
              have hHeld0 := hHeld
              clear hHeld
              have hHeld := hHeld2
              clear hHeld2
              refine wpAnyH_ready (rs := [9]) (by kernel_rfl) (by simp) (AllReadyH.cons (o := { dst := none, op := _, type := _, pos := _, after := _, guard := none }) rfl (fun K hK => ?_) AllReadyH.nil)
              go_simp
              have N5 := hHeld0.new (pn) (pS) 34
              refine hK.out _ _ (hHeld0.alloc _) (fun hHeld2 => ?_)
              clear hK K hHeld hHeld0 N4
              have hHeld := hHeld2
              clear hHeld2
              refine wpAnyH_take (i := 10) (v := ?_) (oi := { dst := some 14, op := _, type := _, pos := _, after := _, guard := none }) rfl (by kernel_rfl) (by kernel_rfl) (by kernel_rfl) (fun _ _ _ h => h) (Or.inl ⟨by kernel_rfl, ?_⟩) (by assumption) ?_
              case refine_2 => (intro w9 hSw; clear hSw; go_simp; try with_reducible rfl)
              simp only [Act.put, List.setIfInBounds_toArray, List.set_cons_zero, List.set_cons_succ]
              refine wpAnyH_done (by kernel_rfl) ?_ _
              go_wp2_with fail
              go_meet
              case rel => exact ⟨_, rfl, rfl, hHeld, N5⟩
            ·
              have N6 := hHeld.new 0 0 34
              go_simp
              refine hK.out _ _ (hHeld.alloc _) (fun hHeld2 => ?_)
              clear hK K
              have hHeld0 := hHeld
              clear hHeld
              have hHeld := hHeld2
              clear hHeld2
              refine wpAnyH_ready (rs := [4]) (by kernel_rfl) (by simp) (AllReadyH.cons (o := { dst := some 50, op := _, type := _, pos := _, after := _, guard := none }) rfl (fun K hK => ?_) AllReadyH.nil)
              go_simp
              refine (DM.out _).mono ?_
              rintro e v7 ⟨rfl, hb7⟩
              have N7 := N6.below hb7
              refine hK.out _ _ (hHeld.below hb7) (fun hHeld => ?_)
              clear hK K hb7 N6
              refine wpAnyH_take (i := 5) (v := ?_) (oi := { dst := some 45, op := _, type := _, pos := _, after := _, guard := none }) rfl (by kernel_rfl) (by kernel_rfl) (by kernel_rfl) (fun _ _ _ h => h) (Or.inl ⟨by kernel_rfl, ?_⟩) (by assumption) ?_
              case refine_2 => (intro w9 hSw; clear hSw; go_simp; try with_reducible rfl)
              simp only [Act.put, List.setIfInBounds_toArray, List.set_cons_zero, List.set_cons_succ]
              refine wpAnyH_take (i := 6) (v := ?_) (oi := { dst := some 51, op := _, type := _, pos := _, after := _, guard := none }) rfl (by kernel_rfl) (by kernel_rfl) (by kernel_rfl) (fun _ _ _ h => h) (Or.inl ⟨by kernel_rfl, ?_⟩) (by assumption) ?_
              case refine_2 => (intro w9 hSw; clear hSw; go_simp; try with_reducible rfl)
              simp only [Act.put, List.setIfInBounds_toArray, List.set_cons_zero, List.set_cons_succ]
              refine wpAnyH_take (i := 7) (v := ?_) (oi := { dst := some 52, op := _, type := _, pos := _, after := _, guard := none }) rfl (by kernel_rfl) (by kernel_rfl) (by kernel_rfl) (fun _ _ _ h => h) (Or.inl ⟨by kernel_rfl, ?_⟩) (by assumption) ?_
              case refine_2 => (intro w9 hSw; clear hSw; go_simp; try with_reducible rfl)
              simp only [Act.put, List.setIfInBounds_toArray, List.set_cons_zero, List.set_cons_succ]
              refine wpAnyH_ready (rs := [9]) (by kernel_rfl) (by simp) (AllReadyH.cons (o := { dst := none, op := _, type := _, pos := _, after := _, guard := none }) rfl (fun K hK => ?_) AllReadyH.nil)
              obtain ⟨⟨ta8, tb8, tc8, td8, te8⟩, _⟩ := id N7
              go_simp
              have N8 := N7.set (pn) (pS)
              refine hK.out _ _ (hHeld.set N7 _ _) (fun hHeld2 => ?_)
              clear hK K hHeld N7 ta8 tb8 tc8 td8 te8
              have hHeld := hHeld2
              clear hHeld2
              refine wpAnyH_take (i := 10) (v := ?_) (oi := { dst := some 14, op := _, type := _, pos := _, after := _, guard := none }) rfl (by kernel_rfl) (by kernel_rfl) (by kernel_rfl) (fun _ _ _ h => h) (Or.inl ⟨by kernel_rfl, ?_⟩) (by assumption) ?_
              case refine_2 => (intro w9 hSw; clear hSw; go_simp; try with_reducible rfl)
              simp only [Act.put, List.setIfInBounds_toArray, List.set_cons_zero, List.set_cons_succ]
              refine wpAnyH_done (by kernel_rfl) ?_ _
              go_wp2_with fail
              go_meet
              case rel => exact ⟨_, rfl, rfl, hHeld, N8⟩
          ·
            have N9 := hHeld.new 0 0 34
            go_simp
            refine hK.out _ _ (hHeld.alloc _) (fun hHeld2 => ?_)
            clear hK K
            have hHeld0 := hHeld
            clear hHeld
            have hHeld := hHeld2
            clear hHeld2
            refine wpAnyH_ready (rs := [3]) (by kernel_rfl) (by simp) (AllReadyH.cons (o := { dst := some 49, op := _, type := _, pos := _, after := _, guard := none }) rfl (fun K hK => ?_) AllReadyH.nil)
            go_simp
            refine (HY.out _).mono ?_
            rintro e v10 ⟨rfl, hb10⟩
            have N10 := N9.below hb10
            refine hK.out _ _ (hHeld.below hb10) (fun hHeld => ?_)
            clear hK K hb10 N9
            refine wpAnyH_ready (rs := [4]) (by kernel_rfl) (by simp) (AllReadyH.cons (o := { dst := some 50, op := _, type := _, pos := _, after := _, guard := none }) rfl (fun K hK => ?_) AllReadyH.nil)
            go_simp
            refine (DM.out _).mono ?_
            rintro e v11 ⟨rfl, hb11⟩
            have N11 := N10.below hb11
            refine hK.out _ _ (hHeld.below hb11) (fun hHeld => ?_)
            clear hK K hb11 N10
            refine wpAnyH_take (i := 5) (v := ?_) (oi := { dst := some 45, op := _, type := _, pos := _, after := _, guard := none }) rfl (by kernel_rfl) (by kernel_rfl) (by kernel_rfl) (fun _ _ _ h => h) (Or.inl ⟨by kernel_rfl, ?_⟩) (by assumption) ?_
            case refine_2 => (intro w9 hSw; clear hSw; go_simp; try with_reducible rfl)
            simp only [Act.put, List.setIfInBounds_toArray, List.set_cons_zero, List.set_cons_succ]
            refine wpAnyH_take (i := 6) (v := ?_) (oi := { dst := some 51, op := _, type := _, pos := _, after := _, guard := none }) rfl (by kernel_rfl) (by kernel_rfl) (by kernel_rfl) (fun _ _ _ h => h) (Or.inl ⟨by kernel_rfl, ?_⟩) (by assumption) ?_
            case refine_2 => (intro w9 hSw; clear hSw; go_simp; try with_reducible rfl)
            simp only [Act.put, List.setIfInBounds_toArray, List.set_cons_zero, List.set_cons_succ]
            refine wpAnyH_take (i := 7) (v := ?_) (oi := { dst := some 52, op := _, type := _, pos := _, after := _, guard := none }) rfl (by kernel_rfl) (by kernel_rfl) (by kernel_rfl) (fun _ _ _ h => h) (Or.inl ⟨by kernel_rfl, ?_⟩) (by assumption) ?_
            case refine_2 => (intro w9 hSw; clear hSw; go_simp; try with_reducible rfl)
            simp only [Act.put, List.setIfInBounds_toArray, List.set_cons_zero, List.set_cons_succ]
            refine wpAnyH_ready (rs := [9]) (by kernel_rfl) (by simp) (AllReadyH.cons (o := { dst := none, op := _, type := _, pos := _, after := _, guard := none }) rfl (fun K hK => ?_) AllReadyH.nil)
            obtain ⟨⟨ta12, tb12, tc12, td12, te12⟩, _⟩ := id N11
            go_simp
            have N12 := N11.set (pn) (pS)
            refine hK.out _ _ (hHeld.set N11 _ _) (fun hHeld2 => ?_)
            clear hK K hHeld N11 ta12 tb12 tc12 td12 te12
            have hHeld := hHeld2
            clear hHeld2
            refine wpAnyH_take (i := 10) (v := ?_) (oi := { dst := some 14, op := _, type := _, pos := _, after := _, guard := none }) rfl (by kernel_rfl) (by kernel_rfl) (by kernel_rfl) (fun _ _ _ h => h) (Or.inl ⟨by kernel_rfl, ?_⟩) (by assumption) ?_
            case refine_2 => (intro w9 hSw; clear hSw; go_simp; try with_reducible rfl)
            simp only [Act.put, List.setIfInBounds_toArray, List.set_cons_zero, List.set_cons_succ]
            refine wpAnyH_done (by kernel_rfl) ?_ _
            go_wp2_with fail
            go_meet
            case rel => exact ⟨_, rfl, rfl, hHeld, N12⟩
        ·
          have N13 := hHeld.newd 0 0 34
          go_simp
          refine hK.out _ _ (hHeld.alloc _) (fun hHeld2 => ?_)
          clear hK K
          have hHeld0 := hHeld
          clear hHeld
          have hHeld := hHeld2
          clear hHeld2
          refine wpAnyH_ready (rs := [1]) (by kernel_rfl) (by simp) (AllReadyH.cons (o := { dst := some 47, op := _, type := _, pos := _, after := _, guard := none }) rfl (fun K hK => ?_) AllReadyH.nil)
          go_simp
          refine (HX.out _).mono ?_
          rintro e v14 ⟨rfl, hb14⟩
          have N14 := N13.below hb14
          refine hK.out _ _ (hHeld.below hb14) (fun hHeld => ?_)
          clear hK K hb14 N13
          refine wpAnyH_ready (rs := [3]) (by kernel_rfl) (by simp) (AllReadyH.cons (o := { dst := some 49, op := _, type := _, pos := _, after := _, guard := none }) rfl (fun K hK => ?_) AllReadyH.nil)
          go_simp
          refine (HY.out _).mono ?_
          rintro e v15 ⟨rfl, hb15⟩
          have N15 := N14.below hb15
          refine hK.out _ _ (hHeld.below hb15) (fun hHeld => ?_)
          clear hK K hb15 N14
          refine wpAnyH_ready (rs := [4]) (by kernel_rfl) (by simp) (AllReadyH.cons (o := { dst := some 50, op := _, type := _, pos := _, after := _, guard := none }) rfl (fun K hK => ?_) AllReadyH.nil)
          go_simp
          refine (DM.out _).mono ?_
          rintro e v16 ⟨rfl, hb16⟩
          have N16 := N15.below hb16
          refine hK.out _ _ (hHeld.below hb16) (fun hHeld => ?_)
          clear hK K hb16 N15
          refine wpAnyH_take (i := 5) (v := ?_) (oi := { dst := some 45, op := _, type := _, pos := _, after := _, guard := none }) rfl (by kernel_rfl) (by kernel_rfl) (by kernel_rfl) (fun _ _ _ h => h) (Or.inl ⟨by kernel_rfl, ?_⟩) (by assumption) ?_
          case refine_2 => (intro w9 hSw; clear hSw; go_simp; try with_reducible rfl)
          simp only [Act.put, List.setIfInBounds_toArray, List.set_cons_zero, List.set_cons_succ]
          refine wpAnyH_take (i := 6) (v := ?_) (oi := { dst := some 51, op := _, type := _, pos := _, after := _, guard := none }) rfl (by kernel_rfl) (by kernel_rfl) (by kernel_rfl) (fun _ _ _ h => h) (Or.inl ⟨by kernel_rfl, ?_⟩) (by assumption) ?_
          case refine_2 => (intro w9 hSw; clear hSw; go_simp; try with_reducible rfl)
          simp only [Act.put, List.setIfInBounds_toArray, List.set_cons_zero, List.set_cons_succ]
          refine wpAnyH_take (i := 7) (v := ?_) (oi := { dst := some 52, op := _, type := _, pos := _, after := _, guard := none }) rfl (by kernel_rfl) (by kernel_rfl) (by kernel_rfl) (fun _ _ _ h => h) (Or.inl ⟨by kernel_rfl, ?_⟩) (by assumption) ?_
          case refine_2 => (intro w9 hSw; clear hSw; go_simp; try with_reducible rfl)
          simp only [Act.put, List.setIfInBounds_toArray, List.set_cons_zero, List.set_cons_succ]
          refine wpAnyH_ready (rs := [9]) (by kernel_rfl) (by simp) (AllReadyH.cons (o := { dst := none, op := _, type := _, pos := _, after := _, guard := none }) rfl (fun K hK => ?_) AllReadyH.nil)
          obtain ⟨⟨ta17, tb17, tc17, td17, te17⟩, _⟩ := id N16
          go_simp
          have N17 := N16.set (pn) (pS)
          refine hK.out _ _ (hHeld.set N16 _ _) (fun hHeld2 => ?_)
          clear hK K hHeld N16 ta17 tb17 tc17 td17 te17
          have hHeld := hHeld2
          clear hHeld2
          refine wpAnyH_take (i := 10) (v := ?_) (oi := { dst := some 14, op := _, type := _, pos := _, after := _, guard := none }) rfl (by kernel_rfl) (by kernel_rfl) (by kernel_rfl) (fun _ _ _ h => h) (Or.inl ⟨by kernel_rfl, ?_⟩) (by assumption) ?_
          case refine_2 => (intro w9 hSw; clear hSw; go_simp; try with_reducible rfl)
          simp only [Act.put, List.setIfInBounds_toArray, List.set_cons_zero, List.set_cons_succ]
          refine wpAnyH_done (by kernel_rfl) ?_ _
          go_wp2_with fail
          go_meet
          case rel => exact ⟨_, rfl, rfl, hHeld, N17⟩
      case rest =>
        clear K7
        obtain ⟨b7, rfl, rfl, L7, N7⟩ := hcut
        have M7 := L7.more N7
        clear L7 N7
        obtain ⟨qa0, qb0, qc0, qd0, qe0⟩ := M7.2 (b7, pn, pS) (by simp)
        obtain ⟨qa1, qb1, qc1, qd1, qe1⟩ := M7.2 (V5.heap.size, cn, cS) (by simp)
        obtain ⟨qa2, qb2, qc2, qd2, qe2⟩ := M7.2 (b4, cn, cS) (by simp)
        obtain ⟨qa3, qb3, qc3, qd3, qe3⟩ := M7.2 (V2.heap.size, an, aS) (by simp)
        obtain ⟨qa4, qb4, qc4, qd4, qe4⟩ := M7.2 (b1, an, aS) (by simp)
        obtain ⟨qa5, qb5, qc5, qd5, qe5⟩ := M7.2 (w.heap.size, xn, xs) (by simp)
        obtain ⟨qa6, qb6, qc6, qd6, qe6⟩ := M7.2 (w.heap.size + 1, yn, ys) (by simp)
        go_wp2_with fail
        refine (EM.out _).mono ?_
        rintro e V8 ⟨rfl, hb⟩
        have K8 := M7.below hb
        clear hb M7
        clear qa0 qb0 qc0 qd0 qe0
        clear qa1 qb1 qc1 qd1 qe1
        clear qa2 qb2 qc2 qd2 qe2
        clear qa3 qb3 qc3 qd3 qe3
        clear qa4 qb4 qc4 qd4 qe4
        clear qa5 qb5 qc5 qd5 qe5
        clear qa6 qb6 qc6 qd6 qe6
        have N9 := K8.new (pn) (pS) 33
        have M9 := (K8.alloc (.cells #[.int .i64 (pn), .int .i64 (pS)] 33)).more N9
        clear N9 K8
        go_wp2_with fail
        refine gen_world (LS w [(V8.heap.size, pn, pS), (b7, pn, pS), (V5.heap.size, cn, cS), (b4, cn, cS), (V2.heap.size, an, aS), (b1, an, aS), (w.heap.size, xn, xs), (w.heap.size + 1, yn, ys)]) M9 ?_
        clear M9
        rintro W10 K10
        refine wp_region_held_drew (S := LS w [(V8.heap.size, pn, pS), (b7, pn, pS), (V5.heap.size, cn, cS), (b4, cn, cS), (V2.heap.size, an, aS), (b1, an, aS), (w.heap.size, xn, xs), (w.heap.size + 1, yn, ys)]) (by kernel_rfl) K10.drew (fun hHeld => ?_)
        refine wpAnyH_take (i := 0) (v := ?_) (oi := { dst := some 59, op := _, type := _, pos := _, after := _, guard := none }) rfl (by kernel_rfl) (by kernel_rfl) (by kernel_rfl) (fun _ _ _ h => h) (Or.inl ⟨by kernel_rfl, ?_⟩) (by assumption) ?_
        case refine_2 => (intro w9 hSw; obtain ⟨sa0, sb0, sc0, sd0, se0⟩ := hSw.2 (V8.heap.size, pn, pS) (by simp); obtain ⟨sa1, sb1, sc1, sd1, se1⟩ := hSw.2 (b7, pn, pS) (by simp); obtain ⟨sa2, sb2, sc2, sd2, se2⟩ := hSw.2 (V5.heap.size, cn, cS) (by simp); obtain ⟨sa3, sb3, sc3, sd3, se3⟩ := hSw.2 (b4, cn, cS) (by simp); obtain ⟨sa4, sb4, sc4, sd4, se4⟩ := hSw.2 (V2.heap.size, an, aS) (by simp); obtain ⟨sa5, sb5, sc5, sd5, se5⟩ := hSw.2 (b1, an, aS) (by simp); obtain ⟨sa6, sb6, sc6, sd6, se6⟩ := hSw.2 (w.heap.size, xn, xs) (by simp); obtain ⟨sa7, sb7, sc7, sd7, se7⟩ := hSw.2 (w.heap.size + 1, yn, ys) (by simp); clear hSw; go_simp; try with_reducible rfl)
        simp only [Act.put, List.setIfInBounds_toArray, List.set_cons_zero, List.set_cons_succ]
        refine wpAnyH_take (i := 2) (v := ?_) (oi := { dst := some 61, op := _, type := _, pos := _, after := _, guard := none }) rfl (by kernel_rfl) (by kernel_rfl) (by kernel_rfl) (fun _ _ _ h => h) (Or.inl ⟨by kernel_rfl, ?_⟩) (by assumption) ?_
        case refine_2 => (intro w9 hSw; obtain ⟨sa0, sb0, sc0, sd0, se0⟩ := hSw.2 (V8.heap.size, pn, pS) (by simp); obtain ⟨sa1, sb1, sc1, sd1, se1⟩ := hSw.2 (b7, pn, pS) (by simp); obtain ⟨sa2, sb2, sc2, sd2, se2⟩ := hSw.2 (V5.heap.size, cn, cS) (by simp); obtain ⟨sa3, sb3, sc3, sd3, se3⟩ := hSw.2 (b4, cn, cS) (by simp); obtain ⟨sa4, sb4, sc4, sd4, se4⟩ := hSw.2 (V2.heap.size, an, aS) (by simp); obtain ⟨sa5, sb5, sc5, sd5, se5⟩ := hSw.2 (b1, an, aS) (by simp); obtain ⟨sa6, sb6, sc6, sd6, se6⟩ := hSw.2 (w.heap.size, xn, xs) (by simp); obtain ⟨sa7, sb7, sc7, sd7, se7⟩ := hSw.2 (w.heap.size + 1, yn, ys) (by simp); clear hSw; go_simp; try with_reducible rfl)
        simp only [Act.put, List.setIfInBounds_toArray, List.set_cons_zero, List.set_cons_succ]
        refine wpAnyH_ready (rs := [1]) (by kernel_rfl) (by simp) (AllReadyH.cons (o := { dst := some 60, op := _, type := _, pos := _, after := _, guard := none }) rfl (fun K hK => ?_) AllReadyH.nil)
        go_simp
        refine (TA.out _).mono ?_
        rintro e v1 ⟨rfl, hb1⟩
        refine hK.out _ _ (hHeld.below hb1) (fun hHeld => ?_)
        clear hK K hb1
        refine wpAnyH_take (i := 3) (v := ?_) (oi := { dst := some 62, op := _, type := _, pos := _, after := _, guard := none }) rfl (by kernel_rfl) (by kernel_rfl) (by kernel_rfl) (fun _ _ _ h => h) (Or.inl ⟨by kernel_rfl, ?_⟩) (by assumption) ?_
        case refine_2 => (intro w9 hSw; clear hSw; go_simp; try with_reducible rfl)
        simp only [Act.put, List.setIfInBounds_toArray, List.set_cons_zero, List.set_cons_succ]
        refine wpAnyH_take (i := 4) (v := ?_) (oi := { dst := some 63, op := _, type := _, pos := _, after := _, guard := none }) rfl (by kernel_rfl) (by kernel_rfl) (by kernel_rfl) (fun _ _ _ h => h) (Or.inl ⟨by kernel_rfl, ?_⟩) (by assumption) ?_
        case refine_2 => (intro w9 hSw; clear hSw; go_simp; try with_reducible rfl)
        simp only [Act.put, List.setIfInBounds_toArray, List.set_cons_zero, List.set_cons_succ]
        refine wpAnyH_take (i := 5) (v := ?_) (oi := { dst := some 64, op := _, type := _, pos := _, after := _, guard := some (4, true) }) rfl (by kernel_rfl) (by kernel_rfl) (by kernel_rfl) (fun _ _ _ h => h) (Or.inl ⟨by kernel_rfl, ?_⟩) (by assumption) ?_
        case refine_2 => (intro w9 hSw; clear hSw; go_simp; try with_reducible rfl)
        simp only [Act.put, List.setIfInBounds_toArray, List.set_cons_zero, List.set_cons_succ]
        refine wpAnyH_take (i := 6) (v := ?_) (oi := { dst := some 65, op := _, type := _, pos := _, after := _, guard := some (4, true) }) rfl (by kernel_rfl) (by kernel_rfl) (by kernel_rfl) (fun _ _ _ h => h) (Or.inl ⟨by kernel_rfl, ?_⟩) (by assumption) ?_
        case refine_2 => (intro w9 hSw; clear hSw; go_simp; try with_reducible rfl)
        simp only [Act.put, List.setIfInBounds_toArray, List.set_cons_zero, List.set_cons_succ]
        refine wpAnyH_take (i := 7) (v := ?_) (oi := { dst := some 66, op := _, type := _, pos := _, after := _, guard := some (4, true) }) rfl (by kernel_rfl) (by kernel_rfl) (by kernel_rfl) (fun _ _ _ h => h) (Or.inl ⟨by kernel_rfl, ?_⟩) (by assumption) ?_
        case refine_2 => (intro w9 hSw; clear hSw; go_simp; try with_reducible rfl)
        simp only [Act.put, List.setIfInBounds_toArray, List.set_cons_zero, List.set_cons_succ]
        refine wpAnyH_take (i := 8) (v := ?_) (oi := { dst := some 67, op := _, type := _, pos := _, after := _, guard := none }) rfl (by kernel_rfl) (by kernel_rfl) (by kernel_rfl) (fun _ _ _ h => h) (Or.inl ⟨by kernel_rfl, ?_⟩) (by assumption) ?_
        case refine_2 => (intro w9 hSw; clear hSw; go_simp; try with_reducible rfl)
        simp only [Act.put, List.setIfInBounds_toArray, List.set_cons_zero, List.set_cons_succ]
        refine wpAnyH_take (i := 9) (v := ?_) (oi := { dst := some 68, op := _, type := _, pos := _, after := _, guard := none }) rfl (by kernel_rfl) (by kernel_rfl) (by kernel_rfl) (fun _ _ _ h => h) (Or.inl ⟨by kernel_rfl, ?_⟩) (by assumption) ?_
        case refine_2 => (intro w9 hSw; clear hSw; go_simp; try with_reducible rfl)
        simp only [Act.put, List.setIfInBounds_toArray, List.set_cons_zero, List.set_cons_succ]
        refine wpAnyH_take (i := 10) (v := ?_) (oi := { dst := some 69, op := _, type := _, pos := _, after := _, guard := some (9, true) }) rfl (by kernel_rfl) (by kernel_rfl) (by kernel_rfl) (fun _ _ _ h => h) (Or.inl ⟨by kernel_rfl, ?_⟩) (by assumption) ?_
        case refine_2 => (intro w9 hSw; obtain ⟨sa0, sb0, sc0, sd0, se0⟩ := hSw.2 (V8.heap.size, pn, pS) (by simp); obtain ⟨sa1, sb1, sc1, sd1, se1⟩ := hSw.2 (b7, pn, pS) (by simp); obtain ⟨sa2, sb2, sc2, sd2, se2⟩ := hSw.2 (V5.heap.size, cn, cS) (by simp); obtain ⟨sa3, sb3, sc3, sd3, se3⟩ := hSw.2 (b4, cn, cS) (by simp); obtain ⟨sa4, sb4, sc4, sd4, se4⟩ := hSw.2 (V2.heap.size, an, aS) (by simp); obtain ⟨sa5, sb5, sc5, sd5, se5⟩ := hSw.2 (b1, an, aS) (by simp); obtain ⟨sa6, sb6, sc6, sd6, se6⟩ := hSw.2 (w.heap.size, xn, xs) (by simp); obtain ⟨sa7, sb7, sc7, sd7, se7⟩ := hSw.2 (w.heap.size + 1, yn, ys) (by simp); clear hSw; go_simp; try with_reducible rfl)
        simp only [Act.put, List.setIfInBounds_toArray, List.set_cons_zero, List.set_cons_succ]
        refine wpAnyH_take (i := 12) (v := ?_) (oi := { dst := some 71, op := _, type := _, pos := _, after := _, guard := some (9, true) }) rfl (by kernel_rfl) (by kernel_rfl) (by kernel_rfl) (fun _ _ _ h => h) (Or.inl ⟨by kernel_rfl, ?_⟩) (by assumption) ?_
        case refine_2 => (intro w9 hSw; obtain ⟨sa0, sb0, sc0, sd0, se0⟩ := hSw.2 (V8.heap.size, pn, pS) (by simp); obtain ⟨sa1, sb1, sc1, sd1, se1⟩ := hSw.2 (b7, pn, pS) (by simp); obtain ⟨sa2, sb2, sc2, sd2, se2⟩ := hSw.2 (V5.heap.size, cn, cS) (by simp); obtain ⟨sa3, sb3, sc3, sd3, se3⟩ := hSw.2 (b4, cn, cS) (by simp); obtain ⟨sa4, sb4, sc4, sd4, se4⟩ := hSw.2 (V2.heap.size, an, aS) (by simp); obtain ⟨sa5, sb5, sc5, sd5, se5⟩ := hSw.2 (b1, an, aS) (by simp); obtain ⟨sa6, sb6, sc6, sd6, se6⟩ := hSw.2 (w.heap.size, xn, xs) (by simp); obtain ⟨sa7, sb7, sc7, sd7, se7⟩ := hSw.2 (w.heap.size + 1, yn, ys) (by simp); clear hSw; go_simp; try with_reducible rfl)
        simp only [Act.put, List.setIfInBounds_toArray, List.set_cons_zero, List.set_cons_succ]
        refine wpAnyH_ready (rs := [11]) (by kernel_rfl) (by simp) (AllReadyH.cons (o := { dst := some 70, op := _, type := _, pos := _, after := _, guard := some (9, true) }) rfl (fun K hK => ?_) AllReadyH.nil)
        go_simp
        refine (TC.out _).mono ?_
        rintro e v2 ⟨rfl, hb2⟩
        refine hK.out _ _ (hHeld.below hb2) (fun hHeld => ?_)
        clear hK K hb2
        refine wpAnyH_take (i := 13) (v := ?_) (oi := { dst := some 72, op := _, type := _, pos := _, after := _, guard := some (9, true) }) rfl (by kernel_rfl) (by kernel_rfl) (by kernel_rfl) (fun _ _ _ h => h) (Or.inl ⟨by kernel_rfl, ?_⟩) (by assumption) ?_
        case refine_2 => (intro w9 hSw; clear hSw; go_simp; try with_reducible rfl)
        simp only [Act.put, List.setIfInBounds_toArray, List.set_cons_zero, List.set_cons_succ]
        refine wpAnyH_take (i := 14) (v := ?_) (oi := { dst := some 73, op := _, type := _, pos := _, after := _, guard := none }) rfl (by kernel_rfl) (by kernel_rfl) (by kernel_rfl) (fun _ _ _ h => h) (Or.inl ⟨by kernel_rfl, ?_⟩) (by assumption) ?_
        case refine_2 => (intro w9 hSw; clear hSw; go_simp; try with_reducible rfl)
        simp only [Act.put, List.setIfInBounds_toArray, List.set_cons_zero, List.set_cons_succ]
        refine wpAnyH_take (i := 15) (v := ?_) (oi := { dst := some 74, op := _, type := _, pos := _, after := _, guard := none }) rfl (by kernel_rfl) (by kernel_rfl) (by kernel_rfl) (fun _ _ _ h => h) (Or.inl ⟨by kernel_rfl, ?_⟩) (by assumption) ?_
        case refine_2 => (intro w9 hSw; clear hSw; go_simp; try with_reducible rfl)
        simp only [Act.put, List.setIfInBounds_toArray, List.set_cons_zero, List.set_cons_succ]
        refine wpAnyH_take (i := 16) (v := ?_) (oi := { dst := some 75, op := _, type := _, pos := _, after := _, guard := some (15, true) }) rfl (by kernel_rfl) (by kernel_rfl) (by kernel_rfl) (fun _ _ _ h => h) (Or.inl ⟨by kernel_rfl, ?_⟩) (by assumption) ?_
        case refine_2 => (intro w9 hSw; clear hSw; go_simp; try with_reducible rfl)
        simp only [Act.put, List.setIfInBounds_toArray, List.set_cons_zero, List.set_cons_succ]
        refine wpAnyH_take (i := 17) (v := ?_) (oi := { dst := some 76, op := _, type := _, pos := _, after := _, guard := some (15, true) }) rfl (by kernel_rfl) (by kernel_rfl) (by kernel_rfl) (fun _ _ _ h => h) (Or.inl ⟨by kernel_rfl, ?_⟩) (by assumption) ?_
        case refine_2 => (intro w9 hSw; clear hSw; go_simp; try with_reducible rfl)
        simp only [Act.put, List.setIfInBounds_toArray, List.set_cons_zero, List.set_cons_succ]
        refine wpAnyH_take (i := 18) (v := ?_) (oi := { dst := some 77, op := _, type := _, pos := _, after := _, guard := some (15, true) }) rfl (by kernel_rfl) (by kernel_rfl) (by kernel_rfl) (fun _ _ _ h => h) (Or.inl ⟨by kernel_rfl, ?_⟩) (by assumption) ?_
        case refine_2 => (intro w9 hSw; clear hSw; go_simp; try with_reducible rfl)
        simp only [Act.put, List.setIfInBounds_toArray, List.set_cons_zero, List.set_cons_succ]
        refine wpAnyH_take (i := 19) (v := ?_) (oi := { dst := some 78, op := _, type := _, pos := _, after := _, guard := none }) rfl (by kernel_rfl) (by kernel_rfl) (by kernel_rfl) (fun _ _ _ h => h) (Or.inl ⟨by kernel_rfl, ?_⟩) (by assumption) ?_
        case refine_2 => (intro w9 hSw; clear hSw; go_simp; try with_reducible rfl)
        simp only [Act.put, List.setIfInBounds_toArray, List.set_cons_zero, List.set_cons_succ]
        refine wpAnyH_take (i := 20) (v := ?_) (oi := { dst := some 79, op := _, type := _, pos := _, after := _, guard := none }) rfl (by kernel_rfl) (by kernel_rfl) (by kernel_rfl) (fun _ _ _ h => h) (Or.inl ⟨by kernel_rfl, ?_⟩) (by assumption) ?_
        case refine_2 => (intro w9 hSw; clear hSw; go_simp; try with_reducible rfl)
        simp only [Act.put, List.setIfInBounds_toArray, List.set_cons_zero, List.set_cons_succ]
        refine wpAnyH_take (i := 21) (v := ?_) (oi := { dst := some 80, op := _, type := _, pos := _, after := _, guard := some (20, true) }) rfl (by kernel_rfl) (by kernel_rfl) (by kernel_rfl) (fun _ _ _ h => h) (Or.inl ⟨by kernel_rfl, ?_⟩) (by assumption) ?_
        case refine_2 => (intro w9 hSw; obtain ⟨sa0, sb0, sc0, sd0, se0⟩ := hSw.2 (V8.heap.size, pn, pS) (by simp); obtain ⟨sa1, sb1, sc1, sd1, se1⟩ := hSw.2 (b7, pn, pS) (by simp); obtain ⟨sa2, sb2, sc2, sd2, se2⟩ := hSw.2 (V5.heap.size, cn, cS) (by simp); obtain ⟨sa3, sb3, sc3, sd3, se3⟩ := hSw.2 (b4, cn, cS) (by simp); obtain ⟨sa4, sb4, sc4, sd4, se4⟩ := hSw.2 (V2.heap.size, an, aS) (by simp); obtain ⟨sa5, sb5, sc5, sd5, se5⟩ := hSw.2 (b1, an, aS) (by simp); obtain ⟨sa6, sb6, sc6, sd6, se6⟩ := hSw.2 (w.heap.size, xn, xs) (by simp); obtain ⟨sa7, sb7, sc7, sd7, se7⟩ := hSw.2 (w.heap.size + 1, yn, ys) (by simp); clear hSw; go_simp; try with_reducible rfl)
        simp only [Act.put, List.setIfInBounds_toArray, List.set_cons_zero, List.set_cons_succ]
        refine wpAnyH_take (i := 23) (v := ?_) (oi := { dst := some 82, op := _, type := _, pos := _, after := _, guard := some (20, true) }) rfl (by kernel_rfl) (by kernel_rfl) (by kernel_rfl) (fun _ _ _ h => h) (Or.inl ⟨by kernel_rfl, ?_⟩) (by assumption) ?_
        case refine_2 => (intro w9 hSw; obtain ⟨sa0, sb0, sc0, sd0, se0⟩ := hSw.2 (V8.heap.size, pn, pS) (by simp); obtain ⟨sa1, sb1, sc1, sd1, se1⟩ := hSw.2 (b7, pn, pS) (by simp); obtain ⟨sa2, sb2, sc2, sd2, se2⟩ := hSw.2 (V5.heap.size, cn, cS) (by simp); obtain ⟨sa3, sb3, sc3, sd3, se3⟩ := hSw.2 (b4, cn, cS) (by simp); obtain ⟨sa4, sb4, sc4, sd4, se4⟩ := hSw.2 (V2.heap.size, an, aS) (by simp); obtain ⟨sa5, sb5, sc5, sd5, se5⟩ := hSw.2 (b1, an, aS) (by simp); obtain ⟨sa6, sb6, sc6, sd6, se6⟩ := hSw.2 (w.heap.size, xn, xs) (by simp); obtain ⟨sa7, sb7, sc7, sd7, se7⟩ := hSw.2 (w.heap.size + 1, yn, ys) (by simp); clear hSw; go_simp; try with_reducible rfl)
        simp only [Act.put, List.setIfInBounds_toArray, List.set_cons_zero, List.set_cons_succ]
        refine wpAnyH_ready (rs := [22]) (by kernel_rfl) (by simp) (AllReadyH.cons (o := { dst := some 81, op := _, type := _, pos := _, after := _, guard := some (20, true) }) rfl (fun K hK => ?_) AllReadyH.nil)
        go_simp
        refine (TP.out _).mono ?_
        rintro e v3 ⟨rfl, hb3⟩
        refine hK.out _ _ (hHeld.below hb3) (fun hHeld => ?_)
        clear hK K hb3
        refine wpAnyH_take (i := 24) (v := ?_) (oi := { dst := some 83, op := _, type := _, pos := _, after := _, guard := some (20, true) }) rfl (by kernel_rfl) (by kernel_rfl) (by kernel_rfl) (fun _ _ _ h => h) (Or.inl ⟨by kernel_rfl, ?_⟩) (by assumption) ?_
        case refine_2 => (intro w9 hSw; clear hSw; go_simp; try with_reducible rfl)
        simp only [Act.put, List.setIfInBounds_toArray, List.set_cons_zero, List.set_cons_succ]
        refine wpAnyH_take (i := 25) (v := ?_) (oi := { dst := some 84, op := _, type := _, pos := _, after := _, guard := none }) rfl (by kernel_rfl) (by kernel_rfl) (by kernel_rfl) (fun _ _ _ h => h) (Or.inl ⟨by kernel_rfl, ?_⟩) (by assumption) ?_
        case refine_2 => (intro w9 hSw; clear hSw; go_simp; try with_reducible rfl)
        simp only [Act.put, List.setIfInBounds_toArray, List.set_cons_zero, List.set_cons_succ]
        refine wpAnyH_take (i := 26) (v := ?_) (oi := { dst := some 85, op := _, type := _, pos := _, after := _, guard := none }) rfl (by kernel_rfl) (by kernel_rfl) (by kernel_rfl) (fun _ _ _ h => h) (Or.inl ⟨by kernel_rfl, ?_⟩) (by assumption) ?_
        case refine_2 => (intro w9 hSw; clear hSw; go_simp; try with_reducible rfl)
        simp only [Act.put, List.setIfInBounds_toArray, List.set_cons_zero, List.set_cons_succ]
        refine wpAnyH_take (i := 27) (v := ?_) (oi := { dst := some 86, op := _, type := _, pos := _, after := _, guard := some (26, true) }) rfl (by kernel_rfl) (by kernel_rfl) (by kernel_rfl) (fun _ _ _ h => h) (Or.inl ⟨by kernel_rfl, ?_⟩) (by assumption) ?_
        case refine_2 => (intro w9 hSw; clear hSw; go_simp; try with_reducible rfl)
        simp only [Act.put, List.setIfInBounds_toArray, List.set_cons_zero, List.set_cons_succ]
        refine wpAnyH_take (i := 28) (v := ?_) (oi := { dst := some 87, op := _, type := _, pos := _, after := _, guard := some (26, true) }) rfl (by kernel_rfl) (by kernel_rfl) (by kernel_rfl) (fun _ _ _ h => h) (Or.inl ⟨by kernel_rfl, ?_⟩) (by assumption) ?_
        case refine_2 => (intro w9 hSw; clear hSw; go_simp; try with_reducible rfl)
        simp only [Act.put, List.setIfInBounds_toArray, List.set_cons_zero, List.set_cons_succ]
        refine wpAnyH_take (i := 29) (v := ?_) (oi := { dst := some 88, op := _, type := _, pos := _, after := _, guard := some (26, true) }) rfl (by kernel_rfl) (by kernel_rfl) (by kernel_rfl) (fun _ _ _ h => h) (Or.inl ⟨by kernel_rfl, ?_⟩) (by assumption) ?_
        case refine_2 => (intro w9 hSw; clear hSw; go_simp; try with_reducible rfl)
        simp only [Act.put, List.setIfInBounds_toArray, List.set_cons_zero, List.set_cons_succ]
        refine wpAnyH_take (i := 30) (v := ?_) (oi := { dst := some 89, op := _, type := _, pos := _, after := _, guard := none }) rfl (by kernel_rfl) (by kernel_rfl) (by kernel_rfl) (fun _ _ _ h => h) (Or.inl ⟨by kernel_rfl, ?_⟩) (by assumption) ?_
        case refine_2 => (intro w9 hSw; clear hSw; go_simp; try with_reducible rfl)
        simp only [Act.put, List.setIfInBounds_toArray, List.set_cons_zero, List.set_cons_succ]
        refine wpAnyH_take (i := 31) (v := ?_) (oi := { dst := some 90, op := _, type := _, pos := _, after := _, guard := none }) rfl (by kernel_rfl) (by kernel_rfl) (by kernel_rfl) (fun _ _ _ h => h) (Or.inl ⟨by kernel_rfl, ?_⟩) (by assumption) ?_
        case refine_2 => (intro w9 hSw; clear hSw; go_simp; try with_reducible rfl)
        simp only [Act.put, List.setIfInBounds_toArray, List.set_cons_zero, List.set_cons_succ]
        refine wpAnyH_take (i := 32) (v := ?_) (oi := { dst := some 91, op := _, type := _, pos := _, after := _, guard := some (31, true) }) rfl (by kernel_rfl) (by kernel_rfl) (by kernel_rfl) (fun _ _ _ h => h) (Or.inl ⟨by kernel_rfl, ?_⟩) (by assumption) ?_
        case refine_2 => (intro w9 hSw; obtain ⟨sa0, sb0, sc0, sd0, se0⟩ := hSw.2 (V8.heap.size, pn, pS) (by simp); obtain ⟨sa1, sb1, sc1, sd1, se1⟩ := hSw.2 (b7, pn, pS) (by simp); obtain ⟨sa2, sb2, sc2, sd2, se2⟩ := hSw.2 (V5.heap.size, cn, cS) (by simp); obtain ⟨sa3, sb3, sc3, sd3, se3⟩ := hSw.2 (b4, cn, cS) (by simp); obtain ⟨sa4, sb4, sc4, sd4, se4⟩ := hSw.2 (V2.heap.size, an, aS) (by simp); obtain ⟨sa5, sb5, sc5, sd5, se5⟩ := hSw.2 (b1, an, aS) (by simp); obtain ⟨sa6, sb6, sc6, sd6, se6⟩ := hSw.2 (w.heap.size, xn, xs) (by simp); obtain ⟨sa7, sb7, sc7, sd7, se7⟩ := hSw.2 (w.heap.size + 1, yn, ys) (by simp); clear hSw; go_simp; try with_reducible rfl)
        simp only [Act.put, List.setIfInBounds_toArray, List.set_cons_zero, List.set_cons_succ]
        refine wpAnyH_take (i := 34) (v := ?_) (oi := { dst := some 93, op := _, type := _, pos := _, after := _, guard := some (31, true) }) rfl (by kernel_rfl) (by kernel_rfl) (by kernel_rfl) (fun _ _ _ h => h) (Or.inl ⟨by kernel_rfl, ?_⟩) (by assumption) ?_
        case refine_2 => (intro w9 hSw; obtain ⟨sa0, sb0, sc0, sd0, se0⟩ := hSw.2 (V8.heap.size, pn, pS) (by simp); obtain ⟨sa1, sb1, sc1, sd1, se1⟩ := hSw.2 (b7, pn, pS) (by simp); obtain ⟨sa2, sb2, sc2, sd2, se2⟩ := hSw.2 (V5.heap.size, cn, cS) (by simp); obtain ⟨sa3, sb3, sc3, sd3, se3⟩ := hSw.2 (b4, cn, cS) (by simp); obtain ⟨sa4, sb4, sc4, sd4, se4⟩ := hSw.2 (V2.heap.size, an, aS) (by simp); obtain ⟨sa5, sb5, sc5, sd5, se5⟩ := hSw.2 (b1, an, aS) (by simp); obtain ⟨sa6, sb6, sc6, sd6, se6⟩ := hSw.2 (w.heap.size, xn, xs) (by simp); obtain ⟨sa7, sb7, sc7, sd7, se7⟩ := hSw.2 (w.heap.size + 1, yn, ys) (by simp); clear hSw; go_simp; try with_reducible rfl)
        simp only [Act.put, List.setIfInBounds_toArray, List.set_cons_zero, List.set_cons_succ]
        refine wpAnyH_take (i := 37) (v := ?_) (oi := { dst := some 96, op := _, type := _, pos := _, after := _, guard := some (31, true) }) rfl (by kernel_rfl) (by kernel_rfl) (by kernel_rfl) (fun _ _ _ h => h) (Or.inl ⟨by kernel_rfl, ?_⟩) (by assumption) ?_
        case refine_2 => (intro w9 hSw; obtain ⟨sa0, sb0, sc0, sd0, se0⟩ := hSw.2 (V8.heap.size, pn, pS) (by simp); obtain ⟨sa1, sb1, sc1, sd1, se1⟩ := hSw.2 (b7, pn, pS) (by simp); obtain ⟨sa2, sb2, sc2, sd2, se2⟩ := hSw.2 (V5.heap.size, cn, cS) (by simp); obtain ⟨sa3, sb3, sc3, sd3, se3⟩ := hSw.2 (b4, cn, cS) (by simp); obtain ⟨sa4, sb4, sc4, sd4, se4⟩ := hSw.2 (V2.heap.size, an, aS) (by simp); obtain ⟨sa5, sb5, sc5, sd5, se5⟩ := hSw.2 (b1, an, aS) (by simp); obtain ⟨sa6, sb6, sc6, sd6, se6⟩ := hSw.2 (w.heap.size, xn, xs) (by simp); obtain ⟨sa7, sb7, sc7, sd7, se7⟩ := hSw.2 (w.heap.size + 1, yn, ys) (by simp); clear hSw; go_simp; try with_reducible rfl)
        simp only [Act.put, List.setIfInBounds_toArray, List.set_cons_zero, List.set_cons_succ]
        refine wpAnyH_take (i := 38) (v := ?_) (oi := { dst := some 97, op := _, type := _, pos := _, after := _, guard := some (31, true) }) rfl (by kernel_rfl) (by kernel_rfl) (by kernel_rfl) (fun _ _ _ h => h) (Or.inl ⟨by kernel_rfl, ?_⟩) (by assumption) ?_
        case refine_2 => (intro w9 hSw; obtain ⟨sa0, sb0, sc0, sd0, se0⟩ := hSw.2 (V8.heap.size, pn, pS) (by simp); obtain ⟨sa1, sb1, sc1, sd1, se1⟩ := hSw.2 (b7, pn, pS) (by simp); obtain ⟨sa2, sb2, sc2, sd2, se2⟩ := hSw.2 (V5.heap.size, cn, cS) (by simp); obtain ⟨sa3, sb3, sc3, sd3, se3⟩ := hSw.2 (b4, cn, cS) (by simp); obtain ⟨sa4, sb4, sc4, sd4, se4⟩ := hSw.2 (V2.heap.size, an, aS) (by simp); obtain ⟨sa5, sb5, sc5, sd5, se5⟩ := hSw.2 (b1, an, aS) (by simp); obtain ⟨sa6, sb6, sc6, sd6, se6⟩ := hSw.2 (w.heap.size, xn, xs) (by simp); obtain ⟨sa7, sb7, sc7, sd7, se7⟩ := hSw.2 (w.heap.size + 1, yn, ys) (by simp); clear hSw; go_simp; try with_reducible rfl)
        simp only [Act.put, List.setIfInBounds_toArray, List.set_cons_zero, List.set_cons_succ]
        refine wpAnyH_ready (rs := [33]) (by kernel_rfl) (by simp) (AllReadyH.cons (o := { dst := some 92, op := _, type := _, pos := _, after := _, guard := some (31, true) }) rfl (fun K hK => ?_) AllReadyH.nil)
        go_simp
        refine (HX.out _).mono ?_
        rintro e v4 ⟨rfl, hb4⟩
        refine hK.out _ _ (hHeld.below hb4) (fun hHeld => ?_)
        clear hK K hb4
        refine wpAnyH_ready (rs := [35]) (by kernel_rfl) (by simp) (AllReadyH.cons (o := { dst := some 94, op := _, type := _, pos := _, after := _, guard := some (31, true) }) rfl (fun K hK => ?_) AllReadyH.nil)
        go_simp
        refine (HY.out _).mono ?_
        rintro e v5 ⟨rfl, hb5⟩
        refine hK.out _ _ (hHeld.below hb5) (fun hHeld => ?_)
        clear hK K hb5
        refine wpAnyH_ready (rs := [36]) (by kernel_rfl) (by simp) (AllReadyH.cons (o := { dst := some 95, op := _, type := _, pos := _, after := _, guard := some (31, true) }) rfl (fun K hK => ?_) AllReadyH.nil)
        go_simp
        refine (DC.out _).mono ?_
        rintro e v6 ⟨rfl, hb6⟩
        refine hK.out _ _ (hHeld.below hb6) (fun hHeld => ?_)
        clear hK K hb6
        refine wpAnyH_ready (rs := [39]) (by kernel_rfl) (by simp) (AllReadyH.cons (o := { dst := some 98, op := _, type := _, pos := _, after := _, guard := some (31, true) }) rfl (fun K hK => ?_) AllReadyH.nil)
        go_simp
        refine (EC.out _).mono ?_
        rintro e v7 ⟨rfl, hb7⟩
        refine hK.out _ _ (hHeld.below hb7) (fun hHeld => ?_)
        clear hK K hb7
        refine wpAnyH_take (i := 40) (v := ?_) (oi := { dst := some 99, op := _, type := _, pos := _, after := _, guard := some (31, true) }) rfl (by kernel_rfl) (by kernel_rfl) (by kernel_rfl) (fun _ _ _ h => h) (Or.inl ⟨by kernel_rfl, ?_⟩) (by assumption) ?_
        case refine_2 => (intro w9 hSw; clear hSw; go_simp; try with_reducible rfl)
        simp only [Act.put, List.setIfInBounds_toArray, List.set_cons_zero, List.set_cons_succ]
        refine wpAnyH_take (i := 41) (v := ?_) (oi := { dst := some 100, op := _, type := _, pos := _, after := _, guard := none }) rfl (by kernel_rfl) (by kernel_rfl) (by kernel_rfl) (fun _ _ _ h => h) (Or.inl ⟨by kernel_rfl, ?_⟩) (by assumption) ?_
        case refine_2 => (intro w9 hSw; clear hSw; go_simp; try with_reducible rfl)
        simp only [Act.put, List.setIfInBounds_toArray, List.set_cons_zero, List.set_cons_succ]
        refine wpAnyH_take (i := 42) (v := ?_) (oi := { dst := some 101, op := _, type := _, pos := _, after := _, guard := none }) rfl (by kernel_rfl) (by kernel_rfl) (by kernel_rfl) (fun _ _ _ h => h) (Or.inl ⟨by kernel_rfl, ?_⟩) (by assumption) ?_
        case refine_2 => (intro w9 hSw; clear hSw; go_simp; try with_reducible rfl)
        simp only [Act.put, List.setIfInBounds_toArray, List.set_cons_zero, List.set_cons_succ]
        refine wpAnyH_take (i := 43) (v := ?_) (oi := { dst := some 102, op := _, type := _, pos := _, after := _, guard := some (42, true) }) rfl (by kernel_rfl) (by kernel_rfl) (by kernel_rfl) (fun _ _ _ h => h) (Or.inl ⟨by kernel_rfl, ?_⟩) (by assumption) ?_
        case refine_2 => (intro w9 hSw; obtain ⟨sa0, sb0, sc0, sd0, se0⟩ := hSw.2 (V8.heap.size, pn, pS) (by simp); obtain ⟨sa1, sb1, sc1, sd1, se1⟩ := hSw.2 (b7, pn, pS) (by simp); obtain ⟨sa2, sb2, sc2, sd2, se2⟩ := hSw.2 (V5.heap.size, cn, cS) (by simp); obtain ⟨sa3, sb3, sc3, sd3, se3⟩ := hSw.2 (b4, cn, cS) (by simp); obtain ⟨sa4, sb4, sc4, sd4, se4⟩ := hSw.2 (V2.heap.size, an, aS) (by simp); obtain ⟨sa5, sb5, sc5, sd5, se5⟩ := hSw.2 (b1, an, aS) (by simp); obtain ⟨sa6, sb6, sc6, sd6, se6⟩ := hSw.2 (w.heap.size, xn, xs) (by simp); obtain ⟨sa7, sb7, sc7, sd7, se7⟩ := hSw.2 (w.heap.size + 1, yn, ys) (by simp); clear hSw; go_simp; try with_reducible rfl)
        simp only [Act.put, List.setIfInBounds_toArray, List.set_cons_zero, List.set_cons_succ]
        refine wpAnyH_take (i := 46) (v := ?_) (oi := { dst := some 105, op := _, type := _, pos := _, after := _, guard := some (42, true) }) rfl (by kernel_rfl) (by kernel_rfl) (by kernel_rfl) (fun _ _ _ h => h) (Or.inl ⟨by kernel_rfl, ?_⟩) (by assumption) ?_
        case refine_2 => (intro w9 hSw; obtain ⟨sa0, sb0, sc0, sd0, se0⟩ := hSw.2 (V8.heap.size, pn, pS) (by simp); obtain ⟨sa1, sb1, sc1, sd1, se1⟩ := hSw.2 (b7, pn, pS) (by simp); obtain ⟨sa2, sb2, sc2, sd2, se2⟩ := hSw.2 (V5.heap.size, cn, cS) (by simp); obtain ⟨sa3, sb3, sc3, sd3, se3⟩ := hSw.2 (b4, cn, cS) (by simp); obtain ⟨sa4, sb4, sc4, sd4, se4⟩ := hSw.2 (V2.heap.size, an, aS) (by simp); obtain ⟨sa5, sb5, sc5, sd5, se5⟩ := hSw.2 (b1, an, aS) (by simp); obtain ⟨sa6, sb6, sc6, sd6, se6⟩ := hSw.2 (w.heap.size, xn, xs) (by simp); obtain ⟨sa7, sb7, sc7, sd7, se7⟩ := hSw.2 (w.heap.size + 1, yn, ys) (by simp); clear hSw; go_simp; try with_reducible rfl)
        simp only [Act.put, List.setIfInBounds_toArray, List.set_cons_zero, List.set_cons_succ]
        refine wpAnyH_ready (rs := [44]) (by kernel_rfl) (by simp) (AllReadyH.cons (o := { dst := some 103, op := _, type := _, pos := _, after := _, guard := some (42, true) }) rfl (fun K hK => ?_) AllReadyH.nil)
        go_simp
        refine (HX.out _).mono ?_
        rintro e v8 ⟨rfl, hb8⟩
        refine hK.out _ _ (hHeld.below hb8) (fun hHeld => ?_)
        clear hK K hb8
        refine wpAnyH_ready (rs := [45]) (by kernel_rfl) (by simp) (AllReadyH.cons (o := { dst := some 104, op := _, type := _, pos := _, after := _, guard := some (42, true) }) rfl (fun K hK => ?_) AllReadyH.nil)
        go_simp
        refine (DR.out _).mono ?_
        rintro e v9 ⟨rfl, hb9⟩
        refine hK.out _ _ (hHeld.below hb9) (fun hHeld => ?_)
        clear hK K hb9
        refine wpAnyH_ready (rs := [47]) (by kernel_rfl) (by simp) (AllReadyH.cons (o := { dst := some 106, op := _, type := _, pos := _, after := _, guard := some (42, true) }) rfl (fun K hK => ?_) AllReadyH.nil)
        go_simp
        refine (ER.out _).mono ?_
        rintro e v10 ⟨rfl, hb10⟩
        refine hK.out _ _ (hHeld.below hb10) (fun hHeld => ?_)
        clear hK K hb10
        refine wpAnyH_take (i := 48) (v := ?_) (oi := { dst := some 107, op := _, type := _, pos := _, after := _, guard := some (42, true) }) rfl (by kernel_rfl) (by kernel_rfl) (by kernel_rfl) (fun _ _ _ h => h) (Or.inl ⟨by kernel_rfl, ?_⟩) (by assumption) ?_
        case refine_2 => (intro w9 hSw; clear hSw; go_simp; try with_reducible rfl)
        simp only [Act.put, List.setIfInBounds_toArray, List.set_cons_zero, List.set_cons_succ]
        refine wpAnyH_take (i := 49) (v := ?_) (oi := { dst := some 108, op := _, type := _, pos := _, after := _, guard := none }) rfl (by kernel_rfl) (by kernel_rfl) (by kernel_rfl) (fun _ _ _ h => h) (Or.inl ⟨by kernel_rfl, ?_⟩) (by assumption) ?_
        case refine_2 => (intro w9 hSw; clear hSw; go_simp; try with_reducible rfl)
        simp only [Act.put, List.setIfInBounds_toArray, List.set_cons_zero, List.set_cons_succ]
        refine wpAnyH_take (i := 50) (v := ?_) (oi := { dst := some 109, op := _, type := _, pos := _, after := _, guard := none }) rfl (by kernel_rfl) (by kernel_rfl) (by kernel_rfl) (fun _ _ _ h => h) (Or.inl ⟨by kernel_rfl, ?_⟩) (by assumption) ?_
        case refine_2 => (intro w9 hSw; clear hSw; go_simp; try with_reducible rfl)
        simp only [Act.put, List.setIfInBounds_toArray, List.set_cons_zero, List.set_cons_succ]
        refine wpAnyH_ready (rs := [51]) (by kernel_rfl) (by simp) (AllReadyH.cons (o := { dst := some 110, op := _, type := _, pos := _, after := _, guard := some (50, true) }) rfl (fun K hK => ?_) AllReadyH.nil)
        go_simp
        refine (KN.out _ (hT.out.below hHeld.1)).mono ?_
        rintro e v11 ⟨rfl, hb11⟩
        refine hK.out _ _ (hHeld.below hb11) (fun hHeld => ?_)
        clear hK K hb11
        refine wpAnyH_take (i := 52) (v := ?_) (oi := { dst := some 111, op := _, type := _, pos := _, after := _, guard := none }) rfl (by kernel_rfl) (by kernel_rfl) (by kernel_rfl) (fun _ _ _ h => h) (Or.inl ⟨by kernel_rfl, ?_⟩) (by assumption) ?_
        case refine_2 => (intro w9 hSw; clear hSw; go_simp; try with_reducible rfl)
        simp only [Act.put, List.setIfInBounds_toArray, List.set_cons_zero, List.set_cons_succ]
        refine wpAnyH_take (i := 53) (v := ?_) (oi := { dst := some 4, op := _, type := _, pos := _, after := _, guard := none }) rfl (by kernel_rfl) (by kernel_rfl) (by kernel_rfl) (fun _ _ _ h => h) (Or.inl ⟨by kernel_rfl, ?_⟩) (by assumption) ?_
        case refine_2 => (intro w9 hSw; clear hSw; go_simp; try with_reducible rfl)
        simp only [Act.put, List.setIfInBounds_toArray, List.set_cons_zero, List.set_cons_succ]
        refine wpAnyH_done (by kernel_rfl) ?_ _
        go_wp2
        go_ret
        exact ⟨rfl, hHeld.1⟩

end Go.Proofs.YtlhlanekklonmaaDoor
