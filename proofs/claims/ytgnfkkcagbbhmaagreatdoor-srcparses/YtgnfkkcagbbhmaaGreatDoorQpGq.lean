/- Contract: the reference's rule (a rule's line), over what its readers answer. -/
import Derived.Test.YtgnfkkcagbbhmaaGreatDoorQpFq
import Derived.Test.YtgnfkkcagbbhmaaGreatDoorQpBq
namespace Go.Proofs.YtgnfkkcagbbhmaaGreatDoor
open Go.RowKit
open Sr (gen_any gen_list)
set_option linter.unusedVariables false

set_option maxRecDepth 100000 in
set_option maxHeartbeats 4000000 in
theorem rule_good (U : World) (g B : Nat) (S : PSt) (xr xl xa xz : Value) (vs : List Value) (w : World) (h : PN U g B S xr xl xa xz vs w) (hN : S.rules.length ≤ 100000) (hR : RefS S) (hC : ∀ k, 0 ≤ S.cnt k ∧ S.cnt k ≤ 16)
    (fb fo c : Nat) (hg : fb < w.heap.size) (hc : 10 ≤ c) (x1 x2 x3 x4 x5 x6 x7 x8 x9 : ByteArray) (f1 : Hid (w.cell? ⟨fb, fo + 1, none⟩ = some (.string x1))) (f2 : Hid (w.cell? ⟨fb, fo + 2, none⟩ = some (.string x2))) (f3 : Hid (w.cell? ⟨fb, fo + 3, none⟩ = some (.string x3))) (f4 : Hid (w.cell? ⟨fb, fo + 4, none⟩ = some (.string x4))) (f5 : Hid (w.cell? ⟨fb, fo + 5, none⟩ = some (.string x5))) (f6 : Hid (w.cell? ⟨fb, fo + 6, none⟩ = some (.string x6))) (f7 : Hid (w.cell? ⟨fb, fo + 7, none⟩ = some (.string x7))) (f8 : Hid (w.cell? ⟨fb, fo + 8, none⟩ = some (.string x8))) (f9 : Hid (w.cell? ⟨fb, fo + 9, none⟩ = some (.string x9)))
    (FR T0 T1 T2 MO oa ob oc E ta tz E2 SV E3 : Int) (LX : ByteArray) (bO bM LB NMB : Bool) (res : Sum Int PSt)
    (Y2 : Hid (∀ w : World, Calls Tryz.prog 86 #[.string x2] w fun e w' => e = .returned (.int .i64 FR) ∧ Below w.heap.size w w'))
    (Y3 : Hid (∀ w : World, Calls Tryz.prog 86 #[.string x3] w fun e w' => e = .returned (.int .i64 T0) ∧ Below w.heap.size w w'))
    (MC : Hid (∀ w : World, Calls Tryz.prog 87 #[.string x5] w fun e w' => e = .returned (.int .i64 MO) ∧ Below w.heap.size w w'))
    (SO : Hid (∀ w : World, Calls Tryz.prog 54 #[.string x3, .string ⟨#[111, 110, 108, 121]⟩] w fun e w' => e = .returned (.bool bO) ∧ Below w.heap.size w w'))
    (SM : Hid (∀ w : World, Calls Tryz.prog 54 #[.string x3, .string ⟨#[109, 97, 120]⟩] w fun e w' => e = .returned (.bool bM) ∧ Below w.heap.size w w'))
    (ON : Hid (∀ w : World, Calls Tryz.prog 88 #[.string x6] w fun e w' => e = .returned (.tuple #[.agg #[.int .i64 oa, .int .i64 ob, .int .i64 oc], .int .i64 E]) ∧ Below w.heap.size w w'))
    (AT : Hid (∀ w : World, Calls Tryz.prog 89 #[.string x7] w fun e w' => e = .returned (.tuple #[.agg #[.int .i64 ta, .int .u8 tz], .int .i64 E2]) ∧ Below w.heap.size w w'))
    (RS : Hid (∀ w : World, Calls Tryz.prog 90 #[.string x8] w fun e w' => e = .returned (.tuple #[.int .i64 SV, .int .i64 E3]) ∧ Below w.heap.size w w'))
    (LT : Hid (∀ w : World, Calls Tryz.prog 91 #[.string x9] w fun e w' => e = .returned (.bool LB) ∧ Below w.heap.size w w'))
    (NM : Hid (∀ w : World, Calls Tryz.prog 16 #[.string x1] w fun e w' => e = .returned (.bool true) ∧ Below w.heap.size w w'))
    (hT1 : Hid ((if bO = true then FR else T0) = T1)) (hT2 : Hid ((if bM = true then 1073741824 else T1) = T2)) (hLX : Hid ((if (x9.toList == [45]) = true then ⟨#[]⟩ else x9) = LX))
    (HLO : Hid ((x9.toList == [45]) = true ∨ LB = true)) (p2 : Hid ((FR == 0) = false)) (p3 : Hid (FR ≤ T2)) (p4 : Hid ((x4.toList == [45]) = true)) (p5 : Hid ((MO == 0) = false)) (p6 : Hid ((E != 0) = false)) (p7 : Hid ((E2 != 0) = false)) (p8 : Hid ((E3 != 0) = false)) (p9 : Hid (0 ≤ SV)) (p10 : Hid (SV ≤ 7200))
    (HB1 : Hid (res = tkR S (⟨x1, FR, T2, MO, oa, ob, oc, ta, tz, SV, LX⟩ : RuleT))) :
    Calls Tryz.prog 55 #[.pointer (some ⟨g, 0, none⟩), .slice (some ⟨fb, fo, none⟩) 10 c] w fun e w' => TkN U g B w e w' res := by
  have HP : Hid (PN U g B S xr xl xa xz vs w) := h
  clear h
  have HR : Hid (RefS S) := hR
  have HC : Hid (∀ k, 0 ≤ S.cnt k ∧ S.cnt k ≤ 16) := hC
  clear hR hC
  go_enter Tryz.func55, Tryz.ntmps55
  go_upto_region 3 with fail
  go_cut [5] (fun v wx => ∃ cb, v = .pointer (some ⟨cb, 0, none⟩) ∧ w.heap.size ≤ cb ∧ Hid (BS w [(cb, [.string x1, .int .i64 FR, .int .i64 T0, .int .i64 MO, .int .i64 0, .int .i64 0, .int .i64 0, .int .i64 0, .int .u8 0, .int .i64 0, .string x9])] wx))
  case first => as_aux_lemma =>
    refine wp_region_held_drew (S := BW w) (by kernel_rfl) (Below.refl _ w).drew (fun hHeld => ?_)
    refine wpAnyH_take (i := 0) (v := ?_) (oi := { dst := some 16, op := _, type := _, pos := _, after := _, guard := none }) rfl (by kernel_rfl) (by kernel_rfl) (by kernel_rfl) (fun _ _ _ h => h) (Or.inl ⟨by kernel_rfl, ?_⟩) (by assumption) ?_
    case refine_2 => (intro w9 hSw; clear hSw; go_simp; try with_reducible rfl)
    simp only [Act.put, List.setIfInBounds_toArray, List.set_cons_zero, List.set_cons_succ]
    refine wpAnyH_take (i := 1) (v := ?_) (oi := { dst := some 17, op := _, type := _, pos := _, after := _, guard := none }) rfl (by kernel_rfl) (by kernel_rfl) (by kernel_rfl) (fun _ _ _ h => h) (Or.inl ⟨by kernel_rfl, ?_⟩) (by assumption) ?_
    case refine_2 => (intro w9 hSw; clear hSw; go_simp; try with_reducible rfl)
    simp only [Act.put, List.setIfInBounds_toArray, List.set_cons_zero, List.set_cons_succ]
    refine wpAnyH_take (i := 2) (v := ?_) (oi := { dst := some 18, op := _, type := _, pos := _, after := _, guard := none }) rfl (by kernel_rfl) (by kernel_rfl) (by kernel_rfl) (fun _ _ _ h => h) (Or.inl ⟨by kernel_rfl, ?_⟩) (by assumption) ?_
    case refine_2 => (intro w9 hSw; have l1 := (hSw.cell (p := ⟨fb, fo + 1, none⟩) hg).trans f1.out; clear hSw; go_simp; try with_reducible rfl)
    simp only [Act.put, List.setIfInBounds_toArray, List.set_cons_zero, List.set_cons_succ]
    refine wpAnyH_take (i := 3) (v := ?_) (oi := { dst := some 19, op := _, type := _, pos := _, after := _, guard := none }) rfl (by kernel_rfl) (by kernel_rfl) (by kernel_rfl) (fun _ _ _ h => h) (Or.inl ⟨by kernel_rfl, ?_⟩) (by assumption) ?_
    case refine_2 => (intro w9 hSw; clear hSw; go_simp; try with_reducible rfl)
    simp only [Act.put, List.setIfInBounds_toArray, List.set_cons_zero, List.set_cons_succ]
    refine wpAnyH_take (i := 4) (v := ?_) (oi := { dst := some 20, op := _, type := _, pos := _, after := _, guard := none }) rfl (by kernel_rfl) (by kernel_rfl) (by kernel_rfl) (fun _ _ _ h => h) (Or.inl ⟨by kernel_rfl, ?_⟩) (by assumption) ?_
    case refine_2 => (intro w9 hSw; clear hSw; go_simp; try with_reducible rfl)
    simp only [Act.put, List.setIfInBounds_toArray, List.set_cons_zero, List.set_cons_succ]
    refine wpAnyH_take (i := 5) (v := ?_) (oi := { dst := some 21, op := _, type := _, pos := _, after := _, guard := none }) rfl (by kernel_rfl) (by kernel_rfl) (by kernel_rfl) (fun _ _ _ h => h) (Or.inl ⟨by kernel_rfl, ?_⟩) (by assumption) ?_
    case refine_2 => (intro w9 hSw; have l2 := (hSw.cell (p := ⟨fb, fo + 2, none⟩) hg).trans f2.out; clear hSw; go_simp; try with_reducible rfl)
    simp only [Act.put, List.setIfInBounds_toArray, List.set_cons_zero, List.set_cons_succ]
    refine wpAnyH_take (i := 7) (v := ?_) (oi := { dst := some 23, op := _, type := _, pos := _, after := _, guard := none }) rfl (by kernel_rfl) (by kernel_rfl) (by kernel_rfl) (fun _ _ _ h => h) (Or.inl ⟨by kernel_rfl, ?_⟩) (by assumption) ?_
    case refine_2 => (intro w9 hSw; clear hSw; go_simp; try with_reducible rfl)
    simp only [Act.put, List.setIfInBounds_toArray, List.set_cons_zero, List.set_cons_succ]
    refine wpAnyH_take (i := 8) (v := ?_) (oi := { dst := some 24, op := _, type := _, pos := _, after := _, guard := none }) rfl (by kernel_rfl) (by kernel_rfl) (by kernel_rfl) (fun _ _ _ h => h) (Or.inl ⟨by kernel_rfl, ?_⟩) (by assumption) ?_
    case refine_2 => (intro w9 hSw; clear hSw; go_simp; try with_reducible rfl)
    simp only [Act.put, List.setIfInBounds_toArray, List.set_cons_zero, List.set_cons_succ]
    refine wpAnyH_take (i := 9) (v := ?_) (oi := { dst := some 25, op := _, type := _, pos := _, after := _, guard := none }) rfl (by kernel_rfl) (by kernel_rfl) (by kernel_rfl) (fun _ _ _ h => h) (Or.inl ⟨by kernel_rfl, ?_⟩) (by assumption) ?_
    case refine_2 => (intro w9 hSw; have l3 := (hSw.cell (p := ⟨fb, fo + 3, none⟩) hg).trans f3.out; clear hSw; go_simp; try with_reducible rfl)
    simp only [Act.put, List.setIfInBounds_toArray, List.set_cons_zero, List.set_cons_succ]
    refine wpAnyH_take (i := 11) (v := ?_) (oi := { dst := some 27, op := _, type := _, pos := _, after := _, guard := none }) rfl (by kernel_rfl) (by kernel_rfl) (by kernel_rfl) (fun _ _ _ h => h) (Or.inl ⟨by kernel_rfl, ?_⟩) (by assumption) ?_
    case refine_2 => (intro w9 hSw; clear hSw; go_simp; try with_reducible rfl)
    simp only [Act.put, List.setIfInBounds_toArray, List.set_cons_zero, List.set_cons_succ]
    refine wpAnyH_take (i := 12) (v := ?_) (oi := { dst := some 28, op := _, type := _, pos := _, after := _, guard := none }) rfl (by kernel_rfl) (by kernel_rfl) (by kernel_rfl) (fun _ _ _ h => h) (Or.inl ⟨by kernel_rfl, ?_⟩) (by assumption) ?_
    case refine_2 => (intro w9 hSw; clear hSw; go_simp; try with_reducible rfl)
    simp only [Act.put, List.setIfInBounds_toArray, List.set_cons_zero, List.set_cons_succ]
    refine wpAnyH_take (i := 13) (v := ?_) (oi := { dst := some 29, op := _, type := _, pos := _, after := _, guard := none }) rfl (by kernel_rfl) (by kernel_rfl) (by kernel_rfl) (fun _ _ _ h => h) (Or.inl ⟨by kernel_rfl, ?_⟩) (by assumption) ?_
    case refine_2 => (intro w9 hSw; have l5 := (hSw.cell (p := ⟨fb, fo + 5, none⟩) hg).trans f5.out; clear hSw; go_simp; try with_reducible rfl)
    simp only [Act.put, List.setIfInBounds_toArray, List.set_cons_zero, List.set_cons_succ]
    refine wpAnyH_take (i := 15) (v := ?_) (oi := { dst := some 31, op := _, type := _, pos := _, after := _, guard := none }) rfl (by kernel_rfl) (by kernel_rfl) (by kernel_rfl) (fun _ _ _ h => h) (Or.inl ⟨by kernel_rfl, ?_⟩) (by assumption) ?_
    case refine_2 => (intro w9 hSw; clear hSw; go_simp; try with_reducible rfl)
    simp only [Act.put, List.setIfInBounds_toArray, List.set_cons_zero, List.set_cons_succ]
    refine wpAnyH_take (i := 16) (v := ?_) (oi := { dst := some 32, op := _, type := _, pos := _, after := _, guard := none }) rfl (by kernel_rfl) (by kernel_rfl) (by kernel_rfl) (fun _ _ _ h => h) (Or.inl ⟨by kernel_rfl, ?_⟩) (by assumption) ?_
    case refine_2 => (intro w9 hSw; clear hSw; go_simp; try with_reducible rfl)
    simp only [Act.put, List.setIfInBounds_toArray, List.set_cons_zero, List.set_cons_succ]
    refine wpAnyH_take (i := 17) (v := ?_) (oi := { dst := some 33, op := _, type := _, pos := _, after := _, guard := none }) rfl (by kernel_rfl) (by kernel_rfl) (by kernel_rfl) (fun _ _ _ h => h) (Or.inl ⟨by kernel_rfl, ?_⟩) (by assumption) ?_
    case refine_2 => (intro w9 hSw; have l9 := (hSw.cell (p := ⟨fb, fo + 9, none⟩) hg).trans f9.out; clear hSw; go_simp; try with_reducible rfl)
    simp only [Act.put, List.setIfInBounds_toArray, List.set_cons_zero, List.set_cons_succ]
    refine wpAnyH_ready (rs := [6, 19]) (by kernel_rfl) (by simp) (AllReadyH.cons (o := { dst := some 22, op := _, type := _, pos := _, after := _, guard := none }) rfl (fun K hK => ?_) (AllReadyH.cons (o := { dst := some 5, op := _, type := _, pos := _, after := _, guard := none }) rfl (fun K hK => ?_) AllReadyH.nil))
    ·
      go_simp
      refine (Y2.out _).mono ?_
      rintro e v1 ⟨rfl, hb1⟩
      refine hK.out _ _ (hHeld.below hb1) (fun hHeld => ?_)
      clear hK K hb1
      refine wpAnyH_ready (rs := [10, 19]) (by kernel_rfl) (by simp) (AllReadyH.cons (o := { dst := some 26, op := _, type := _, pos := _, after := _, guard := none }) rfl (fun K hK => ?_) (AllReadyH.cons (o := { dst := some 5, op := _, type := _, pos := _, after := _, guard := none }) rfl (fun K hK => ?_) AllReadyH.nil))
      ·
        go_simp
        refine (Y3.out _).mono ?_
        rintro e v2 ⟨rfl, hb2⟩
        refine hK.out _ _ (hHeld.below hb2) (fun hHeld => ?_)
        clear hK K hb2
        refine wpAnyH_ready (rs := [14, 19]) (by kernel_rfl) (by simp) (AllReadyH.cons (o := { dst := some 30, op := _, type := _, pos := _, after := _, guard := none }) rfl (fun K hK => ?_) (AllReadyH.cons (o := { dst := some 5, op := _, type := _, pos := _, after := _, guard := none }) rfl (fun K hK => ?_) AllReadyH.nil))
        ·
          go_simp
          refine (MC.out _).mono ?_
          rintro e v3 ⟨rfl, hb3⟩
          refine hK.out _ _ (hHeld.below hb3) (fun hHeld => ?_)
          clear hK K hb3
          refine wpAnyH_take (i := 18) (v := ?_) (oi := { dst := some 34, op := _, type := _, pos := _, after := _, guard := none }) rfl (by kernel_rfl) (by kernel_rfl) (by kernel_rfl) (fun _ _ _ h => h) (Or.inl ⟨by kernel_rfl, ?_⟩) (by assumption) ?_
          case refine_2 => (intro w9 hSw; clear hSw; go_simp; try with_reducible rfl)
          simp only [Act.put, List.setIfInBounds_toArray, List.set_cons_zero, List.set_cons_succ]
          refine wpAnyH_ready (rs := [19]) (by kernel_rfl) (by simp) (AllReadyH.cons (o := { dst := some 5, op := _, type := _, pos := _, after := _, guard := none }) rfl (fun K hK => ?_) AllReadyH.nil)
          have HS : Hid (BS w [] _) := ⟨hHeld, fun x hx => nomatch hx⟩
          go_simp
          refine hK.out _ _ (hHeld.below ((Below.refl _ _).alloc (Nat.le_refl _) _)) (fun hHeld => ?_)
          skip
          obtain ⟨cb, hcb⟩ : ∃ cb, cb = v3.heap.size := ⟨_, rfl⟩
          have HN : Hid (NB w [] (v3.alloc (.cells #[.string ⟨#[]⟩, .int .i64 0, .int .i64 0, .int .i64 0, .int .i64 0, .int .i64 0, .int .i64 0, .int .i64 0, .int .u8 0, .int .i64 0, .string ⟨#[]⟩] 71)) cb [.string ⟨#[]⟩, .int .i64 0, .int .i64 0, .int .i64 0, .int .i64 0, .int .i64 0, .int .i64 0, .int .i64 0, .int .u8 0, .int .i64 0, .string ⟨#[]⟩]) := by rw [hcb]; exact ⟨Bx.new v3 [.string ⟨#[]⟩, .int .i64 0, .int .i64 0, .int .i64 0, .int .i64 0, .int .i64 0, .int .i64 0, .int .i64 0, .int .u8 0, .int .i64 0, .string ⟨#[]⟩] _, HS.out.1.size, fun x hx => nomatch hx⟩
          refine gen_any (fun V' => BW w V' ∧ NB w [] V' cb [.string ⟨#[]⟩, .int .i64 0, .int .i64 0, .int .i64 0, .int .i64 0, .int .i64 0, .int .i64 0, .int .i64 0, .int .u8 0, .int .i64 0, .string ⟨#[]⟩]) ⟨hHeld, HN.out⟩ ?_
          rw [← hcb]
          clear hHeld hK K HN HS hcb
          intro v4 kk
          have HN : Hid (NB w [] v4 cb [.string ⟨#[]⟩, .int .i64 0, .int .i64 0, .int .i64 0, .int .i64 0, .int .i64 0, .int .i64 0, .int .i64 0, .int .u8 0, .int .i64 0, .string ⟨#[]⟩]) := kk.2
          have hHeld : BW w v4 := kk.1
          clear kk
          refine wpAnyH_ready (rs := [20]) (by kernel_rfl) (by simp) (AllReadyH.cons (o := { dst := none, op := _, type := _, pos := _, after := _, guard := none }) rfl (fun K hK => ?_) AllReadyH.nil)
          refine (if_pos (by kernel_rfl)).mpr (wp_store_mid 71 _ _ rfl cb 0 #[.string x1, .int .i64 FR, .int .i64 T0, .int .i64 MO, .int .i64 0, .int .i64 0, .int .i64 0, .int .i64 0, .int .u8 0, .int .i64 0, .string x9] rfl rfl HN.out.1.there (by kernel_rfl) (all_oneCell_toArray (cs := [.string x1, .int .i64 FR, .int .i64 T0, .int .i64 MO, .int .i64 0, .int .i64 0, .int .i64 0, .int .i64 0, .int .u8 0, .int .i64 0, .string x9]) (by simp only [List.forall_mem_cons]; exact ⟨rfl, rfl, rfl, rfl, rfl, rfl, rfl, rfl, rfl, rfl, rfl, fun _ h => nomatch h⟩)) (hK.out _ _ (below_setCells HN.out.2.1 _ _ _ hHeld) (fun hHeld => ?_)))
          have HN2 : Hid (BS w [(cb, [.string x1, .int .i64 FR, .int .i64 T0, .int .i64 MO, .int .i64 0, .int .i64 0, .int .i64 0, .int .i64 0, .int .u8 0, .int .i64 0, .string x9])] (v4.setCells cb 0 [.string x1, .int .i64 FR, .int .i64 T0, .int .i64 MO, .int .i64 0, .int .i64 0, .int .i64 0, .int .i64 0, .int .u8 0, .int .i64 0, .string x9])) := ⟨hHeld, fun x hx => by rw [List.mem_singleton.1 hx]; exact ⟨HN.out.2.1, HN.out.1.setAll _ rfl⟩⟩
          have hcw : w.heap.size ≤ cb := HN.out.2.1
          clear hK K HN
          refine wpAnyH_done (by kernel_rfl) ?_ _
          go_wp2_with fail
          go_meet
          case rel => exact ⟨cb, rfl, hcw, HN2⟩
        ·
          have HS : Hid (BS w [] _) := ⟨hHeld, fun x hx => nomatch hx⟩
          go_simp
          refine hK.out _ _ (hHeld.below ((Below.refl _ _).alloc (Nat.le_refl _) _)) (fun hHeld => ?_)
          skip
          obtain ⟨cb, hcb⟩ : ∃ cb, cb = v2.heap.size := ⟨_, rfl⟩
          have HN : Hid (NB w [] (v2.alloc (.cells #[.string ⟨#[]⟩, .int .i64 0, .int .i64 0, .int .i64 0, .int .i64 0, .int .i64 0, .int .i64 0, .int .i64 0, .int .u8 0, .int .i64 0, .string ⟨#[]⟩] 71)) cb [.string ⟨#[]⟩, .int .i64 0, .int .i64 0, .int .i64 0, .int .i64 0, .int .i64 0, .int .i64 0, .int .i64 0, .int .u8 0, .int .i64 0, .string ⟨#[]⟩]) := by rw [hcb]; exact ⟨Bx.new v2 [.string ⟨#[]⟩, .int .i64 0, .int .i64 0, .int .i64 0, .int .i64 0, .int .i64 0, .int .i64 0, .int .i64 0, .int .u8 0, .int .i64 0, .string ⟨#[]⟩] _, HS.out.1.size, fun x hx => nomatch hx⟩
          refine gen_any (fun V' => BW w V' ∧ NB w [] V' cb [.string ⟨#[]⟩, .int .i64 0, .int .i64 0, .int .i64 0, .int .i64 0, .int .i64 0, .int .i64 0, .int .i64 0, .int .u8 0, .int .i64 0, .string ⟨#[]⟩]) ⟨hHeld, HN.out⟩ ?_
          rw [← hcb]
          clear hHeld hK K HN HS hcb
          intro v6 kk
          have HN : Hid (NB w [] v6 cb [.string ⟨#[]⟩, .int .i64 0, .int .i64 0, .int .i64 0, .int .i64 0, .int .i64 0, .int .i64 0, .int .i64 0, .int .u8 0, .int .i64 0, .string ⟨#[]⟩]) := kk.2
          have hHeld : BW w v6 := kk.1
          clear kk
          refine wpAnyH_ready (rs := [14]) (by kernel_rfl) (by simp) (AllReadyH.cons (o := { dst := some 30, op := _, type := _, pos := _, after := _, guard := none }) rfl (fun K hK => ?_) AllReadyH.nil)
          go_simp
          refine (MC.out _).mono ?_
          rintro e v7 ⟨rfl, hb7⟩
          refine hK.out _ _ (hHeld.below hb7) (fun hHeld => ?_)
          have HN2 := HN.out.below hb7
          clear HN
          have HN : Hid (NB w [] _ cb _) := HN2
          clear HN2
          clear hK K hb7
          refine wpAnyH_take (i := 18) (v := ?_) (oi := { dst := some 34, op := _, type := _, pos := _, after := _, guard := none }) rfl (by kernel_rfl) (by kernel_rfl) (by kernel_rfl) (fun _ _ _ h => h) (Or.inl ⟨by kernel_rfl, ?_⟩) (by assumption) ?_
          case refine_2 => (intro w9 hSw; clear hSw; go_simp; try with_reducible rfl)
          simp only [Act.put, List.setIfInBounds_toArray, List.set_cons_zero, List.set_cons_succ]
          refine wpAnyH_ready (rs := [20]) (by kernel_rfl) (by simp) (AllReadyH.cons (o := { dst := none, op := _, type := _, pos := _, after := _, guard := none }) rfl (fun K hK => ?_) AllReadyH.nil)
          refine (if_pos (by kernel_rfl)).mpr (wp_store_mid 71 _ _ rfl cb 0 #[.string x1, .int .i64 FR, .int .i64 T0, .int .i64 MO, .int .i64 0, .int .i64 0, .int .i64 0, .int .i64 0, .int .u8 0, .int .i64 0, .string x9] rfl rfl HN.out.1.there (by kernel_rfl) (all_oneCell_toArray (cs := [.string x1, .int .i64 FR, .int .i64 T0, .int .i64 MO, .int .i64 0, .int .i64 0, .int .i64 0, .int .i64 0, .int .u8 0, .int .i64 0, .string x9]) (by simp only [List.forall_mem_cons]; exact ⟨rfl, rfl, rfl, rfl, rfl, rfl, rfl, rfl, rfl, rfl, rfl, fun _ h => nomatch h⟩)) (hK.out _ _ (below_setCells HN.out.2.1 _ _ _ hHeld) (fun hHeld => ?_)))
          have HN2 : Hid (BS w [(cb, [.string x1, .int .i64 FR, .int .i64 T0, .int .i64 MO, .int .i64 0, .int .i64 0, .int .i64 0, .int .i64 0, .int .u8 0, .int .i64 0, .string x9])] (v7.setCells cb 0 [.string x1, .int .i64 FR, .int .i64 T0, .int .i64 MO, .int .i64 0, .int .i64 0, .int .i64 0, .int .i64 0, .int .u8 0, .int .i64 0, .string x9])) := ⟨hHeld, fun x hx => by rw [List.mem_singleton.1 hx]; exact ⟨HN.out.2.1, HN.out.1.setAll _ rfl⟩⟩
          have hcw : w.heap.size ≤ cb := HN.out.2.1
          clear hK K HN
          refine wpAnyH_done (by kernel_rfl) ?_ _
          go_wp2_with fail
          go_meet
          case rel => exact ⟨cb, rfl, hcw, HN2⟩
      ·
        have HS : Hid (BS w [] _) := ⟨hHeld, fun x hx => nomatch hx⟩
        go_simp
        refine hK.out _ _ (hHeld.below ((Below.refl _ _).alloc (Nat.le_refl _) _)) (fun hHeld => ?_)
        skip
        obtain ⟨cb, hcb⟩ : ∃ cb, cb = v1.heap.size := ⟨_, rfl⟩
        have HN : Hid (NB w [] (v1.alloc (.cells #[.string ⟨#[]⟩, .int .i64 0, .int .i64 0, .int .i64 0, .int .i64 0, .int .i64 0, .int .i64 0, .int .i64 0, .int .u8 0, .int .i64 0, .string ⟨#[]⟩] 71)) cb [.string ⟨#[]⟩, .int .i64 0, .int .i64 0, .int .i64 0, .int .i64 0, .int .i64 0, .int .i64 0, .int .i64 0, .int .u8 0, .int .i64 0, .string ⟨#[]⟩]) := by rw [hcb]; exact ⟨Bx.new v1 [.string ⟨#[]⟩, .int .i64 0, .int .i64 0, .int .i64 0, .int .i64 0, .int .i64 0, .int .i64 0, .int .i64 0, .int .u8 0, .int .i64 0, .string ⟨#[]⟩] _, HS.out.1.size, fun x hx => nomatch hx⟩
        refine gen_any (fun V' => BW w V' ∧ NB w [] V' cb [.string ⟨#[]⟩, .int .i64 0, .int .i64 0, .int .i64 0, .int .i64 0, .int .i64 0, .int .i64 0, .int .i64 0, .int .u8 0, .int .i64 0, .string ⟨#[]⟩]) ⟨hHeld, HN.out⟩ ?_
        rw [← hcb]
        clear hHeld hK K HN HS hcb
        intro v9 kk
        have HN : Hid (NB w [] v9 cb [.string ⟨#[]⟩, .int .i64 0, .int .i64 0, .int .i64 0, .int .i64 0, .int .i64 0, .int .i64 0, .int .i64 0, .int .u8 0, .int .i64 0, .string ⟨#[]⟩]) := kk.2
        have hHeld : BW w v9 := kk.1
        clear kk
        refine wpAnyH_ready (rs := [10]) (by kernel_rfl) (by simp) (AllReadyH.cons (o := { dst := some 26, op := _, type := _, pos := _, after := _, guard := none }) rfl (fun K hK => ?_) AllReadyH.nil)
        go_simp
        refine (Y3.out _).mono ?_
        rintro e v10 ⟨rfl, hb10⟩
        refine hK.out _ _ (hHeld.below hb10) (fun hHeld => ?_)
        have HN2 := HN.out.below hb10
        clear HN
        have HN : Hid (NB w [] _ cb _) := HN2
        clear HN2
        clear hK K hb10
        refine wpAnyH_ready (rs := [14]) (by kernel_rfl) (by simp) (AllReadyH.cons (o := { dst := some 30, op := _, type := _, pos := _, after := _, guard := none }) rfl (fun K hK => ?_) AllReadyH.nil)
        go_simp
        refine (MC.out _).mono ?_
        rintro e v11 ⟨rfl, hb11⟩
        refine hK.out _ _ (hHeld.below hb11) (fun hHeld => ?_)
        have HN2 := HN.out.below hb11
        clear HN
        have HN : Hid (NB w [] _ cb _) := HN2
        clear HN2
        clear hK K hb11
        refine wpAnyH_take (i := 18) (v := ?_) (oi := { dst := some 34, op := _, type := _, pos := _, after := _, guard := none }) rfl (by kernel_rfl) (by kernel_rfl) (by kernel_rfl) (fun _ _ _ h => h) (Or.inl ⟨by kernel_rfl, ?_⟩) (by assumption) ?_
        case refine_2 => (intro w9 hSw; clear hSw; go_simp; try with_reducible rfl)
        simp only [Act.put, List.setIfInBounds_toArray, List.set_cons_zero, List.set_cons_succ]
        refine wpAnyH_ready (rs := [20]) (by kernel_rfl) (by simp) (AllReadyH.cons (o := { dst := none, op := _, type := _, pos := _, after := _, guard := none }) rfl (fun K hK => ?_) AllReadyH.nil)
        refine (if_pos (by kernel_rfl)).mpr (wp_store_mid 71 _ _ rfl cb 0 #[.string x1, .int .i64 FR, .int .i64 T0, .int .i64 MO, .int .i64 0, .int .i64 0, .int .i64 0, .int .i64 0, .int .u8 0, .int .i64 0, .string x9] rfl rfl HN.out.1.there (by kernel_rfl) (all_oneCell_toArray (cs := [.string x1, .int .i64 FR, .int .i64 T0, .int .i64 MO, .int .i64 0, .int .i64 0, .int .i64 0, .int .i64 0, .int .u8 0, .int .i64 0, .string x9]) (by simp only [List.forall_mem_cons]; exact ⟨rfl, rfl, rfl, rfl, rfl, rfl, rfl, rfl, rfl, rfl, rfl, fun _ h => nomatch h⟩)) (hK.out _ _ (below_setCells HN.out.2.1 _ _ _ hHeld) (fun hHeld => ?_)))
        have HN2 : Hid (BS w [(cb, [.string x1, .int .i64 FR, .int .i64 T0, .int .i64 MO, .int .i64 0, .int .i64 0, .int .i64 0, .int .i64 0, .int .u8 0, .int .i64 0, .string x9])] (v11.setCells cb 0 [.string x1, .int .i64 FR, .int .i64 T0, .int .i64 MO, .int .i64 0, .int .i64 0, .int .i64 0, .int .i64 0, .int .u8 0, .int .i64 0, .string x9])) := ⟨hHeld, fun x hx => by rw [List.mem_singleton.1 hx]; exact ⟨HN.out.2.1, HN.out.1.setAll _ rfl⟩⟩
        have hcw : w.heap.size ≤ cb := HN.out.2.1
        clear hK K HN
        refine wpAnyH_done (by kernel_rfl) ?_ _
        go_wp2_with fail
        go_meet
        case rel => exact ⟨cb, rfl, hcw, HN2⟩
    ·
      have HS : Hid (BS w [] _) := ⟨hHeld, fun x hx => nomatch hx⟩
      go_simp
      refine hK.out _ _ (hHeld.below ((Below.refl _ _).alloc (Nat.le_refl _) _)) (fun hHeld => ?_)
      skip
      obtain ⟨cb, hcb⟩ : ∃ cb, cb = w.heap.size := ⟨_, rfl⟩
      have HN : Hid (NB w [] (w.drew.alloc (.cells #[.string ⟨#[]⟩, .int .i64 0, .int .i64 0, .int .i64 0, .int .i64 0, .int .i64 0, .int .i64 0, .int .i64 0, .int .u8 0, .int .i64 0, .string ⟨#[]⟩] 71)) cb [.string ⟨#[]⟩, .int .i64 0, .int .i64 0, .int .i64 0, .int .i64 0, .int .i64 0, .int .i64 0, .int .i64 0, .int .u8 0, .int .i64 0, .string ⟨#[]⟩]) := by rw [hcb]; exact ⟨Bx.new w.drew [.string ⟨#[]⟩, .int .i64 0, .int .i64 0, .int .i64 0, .int .i64 0, .int .i64 0, .int .i64 0, .int .i64 0, .int .u8 0, .int .i64 0, .string ⟨#[]⟩] _, HS.out.1.size, fun x hx => nomatch hx⟩
      refine gen_any (fun V' => BW w V' ∧ NB w [] V' cb [.string ⟨#[]⟩, .int .i64 0, .int .i64 0, .int .i64 0, .int .i64 0, .int .i64 0, .int .i64 0, .int .i64 0, .int .u8 0, .int .i64 0, .string ⟨#[]⟩]) ⟨hHeld, HN.out⟩ ?_
      rw [← hcb]
      clear hHeld hK K HN HS hcb
      intro v13 kk
      have HN : Hid (NB w [] v13 cb [.string ⟨#[]⟩, .int .i64 0, .int .i64 0, .int .i64 0, .int .i64 0, .int .i64 0, .int .i64 0, .int .i64 0, .int .u8 0, .int .i64 0, .string ⟨#[]⟩]) := kk.2
      have hHeld : BW w v13 := kk.1
      clear kk
      refine wpAnyH_ready (rs := [6]) (by kernel_rfl) (by simp) (AllReadyH.cons (o := { dst := some 22, op := _, type := _, pos := _, after := _, guard := none }) rfl (fun K hK => ?_) AllReadyH.nil)
      go_simp
      refine (Y2.out _).mono ?_
      rintro e v14 ⟨rfl, hb14⟩
      refine hK.out _ _ (hHeld.below hb14) (fun hHeld => ?_)
      have HN2 := HN.out.below hb14
      clear HN
      have HN : Hid (NB w [] _ cb _) := HN2
      clear HN2
      clear hK K hb14
      refine wpAnyH_ready (rs := [10]) (by kernel_rfl) (by simp) (AllReadyH.cons (o := { dst := some 26, op := _, type := _, pos := _, after := _, guard := none }) rfl (fun K hK => ?_) AllReadyH.nil)
      go_simp
      refine (Y3.out _).mono ?_
      rintro e v15 ⟨rfl, hb15⟩
      refine hK.out _ _ (hHeld.below hb15) (fun hHeld => ?_)
      have HN2 := HN.out.below hb15
      clear HN
      have HN : Hid (NB w [] _ cb _) := HN2
      clear HN2
      clear hK K hb15
      refine wpAnyH_ready (rs := [14]) (by kernel_rfl) (by simp) (AllReadyH.cons (o := { dst := some 30, op := _, type := _, pos := _, after := _, guard := none }) rfl (fun K hK => ?_) AllReadyH.nil)
      go_simp
      refine (MC.out _).mono ?_
      rintro e v16 ⟨rfl, hb16⟩
      refine hK.out _ _ (hHeld.below hb16) (fun hHeld => ?_)
      have HN2 := HN.out.below hb16
      clear HN
      have HN : Hid (NB w [] _ cb _) := HN2
      clear HN2
      clear hK K hb16
      refine wpAnyH_take (i := 18) (v := ?_) (oi := { dst := some 34, op := _, type := _, pos := _, after := _, guard := none }) rfl (by kernel_rfl) (by kernel_rfl) (by kernel_rfl) (fun _ _ _ h => h) (Or.inl ⟨by kernel_rfl, ?_⟩) (by assumption) ?_
      case refine_2 => (intro w9 hSw; clear hSw; go_simp; try with_reducible rfl)
      simp only [Act.put, List.setIfInBounds_toArray, List.set_cons_zero, List.set_cons_succ]
      refine wpAnyH_ready (rs := [20]) (by kernel_rfl) (by simp) (AllReadyH.cons (o := { dst := none, op := _, type := _, pos := _, after := _, guard := none }) rfl (fun K hK => ?_) AllReadyH.nil)
      refine (if_pos (by kernel_rfl)).mpr (wp_store_mid 71 _ _ rfl cb 0 #[.string x1, .int .i64 FR, .int .i64 T0, .int .i64 MO, .int .i64 0, .int .i64 0, .int .i64 0, .int .i64 0, .int .u8 0, .int .i64 0, .string x9] rfl rfl HN.out.1.there (by kernel_rfl) (all_oneCell_toArray (cs := [.string x1, .int .i64 FR, .int .i64 T0, .int .i64 MO, .int .i64 0, .int .i64 0, .int .i64 0, .int .i64 0, .int .u8 0, .int .i64 0, .string x9]) (by simp only [List.forall_mem_cons]; exact ⟨rfl, rfl, rfl, rfl, rfl, rfl, rfl, rfl, rfl, rfl, rfl, fun _ h => nomatch h⟩)) (hK.out _ _ (below_setCells HN.out.2.1 _ _ _ hHeld) (fun hHeld => ?_)))
      have HN2 : Hid (BS w [(cb, [.string x1, .int .i64 FR, .int .i64 T0, .int .i64 MO, .int .i64 0, .int .i64 0, .int .i64 0, .int .i64 0, .int .u8 0, .int .i64 0, .string x9])] (v16.setCells cb 0 [.string x1, .int .i64 FR, .int .i64 T0, .int .i64 MO, .int .i64 0, .int .i64 0, .int .i64 0, .int .i64 0, .int .u8 0, .int .i64 0, .string x9])) := ⟨hHeld, fun x hx => by rw [List.mem_singleton.1 hx]; exact ⟨HN.out.2.1, HN.out.1.setAll _ rfl⟩⟩
      have hcw : w.heap.size ≤ cb := HN.out.2.1
      clear hK K HN
      refine wpAnyH_done (by kernel_rfl) ?_ _
      go_wp2_with fail
      go_meet
      case rel => exact ⟨cb, rfl, hcw, HN2⟩
  case rest =>
    obtain ⟨cb, rfl, hcw, K1'⟩ := hcut
    have K1 : Hid (BS w [(cb, [.string x1, .int .i64 FR, .int .i64 T0, .int .i64 MO, .int .i64 0, .int .i64 0, .int .i64 0, .int .i64 0, .int .u8 0, .int .i64 0, .string x9])] wc) := K1'
    clear K1' Y2 Y3 MC f2 f5
    obtain ⟨W1, hW1⟩ : ∃ W1, W1 = wc := ⟨_, rfl⟩
    rw [← hW1] at K1
    rw [← hW1]
    clear hW1
    have f3_ : W1.cell? ⟨fb, fo + 3, none⟩ = some (.string x3) := (K1.out.1.cell (p := ⟨fb, fo + 3, none⟩) hg).trans f3.out
    go_wp2_with fail
    refine (SO.out _).mono ?_
    rintro e V1 ⟨rfl, hb⟩
    have Kv : Hid (BS w [(cb, [.string x1, .int .i64 FR, .int .i64 T0, .int .i64 MO, .int .i64 0, .int .i64 0, .int .i64 0, .int .i64 0, .int .u8 0, .int .i64 0, .string x9])] V1) := K1.out.below hb
    clear hb f3_ K1
    go_upto_if 38 with fail
    go_cut [] (fun wx => Hid (BS w [(cb, [.string x1, .int .i64 FR, .int .i64 T1, .int .i64 MO, .int .i64 0, .int .i64 0, .int .i64 0, .int .i64 0, .int .u8 0, .int .i64 0, .string x9])] wx))
    case first => as_aux_lemma =>
      cases bO
      · have hq : _ = _ := hT1.out
        rw [if_neg Bool.false_ne_true] at hq
        subst hq
        go_wp2_with fail
        go_meet
        case rel => exact Kv
      · have hq : _ = _ := hT1.out
        rw [if_pos rfl] at hq
        subst hq
        have ccb_1 : V1.cell? ⟨cb, 1, none⟩ = some (.int .i64 FR) := (Kv.out.at cb [.string x1, .int .i64 FR, .int .i64 T0, .int .i64 MO, .int .i64 0, .int .i64 0, .int .i64 0, .int .i64 0, .int .u8 0, .int .i64 0, .string x9] (by simp)).c 1 rfl
        have zcb_1 : V1.frozen? ⟨cb, 1, none⟩ = false := (Kv.out.at cb [.string x1, .int .i64 FR, .int .i64 T0, .int .i64 MO, .int .i64 0, .int .i64 0, .int .i64 0, .int .i64 0, .int .u8 0, .int .i64 0, .string x9] (by simp)).f 1 rfl
        have ccb_2 : V1.cell? ⟨cb, 2, none⟩ = some (.int .i64 T0) := (Kv.out.at cb [.string x1, .int .i64 FR, .int .i64 T0, .int .i64 MO, .int .i64 0, .int .i64 0, .int .i64 0, .int .i64 0, .int .u8 0, .int .i64 0, .string x9] (by simp)).c 2 rfl
        have zcb_2 : V1.frozen? ⟨cb, 2, none⟩ = false := (Kv.out.at cb [.string x1, .int .i64 FR, .int .i64 T0, .int .i64 MO, .int .i64 0, .int .i64 0, .int .i64 0, .int .i64 0, .int .u8 0, .int .i64 0, .string x9] (by simp)).f 2 rfl
        have KN : Hid (BS w [(cb, [.string x1, .int .i64 FR, .int .i64 FR, .int .i64 MO, .int .i64 0, .int .i64 0, .int .i64 0, .int .i64 0, .int .u8 0, .int .i64 0, .string x9])] (V1.setCell ⟨cb, 2, none⟩ (.int .i64 FR))) := Kv.out.set1 2 (.int .i64 FR) (by simp) (fun x hx => nomatch hx)
        go_wp2_with fail
        go_meet
        case rel => exact KN
    case rest =>
      have K2 : Hid (BS w [(cb, [.string x1, .int .i64 FR, .int .i64 T1, .int .i64 MO, .int .i64 0, .int .i64 0, .int .i64 0, .int .i64 0, .int .u8 0, .int .i64 0, .string x9])] wc) := hcut
      clear hcut Kv SO hT1
      obtain ⟨W2, hW⟩ : ∃ W, W = wc := ⟨_, rfl⟩
      rw [← hW] at K2
      rw [← hW]
      clear hW
      have f3_ : W2.cell? ⟨fb, fo + 3, none⟩ = some (.string x3) := (K2.out.1.cell (p := ⟨fb, fo + 3, none⟩) hg).trans f3.out
      go_wp2_with fail
      refine (SM.out _).mono ?_
      rintro e V1 ⟨rfl, hb⟩
      have Kv : Hid (BS w [(cb, [.string x1, .int .i64 FR, .int .i64 T1, .int .i64 MO, .int .i64 0, .int .i64 0, .int .i64 0, .int .i64 0, .int .u8 0, .int .i64 0, .string x9])] V1) := K2.out.below hb
      clear hb f3_ K2
      go_upto_if 45 with fail
      go_cut [] (fun wx => Hid (BS w [(cb, [.string x1, .int .i64 FR, .int .i64 T2, .int .i64 MO, .int .i64 0, .int .i64 0, .int .i64 0, .int .i64 0, .int .u8 0, .int .i64 0, .string x9])] wx))
      case first => as_aux_lemma =>
        cases bM
        · have hq : _ = _ := hT2.out
          rw [if_neg Bool.false_ne_true] at hq
          subst hq
          go_wp2_with fail
          go_meet
          case rel => exact Kv
        · have hq : _ = _ := hT2.out
          rw [if_pos rfl] at hq
          subst hq
          have ccb_1 : V1.cell? ⟨cb, 1, none⟩ = some (.int .i64 FR) := (Kv.out.at cb [.string x1, .int .i64 FR, .int .i64 T1, .int .i64 MO, .int .i64 0, .int .i64 0, .int .i64 0, .int .i64 0, .int .u8 0, .int .i64 0, .string x9] (by simp)).c 1 rfl
          have zcb_1 : V1.frozen? ⟨cb, 1, none⟩ = false := (Kv.out.at cb [.string x1, .int .i64 FR, .int .i64 T1, .int .i64 MO, .int .i64 0, .int .i64 0, .int .i64 0, .int .i64 0, .int .u8 0, .int .i64 0, .string x9] (by simp)).f 1 rfl
          have ccb_2 : V1.cell? ⟨cb, 2, none⟩ = some (.int .i64 T1) := (Kv.out.at cb [.string x1, .int .i64 FR, .int .i64 T1, .int .i64 MO, .int .i64 0, .int .i64 0, .int .i64 0, .int .i64 0, .int .u8 0, .int .i64 0, .string x9] (by simp)).c 2 rfl
          have zcb_2 : V1.frozen? ⟨cb, 2, none⟩ = false := (Kv.out.at cb [.string x1, .int .i64 FR, .int .i64 T1, .int .i64 MO, .int .i64 0, .int .i64 0, .int .i64 0, .int .i64 0, .int .u8 0, .int .i64 0, .string x9] (by simp)).f 2 rfl
          have KN : Hid (BS w [(cb, [.string x1, .int .i64 FR, .int .i64 1073741824, .int .i64 MO, .int .i64 0, .int .i64 0, .int .i64 0, .int .i64 0, .int .u8 0, .int .i64 0, .string x9])] (V1.setCell ⟨cb, 2, none⟩ (.int .i64 1073741824))) := Kv.out.set1 2 (.int .i64 1073741824) (by simp) (fun x hx => nomatch hx)
          go_wp2_with fail
          go_meet
          case rel => exact KN
      case rest =>
        have K3 : Hid (BS w [(cb, [.string x1, .int .i64 FR, .int .i64 T2, .int .i64 MO, .int .i64 0, .int .i64 0, .int .i64 0, .int .i64 0, .int .u8 0, .int .i64 0, .string x9])] wc) := hcut
        clear hcut Kv SM hT2
        obtain ⟨W3, hW⟩ : ∃ W, W = wc := ⟨_, rfl⟩
        rw [← hW] at K3
        rw [← hW]
        clear hW
        have f6_ : W3.cell? ⟨fb, fo + 6, none⟩ = some (.string x6) := (K3.out.1.cell (p := ⟨fb, fo + 6, none⟩) hg).trans f6.out
        go_wp2_with fail
        refine (ON.out _).mono ?_
        rintro e V1 ⟨rfl, hb⟩
        have Kv3 : Hid (BS w [(cb, [.string x1, .int .i64 FR, .int .i64 T2, .int .i64 MO, .int .i64 0, .int .i64 0, .int .i64 0, .int .i64 0, .int .u8 0, .int .i64 0, .string x9])] V1) := K3.out.below hb
        clear hb f6_ K3 ON f6
        have ccb_4 : V1.cell? ⟨cb, 4, none⟩ = some (.int .i64 0) := (Kv3.out.at cb [.string x1, .int .i64 FR, .int .i64 T2, .int .i64 MO, .int .i64 0, .int .i64 0, .int .i64 0, .int .i64 0, .int .u8 0, .int .i64 0, .string x9] (by simp)).c 4 rfl
        have zcb_4 : V1.frozen? ⟨cb, 4, none⟩ = false := (Kv3.out.at cb [.string x1, .int .i64 FR, .int .i64 T2, .int .i64 MO, .int .i64 0, .int .i64 0, .int .i64 0, .int .i64 0, .int .u8 0, .int .i64 0, .string x9] (by simp)).f 4 rfl
        have ccb_5 : V1.cell? ⟨cb, 5, none⟩ = some (.int .i64 0) := (Kv3.out.at cb [.string x1, .int .i64 FR, .int .i64 T2, .int .i64 MO, .int .i64 0, .int .i64 0, .int .i64 0, .int .i64 0, .int .u8 0, .int .i64 0, .string x9] (by simp)).c 5 rfl
        have zcb_5 : V1.frozen? ⟨cb, 5, none⟩ = false := (Kv3.out.at cb [.string x1, .int .i64 FR, .int .i64 T2, .int .i64 MO, .int .i64 0, .int .i64 0, .int .i64 0, .int .i64 0, .int .u8 0, .int .i64 0, .string x9] (by simp)).f 5 rfl
        have ccb_6 : V1.cell? ⟨cb, 6, none⟩ = some (.int .i64 0) := (Kv3.out.at cb [.string x1, .int .i64 FR, .int .i64 T2, .int .i64 MO, .int .i64 0, .int .i64 0, .int .i64 0, .int .i64 0, .int .u8 0, .int .i64 0, .string x9] (by simp)).c 6 rfl
        have zcb_6 : V1.frozen? ⟨cb, 6, none⟩ = false := (Kv3.out.at cb [.string x1, .int .i64 FR, .int .i64 T2, .int .i64 MO, .int .i64 0, .int .i64 0, .int .i64 0, .int .i64 0, .int .u8 0, .int .i64 0, .string x9] (by simp)).f 6 rfl
        have KM3 : Hid (BS w [(cb, [.string x1, .int .i64 FR, .int .i64 T2, .int .i64 MO, .int .i64 oa, .int .i64 ob, .int .i64 oc, .int .i64 0, .int .u8 0, .int .i64 0, .string x9])] (((V1.setCell ⟨cb, 4, none⟩ (.int .i64 oa)).setCell ⟨cb, 5, none⟩ (.int .i64 ob)).setCell ⟨cb, 6, none⟩ (.int .i64 oc))) := (((Kv3.out.set1 4 (.int .i64 oa) (by simp) (fun x hx => nomatch hx)).set1 5 (.int .i64 ob) (by simp) (fun x hx => nomatch hx)).set1 6 (.int .i64 oc) (by simp) (fun x hx => nomatch hx))
        go_upto_region 12 with fail
        refine gen_to (BS w [(cb, [.string x1, .int .i64 FR, .int .i64 T2, .int .i64 MO, .int .i64 oa, .int .i64 ob, .int .i64 oc, .int .i64 0, .int .u8 0, .int .i64 0, .string x9])]) KM3.out ?_
        intro W4 K4'
        have K4 : Hid (BS w [(cb, [.string x1, .int .i64 FR, .int .i64 T2, .int .i64 MO, .int .i64 oa, .int .i64 ob, .int .i64 oc, .int .i64 0, .int .u8 0, .int .i64 0, .string x9])] W4) := K4'
        clear K4' KM3 Kv3 ccb_4 zcb_4 ccb_5 zcb_5 ccb_6 zcb_6
        clear V1
        have f7_ : W4.cell? ⟨fb, fo + 7, none⟩ = some (.string x7) := (K4.out.1.cell (p := ⟨fb, fo + 7, none⟩) hg).trans f7.out
        go_wp2_with fail
        refine (AT.out _).mono ?_
        rintro e V1 ⟨rfl, hb⟩
        have Kv4 : Hid (BS w [(cb, [.string x1, .int .i64 FR, .int .i64 T2, .int .i64 MO, .int .i64 oa, .int .i64 ob, .int .i64 oc, .int .i64 0, .int .u8 0, .int .i64 0, .string x9])] V1) := K4.out.below hb
        clear hb f7_ K4 AT f7
        have ccb_7 : V1.cell? ⟨cb, 7, none⟩ = some (.int .i64 0) := (Kv4.out.at cb [.string x1, .int .i64 FR, .int .i64 T2, .int .i64 MO, .int .i64 oa, .int .i64 ob, .int .i64 oc, .int .i64 0, .int .u8 0, .int .i64 0, .string x9] (by simp)).c 7 rfl
        have zcb_7 : V1.frozen? ⟨cb, 7, none⟩ = false := (Kv4.out.at cb [.string x1, .int .i64 FR, .int .i64 T2, .int .i64 MO, .int .i64 oa, .int .i64 ob, .int .i64 oc, .int .i64 0, .int .u8 0, .int .i64 0, .string x9] (by simp)).f 7 rfl
        have ccb_8 : V1.cell? ⟨cb, 8, none⟩ = some (.int .u8 0) := (Kv4.out.at cb [.string x1, .int .i64 FR, .int .i64 T2, .int .i64 MO, .int .i64 oa, .int .i64 ob, .int .i64 oc, .int .i64 0, .int .u8 0, .int .i64 0, .string x9] (by simp)).c 8 rfl
        have zcb_8 : V1.frozen? ⟨cb, 8, none⟩ = false := (Kv4.out.at cb [.string x1, .int .i64 FR, .int .i64 T2, .int .i64 MO, .int .i64 oa, .int .i64 ob, .int .i64 oc, .int .i64 0, .int .u8 0, .int .i64 0, .string x9] (by simp)).f 8 rfl
        have KM4 : Hid (BS w [(cb, [.string x1, .int .i64 FR, .int .i64 T2, .int .i64 MO, .int .i64 oa, .int .i64 ob, .int .i64 oc, .int .i64 ta, .int .u8 tz, .int .i64 0, .string x9])] ((V1.setCell ⟨cb, 7, none⟩ (.int .i64 ta)).setCell ⟨cb, 8, none⟩ (.int .u8 tz))) := ((Kv4.out.set1 7 (.int .i64 ta) (by simp) (fun x hx => nomatch hx)).set1 8 (.int .u8 tz) (by simp) (fun x hx => nomatch hx))
        go_upto_region 13 with fail
        refine gen_to (BS w [(cb, [.string x1, .int .i64 FR, .int .i64 T2, .int .i64 MO, .int .i64 oa, .int .i64 ob, .int .i64 oc, .int .i64 ta, .int .u8 tz, .int .i64 0, .string x9])]) KM4.out ?_
        intro W5 K5'
        have K5 : Hid (BS w [(cb, [.string x1, .int .i64 FR, .int .i64 T2, .int .i64 MO, .int .i64 oa, .int .i64 ob, .int .i64 oc, .int .i64 ta, .int .u8 tz, .int .i64 0, .string x9])] W5) := K5'
        clear K5' KM4 Kv4 ccb_7 zcb_7 ccb_8 zcb_8
        clear V1
        have f8_ : W5.cell? ⟨fb, fo + 8, none⟩ = some (.string x8) := (K5.out.1.cell (p := ⟨fb, fo + 8, none⟩) hg).trans f8.out
        go_wp2_with fail
        refine (RS.out _).mono ?_
        rintro e V1 ⟨rfl, hb⟩
        have Kv5 : Hid (BS w [(cb, [.string x1, .int .i64 FR, .int .i64 T2, .int .i64 MO, .int .i64 oa, .int .i64 ob, .int .i64 oc, .int .i64 ta, .int .u8 tz, .int .i64 0, .string x9])] V1) := K5.out.below hb
        clear hb f8_ K5 RS f8
        have ccb_9 : V1.cell? ⟨cb, 9, none⟩ = some (.int .i64 0) := (Kv5.out.at cb [.string x1, .int .i64 FR, .int .i64 T2, .int .i64 MO, .int .i64 oa, .int .i64 ob, .int .i64 oc, .int .i64 ta, .int .u8 tz, .int .i64 0, .string x9] (by simp)).c 9 rfl
        have zcb_9 : V1.frozen? ⟨cb, 9, none⟩ = false := (Kv5.out.at cb [.string x1, .int .i64 FR, .int .i64 T2, .int .i64 MO, .int .i64 oa, .int .i64 ob, .int .i64 oc, .int .i64 ta, .int .u8 tz, .int .i64 0, .string x9] (by simp)).f 9 rfl
        have KM5 : Hid (BS w [(cb, [.string x1, .int .i64 FR, .int .i64 T2, .int .i64 MO, .int .i64 oa, .int .i64 ob, .int .i64 oc, .int .i64 ta, .int .u8 tz, .int .i64 SV, .string x9])] (V1.setCell ⟨cb, 9, none⟩ (.int .i64 SV))) := (Kv5.out.set1 9 (.int .i64 SV) (by simp) (fun x hx => nomatch hx))
        go_upto_region 14 with fail
        refine gen_to (BS w [(cb, [.string x1, .int .i64 FR, .int .i64 T2, .int .i64 MO, .int .i64 oa, .int .i64 ob, .int .i64 oc, .int .i64 ta, .int .u8 tz, .int .i64 SV, .string x9])]) KM5.out ?_
        intro W6 K6'
        have K6 : Hid (BS w [(cb, [.string x1, .int .i64 FR, .int .i64 T2, .int .i64 MO, .int .i64 oa, .int .i64 ob, .int .i64 oc, .int .i64 ta, .int .u8 tz, .int .i64 SV, .string x9])] W6) := K6'
        clear K6' KM5 Kv5 ccb_9 zcb_9
        clear V1
        have ccb_10 : W6.cell? ⟨cb, 10, none⟩ = some (.string x9) := (K6.out.at cb [.string x1, .int .i64 FR, .int .i64 T2, .int .i64 MO, .int .i64 oa, .int .i64 ob, .int .i64 oc, .int .i64 ta, .int .u8 tz, .int .i64 SV, .string x9] (by simp)).c 10 rfl
        have zcb_10 : W6.frozen? ⟨cb, 10, none⟩ = false := (K6.out.at cb [.string x1, .int .i64 FR, .int .i64 T2, .int .i64 MO, .int .i64 oa, .int .i64 ob, .int .i64 oc, .int .i64 ta, .int .u8 tz, .int .i64 SV, .string x9] (by simp)).f 10 rfl
        go_upto_if 73 with fail
        go_cut [] (fun wx => Hid (BS w [(cb, [.string x1, .int .i64 FR, .int .i64 T2, .int .i64 MO, .int .i64 oa, .int .i64 ob, .int .i64 oc, .int .i64 ta, .int .u8 tz, .int .i64 SV, .string LX])] wx))
        case first => as_aux_lemma =>
          cases h45 : (x9.toList == [45])
          · have hl : LB = true := by
              rcases HLO.out with q | q
              · rw [h45] at q; cases q
              · exact q
            subst hl
            have hq : _ = _ := hLX.out
            rw [h45, if_neg Bool.false_ne_true] at hq
            subst hq
            go_wp2_with fail
            refine (LT.out _).mono ?_
            rintro e V1 ⟨rfl, hb⟩
            have Kv : Hid (BS w [(cb, [.string x1, .int .i64 FR, .int .i64 T2, .int .i64 MO, .int .i64 oa, .int .i64 ob, .int .i64 oc, .int .i64 ta, .int .u8 tz, .int .i64 SV, .string x9])] V1) := K6.out.below hb
            clear hb
            go_wp2_with fail
            go_meet
            case rel => exact Kv
          · have hq : _ = _ := hLX.out
            rw [h45, if_pos rfl] at hq
            have KN : Hid (BS w [(cb, [.string x1, .int .i64 FR, .int .i64 T2, .int .i64 MO, .int .i64 oa, .int .i64 ob, .int .i64 oc, .int .i64 ta, .int .u8 tz, .int .i64 SV, .string LX])] (W6.setCell ⟨cb, 10, none⟩ (.string ⟨#[]⟩))) := by
              rw [← hq]
              exact K6.out.set1 10 (.string ⟨#[]⟩) (by simp) (fun x hx => nomatch hx)
            clear hq
            go_wp2_with fail
            go_meet
            case rel => exact KN
        case rest =>
          have K7 : Hid (BS w [(cb, [.string x1, .int .i64 FR, .int .i64 T2, .int .i64 MO, .int .i64 oa, .int .i64 ob, .int .i64 oc, .int .i64 ta, .int .u8 tz, .int .i64 SV, .string LX])] wc) := hcut
          clear hcut K6 LT hLX f9 ccb_10 zcb_10
          obtain ⟨W7, hW⟩ : ∃ W, W = wc := ⟨_, rfl⟩
          rw [← hW] at K7
          rw [← hW]
          clear hW
          go_upto_region 18 with fail
          go_cut [127] (fun v wx => v = .bool false ∧ Hid (BS w [(cb, [.string x1, .int .i64 FR, .int .i64 T2, .int .i64 MO, .int .i64 oa, .int .i64 ob, .int .i64 oc, .int .i64 ta, .int .u8 tz, .int .i64 SV, .string LX])] wx))
          case first => as_aux_lemma =>
            have ccb_0 : W7.cell? ⟨cb, 0, none⟩ = some (.string x1) := (K7.out.at cb [.string x1, .int .i64 FR, .int .i64 T2, .int .i64 MO, .int .i64 oa, .int .i64 ob, .int .i64 oc, .int .i64 ta, .int .u8 tz, .int .i64 SV, .string LX] (by simp)).c 0 rfl
            go_wp2_with fail
            refine (NM.out _).mono ?_
            rintro e V1 ⟨rfl, hb⟩
            have Kv : Hid (BS w [(cb, [.string x1, .int .i64 FR, .int .i64 T2, .int .i64 MO, .int .i64 oa, .int .i64 ob, .int .i64 oc, .int .i64 ta, .int .u8 tz, .int .i64 SV, .string LX])] V1) := K7.out.below hb
            clear hb K7 ccb_0 NM
            have ccb_1 : V1.cell? ⟨cb, 1, none⟩ = some (.int .i64 FR) := (Kv.out.at cb [.string x1, .int .i64 FR, .int .i64 T2, .int .i64 MO, .int .i64 oa, .int .i64 ob, .int .i64 oc, .int .i64 ta, .int .u8 tz, .int .i64 SV, .string LX] (by simp)).c 1 rfl
            have ccb_2 : V1.cell? ⟨cb, 2, none⟩ = some (.int .i64 T2) := (Kv.out.at cb [.string x1, .int .i64 FR, .int .i64 T2, .int .i64 MO, .int .i64 oa, .int .i64 ob, .int .i64 oc, .int .i64 ta, .int .u8 tz, .int .i64 SV, .string LX] (by simp)).c 2 rfl
            have ccb_3 : V1.cell? ⟨cb, 3, none⟩ = some (.int .i64 MO) := (Kv.out.at cb [.string x1, .int .i64 FR, .int .i64 T2, .int .i64 MO, .int .i64 oa, .int .i64 ob, .int .i64 oc, .int .i64 ta, .int .u8 tz, .int .i64 SV, .string LX] (by simp)).c 3 rfl
            have ccb_9 : V1.cell? ⟨cb, 9, none⟩ = some (.int .i64 SV) := (Kv.out.at cb [.string x1, .int .i64 FR, .int .i64 T2, .int .i64 MO, .int .i64 oa, .int .i64 ob, .int .i64 oc, .int .i64 ta, .int .u8 tz, .int .i64 SV, .string LX] (by simp)).c 9 rfl
            have f4_ : V1.cell? ⟨fb, fo + 4, none⟩ = some (.string x4) := (Kv.out.1.cell (p := ⟨fb, fo + 4, none⟩) hg).trans f4.out
            have q2 : _ = _ := p2.out
            have q3 : _ ≤ _ := p3.out
            have q4 : _ = _ := p4.out
            have q5 : _ = _ := p5.out
            have q6 : _ = _ := p6.out
            have q7 : _ = _ := p7.out
            have q8 : _ = _ := p8.out
            have q9 : _ ≤ _ := p9.out
            have q10 : _ ≤ _ := p10.out
            go_wp2_with fail
            go_meet
            case rel => exact ⟨by rw [decide_eq_false (show ¬ T2 < FR by omega), decide_eq_false (show ¬ SV < 0 by omega), decide_eq_false (show ¬ 7200 < SV by omega)]; rfl, Kv⟩
          case rest =>
            obtain ⟨rfl, K8'⟩ := hcut
            have K8 : Hid (BS w [(cb, [.string x1, .int .i64 FR, .int .i64 T2, .int .i64 MO, .int .i64 oa, .int .i64 ob, .int .i64 oc, .int .i64 ta, .int .u8 tz, .int .i64 SV, .string LX])] wc) := K8'
            clear K8' K7 NM f1 f3 f4 p2 p3 p4 p5 p6 p7 p8 p9 p10 HLO
            obtain ⟨W8, hW⟩ : ∃ W, W = wc := ⟨_, rfl⟩
            rw [← hW] at K8
            rw [← hW]
            clear hW
            have HCN : Hid (∀ k, S.cnt k = (manyR k S.rules : Int)) := HR.out.cn
            have HDN0 : Hid (S.dn = (onceR [] S.rules).length) := HR.out.dn
            have HTOP : Hid (S.dn ≤ 16) := HR.out.top
            obtain ⟨ar, cr, hxr, hc1, hc2, kr⟩ := own_rowP HP.out.getR
            subst hxr
            unfold maxLen at hc2
            obtain ⟨n, hn⟩ : ∃ n, S.rules.length = n := ⟨_, rfl⟩
            have hn9 : n ≤ 100000 := by omega
            have HO : Hid (PN U g B S (.slice ar n cr) xl xa xz vs w) := by rw [← hn]; exact HP.out
            clear HP
            rw [hn] at hc1 kr
            have S0 : Hid (SW W8 [] (.slice none 0 0) W8) := SW.start W8
            go_wp2_with fail
            go_loopw [9, 10, 11] (fun v9 v10 v11 W => ∃ (j : Nat) (va : Value), v9 = .int .i64 (manyR x1 (S.rules.take j) : Int) ∧ v10 = va ∧ v11 = .int .i64 (j : Int) ∧ j ≤ n ∧ Hid (SW W8 (onceR [] (S.rules.take j)) va W)) (fun _ _ iv _ => n - (intOf iv).toNat)
            case atStart => exact ⟨0, _, rfl, rfl, rfl, Nat.zero_le _, S0⟩
            case round =>
              clear S0 HR
              obtain ⟨j, va, rfl, rfl, rfl, hj, KS⟩ := hrel
              have hj0 : (0 : Int) ≤ (j : Int) := by omega
              have KW : Hid (BS w [(cb, [.string x1, .int .i64 FR, .int .i64 T2, .int .i64 MO, .int .i64 oa, .int .i64 ob, .int .i64 oc, .int .i64 ta, .int .u8 tz, .int .i64 SV, .string LX])] wr) := K8.out.below KS.out.low
              have HPw : Hid (PN U g B S (.slice ar n cr) xl xa xz vs wr) := HO.out.below KW.out.1
              have b0 := HPw.out.box.c 0 rfl
              have b9 := HPw.out.lt
              by_cases hjn : j < n
              · as_aux_lemma =>
                  have hjI : (j : Int) < (n : Int) := by omega
                  have hjw : IntKind.i64.wrap ((j : Int) + 1) = (j : Int) + 1 := by rw [IntKind.wrap_i64]; omega
                  obtain ⟨r, hr⟩ : ∃ r, S.rules[j]? = some r := ⟨_, List.getElem?_eq_getElem (by omega)⟩
                  obtain ⟨rb, hrb, -⟩ := kr (by omega)
                  subst hrb
                  have hown := HPw.out.getR
                  rw [hn] at hown
                  have e0 := (hown.cellAt (j * 11) (by omega)).trans (ruleXs_at _ j 0 r _ hr rfl)
                  have e1 := KW.out.first.c 0 rfl
                  have e2 := KW.out.first.1
                  clear hown
                  have hm2 := manyR_at x1 hr
                  have ho2 := onceR_at hr
                  have hml := manyR_le x1 (S.rules.take j)
                  have htl : (S.rules.take j).length ≤ j := by simp; omega
                  obtain ⟨D, hD⟩ : ∃ D, onceR [] (S.rules.take j) = D := ⟨_, rfl⟩
                  have hDl := onceR_len (S.rules.take j) []
                  rw [hD] at hDl KS ho2
                  obtain ⟨mm, hmm⟩ : ∃ mm, manyR x1 (S.rules.take j) = mm := ⟨_, rfl⟩
                  rw [hmm] at hm2 hml
                  rw [hmm]
                  obtain ⟨m2, hm2'⟩ : ∃ m2, manyR x1 (S.rules.take (j + 1)) = m2 := ⟨_, rfl⟩
                  rw [hm2'] at hm2
                  have HM2 : Hid (manyR x1 (S.rules.take (j + 1)) = m2) := hm2'
                  have HD2 : Hid (onceR [] (S.rules.take (j + 1)) = if amB r.nm D = true then D else D ++ [r.nm]) := ho2
                  clear ho2 hm2' hD hmm HO HB1 HC HCN HDN0 HTOP
                  simp only [List.length_nil, Nat.zero_add] at hDl
                  have hDn : D.length ≤ 100000 := by omega
                  obtain ⟨dq, dn, dc, hdv⟩ := own_sliceP KS.out.own
                  subst hdv
                  obtain ⟨rn, hrn⟩ : ∃ rn, r.nm = rn := ⟨_, rfl⟩
                  rw [hrn] at e0 hm2 HD2
                  have hmw : IntKind.i64.wrap ((mm : Int) + 1) = (mm : Int) + 1 := by rw [IntKind.wrap_i64]; omega
                  have hrng : (0 : Int) ≤ (n : Int) := by omega
                  have HM3 : Hid ((if (rn.toList == x1.toList) = true then (mm : Int) + 1 else (mm : Int)) = (m2 : Int)) := by
                    show _ = _
                    rw [tl_eq]
                    by_cases q : rn = x1
                    · rw [decide_eq_true q, if_pos rfl, hm2, if_pos q]; omega
                    · rw [decide_eq_false q, if_neg Bool.false_ne_true, hm2, if_neg q]; omega
                  clear hm2 hml
                  have hdl : dn = D.length := by
                    rcases own_rowP KS.out.own with ⟨a9, c9, e9, _⟩
                    cases e9; rfl
                  subst hdl
                  obtain ⟨a9, c9, he9, hdc, hdc9, hdk⟩ := own_rowP KS.out.own
                  cases he9
                  have AM : Hid (∀ W : World, Below wr.heap.size wr W → Calls Tryz.prog 22 #[.string rn, .slice dq D.length dc] W fun e w' => e = .returned (.bool (amB rn D)) ∧ Below W.heap.size W w') := fun W hb => by
                    refine qamong_any rn D dq dc W hdc hdc9 (fun hne => ?_)
                    have hpos : 0 < D.length := List.length_pos_iff.2 hne
                    obtain ⟨b, hb2, -⟩ := hdk hpos
                    subst hb2
                    refine ⟨b, rfl, fun k x hx => ?_⟩
                    exact ((KS.out.below hb).get rfl hx).1
                  clear hdk
                  go_upto_if 150 with fail
                  go_cut [9] (fun v wx => v = .int .i64 (m2 : Int) ∧ wx = wr)
                  case first => as_aux_lemma =>
                    cases hq : (rn.toList == x1.toList)
                    · have hq3 : _ = _ := HM3.out
                      rw [hq, if_neg Bool.false_ne_true] at hq3
                      have HQ : Hid ((mm : Int) = (m2 : Int)) := hq3
                      clear hq3 HM3
                      go_wp2_with fail
                      go_meet
                      case rel => exact ⟨by rw [HQ.out], rfl⟩
                    · have hq3 : _ = _ := HM3.out
                      rw [hq, if_pos rfl] at hq3
                      have HQ : Hid ((mm : Int) + 1 = (m2 : Int)) := hq3
                      clear hq3 HM3
                      go_wp2_with fail
                      go_meet
                      case rel => exact ⟨by rw [← HQ.out], rfl⟩
                  case rest =>
                    obtain ⟨rfl, rfl⟩ := hcut
                    clear HM3 e0 e1 e2 b0 b9
                    go_wp2_with fail
                    refine (AM.out _ (Below.refl _ _)).mono ?_
                    rintro e W2 ⟨rfl, hb⟩
                    have KS2 : Hid (SW W8 D (.slice dq D.length dc) W2) := KS.out.below hb
                    clear hb AM KS KW HPw K8
                    cases ha : amB rn D
                    · have HE : Hid (onceR [] (S.rules.take (j + 1)) = D ++ [rn]) := by show _ = _; rw [HD2.out, ha]; rfl
                      clear HD2 ha
                      have KX : Hid (SW W8 D (.slice dq D.length dc) (W2.alloc (.cells #[.string rn] 9))) := KS2.out.below ((Below.refl _ W2).alloc (Nat.le_refl _) _)
                      have HX : Hid (Bx (W2.alloc (.cells #[.string rn] 9)) W2.heap.size [.string rn]) := Bx.new W2 [.string rn] _
                      obtain ⟨i0, hi0, iz0, iz1, iz2⟩ := info_partsP infoSq
                      go_wp2_with (at_builtin; refine Hid.out ?_)
                      unfold Hid
                      refine wpl_append_newP rfl _ _ 52 rfl W8.heap.size 9 i0 (.string ByteArray.empty) 1 16 Tryz.underlying52 hi0 iz0 iz1 iz2 rfl (by decide) _ D.length (stQ D) rfl KX.out.own ⟨W2.heap.size, 0, none⟩ 1 [.string rn] rfl rfl (fun j u hj => by rw [show (⟨W2.heap.size, 0, none⟩ : Addr).add j = ⟨W2.heap.size, j, none⟩ from by rw [Addr.add_lit]; simp]; exact (HX.out.2 j u hj).1) (by intro u hu; simp at hu; subst hu; rfl) (by unfold maxLen; omega) (by omega) KX.out.low.size ?_
                      intro v' w4 hown' hgrow hnew
                      have KN : Hid (SW W8 (D ++ [rn]) v' w4) := KX.out.more hgrow hown'
                      clear hown' hgrow hnew KX HX KS2
                      obtain ⟨s1, s2, s3, hv'⟩ := own_sliceP KN.out.own
                      subst hv'
                      go_wp2_with fail
                      exact ⟨⟨j + 1, _, by rw [HM2.out], rfl, rfl, hjn, by rw [HE.out]; exact KN⟩, by simp only [intOf]; omega⟩
                    · have HE : Hid (onceR [] (S.rules.take (j + 1)) = D) := by show _ = _; rw [HD2.out, ha]; rfl
                      clear HD2 ha
                      go_wp2_with fail
                      exact ⟨⟨j + 1, _, by rw [HM2.out], rfl, rfl, hjn, by rw [HE.out]; exact KS2⟩, by simp only [intOf]; omega⟩
              · have hjI : ¬ (j : Int) < (n : Int) := by omega
                have hjL : j = S.rules.length := by omega
                rw [hjL, List.take_length] at KS
                rw [hjL, List.take_length, hn]
                obtain ⟨D, hD⟩ : ∃ D, onceR [] S.rules = D := ⟨_, rfl⟩
                have hdn := HDN0.out
                have htop := HTOP.out
                have hcn := HCN.out
                clear HDN0 HTOP HCN
                rw [hD] at KS hdn
                obtain ⟨mm, hmm⟩ : ∃ mm, manyR x1 S.rules = mm := ⟨_, rfl⟩
                rw [hmm]
                have hcm : S.cnt x1 = (mm : Int) := by rw [hcn, hmm]
                have hc16 := (HC.out x1).2
                have HDN : Hid (S.dn = D.length) := hdn
                have HCM : Hid (S.cnt x1 = (mm : Int)) := hcm
                clear hcn hdn hD hmm HC kr
                obtain ⟨dq, dn, dc, hdv⟩ := own_sliceP KS.out.own
                subst hdv
                have hdl : dn = D.length := by
                  rcases own_rowP KS.out.own with ⟨a9, c9, e9, _⟩
                  cases e9; rfl
                subst hdl
                rw [hcm] at hc16
                clear hcm
                have htop2 : D.length ≤ 16 := by rw [← HDN.out]; exact htop
                clear htop
                obtain ⟨bg, hbg⟩ : ∃ bg, (decide ((16 : Int) ≤ (mm : Int)) || (decide (mm = 0) && decide ((16 : Int) ≤ (D.length : Int)))) = bg := ⟨_, rfl⟩
                have HBG : Hid (_ = bg) := hbg
                clear hbg
                go_upto_region 30 with fail
                clear hj hj0 hjI hjL b0 b9
                go_cut [171] (fun v wx => v = .bool bg ∧ wx = wr)
                case first => as_aux_lemma =>
                  by_cases z1 : (16 : Int) ≤ (mm : Int)
                  · go_wp2_with fail
                    go_meet
                    case rel => exact ⟨by rw [← HBG.out, decide_eq_true (show (16 : Int) ≤ (mm : Int) by omega)]; rfl, rfl⟩
                  · by_cases z2 : mm = 0
                    · have HZ2 : Hid (mm = 0) := z2
                      have z2b : ((mm : Int) == 0) = true := by simp [z2]
                      clear z2
                      by_cases z3 : (16 : Int) ≤ (D.length : Int)
                      · go_wp2_with fail
                        go_meet
                        case rel => exact ⟨by rw [← HBG.out, decide_eq_false (show ¬ (16 : Int) ≤ (mm : Int) by omega), decide_eq_true HZ2.out, decide_eq_true (show (16 : Int) ≤ (D.length : Int) by omega)]; rfl, rfl⟩
                      · go_wp2_with fail
                        go_meet
                        case rel => exact ⟨by rw [← HBG.out, decide_eq_false (show ¬ (16 : Int) ≤ (mm : Int) by omega), decide_eq_true HZ2.out, decide_eq_false (show ¬ (16 : Int) ≤ (D.length : Int) by omega)]; rfl, rfl⟩
                    · have HZ2 : Hid (¬ mm = 0) := z2
                      have z2b : ((mm : Int) == 0) = false := by simp [z2]
                      clear z2
                      go_wp2_with fail
                      go_meet
                      case rel => exact ⟨by rw [← HBG.out, decide_eq_false (show ¬ (16 : Int) ≤ (mm : Int) by omega), decide_eq_false HZ2.out]; rfl, rfl⟩
                case rest =>
                  obtain ⟨rfl, hw9⟩ := hcut
                  rw [hw9]
                  clear hw9
                  cases bg with
                  | true =>
                    have hh := HBG.out
                    rw [Bool.or_eq_true, Bool.and_eq_true, decide_eq_true_eq, decide_eq_true_eq, decide_eq_true_eq] at hh
                    have HR3 : Hid (res = .inl 3) := by
                      show _ = _
                      rw [HB1.out]
                      unfold tkR
                      rw [if_pos]
                      show S.cnt x1 = 16 ∨ (S.cnt x1 = 0 ∧ S.dn = 16)
                      rw [HCM.out, HDN.out]
                      omega
                    clear HB1 HCM HDN HBG hh
                    go_wp2_with fail
                    go_ret
                    exact TkN.no HR3.out rfl KW.out.1
                  | false =>
                    have hh := HBG.out
                    rw [Bool.or_eq_false_iff, Bool.and_eq_false_iff, decide_eq_false_iff_not, decide_eq_false_iff_not, decide_eq_false_iff_not] at hh
                    clear HBG
                    obtain ⟨r, hrr⟩ : ∃ r : RuleT, r = (⟨x1, FR, T2, MO, oa, ob, oc, ta, tz, SV, LX⟩ : RuleT) := ⟨_, rfl⟩
                    have HP0 : Hid (PN U g B S (.slice ar n cr) xl xa xz vs w) := HO.out
                    have HR3 : Hid (res = .inr { S with rules := S.rules ++ [r], dn := if S.cnt r.nm = 0 then S.dn + 1 else S.dn, cnt := fun k => if k = r.nm then S.cnt r.nm + 1 else S.cnt k }) := by
                      show _ = _
                      rw [HB1.out]
                      unfold tkR
                      rw [if_neg]
                      · rw [hrr]
                      · show ¬ (S.cnt x1 = 16 ∨ (S.cnt x1 = 0 ∧ S.dn = 16))
                        rw [HCM.out, HDN.out]
                        omega
                    clear HB1 HCM HDN
                    have HCB : Hid (Bx wr cb r.cs) := by rw [hrr]; exact KW.out.first
                    clear hrr
                    have hcg : cb ≠ g := by have := HP0.out.lt; omega
                    have hcbn : ∀ c, (Value.slice ar n cr).ownBlock = some c → c ≠ cb := fun c e => by have := (own_ltP HP0.out.getR e).2; omega
                    have hn2 : S.rules.length ≤ 100000 := by omega
                    clear KS K8 KW
                    obtain ⟨i0, hi0, iz0, iz1, iz2⟩ := info_partsP infoRuleQ
                    have KK : Hid (PN U g B S (.slice ar n cr) xl xa xz vs wr ∧ Bx wr cb r.cs) := ⟨HPw.out, HCB.out⟩
                    clear HCB HPw HP0 HO
                    go_upto_region 32 with fail
                    clear hh
                    refine wp_region_held_drew (S := fun W => Bx W cb r.cs) (by kernel_rfl) KK.out.2 (fun hHeld => ?_)
                    refine wpAnyH_take (i := 0) (v := ?_) (oi := { dst := some 172, op := _, type := _, pos := _, after := _, guard := none }) rfl (by kernel_rfl) (by kernel_rfl) (by kernel_rfl) (fun _ _ _ h => h) (Or.inl ⟨by kernel_rfl, ?_⟩) (by assumption) ?_
                    case refine_2 => (intro w9 hSw; clear hSw; go_simp; try with_reducible rfl)
                    simp only [Act.put, List.setIfInBounds_toArray, List.set_cons_zero, List.set_cons_succ]
                    refine wpAnyH_take (i := 1) (v := ?_) (oi := { dst := some 173, op := _, type := _, pos := _, after := _, guard := none }) rfl (by kernel_rfl) (by kernel_rfl) (by kernel_rfl) (fun _ _ _ h => h) (Or.inl ⟨by kernel_rfl, ?_⟩) (by assumption) ?_
                    case refine_2 => (intro w9 hSw; clear hSw; go_simp; try with_reducible rfl)
                    simp only [Act.put, List.setIfInBounds_toArray, List.set_cons_zero, List.set_cons_succ]
                    refine wpAnyH_take (i := 2) (v := ?_) (oi := { dst := some 174, op := _, type := _, pos := _, after := _, guard := none }) rfl (by kernel_rfl) (by kernel_rfl) (by kernel_rfl) (fun _ _ _ h => h) (Or.inl ⟨by kernel_rfl, ?_⟩) (by assumption) ?_
                    case refine_2 => (intro w9 hSw; clear hSw; go_simp; try with_reducible rfl)
                    simp only [Act.put, List.setIfInBounds_toArray, List.set_cons_zero, List.set_cons_succ]
                    refine wpAnyH_take (i := 3) (v := ?_) (oi := { dst := some 175, op := _, type := _, pos := _, after := _, guard := none }) rfl (by kernel_rfl) (by kernel_rfl) (by kernel_rfl) (fun _ _ _ h => h) (Or.inl ⟨by kernel_rfl, ?_⟩) (by assumption) ?_
                    case refine_2 => (intro w9 hSw; clear hSw; go_simp; try with_reducible rfl)
                    simp only [Act.put, List.setIfInBounds_toArray, List.set_cons_zero, List.set_cons_succ]
                    refine wpAnyH_take (i := 4) (v := ?_) (oi := { dst := some 176, op := _, type := _, pos := _, after := _, guard := none }) rfl (by kernel_rfl) (by kernel_rfl) (by kernel_rfl) (fun _ _ _ h => h) (Or.inl ⟨by kernel_rfl, ?_⟩) (by assumption) ?_
                    case refine_2 => (intro w9 hSw; clear hSw; go_simp; try with_reducible rfl)
                    simp only [Act.put, List.setIfInBounds_toArray, List.set_cons_zero, List.set_cons_succ]
                    refine wpAnyH_take (i := 6) (v := ?_) (oi := { dst := some 178, op := _, type := _, pos := _, after := _, guard := none }) rfl (by kernel_rfl) (by kernel_rfl) (by kernel_rfl) (fun _ _ _ h => h) (Or.inl ⟨by kernel_rfl, ?_⟩) (by assumption) ?_
                    case refine_2 => (intro w9 hSw; have q0 := hSw.c 0 rfl; have q1 := hSw.c 1 rfl; have q2 := hSw.c 2 rfl; have q3 := hSw.c 3 rfl; have q4 := hSw.c 4 rfl; have q5 := hSw.c 5 rfl; have q6 := hSw.c 6 rfl; have q7 := hSw.c 7 rfl; have q8 := hSw.c 8 rfl; have q9 := hSw.c 9 rfl; have q10 := hSw.c 10 rfl; clear hSw; go_simp; try with_reducible rfl)
                    simp only [Act.put, List.setIfInBounds_toArray, List.set_cons_zero, List.set_cons_succ]
                    refine wpAnyH_ready (rs := [5, 7]) (by kernel_rfl) (by simp) (AllReadyH.cons (o := { dst := some 177, op := _, type := _, pos := _, after := _, guard := none }) rfl (fun K hK => ?_) (AllReadyH.cons (o := { dst := some 179, op := _, type := _, pos := _, after := _, guard := none }) rfl (fun K hK => ?_) AllReadyH.nil))
                    ·
                      have q0 := KK.out.1.box.c 0 rfl
                      have q9 := KK.out.1.lt
                      go_simp
                      refine hK.out _ _ hHeld (fun hHeld => ?_)
                      clear hK K q0 q9
                      refine wpAnyH_ready (rs := [7]) (by kernel_rfl) (by simp) (AllReadyH.cons (o := { dst := some 179, op := _, type := _, pos := _, after := _, guard := none }) rfl (fun K hK => ?_) AllReadyH.nil)
                      go_simp
                      refine hK.out _ _ (hHeld.alloc _) (fun hHeld => ?_)
                      obtain ⟨BR, hBR⟩ : ∃ BR, BR = wr.heap.size := ⟨_, rfl⟩
                      have KN : Hid (PN U g B S (.slice ar n cr) xl xa xz vs (wr.drew.alloc (.cells r.cs.toArray 71)) ∧ Bx (wr.drew.alloc (.cells r.cs.toArray 71)) BR r.cs ∧ Bx (wr.drew.alloc (.cells r.cs.toArray 71)) cb r.cs) := ⟨KK.out.1.drew.below ((Below.refl _ _).alloc (Nat.le_refl _) _), by rw [hBR]; exact Bx.new wr.drew r.cs _, hHeld⟩
                      refine gen_any (fun V' => PN U g B S (.slice ar n cr) xl xa xz vs V' ∧ Bx V' BR r.cs ∧ Bx V' cb r.cs) KN.out ?_
                      rw [← hBR]
                      clear hHeld hK K KN hBR KK
                      intro v2 kk
                      have KK : Hid (PN U g B S (.slice ar n cr) xl xa xz vs v2 ∧ Bx v2 BR r.cs) := ⟨kk.1, kk.2.1⟩
                      have hHeld : Bx v2 cb r.cs := kk.2.2
                      clear kk
                      refine wpAnyH_ready (rs := [8]) (by kernel_rfl) (by simp) (AllReadyH.cons (o := { dst := some 180, op := _, type := _, pos := _, after := _, guard := none }) rfl (fun K hK => ?_) AllReadyH.nil)
                      refine (if_pos (by kernel_rfl)).mpr (wp_append_newP _ _ 30 rfl B 71 i0 ruleQZ 11 104 Tryz.underlying30 hi0 iz0 iz1 iz2 rfl (by decide) (.slice ar n cr) S.rules.length (ruleXs S.rules) rfl KK.out.1.getR ⟨BR, 0, none⟩ 1 r.cs rfl rfl (fun j u hj => by rw [show (⟨BR, 0, none⟩ : Addr).add j = ⟨BR, j, none⟩ from by rw [Addr.add_lit]; simp]; exact (KK.out.2.2 j u hj).1) (rule_oneP r) (by unfold maxLen; omega) (by omega) KK.out.1.BV ?_)
                      intro v' w4 hown' hgrow hnew
                      obtain ⟨sq', sn', sc', hv'⟩ := own_sliceP hown'
                      subst hv'
                      have hq2 : Bx w4 cb r.cs := bx_growP hHeld hgrow (fun e => hcbn _ e rfl)
                      have HQ : Hid ((PN U g B { S with rules := S.rules ++ [r] } (.slice sq' sn' sc') xl xa xz vs (w4.setCell ⟨g, 0, none⟩ (.slice sq' sn' sc'))) ∧ Bx (w4.setCell ⟨g, 0, none⟩ (.slice sq' sn' sc')) cb r.cs) := ⟨KK.out.1.ruled r hgrow hnew hown', hq2.set9 (fun e => hcg e.symm) _⟩
                      have HBX : Hid (Bx w4 g _) := KK.out.1.grownBox hgrow (fun c e => (own_ltP KK.out.1.getR e).1)
                      refine hK.out _ _ hq2 (fun hHeld => ?_)
                      clear hK K hown' hgrow hnew KK hq2
                      refine wpAnyH_take (i := 9) (v := ?_) (oi := { dst := some 181, op := _, type := _, pos := _, after := _, guard := none }) rfl (by kernel_rfl) (by kernel_rfl) (by kernel_rfl) (fun _ _ _ h => h) (Or.inl ⟨by kernel_rfl, ?_⟩) (by assumption) ?_
                      case refine_2 => (intro w9 hSw; clear hSw; go_simp; try with_reducible rfl)
                      simp only [Act.put, List.setIfInBounds_toArray, List.set_cons_zero, List.set_cons_succ]
                      refine wpAnyH_take (i := 10) (v := ?_) (oi := { dst := some 182, op := _, type := _, pos := _, after := _, guard := none }) rfl (by kernel_rfl) (by kernel_rfl) (by kernel_rfl) (fun _ _ _ h => h) (Or.inl ⟨by kernel_rfl, ?_⟩) (by assumption) ?_
                      case refine_2 => (intro w9 hSw; clear hSw; go_simp; try with_reducible rfl)
                      simp only [Act.put, List.setIfInBounds_toArray, List.set_cons_zero, List.set_cons_succ]
                      refine wpAnyH_take (i := 11) (v := ?_) (oi := { dst := some 183, op := _, type := _, pos := _, after := _, guard := none }) rfl (by kernel_rfl) (by kernel_rfl) (by kernel_rfl) (fun _ _ _ h => h) (Or.inl ⟨by kernel_rfl, ?_⟩) (by assumption) ?_
                      case refine_2 => (intro w9 hSw; clear hSw; go_simp; try with_reducible rfl)
                      simp only [Act.put, List.setIfInBounds_toArray, List.set_cons_zero, List.set_cons_succ]
                      refine wpAnyH_ready (rs := [12]) (by kernel_rfl) (by simp) (AllReadyH.cons (o := { dst := none, op := _, type := _, pos := _, after := _, guard := none }) rfl (fun K hK => ?_) AllReadyH.nil)
                      have c2 := HBX.out.c 0 rfl
                      have z2 := HBX.out.f 0 rfl
                      have h4 := HBX.out.1
                      go_simp
                      refine hK.out _ _ HQ.out.2 (fun hHeld => ?_)
                      refine gen_any (fun V' => (PN U g B { S with rules := S.rules ++ [r] } (.slice sq' sn' sc') xl xa xz vs V')) HQ.out.1 ?_
                      clear hHeld hK K HQ HBX c2 z2 h4
                      intro v4 kk
                      have KK : Hid (PN U g B { S with rules := S.rules ++ [r] } (.slice sq' sn' sc') xl xa xz vs v4) := kk
                      clear kk
                      refine wpAnyH_done (by kernel_rfl) ?_ _
                      go_wp2_with fail
                      go_ret
                      exact TkN.yes HR3.out rfl (PN.ghost KK.out _ _)
                    ·
                      go_simp
                      refine hK.out _ _ (hHeld.alloc _) (fun hHeld => ?_)
                      obtain ⟨BR, hBR⟩ : ∃ BR, BR = wr.heap.size := ⟨_, rfl⟩
                      have KN : Hid (PN U g B S (.slice ar n cr) xl xa xz vs (wr.drew.alloc (.cells r.cs.toArray 71)) ∧ Bx (wr.drew.alloc (.cells r.cs.toArray 71)) BR r.cs ∧ Bx (wr.drew.alloc (.cells r.cs.toArray 71)) cb r.cs) := ⟨KK.out.1.drew.below ((Below.refl _ _).alloc (Nat.le_refl _) _), by rw [hBR]; exact Bx.new wr.drew r.cs _, hHeld⟩
                      refine gen_any (fun V' => PN U g B S (.slice ar n cr) xl xa xz vs V' ∧ Bx V' BR r.cs ∧ Bx V' cb r.cs) KN.out ?_
                      rw [← hBR]
                      clear hHeld hK K KN hBR KK
                      intro v5 kk
                      have KK : Hid (PN U g B S (.slice ar n cr) xl xa xz vs v5 ∧ Bx v5 BR r.cs) := ⟨kk.1, kk.2.1⟩
                      have hHeld : Bx v5 cb r.cs := kk.2.2
                      clear kk
                      refine wpAnyH_ready (rs := [5]) (by kernel_rfl) (by simp) (AllReadyH.cons (o := { dst := some 177, op := _, type := _, pos := _, after := _, guard := none }) rfl (fun K hK => ?_) AllReadyH.nil)
                      have q0 := KK.out.1.box.c 0 rfl
                      have q9 := KK.out.1.lt
                      go_simp
                      refine hK.out _ _ hHeld (fun hHeld => ?_)
                      clear hK K q0 q9
                      refine wpAnyH_ready (rs := [8]) (by kernel_rfl) (by simp) (AllReadyH.cons (o := { dst := some 180, op := _, type := _, pos := _, after := _, guard := none }) rfl (fun K hK => ?_) AllReadyH.nil)
                      refine (if_pos (by kernel_rfl)).mpr (wp_append_newP _ _ 30 rfl B 71 i0 ruleQZ 11 104 Tryz.underlying30 hi0 iz0 iz1 iz2 rfl (by decide) (.slice ar n cr) S.rules.length (ruleXs S.rules) rfl KK.out.1.getR ⟨BR, 0, none⟩ 1 r.cs rfl rfl (fun j u hj => by rw [show (⟨BR, 0, none⟩ : Addr).add j = ⟨BR, j, none⟩ from by rw [Addr.add_lit]; simp]; exact (KK.out.2.2 j u hj).1) (rule_oneP r) (by unfold maxLen; omega) (by omega) KK.out.1.BV ?_)
                      intro v' w4 hown' hgrow hnew
                      obtain ⟨sq', sn', sc', hv'⟩ := own_sliceP hown'
                      subst hv'
                      have hq2 : Bx w4 cb r.cs := bx_growP hHeld hgrow (fun e => hcbn _ e rfl)
                      have HQ : Hid ((PN U g B { S with rules := S.rules ++ [r] } (.slice sq' sn' sc') xl xa xz vs (w4.setCell ⟨g, 0, none⟩ (.slice sq' sn' sc'))) ∧ Bx (w4.setCell ⟨g, 0, none⟩ (.slice sq' sn' sc')) cb r.cs) := ⟨KK.out.1.ruled r hgrow hnew hown', hq2.set9 (fun e => hcg e.symm) _⟩
                      have HBX : Hid (Bx w4 g _) := KK.out.1.grownBox hgrow (fun c e => (own_ltP KK.out.1.getR e).1)
                      refine hK.out _ _ hq2 (fun hHeld => ?_)
                      clear hK K hown' hgrow hnew KK hq2
                      refine wpAnyH_take (i := 9) (v := ?_) (oi := { dst := some 181, op := _, type := _, pos := _, after := _, guard := none }) rfl (by kernel_rfl) (by kernel_rfl) (by kernel_rfl) (fun _ _ _ h => h) (Or.inl ⟨by kernel_rfl, ?_⟩) (by assumption) ?_
                      case refine_2 => (intro w9 hSw; clear hSw; go_simp; try with_reducible rfl)
                      simp only [Act.put, List.setIfInBounds_toArray, List.set_cons_zero, List.set_cons_succ]
                      refine wpAnyH_take (i := 10) (v := ?_) (oi := { dst := some 182, op := _, type := _, pos := _, after := _, guard := none }) rfl (by kernel_rfl) (by kernel_rfl) (by kernel_rfl) (fun _ _ _ h => h) (Or.inl ⟨by kernel_rfl, ?_⟩) (by assumption) ?_
                      case refine_2 => (intro w9 hSw; clear hSw; go_simp; try with_reducible rfl)
                      simp only [Act.put, List.setIfInBounds_toArray, List.set_cons_zero, List.set_cons_succ]
                      refine wpAnyH_take (i := 11) (v := ?_) (oi := { dst := some 183, op := _, type := _, pos := _, after := _, guard := none }) rfl (by kernel_rfl) (by kernel_rfl) (by kernel_rfl) (fun _ _ _ h => h) (Or.inl ⟨by kernel_rfl, ?_⟩) (by assumption) ?_
                      case refine_2 => (intro w9 hSw; clear hSw; go_simp; try with_reducible rfl)
                      simp only [Act.put, List.setIfInBounds_toArray, List.set_cons_zero, List.set_cons_succ]
                      refine wpAnyH_ready (rs := [12]) (by kernel_rfl) (by simp) (AllReadyH.cons (o := { dst := none, op := _, type := _, pos := _, after := _, guard := none }) rfl (fun K hK => ?_) AllReadyH.nil)
                      have c2 := HBX.out.c 0 rfl
                      have z2 := HBX.out.f 0 rfl
                      have h4 := HBX.out.1
                      go_simp
                      refine hK.out _ _ HQ.out.2 (fun hHeld => ?_)
                      refine gen_any (fun V' => (PN U g B { S with rules := S.rules ++ [r] } (.slice sq' sn' sc') xl xa xz vs V')) HQ.out.1 ?_
                      clear hHeld hK K HQ HBX c2 z2 h4
                      intro v8 kk
                      have KK : Hid (PN U g B { S with rules := S.rules ++ [r] } (.slice sq' sn' sc') xl xa xz vs v8) := kk
                      clear kk
                      refine wpAnyH_done (by kernel_rfl) ?_ _
                      go_wp2_with fail
                      go_ret
                      exact TkN.yes HR3.out rfl (PN.ghost KK.out _ _)

end Go.Proofs.YtgnfkkcagbbhmaaGreatDoor
