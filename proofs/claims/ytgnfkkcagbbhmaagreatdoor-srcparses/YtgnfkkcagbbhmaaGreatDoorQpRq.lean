/- Contract: the reference's rule (a rule's line), over what its readers answer. -/
import Derived.Test.YtgnfkkcagbbhmaaGreatDoorQpFq
import Derived.Test.YtgnfkkcagbbhmaaGreatDoorQpBq
namespace Go.Proofs.YtgnfkkcagbbhmaaGreatDoor
open Go.RowKit
open Sr (gen_any gen_list)
set_option linter.unusedVariables false

set_option maxRecDepth 100000 in
set_option maxHeartbeats 4000000 in
theorem rule_len (p : Value) (sa : Option Addr) (k c : Nat) (hk : k ≠ 10) (w : World) :
    Calls Tryz.prog 55 #[p, .slice sa k c] w fun e w' => e = .returned (.int .i64 21) ∧ Below w.heap.size w w' := by
  have h : ((k : Int) != 10) = true := by simp; omega
  go_enter Tryz.func55, Tryz.ntmps55
  go_wp2_with fail
  go_ret
  exact ⟨rfl, Below.refl _ _⟩

set_option maxRecDepth 100000 in
set_option maxHeartbeats 4000000 in
theorem rule_bad (U : World) (g B : Nat) (S : PSt) (xr xl xa xz : Value) (vs : List Value) (w : World) (h : PN U g B S xr xl xa xz vs w) (hN : S.rules.length ≤ 100000) (hR : RefS S) (hC : ∀ k, 0 ≤ S.cnt k ∧ S.cnt k ≤ 16)
    (fb fo c : Nat) (hg : fb < w.heap.size) (hc : 10 ≤ c) (x1 x2 x3 x4 x5 x6 x7 x8 x9 : ByteArray) (f1 : Hid (w.cell? ⟨fb, fo + 1, none⟩ = some (.string x1))) (f2 : Hid (w.cell? ⟨fb, fo + 2, none⟩ = some (.string x2))) (f3 : Hid (w.cell? ⟨fb, fo + 3, none⟩ = some (.string x3))) (f4 : Hid (w.cell? ⟨fb, fo + 4, none⟩ = some (.string x4))) (f5 : Hid (w.cell? ⟨fb, fo + 5, none⟩ = some (.string x5))) (f6 : Hid (w.cell? ⟨fb, fo + 6, none⟩ = some (.string x6))) (f7 : Hid (w.cell? ⟨fb, fo + 7, none⟩ = some (.string x7))) (f8 : Hid (w.cell? ⟨fb, fo + 8, none⟩ = some (.string x8))) (f9 : Hid (w.cell? ⟨fb, fo + 9, none⟩ = some (.string x9)))
    (FR T0 T1 T2 MO oa ob oc E ta tz E2 SV E3 : Int) (LX : ByteArray) (bO bM LB NMB : Bool)
    (Y2 : Hid (∀ w : World, Calls Tryz.prog 86 #[.string x2] w fun e w' => e = .returned (.int .i64 FR) ∧ Below w.heap.size w w'))
    (Y3 : Hid (∀ w : World, Calls Tryz.prog 86 #[.string x3] w fun e w' => e = .returned (.int .i64 T0) ∧ Below w.heap.size w w'))
    (MC : Hid (∀ w : World, Calls Tryz.prog 87 #[.string x5] w fun e w' => e = .returned (.int .i64 MO) ∧ Below w.heap.size w w'))
    (SO : Hid (∀ w : World, Calls Tryz.prog 54 #[.string x3, .string ⟨#[111, 110, 108, 121]⟩] w fun e w' => e = .returned (.bool bO) ∧ Below w.heap.size w w'))
    (SM : Hid (∀ w : World, Calls Tryz.prog 54 #[.string x3, .string ⟨#[109, 97, 120]⟩] w fun e w' => e = .returned (.bool bM) ∧ Below w.heap.size w w'))
    (ON : Hid (∀ w : World, Calls Tryz.prog 88 #[.string x6] w fun e w' => e = .returned (.tuple #[.agg #[.int .i64 oa, .int .i64 ob, .int .i64 oc], .int .i64 E]) ∧ Below w.heap.size w w'))
    (AT : Hid (∀ w : World, Calls Tryz.prog 89 #[.string x7] w fun e w' => e = .returned (.tuple #[.agg #[.int .i64 ta, .int .u8 tz], .int .i64 E2]) ∧ Below w.heap.size w w'))
    (RS : Hid (∀ w : World, Calls Tryz.prog 90 #[.string x8] w fun e w' => e = .returned (.tuple #[.int .i64 SV, .int .i64 E3]) ∧ Below w.heap.size w w'))
    (LT : Hid (∀ w : World, Calls Tryz.prog 91 #[.string x9] w fun e w' => e = .returned (.bool LB) ∧ Below w.heap.size w w'))
    (NM : Hid (∀ w : World, Calls Tryz.prog 16 #[.string x1] w fun e w' => e = .returned (.bool NMB) ∧ Below w.heap.size w w'))
    (hT1 : Hid ((if bO = true then FR else T0) = T1)) (hT2 : Hid ((if bM = true then 1073741824 else T1) = T2)) (hLX : Hid ((if (x9.toList == [45]) = true then ⟨#[]⟩ else x9) = LX))
    (hBad : Hid (((x9.toList == [45]) = false ∧ LB = false) ∨ (!NMB || (FR == 0) || decide (T2 < FR) || !(x4.toList == [45]) || (MO == 0) || (E != 0) || (E2 != 0) || (E3 != 0) || decide (SV < 0) || decide (7200 < SV)) = true)) :
    Calls Tryz.prog 55 #[.pointer (some ⟨g, 0, none⟩), .slice (some ⟨fb, fo, none⟩) 10 c] w fun e w' => e = .returned (.int .i64 21) ∧ Below w.heap.size w w' := by
  have HP : Hid (PN U g B S xr xl xa xz vs w) := h
  clear h
  have HR : Hid (RefS S) := hR
  have HC : Hid (∀ k, 0 ≤ S.cnt k ∧ S.cnt k ≤ 16) := hC
  clear hR hC
  go_enter Tryz.func55, Tryz.ntmps55
  go_upto_region 3 with fail
  go_cut [5] (fun v wx => ∃ cb, v = .pointer (some ⟨cb, 0, none⟩) ∧ w.heap.size ≤ cb ∧ Hid (BS w [(cb, [.string x1, .int .i64 FR, .int .i64 T0, .int .i64 MO, .int .i64 0, .int .i64 0, .int .i64 0, .int .i64 0, .int .u8 0, .int .i64 0, .string x9])] wx))
  case first => as_aux_lemma =>
    refine wp_region_held_drew (S := BW w) (by kernel_rfl) (Below.refl _ w).drew (fun hHeld => ?_)
    refine wpAnyH_take (i := 0) (v := ?_) (oi := { dst := some 16, op := _, type := _, pos := _, after := _, guard := none }) rfl (by kernel_rfl) (by kernel_rfl) (by kernel_rfl) (fun _ _ _ h => h) (Or.inl ⟨by kernel_rfl, ?_⟩) (by assumption) ?_
    case refine_2 => (intro w9 hSw; clear hSw; go_simp; try with_reducible rfl)
    simp only [Act.put, List.setIfInBounds_toArray, List.set_cons_zero, List.set_cons_succ]
    refine wpAnyH_take (i := 1) (v := ?_) (oi := { dst := some 17, op := _, type := _, pos := _, after := _, guard := none }) rfl (by kernel_rfl) (by kernel_rfl) (by kernel_rfl) (fun _ _ _ h => h) (Or.inl ⟨by kernel_rfl, ?_⟩) (by assumption) ?_
    case refine_2 => (intro w9 hSw; clear hSw; go_simp; try with_reducible rfl)
    simp only [Act.put, List.setIfInBounds_toArray, List.set_cons_zero, List.set_cons_succ]
    refine wpAnyH_take (i := 2) (v := ?_) (oi := { dst := some 18, op := _, type := _, pos := _, after := _, guard := none }) rfl (by kernel_rfl) (by kernel_rfl) (by kernel_rfl) (fun _ _ _ h => h) (Or.inl ⟨by kernel_rfl, ?_⟩) (by assumption) ?_
    case refine_2 => (intro w9 hSw; have l1 := (hSw.cell (p := ⟨fb, fo + 1, none⟩) hg).trans f1.out; clear hSw; go_simp; try with_reducible rfl)
    simp only [Act.put, List.setIfInBounds_toArray, List.set_cons_zero, List.set_cons_succ]
    refine wpAnyH_take (i := 3) (v := ?_) (oi := { dst := some 19, op := _, type := _, pos := _, after := _, guard := none }) rfl (by kernel_rfl) (by kernel_rfl) (by kernel_rfl) (fun _ _ _ h => h) (Or.inl ⟨by kernel_rfl, ?_⟩) (by assumption) ?_
    case refine_2 => (intro w9 hSw; clear hSw; go_simp; try with_reducible rfl)
    simp only [Act.put, List.setIfInBounds_toArray, List.set_cons_zero, List.set_cons_succ]
    refine wpAnyH_take (i := 4) (v := ?_) (oi := { dst := some 20, op := _, type := _, pos := _, after := _, guard := none }) rfl (by kernel_rfl) (by kernel_rfl) (by kernel_rfl) (fun _ _ _ h => h) (Or.inl ⟨by kernel_rfl, ?_⟩) (by assumption) ?_
    case refine_2 => (intro w9 hSw; clear hSw; go_simp; try with_reducible rfl)
    simp only [Act.put, List.setIfInBounds_toArray, List.set_cons_zero, List.set_cons_succ]
    refine wpAnyH_take (i := 5) (v := ?_) (oi := { dst := some 21, op := _, type := _, pos := _, after := _, guard := none }) rfl (by kernel_rfl) (by kernel_rfl) (by kernel_rfl) (fun _ _ _ h => h) (Or.inl ⟨by kernel_rfl, ?_⟩) (by assumption) ?_
    case refine_2 => (intro w9 hSw; have l2 := (hSw.cell (p := ⟨fb, fo + 2, none⟩) hg).trans f2.out; clear hSw; go_simp; try with_reducible rfl)
    simp only [Act.put, List.setIfInBounds_toArray, List.set_cons_zero, List.set_cons_succ]
    refine wpAnyH_take (i := 7) (v := ?_) (oi := { dst := some 23, op := _, type := _, pos := _, after := _, guard := none }) rfl (by kernel_rfl) (by kernel_rfl) (by kernel_rfl) (fun _ _ _ h => h) (Or.inl ⟨by kernel_rfl, ?_⟩) (by assumption) ?_
    case refine_2 => (intro w9 hSw; clear hSw; go_simp; try with_reducible rfl)
    simp only [Act.put, List.setIfInBounds_toArray, List.set_cons_zero, List.set_cons_succ]
    refine wpAnyH_take (i := 8) (v := ?_) (oi := { dst := some 24, op := _, type := _, pos := _, after := _, guard := none }) rfl (by kernel_rfl) (by kernel_rfl) (by kernel_rfl) (fun _ _ _ h => h) (Or.inl ⟨by kernel_rfl, ?_⟩) (by assumption) ?_
    case refine_2 => (intro w9 hSw; clear hSw; go_simp; try with_reducible rfl)
    simp only [Act.put, List.setIfInBounds_toArray, List.set_cons_zero, List.set_cons_succ]
    refine wpAnyH_take (i := 9) (v := ?_) (oi := { dst := some 25, op := _, type := _, pos := _, after := _, guard := none }) rfl (by kernel_rfl) (by kernel_rfl) (by kernel_rfl) (fun _ _ _ h => h) (Or.inl ⟨by kernel_rfl, ?_⟩) (by assumption) ?_
    case refine_2 => (intro w9 hSw; have l3 := (hSw.cell (p := ⟨fb, fo + 3, none⟩) hg).trans f3.out; clear hSw; go_simp; try with_reducible rfl)
    simp only [Act.put, List.setIfInBounds_toArray, List.set_cons_zero, List.set_cons_succ]
    refine wpAnyH_take (i := 11) (v := ?_) (oi := { dst := some 27, op := _, type := _, pos := _, after := _, guard := none }) rfl (by kernel_rfl) (by kernel_rfl) (by kernel_rfl) (fun _ _ _ h => h) (Or.inl ⟨by kernel_rfl, ?_⟩) (by assumption) ?_
    case refine_2 => (intro w9 hSw; clear hSw; go_simp; try with_reducible rfl)
    simp only [Act.put, List.setIfInBounds_toArray, List.set_cons_zero, List.set_cons_succ]
    refine wpAnyH_take (i := 12) (v := ?_) (oi := { dst := some 28, op := _, type := _, pos := _, after := _, guard := none }) rfl (by kernel_rfl) (by kernel_rfl) (by kernel_rfl) (fun _ _ _ h => h) (Or.inl ⟨by kernel_rfl, ?_⟩) (by assumption) ?_
    case refine_2 => (intro w9 hSw; clear hSw; go_simp; try with_reducible rfl)
    simp only [Act.put, List.setIfInBounds_toArray, List.set_cons_zero, List.set_cons_succ]
    refine wpAnyH_take (i := 13) (v := ?_) (oi := { dst := some 29, op := _, type := _, pos := _, after := _, guard := none }) rfl (by kernel_rfl) (by kernel_rfl) (by kernel_rfl) (fun _ _ _ h => h) (Or.inl ⟨by kernel_rfl, ?_⟩) (by assumption) ?_
    case refine_2 => (intro w9 hSw; have l5 := (hSw.cell (p := ⟨fb, fo + 5, none⟩) hg).trans f5.out; clear hSw; go_simp; try with_reducible rfl)
    simp only [Act.put, List.setIfInBounds_toArray, List.set_cons_zero, List.set_cons_succ]
    refine wpAnyH_take (i := 15) (v := ?_) (oi := { dst := some 31, op := _, type := _, pos := _, after := _, guard := none }) rfl (by kernel_rfl) (by kernel_rfl) (by kernel_rfl) (fun _ _ _ h => h) (Or.inl ⟨by kernel_rfl, ?_⟩) (by assumption) ?_
    case refine_2 => (intro w9 hSw; clear hSw; go_simp; try with_reducible rfl)
    simp only [Act.put, List.setIfInBounds_toArray, List.set_cons_zero, List.set_cons_succ]
    refine wpAnyH_take (i := 16) (v := ?_) (oi := { dst := some 32, op := _, type := _, pos := _, after := _, guard := none }) rfl (by kernel_rfl) (by kernel_rfl) (by kernel_rfl) (fun _ _ _ h => h) (Or.inl ⟨by kernel_rfl, ?_⟩) (by assumption) ?_
    case refine_2 => (intro w9 hSw; clear hSw; go_simp; try with_reducible rfl)
    simp only [Act.put, List.setIfInBounds_toArray, List.set_cons_zero, List.set_cons_succ]
    refine wpAnyH_take (i := 17) (v := ?_) (oi := { dst := some 33, op := _, type := _, pos := _, after := _, guard := none }) rfl (by kernel_rfl) (by kernel_rfl) (by kernel_rfl) (fun _ _ _ h => h) (Or.inl ⟨by kernel_rfl, ?_⟩) (by assumption) ?_
    case refine_2 => (intro w9 hSw; have l9 := (hSw.cell (p := ⟨fb, fo + 9, none⟩) hg).trans f9.out; clear hSw; go_simp; try with_reducible rfl)
    simp only [Act.put, List.setIfInBounds_toArray, List.set_cons_zero, List.set_cons_succ]
    refine wpAnyH_ready (rs := [6, 19]) (by kernel_rfl) (by simp) (AllReadyH.cons (o := { dst := some 22, op := _, type := _, pos := _, after := _, guard := none }) rfl (fun K hK => ?_) (AllReadyH.cons (o := { dst := some 5, op := _, type := _, pos := _, after := _, guard := none }) rfl (fun K hK => ?_) AllReadyH.nil))
    ·
      go_simp
      refine (Y2.out _).mono ?_
      rintro e v1 ⟨rfl, hb1⟩
      refine hK.out _ _ (hHeld.below hb1) (fun hHeld => ?_)
      clear hK K hb1
      refine wpAnyH_ready (rs := [10, 19]) (by kernel_rfl) (by simp) (AllReadyH.cons (o := { dst := some 26, op := _, type := _, pos := _, after := _, guard := none }) rfl (fun K hK => ?_) (AllReadyH.cons (o := { dst := some 5, op := _, type := _, pos := _, after := _, guard := none }) rfl (fun K hK => ?_) AllReadyH.nil))
      ·
        go_simp
        refine (Y3.out _).mono ?_
        rintro e v2 ⟨rfl, hb2⟩
        refine hK.out _ _ (hHeld.below hb2) (fun hHeld => ?_)
        clear hK K hb2
        refine wpAnyH_ready (rs := [14, 19]) (by kernel_rfl) (by simp) (AllReadyH.cons (o := { dst := some 30, op := _, type := _, pos := _, after := _, guard := none }) rfl (fun K hK => ?_) (AllReadyH.cons (o := { dst := some 5, op := _, type := _, pos := _, after := _, guard := none }) rfl (fun K hK => ?_) AllReadyH.nil))
        ·
          go_simp
          refine (MC.out _).mono ?_
          rintro e v3 ⟨rfl, hb3⟩
          refine hK.out _ _ (hHeld.below hb3) (fun hHeld => ?_)
          clear hK K hb3
          refine wpAnyH_take (i := 18) (v := ?_) (oi := { dst := some 34, op := _, type := _, pos := _, after := _, guard := none }) rfl (by kernel_rfl) (by kernel_rfl) (by kernel_rfl) (fun _ _ _ h => h) (Or.inl ⟨by kernel_rfl, ?_⟩) (by assumption) ?_
          case refine_2 => (intro w9 hSw; clear hSw; go_simp; try with_reducible rfl)
          simp only [Act.put, List.setIfInBounds_toArray, List.set_cons_zero, List.set_cons_succ]
          refine wpAnyH_ready (rs := [19]) (by kernel_rfl) (by simp) (AllReadyH.cons (o := { dst := some 5, op := _, type := _, pos := _, after := _, guard := none }) rfl (fun K hK => ?_) AllReadyH.nil)
          have HS : Hid (BS w [] _) := ⟨hHeld, fun x hx => nomatch hx⟩
          go_simp
          refine hK.out _ _ (hHeld.below ((Below.refl _ _).alloc (Nat.le_refl _) _)) (fun hHeld => ?_)
          skip
          obtain ⟨cb, hcb⟩ : ∃ cb, cb = v3.heap.size := ⟨_, rfl⟩
          have HN : Hid (NB w [] (v3.alloc (.cells #[.string ⟨#[]⟩, .int .i64 0, .int .i64 0, .int .i64 0, .int .i64 0, .int .i64 0, .int .i64 0, .int .i64 0, .int .u8 0, .int .i64 0, .string ⟨#[]⟩] 71)) cb [.string ⟨#[]⟩, .int .i64 0, .int .i64 0, .int .i64 0, .int .i64 0, .int .i64 0, .int .i64 0, .int .i64 0, .int .u8 0, .int .i64 0, .string ⟨#[]⟩]) := by rw [hcb]; exact ⟨Bx.new v3 [.string ⟨#[]⟩, .int .i64 0, .int .i64 0, .int .i64 0, .int .i64 0, .int .i64 0, .int .i64 0, .int .i64 0, .int .u8 0, .int .i64 0, .string ⟨#[]⟩] _, HS.out.1.size, fun x hx => nomatch hx⟩
          refine gen_any (fun V' => BW w V' ∧ NB w [] V' cb [.string ⟨#[]⟩, .int .i64 0, .int .i64 0, .int .i64 0, .int .i64 0, .int .i64 0, .int .i64 0, .int .i64 0, .int .u8 0, .int .i64 0, .string ⟨#[]⟩]) ⟨hHeld, HN.out⟩ ?_
          rw [← hcb]
          clear hHeld hK K HN HS hcb
          intro v4 kk
          have HN : Hid (NB w [] v4 cb [.string ⟨#[]⟩, .int .i64 0, .int .i64 0, .int .i64 0, .int .i64 0, .int .i64 0, .int .i64 0, .int .i64 0, .int .u8 0, .int .i64 0, .string ⟨#[]⟩]) := kk.2
          have hHeld : BW w v4 := kk.1
          clear kk
          refine wpAnyH_ready (rs := [20]) (by kernel_rfl) (by simp) (AllReadyH.cons (o := { dst := none, op := _, type := _, pos := _, after := _, guard := none }) rfl (fun K hK => ?_) AllReadyH.nil)
          refine (if_pos (by kernel_rfl)).mpr (wp_store_mid 71 _ _ rfl cb 0 #[.string x1, .int .i64 FR, .int .i64 T0, .int .i64 MO, .int .i64 0, .int .i64 0, .int .i64 0, .int .i64 0, .int .u8 0, .int .i64 0, .string x9] rfl rfl HN.out.1.there (by kernel_rfl) (all_oneCell_toArray (cs := [.string x1, .int .i64 FR, .int .i64 T0, .int .i64 MO, .int .i64 0, .int .i64 0, .int .i64 0, .int .i64 0, .int .u8 0, .int .i64 0, .string x9]) (by simp only [List.forall_mem_cons]; exact ⟨rfl, rfl, rfl, rfl, rfl, rfl, rfl, rfl, rfl, rfl, rfl, fun _ h => nomatch h⟩)) (hK.out _ _ (below_setCells HN.out.2.1 _ _ _ hHeld) (fun hHeld => ?_)))
          have HN2 : Hid (BS w [(cb, [.string x1, .int .i64 FR, .int .i64 T0, .int .i64 MO, .int .i64 0, .int .i64 0, .int .i64 0, .int .i64 0, .int .u8 0, .int .i64 0, .string x9])] (v4.setCells cb 0 [.string x1, .int .i64 FR, .int .i64 T0, .int .i64 MO, .int .i64 0, .int .i64 0, .int .i64 0, .int .i64 0, .int .u8 0, .int .i64 0, .string x9])) := ⟨hHeld, fun x hx => by rw [List.mem_singleton.1 hx]; exact ⟨HN.out.2.1, HN.out.1.setAll _ rfl⟩⟩
          have hcw : w.heap.size ≤ cb := HN.out.2.1
          clear hK K HN
          refine wpAnyH_done (by kernel_rfl) ?_ _
          go_wp2_with fail
          go_meet
          case rel => exact ⟨cb, rfl, hcw, HN2⟩
        ·
          have HS : Hid (BS w [] _) := ⟨hHeld, fun x hx => nomatch hx⟩
          go_simp
          refine hK.out _ _ (hHeld.below ((Below.refl _ _).alloc (Nat.le_refl _) _)) (fun hHeld => ?_)
          skip
          obtain ⟨cb, hcb⟩ : ∃ cb, cb = v2.heap.size := ⟨_, rfl⟩
          have HN : Hid (NB w [] (v2.alloc (.cells #[.string ⟨#[]⟩, .int .i64 0, .int .i64 0, .int .i64 0, .int .i64 0, .int .i64 0, .int .i64 0, .int .i64 0, .int .u8 0, .int .i64 0, .string ⟨#[]⟩] 71)) cb [.string ⟨#[]⟩, .int .i64 0, .int .i64 0, .int .i64 0, .int .i64 0, .int .i64 0, .int .i64 0, .int .i64 0, .int .u8 0, .int .i64 0, .string ⟨#[]⟩]) := by rw [hcb]; exact ⟨Bx.new v2 [.string ⟨#[]⟩, .int .i64 0, .int .i64 0, .int .i64 0, .int .i64 0, .int .i64 0, .int .i64 0, .int .i64 0, .int .u8 0, .int .i64 0, .string ⟨#[]⟩] _, HS.out.1.size, fun x hx => nomatch hx⟩
          refine gen_any (fun V' => BW w V' ∧ NB w [] V' cb [.string ⟨#[]⟩, .int .i64 0, .int .i64 0, .int .i64 0, .int .i64 0, .int .i64 0, .int .i64 0, .int .i64 0, .int .u8 0, .int .i64 0, .string ⟨#[]⟩]) ⟨hHeld, HN.out⟩ ?_
          rw [← hcb]
          clear hHeld hK K HN HS hcb
          intro v6 kk
          have HN : Hid (NB w [] v6 cb [.string ⟨#[]⟩, .int .i64 0, .int .i64 0, .int .i64 0, .int .i64 0, .int .i64 0, .int .i64 0, .int .i64 0, .int .u8 0, .int .i64 0, .string ⟨#[]⟩]) := kk.2
          have hHeld : BW w v6 := kk.1
          clear kk
          refine wpAnyH_ready (rs := [14]) (by kernel_rfl) (by simp) (AllReadyH.cons (o := { dst := some 30, op := _, type := _, pos := _, after := _, guard := none }) rfl (fun K hK => ?_) AllReadyH.nil)
          go_simp
          refine (MC.out _).mono ?_
          rintro e v7 ⟨rfl, hb7⟩
          refine hK.out _ _ (hHeld.below hb7) (fun hHeld => ?_)
          have HN2 := HN.out.below hb7
          clear HN
          have HN : Hid (NB w [] _ cb _) := HN2
          clear HN2
          clear hK K hb7
          refine wpAnyH_take (i := 18) (v := ?_) (oi := { dst := some 34, op := _, type := _, pos := _, after := _, guard := none }) rfl (by kernel_rfl) (by kernel_rfl) (by kernel_rfl) (fun _ _ _ h => h) (Or.inl ⟨by kernel_rfl, ?_⟩) (by assumption) ?_
          case refine_2 => (intro w9 hSw; clear hSw; go_simp; try with_reducible rfl)
          simp only [Act.put, List.setIfInBounds_toArray, List.set_cons_zero, List.set_cons_succ]
          refine wpAnyH_ready (rs := [20]) (by kernel_rfl) (by simp) (AllReadyH.cons (o := { dst := none, op := _, type := _, pos := _, after := _, guard := none }) rfl (fun K hK => ?_) AllReadyH.nil)
          refine (if_pos (by kernel_rfl)).mpr (wp_store_mid 71 _ _ rfl cb 0 #[.string x1, .int .i64 FR, .int .i64 T0, .int .i64 MO, .int .i64 0, .int .i64 0, .int .i64 0, .int .i64 0, .int .u8 0, .int .i64 0, .string x9] rfl rfl HN.out.1.there (by kernel_rfl) (all_oneCell_toArray (cs := [.string x1, .int .i64 FR, .int .i64 T0, .int .i64 MO, .int .i64 0, .int .i64 0, .int .i64 0, .int .i64 0, .int .u8 0, .int .i64 0, .string x9]) (by simp only [List.forall_mem_cons]; exact ⟨rfl, rfl, rfl, rfl, rfl, rfl, rfl, rfl, rfl, rfl, rfl, fun _ h => nomatch h⟩)) (hK.out _ _ (below_setCells HN.out.2.1 _ _ _ hHeld) (fun hHeld => ?_)))
          have HN2 : Hid (BS w [(cb, [.string x1, .int .i64 FR, .int .i64 T0, .int .i64 MO, .int .i64 0, .int .i64 0, .int .i64 0, .int .i64 0, .int .u8 0, .int .i64 0, .string x9])] (v7.setCells cb 0 [.string x1, .int .i64 FR, .int .i64 T0, .int .i64 MO, .int .i64 0, .int .i64 0, .int .i64 0, .int .i64 0, .int .u8 0, .int .i64 0, .string x9])) := ⟨hHeld, fun x hx => by rw [List.mem_singleton.1 hx]; exact ⟨HN.out.2.1, HN.out.1.setAll _ rfl⟩⟩
          have hcw : w.heap.size ≤ cb := HN.out.2.1
          clear hK K HN
          refine wpAnyH_done (by kernel_rfl) ?_ _
          go_wp2_with fail
          go_meet
          case rel => exact ⟨cb, rfl, hcw, HN2⟩
      ·
        have HS : Hid (BS w [] _) := ⟨hHeld, fun x hx => nomatch hx⟩
        go_simp
        refine hK.out _ _ (hHeld.below ((Below.refl _ _).alloc (Nat.le_refl _) _)) (fun hHeld => ?_)
        skip
        obtain ⟨cb, hcb⟩ : ∃ cb, cb = v1.heap.size := ⟨_, rfl⟩
        have HN : Hid (NB w [] (v1.alloc (.cells #[.string ⟨#[]⟩, .int .i64 0, .int .i64 0, .int .i64 0, .int .i64 0, .int .i64 0, .int .i64 0, .int .i64 0, .int .u8 0, .int .i64 0, .string ⟨#[]⟩] 71)) cb [.string ⟨#[]⟩, .int .i64 0, .int .i64 0, .int .i64 0, .int .i64 0, .int .i64 0, .int .i64 0, .int .i64 0, .int .u8 0, .int .i64 0, .string ⟨#[]⟩]) := by rw [hcb]; exact ⟨Bx.new v1 [.string ⟨#[]⟩, .int .i64 0, .int .i64 0, .int .i64 0, .int .i64 0, .int .i64 0, .int .i64 0, .int .i64 0, .int .u8 0, .int .i64 0, .string ⟨#[]⟩] _, HS.out.1.size, fun x hx => nomatch hx⟩
        refine gen_any (fun V' => BW w V' ∧ NB w [] V' cb [.string ⟨#[]⟩, .int .i64 0, .int .i64 0, .int .i64 0, .int .i64 0, .int .i64 0, .int .i64 0, .int .i64 0, .int .u8 0, .int .i64 0, .string ⟨#[]⟩]) ⟨hHeld, HN.out⟩ ?_
        rw [← hcb]
        clear hHeld hK K HN HS hcb
        intro v9 kk
        have HN : Hid (NB w [] v9 cb [.string ⟨#[]⟩, .int .i64 0, .int .i64 0, .int .i64 0, .int .i64 0, .int .i64 0, .int .i64 0, .int .i64 0, .int .u8 0, .int .i64 0, .string ⟨#[]⟩]) := kk.2
        have hHeld : BW w v9 := kk.1
        clear kk
        refine wpAnyH_ready (rs := [10]) (by kernel_rfl) (by simp) (AllReadyH.cons (o := { dst := some 26, op := _, type := _, pos := _, after := _, guard := none }) rfl (fun K hK => ?_) AllReadyH.nil)
        go_simp
        refine (Y3.out _).mono ?_
        rintro e v10 ⟨rfl, hb10⟩
        refine hK.out _ _ (hHeld.below hb10) (fun hHeld => ?_)
        have HN2 := HN.out.below hb10
        clear HN
        have HN : Hid (NB w [] _ cb _) := HN2
        clear HN2
        clear hK K hb10
        refine wpAnyH_ready (rs := [14]) (by kernel_rfl) (by simp) (AllReadyH.cons (o := { dst := some 30, op := _, type := _, pos := _, after := _, guard := none }) rfl (fun K hK => ?_) AllReadyH.nil)
        go_simp
        refine (MC.out _).mono ?_
        rintro e v11 ⟨rfl, hb11⟩
        refine hK.out _ _ (hHeld.below hb11) (fun hHeld => ?_)
        have HN2 := HN.out.below hb11
        clear HN
        have HN : Hid (NB w [] _ cb _) := HN2
        clear HN2
        clear hK K hb11
        refine wpAnyH_take (i := 18) (v := ?_) (oi := { dst := some 34, op := _, type := _, pos := _, after := _, guard := none }) rfl (by kernel_rfl) (by kernel_rfl) (by kernel_rfl) (fun _ _ _ h => h) (Or.inl ⟨by kernel_rfl, ?_⟩) (by assumption) ?_
        case refine_2 => (intro w9 hSw; clear hSw; go_simp; try with_reducible rfl)
        simp only [Act.put, List.setIfInBounds_toArray, List.set_cons_zero, List.set_cons_succ]
        refine wpAnyH_ready (rs := [20]) (by kernel_rfl) (by simp) (AllReadyH.cons (o := { dst := none, op := _, type := _, pos := _, after := _, guard := none }) rfl (fun K hK => ?_) AllReadyH.nil)
        refine (if_pos (by kernel_rfl)).mpr (wp_store_mid 71 _ _ rfl cb 0 #[.string x1, .int .i64 FR, .int .i64 T0, .int .i64 MO, .int .i64 0, .int .i64 0, .int .i64 0, .int .i64 0, .int .u8 0, .int .i64 0, .string x9] rfl rfl HN.out.1.there (by kernel_rfl) (all_oneCell_toArray (cs := [.string x1, .int .i64 FR, .int .i64 T0, .int .i64 MO, .int .i64 0, .int .i64 0, .int .i64 0, .int .i64 0, .int .u8 0, .int .i64 0, .string x9]) (by simp only [List.forall_mem_cons]; exact ⟨rfl, rfl, rfl, rfl, rfl, rfl, rfl, rfl, rfl, rfl, rfl, fun _ h => nomatch h⟩)) (hK.out _ _ (below_setCells HN.out.2.1 _ _ _ hHeld) (fun hHeld => ?_)))
        have HN2 : Hid (BS w [(cb, [.string x1, .int .i64 FR, .int .i64 T0, .int .i64 MO, .int .i64 0, .int .i64 0, .int .i64 0, .int .i64 0, .int .u8 0, .int .i64 0, .string x9])] (v11.setCells cb 0 [.string x1, .int .i64 FR, .int .i64 T0, .int .i64 MO, .int .i64 0, .int .i64 0, .int .i64 0, .int .i64 0, .int .u8 0, .int .i64 0, .string x9])) := ⟨hHeld, fun x hx => by rw [List.mem_singleton.1 hx]; exact ⟨HN.out.2.1, HN.out.1.setAll _ rfl⟩⟩
        have hcw : w.heap.size ≤ cb := HN.out.2.1
        clear hK K HN
        refine wpAnyH_done (by kernel_rfl) ?_ _
        go_wp2_with fail
        go_meet
        case rel => exact ⟨cb, rfl, hcw, HN2⟩
    ·
      have HS : Hid (BS w [] _) := ⟨hHeld, fun x hx => nomatch hx⟩
      go_simp
      refine hK.out _ _ (hHeld.below ((Below.refl _ _).alloc (Nat.le_refl _) _)) (fun hHeld => ?_)
      skip
      obtain ⟨cb, hcb⟩ : ∃ cb, cb = w.heap.size := ⟨_, rfl⟩
      have HN : Hid (NB w [] (w.drew.alloc (.cells #[.string ⟨#[]⟩, .int .i64 0, .int .i64 0, .int .i64 0, .int .i64 0, .int .i64 0, .int .i64 0, .int .i64 0, .int .u8 0, .int .i64 0, .string ⟨#[]⟩] 71)) cb [.string ⟨#[]⟩, .int .i64 0, .int .i64 0, .int .i64 0, .int .i64 0, .int .i64 0, .int .i64 0, .int .i64 0, .int .u8 0, .int .i64 0, .string ⟨#[]⟩]) := by rw [hcb]; exact ⟨Bx.new w.drew [.string ⟨#[]⟩, .int .i64 0, .int .i64 0, .int .i64 0, .int .i64 0, .int .i64 0, .int .i64 0, .int .i64 0, .int .u8 0, .int .i64 0, .string ⟨#[]⟩] _, HS.out.1.size, fun x hx => nomatch hx⟩
      refine gen_any (fun V' => BW w V' ∧ NB w [] V' cb [.string ⟨#[]⟩, .int .i64 0, .int .i64 0, .int .i64 0, .int .i64 0, .int .i64 0, .int .i64 0, .int .i64 0, .int .u8 0, .int .i64 0, .string ⟨#[]⟩]) ⟨hHeld, HN.out⟩ ?_
      rw [← hcb]
      clear hHeld hK K HN HS hcb
      intro v13 kk
      have HN : Hid (NB w [] v13 cb [.string ⟨#[]⟩, .int .i64 0, .int .i64 0, .int .i64 0, .int .i64 0, .int .i64 0, .int .i64 0, .int .i64 0, .int .u8 0, .int .i64 0, .string ⟨#[]⟩]) := kk.2
      have hHeld : BW w v13 := kk.1
      clear kk
      refine wpAnyH_ready (rs := [6]) (by kernel_rfl) (by simp) (AllReadyH.cons (o := { dst := some 22, op := _, type := _, pos := _, after := _, guard := none }) rfl (fun K hK => ?_) AllReadyH.nil)
      go_simp
      refine (Y2.out _).mono ?_
      rintro e v14 ⟨rfl, hb14⟩
      refine hK.out _ _ (hHeld.below hb14) (fun hHeld => ?_)
      have HN2 := HN.out.below hb14
      clear HN
      have HN : Hid (NB w [] _ cb _) := HN2
      clear HN2
      clear hK K hb14
      refine wpAnyH_ready (rs := [10]) (by kernel_rfl) (by simp) (AllReadyH.cons (o := { dst := some 26, op := _, type := _, pos := _, after := _, guard := none }) rfl (fun K hK => ?_) AllReadyH.nil)
      go_simp
      refine (Y3.out _).mono ?_
      rintro e v15 ⟨rfl, hb15⟩
      refine hK.out _ _ (hHeld.below hb15) (fun hHeld => ?_)
      have HN2 := HN.out.below hb15
      clear HN
      have HN : Hid (NB w [] _ cb _) := HN2
      clear HN2
      clear hK K hb15
      refine wpAnyH_ready (rs := [14]) (by kernel_rfl) (by simp) (AllReadyH.cons (o := { dst := some 30, op := _, type := _, pos := _, after := _, guard := none }) rfl (fun K hK => ?_) AllReadyH.nil)
      go_simp
      refine (MC.out _).mono ?_
      rintro e v16 ⟨rfl, hb16⟩
      refine hK.out _ _ (hHeld.below hb16) (fun hHeld => ?_)
      have HN2 := HN.out.below hb16
      clear HN
      have HN : Hid (NB w [] _ cb _) := HN2
      clear HN2
      clear hK K hb16
      refine wpAnyH_take (i := 18) (v := ?_) (oi := { dst := some 34, op := _, type := _, pos := _, after := _, guard := none }) rfl (by kernel_rfl) (by kernel_rfl) (by kernel_rfl) (fun _ _ _ h => h) (Or.inl ⟨by kernel_rfl, ?_⟩) (by assumption) ?_
      case refine_2 => (intro w9 hSw; clear hSw; go_simp; try with_reducible rfl)
      simp only [Act.put, List.setIfInBounds_toArray, List.set_cons_zero, List.set_cons_succ]
      refine wpAnyH_ready (rs := [20]) (by kernel_rfl) (by simp) (AllReadyH.cons (o := { dst := none, op := _, type := _, pos := _, after := _, guard := none }) rfl (fun K hK => ?_) AllReadyH.nil)
      refine (if_pos (by kernel_rfl)).mpr (wp_store_mid 71 _ _ rfl cb 0 #[.string x1, .int .i64 FR, .int .i64 T0, .int .i64 MO, .int .i64 0, .int .i64 0, .int .i64 0, .int .i64 0, .int .u8 0, .int .i64 0, .string x9] rfl rfl HN.out.1.there (by kernel_rfl) (all_oneCell_toArray (cs := [.string x1, .int .i64 FR, .int .i64 T0, .int .i64 MO, .int .i64 0, .int .i64 0, .int .i64 0, .int .i64 0, .int .u8 0, .int .i64 0, .string x9]) (by simp only [List.forall_mem_cons]; exact ⟨rfl, rfl, rfl, rfl, rfl, rfl, rfl, rfl, rfl, rfl, rfl, fun _ h => nomatch h⟩)) (hK.out _ _ (below_setCells HN.out.2.1 _ _ _ hHeld) (fun hHeld => ?_)))
      have HN2 : Hid (BS w [(cb, [.string x1, .int .i64 FR, .int .i64 T0, .int .i64 MO, .int .i64 0, .int .i64 0, .int .i64 0, .int .i64 0, .int .u8 0, .int .i64 0, .string x9])] (v16.setCells cb 0 [.string x1, .int .i64 FR, .int .i64 T0, .int .i64 MO, .int .i64 0, .int .i64 0, .int .i64 0, .int .i64 0, .int .u8 0, .int .i64 0, .string x9])) := ⟨hHeld, fun x hx => by rw [List.mem_singleton.1 hx]; exact ⟨HN.out.2.1, HN.out.1.setAll _ rfl⟩⟩
      have hcw : w.heap.size ≤ cb := HN.out.2.1
      clear hK K HN
      refine wpAnyH_done (by kernel_rfl) ?_ _
      go_wp2_with fail
      go_meet
      case rel => exact ⟨cb, rfl, hcw, HN2⟩
  case rest =>
    obtain ⟨cb, rfl, hcw, K1'⟩ := hcut
    have K1 : Hid (BS w [(cb, [.string x1, .int .i64 FR, .int .i64 T0, .int .i64 MO, .int .i64 0, .int .i64 0, .int .i64 0, .int .i64 0, .int .u8 0, .int .i64 0, .string x9])] wc) := K1'
    clear K1' Y2 Y3 MC f2 f5
    obtain ⟨W1, hW1⟩ : ∃ W1, W1 = wc := ⟨_, rfl⟩
    rw [← hW1] at K1
    rw [← hW1]
    clear hW1
    have f3_ : W1.cell? ⟨fb, fo + 3, none⟩ = some (.string x3) := (K1.out.1.cell (p := ⟨fb, fo + 3, none⟩) hg).trans f3.out
    go_wp2_with fail
    refine (SO.out _).mono ?_
    rintro e V1 ⟨rfl, hb⟩
    have Kv : Hid (BS w [(cb, [.string x1, .int .i64 FR, .int .i64 T0, .int .i64 MO, .int .i64 0, .int .i64 0, .int .i64 0, .int .i64 0, .int .u8 0, .int .i64 0, .string x9])] V1) := K1.out.below hb
    clear hb f3_ K1
    go_upto_if 38 with fail
    go_cut [] (fun wx => Hid (BS w [(cb, [.string x1, .int .i64 FR, .int .i64 T1, .int .i64 MO, .int .i64 0, .int .i64 0, .int .i64 0, .int .i64 0, .int .u8 0, .int .i64 0, .string x9])] wx))
    case first => as_aux_lemma =>
      cases bO
      · have hq : _ = _ := hT1.out
        rw [if_neg Bool.false_ne_true] at hq
        subst hq
        go_wp2_with fail
        go_meet
        case rel => exact Kv
      · have hq : _ = _ := hT1.out
        rw [if_pos rfl] at hq
        subst hq
        have ccb_1 : V1.cell? ⟨cb, 1, none⟩ = some (.int .i64 FR) := (Kv.out.at cb [.string x1, .int .i64 FR, .int .i64 T0, .int .i64 MO, .int .i64 0, .int .i64 0, .int .i64 0, .int .i64 0, .int .u8 0, .int .i64 0, .string x9] (by simp)).c 1 rfl
        have zcb_1 : V1.frozen? ⟨cb, 1, none⟩ = false := (Kv.out.at cb [.string x1, .int .i64 FR, .int .i64 T0, .int .i64 MO, .int .i64 0, .int .i64 0, .int .i64 0, .int .i64 0, .int .u8 0, .int .i64 0, .string x9] (by simp)).f 1 rfl
        have ccb_2 : V1.cell? ⟨cb, 2, none⟩ = some (.int .i64 T0) := (Kv.out.at cb [.string x1, .int .i64 FR, .int .i64 T0, .int .i64 MO, .int .i64 0, .int .i64 0, .int .i64 0, .int .i64 0, .int .u8 0, .int .i64 0, .string x9] (by simp)).c 2 rfl
        have zcb_2 : V1.frozen? ⟨cb, 2, none⟩ = false := (Kv.out.at cb [.string x1, .int .i64 FR, .int .i64 T0, .int .i64 MO, .int .i64 0, .int .i64 0, .int .i64 0, .int .i64 0, .int .u8 0, .int .i64 0, .string x9] (by simp)).f 2 rfl
        have KN : Hid (BS w [(cb, [.string x1, .int .i64 FR, .int .i64 FR, .int .i64 MO, .int .i64 0, .int .i64 0, .int .i64 0, .int .i64 0, .int .u8 0, .int .i64 0, .string x9])] (V1.setCell ⟨cb, 2, none⟩ (.int .i64 FR))) := Kv.out.set1 2 (.int .i64 FR) (by simp) (fun x hx => nomatch hx)
        go_wp2_with fail
        go_meet
        case rel => exact KN
    case rest =>
      have K2 : Hid (BS w [(cb, [.string x1, .int .i64 FR, .int .i64 T1, .int .i64 MO, .int .i64 0, .int .i64 0, .int .i64 0, .int .i64 0, .int .u8 0, .int .i64 0, .string x9])] wc) := hcut
      clear hcut Kv SO hT1
      obtain ⟨W2, hW⟩ : ∃ W, W = wc := ⟨_, rfl⟩
      rw [← hW] at K2
      rw [← hW]
      clear hW
      have f3_ : W2.cell? ⟨fb, fo + 3, none⟩ = some (.string x3) := (K2.out.1.cell (p := ⟨fb, fo + 3, none⟩) hg).trans f3.out
      go_wp2_with fail
      refine (SM.out _).mono ?_
      rintro e V1 ⟨rfl, hb⟩
      have Kv : Hid (BS w [(cb, [.string x1, .int .i64 FR, .int .i64 T1, .int .i64 MO, .int .i64 0, .int .i64 0, .int .i64 0, .int .i64 0, .int .u8 0, .int .i64 0, .string x9])] V1) := K2.out.below hb
      clear hb f3_ K2
      go_upto_if 45 with fail
      go_cut [] (fun wx => Hid (BS w [(cb, [.string x1, .int .i64 FR, .int .i64 T2, .int .i64 MO, .int .i64 0, .int .i64 0, .int .i64 0, .int .i64 0, .int .u8 0, .int .i64 0, .string x9])] wx))
      case first => as_aux_lemma =>
        cases bM
        · have hq : _ = _ := hT2.out
          rw [if_neg Bool.false_ne_true] at hq
          subst hq
          go_wp2_with fail
          go_meet
          case rel => exact Kv
        · have hq : _ = _ := hT2.out
          rw [if_pos rfl] at hq
          subst hq
          have ccb_1 : V1.cell? ⟨cb, 1, none⟩ = some (.int .i64 FR) := (Kv.out.at cb [.string x1, .int .i64 FR, .int .i64 T1, .int .i64 MO, .int .i64 0, .int .i64 0, .int .i64 0, .int .i64 0, .int .u8 0, .int .i64 0, .string x9] (by simp)).c 1 rfl
          have zcb_1 : V1.frozen? ⟨cb, 1, none⟩ = false := (Kv.out.at cb [.string x1, .int .i64 FR, .int .i64 T1, .int .i64 MO, .int .i64 0, .int .i64 0, .int .i64 0, .int .i64 0, .int .u8 0, .int .i64 0, .string x9] (by simp)).f 1 rfl
          have ccb_2 : V1.cell? ⟨cb, 2, none⟩ = some (.int .i64 T1) := (Kv.out.at cb [.string x1, .int .i64 FR, .int .i64 T1, .int .i64 MO, .int .i64 0, .int .i64 0, .int .i64 0, .int .i64 0, .int .u8 0, .int .i64 0, .string x9] (by simp)).c 2 rfl
          have zcb_2 : V1.frozen? ⟨cb, 2, none⟩ = false := (Kv.out.at cb [.string x1, .int .i64 FR, .int .i64 T1, .int .i64 MO, .int .i64 0, .int .i64 0, .int .i64 0, .int .i64 0, .int .u8 0, .int .i64 0, .string x9] (by simp)).f 2 rfl
          have KN : Hid (BS w [(cb, [.string x1, .int .i64 FR, .int .i64 1073741824, .int .i64 MO, .int .i64 0, .int .i64 0, .int .i64 0, .int .i64 0, .int .u8 0, .int .i64 0, .string x9])] (V1.setCell ⟨cb, 2, none⟩ (.int .i64 1073741824))) := Kv.out.set1 2 (.int .i64 1073741824) (by simp) (fun x hx => nomatch hx)
          go_wp2_with fail
          go_meet
          case rel => exact KN
      case rest =>
        have K3 : Hid (BS w [(cb, [.string x1, .int .i64 FR, .int .i64 T2, .int .i64 MO, .int .i64 0, .int .i64 0, .int .i64 0, .int .i64 0, .int .u8 0, .int .i64 0, .string x9])] wc) := hcut
        clear hcut Kv SM hT2
        obtain ⟨W3, hW⟩ : ∃ W, W = wc := ⟨_, rfl⟩
        rw [← hW] at K3
        rw [← hW]
        clear hW
        have f6_ : W3.cell? ⟨fb, fo + 6, none⟩ = some (.string x6) := (K3.out.1.cell (p := ⟨fb, fo + 6, none⟩) hg).trans f6.out
        go_wp2_with fail
        refine (ON.out _).mono ?_
        rintro e V1 ⟨rfl, hb⟩
        have Kv3 : Hid (BS w [(cb, [.string x1, .int .i64 FR, .int .i64 T2, .int .i64 MO, .int .i64 0, .int .i64 0, .int .i64 0, .int .i64 0, .int .u8 0, .int .i64 0, .string x9])] V1) := K3.out.below hb
        clear hb f6_ K3 ON f6
        have ccb_4 : V1.cell? ⟨cb, 4, none⟩ = some (.int .i64 0) := (Kv3.out.at cb [.string x1, .int .i64 FR, .int .i64 T2, .int .i64 MO, .int .i64 0, .int .i64 0, .int .i64 0, .int .i64 0, .int .u8 0, .int .i64 0, .string x9] (by simp)).c 4 rfl
        have zcb_4 : V1.frozen? ⟨cb, 4, none⟩ = false := (Kv3.out.at cb [.string x1, .int .i64 FR, .int .i64 T2, .int .i64 MO, .int .i64 0, .int .i64 0, .int .i64 0, .int .i64 0, .int .u8 0, .int .i64 0, .string x9] (by simp)).f 4 rfl
        have ccb_5 : V1.cell? ⟨cb, 5, none⟩ = some (.int .i64 0) := (Kv3.out.at cb [.string x1, .int .i64 FR, .int .i64 T2, .int .i64 MO, .int .i64 0, .int .i64 0, .int .i64 0, .int .i64 0, .int .u8 0, .int .i64 0, .string x9] (by simp)).c 5 rfl
        have zcb_5 : V1.frozen? ⟨cb, 5, none⟩ = false := (Kv3.out.at cb [.string x1, .int .i64 FR, .int .i64 T2, .int .i64 MO, .int .i64 0, .int .i64 0, .int .i64 0, .int .i64 0, .int .u8 0, .int .i64 0, .string x9] (by simp)).f 5 rfl
        have ccb_6 : V1.cell? ⟨cb, 6, none⟩ = some (.int .i64 0) := (Kv3.out.at cb [.string x1, .int .i64 FR, .int .i64 T2, .int .i64 MO, .int .i64 0, .int .i64 0, .int .i64 0, .int .i64 0, .int .u8 0, .int .i64 0, .string x9] (by simp)).c 6 rfl
        have zcb_6 : V1.frozen? ⟨cb, 6, none⟩ = false := (Kv3.out.at cb [.string x1, .int .i64 FR, .int .i64 T2, .int .i64 MO, .int .i64 0, .int .i64 0, .int .i64 0, .int .i64 0, .int .u8 0, .int .i64 0, .string x9] (by simp)).f 6 rfl
        have KM3 : Hid (BS w [(cb, [.string x1, .int .i64 FR, .int .i64 T2, .int .i64 MO, .int .i64 oa, .int .i64 ob, .int .i64 oc, .int .i64 0, .int .u8 0, .int .i64 0, .string x9])] (((V1.setCell ⟨cb, 4, none⟩ (.int .i64 oa)).setCell ⟨cb, 5, none⟩ (.int .i64 ob)).setCell ⟨cb, 6, none⟩ (.int .i64 oc))) := (((Kv3.out.set1 4 (.int .i64 oa) (by simp) (fun x hx => nomatch hx)).set1 5 (.int .i64 ob) (by simp) (fun x hx => nomatch hx)).set1 6 (.int .i64 oc) (by simp) (fun x hx => nomatch hx))
        go_upto_region 12 with fail
        refine gen_to (BS w [(cb, [.string x1, .int .i64 FR, .int .i64 T2, .int .i64 MO, .int .i64 oa, .int .i64 ob, .int .i64 oc, .int .i64 0, .int .u8 0, .int .i64 0, .string x9])]) KM3.out ?_
        intro W4 K4'
        have K4 : Hid (BS w [(cb, [.string x1, .int .i64 FR, .int .i64 T2, .int .i64 MO, .int .i64 oa, .int .i64 ob, .int .i64 oc, .int .i64 0, .int .u8 0, .int .i64 0, .string x9])] W4) := K4'
        clear K4' KM3 Kv3 ccb_4 zcb_4 ccb_5 zcb_5 ccb_6 zcb_6
        clear V1
        have f7_ : W4.cell? ⟨fb, fo + 7, none⟩ = some (.string x7) := (K4.out.1.cell (p := ⟨fb, fo + 7, none⟩) hg).trans f7.out
        go_wp2_with fail
        refine (AT.out _).mono ?_
        rintro e V1 ⟨rfl, hb⟩
        have Kv4 : Hid (BS w [(cb, [.string x1, .int .i64 FR, .int .i64 T2, .int .i64 MO, .int .i64 oa, .int .i64 ob, .int .i64 oc, .int .i64 0, .int .u8 0, .int .i64 0, .string x9])] V1) := K4.out.below hb
        clear hb f7_ K4 AT f7
        have ccb_7 : V1.cell? ⟨cb, 7, none⟩ = some (.int .i64 0) := (Kv4.out.at cb [.string x1, .int .i64 FR, .int .i64 T2, .int .i64 MO, .int .i64 oa, .int .i64 ob, .int .i64 oc, .int .i64 0, .int .u8 0, .int .i64 0, .string x9] (by simp)).c 7 rfl
        have zcb_7 : V1.frozen? ⟨cb, 7, none⟩ = false := (Kv4.out.at cb [.string x1, .int .i64 FR, .int .i64 T2, .int .i64 MO, .int .i64 oa, .int .i64 ob, .int .i64 oc, .int .i64 0, .int .u8 0, .int .i64 0, .string x9] (by simp)).f 7 rfl
        have ccb_8 : V1.cell? ⟨cb, 8, none⟩ = some (.int .u8 0) := (Kv4.out.at cb [.string x1, .int .i64 FR, .int .i64 T2, .int .i64 MO, .int .i64 oa, .int .i64 ob, .int .i64 oc, .int .i64 0, .int .u8 0, .int .i64 0, .string x9] (by simp)).c 8 rfl
        have zcb_8 : V1.frozen? ⟨cb, 8, none⟩ = false := (Kv4.out.at cb [.string x1, .int .i64 FR, .int .i64 T2, .int .i64 MO, .int .i64 oa, .int .i64 ob, .int .i64 oc, .int .i64 0, .int .u8 0, .int .i64 0, .string x9] (by simp)).f 8 rfl
        have KM4 : Hid (BS w [(cb, [.string x1, .int .i64 FR, .int .i64 T2, .int .i64 MO, .int .i64 oa, .int .i64 ob, .int .i64 oc, .int .i64 ta, .int .u8 tz, .int .i64 0, .string x9])] ((V1.setCell ⟨cb, 7, none⟩ (.int .i64 ta)).setCell ⟨cb, 8, none⟩ (.int .u8 tz))) := ((Kv4.out.set1 7 (.int .i64 ta) (by simp) (fun x hx => nomatch hx)).set1 8 (.int .u8 tz) (by simp) (fun x hx => nomatch hx))
        go_upto_region 13 with fail
        refine gen_to (BS w [(cb, [.string x1, .int .i64 FR, .int .i64 T2, .int .i64 MO, .int .i64 oa, .int .i64 ob, .int .i64 oc, .int .i64 ta, .int .u8 tz, .int .i64 0, .string x9])]) KM4.out ?_
        intro W5 K5'
        have K5 : Hid (BS w [(cb, [.string x1, .int .i64 FR, .int .i64 T2, .int .i64 MO, .int .i64 oa, .int .i64 ob, .int .i64 oc, .int .i64 ta, .int .u8 tz, .int .i64 0, .string x9])] W5) := K5'
        clear K5' KM4 Kv4 ccb_7 zcb_7 ccb_8 zcb_8
        clear V1
        have f8_ : W5.cell? ⟨fb, fo + 8, none⟩ = some (.string x8) := (K5.out.1.cell (p := ⟨fb, fo + 8, none⟩) hg).trans f8.out
        go_wp2_with fail
        refine (RS.out _).mono ?_
        rintro e V1 ⟨rfl, hb⟩
        have Kv5 : Hid (BS w [(cb, [.string x1, .int .i64 FR, .int .i64 T2, .int .i64 MO, .int .i64 oa, .int .i64 ob, .int .i64 oc, .int .i64 ta, .int .u8 tz, .int .i64 0, .string x9])] V1) := K5.out.below hb
        clear hb f8_ K5 RS f8
        have ccb_9 : V1.cell? ⟨cb, 9, none⟩ = some (.int .i64 0) := (Kv5.out.at cb [.string x1, .int .i64 FR, .int .i64 T2, .int .i64 MO, .int .i64 oa, .int .i64 ob, .int .i64 oc, .int .i64 ta, .int .u8 tz, .int .i64 0, .string x9] (by simp)).c 9 rfl
        have zcb_9 : V1.frozen? ⟨cb, 9, none⟩ = false := (Kv5.out.at cb [.string x1, .int .i64 FR, .int .i64 T2, .int .i64 MO, .int .i64 oa, .int .i64 ob, .int .i64 oc, .int .i64 ta, .int .u8 tz, .int .i64 0, .string x9] (by simp)).f 9 rfl
        have KM5 : Hid (BS w [(cb, [.string x1, .int .i64 FR, .int .i64 T2, .int .i64 MO, .int .i64 oa, .int .i64 ob, .int .i64 oc, .int .i64 ta, .int .u8 tz, .int .i64 SV, .string x9])] (V1.setCell ⟨cb, 9, none⟩ (.int .i64 SV))) := (Kv5.out.set1 9 (.int .i64 SV) (by simp) (fun x hx => nomatch hx))
        go_upto_region 14 with fail
        refine gen_to (BS w [(cb, [.string x1, .int .i64 FR, .int .i64 T2, .int .i64 MO, .int .i64 oa, .int .i64 ob, .int .i64 oc, .int .i64 ta, .int .u8 tz, .int .i64 SV, .string x9])]) KM5.out ?_
        intro W6 K6'
        have K6 : Hid (BS w [(cb, [.string x1, .int .i64 FR, .int .i64 T2, .int .i64 MO, .int .i64 oa, .int .i64 ob, .int .i64 oc, .int .i64 ta, .int .u8 tz, .int .i64 SV, .string x9])] W6) := K6'
        clear K6' KM5 Kv5 ccb_9 zcb_9
        clear V1
        by_cases hlb : (x9.toList == [45]) = false ∧ LB = false
        · obtain ⟨h45, hlb2⟩ := hlb
          subst hlb2
          have ccb_10 : W6.cell? ⟨cb, 10, none⟩ = some (.string x9) := (K6.out.at cb [.string x1, .int .i64 FR, .int .i64 T2, .int .i64 MO, .int .i64 oa, .int .i64 ob, .int .i64 oc, .int .i64 ta, .int .u8 tz, .int .i64 SV, .string x9] (by simp)).c 10 rfl
          go_wp2_with fail
          refine (LT.out _).mono ?_
          rintro e V1 ⟨rfl, hb⟩
          have Kv : Hid (BS w [(cb, [.string x1, .int .i64 FR, .int .i64 T2, .int .i64 MO, .int .i64 oa, .int .i64 ob, .int .i64 oc, .int .i64 ta, .int .u8 tz, .int .i64 SV, .string x9])] V1) := K6.out.below hb
          clear hb
          go_wp2_with fail
          go_ret
          exact ⟨rfl, Kv.out.1⟩
        have HLO : Hid ((x9.toList == [45]) = true ∨ LB = true) := by
          show _ ∨ _
          cases h45 : (x9.toList == [45]) with
          | true => exact .inl rfl
          | false =>
            refine .inr ?_
            cases LB with
            | true => rfl
            | false => exact absurd ⟨h45, rfl⟩ hlb
        have HB : Hid (_ = true) := hBad.out.resolve_left hlb
        clear hlb hBad
        have ccb_10 : W6.cell? ⟨cb, 10, none⟩ = some (.string x9) := (K6.out.at cb [.string x1, .int .i64 FR, .int .i64 T2, .int .i64 MO, .int .i64 oa, .int .i64 ob, .int .i64 oc, .int .i64 ta, .int .u8 tz, .int .i64 SV, .string x9] (by simp)).c 10 rfl
        have zcb_10 : W6.frozen? ⟨cb, 10, none⟩ = false := (K6.out.at cb [.string x1, .int .i64 FR, .int .i64 T2, .int .i64 MO, .int .i64 oa, .int .i64 ob, .int .i64 oc, .int .i64 ta, .int .u8 tz, .int .i64 SV, .string x9] (by simp)).f 10 rfl
        go_upto_if 73 with fail
        go_cut [] (fun wx => Hid (BS w [(cb, [.string x1, .int .i64 FR, .int .i64 T2, .int .i64 MO, .int .i64 oa, .int .i64 ob, .int .i64 oc, .int .i64 ta, .int .u8 tz, .int .i64 SV, .string LX])] wx))
        case first => as_aux_lemma =>
          cases h45 : (x9.toList == [45])
          · have hl : LB = true := by
              rcases HLO.out with q | q
              · rw [h45] at q; cases q
              · exact q
            subst hl
            have hq : _ = _ := hLX.out
            rw [h45, if_neg Bool.false_ne_true] at hq
            subst hq
            go_wp2_with fail
            refine (LT.out _).mono ?_
            rintro e V1 ⟨rfl, hb⟩
            have Kv : Hid (BS w [(cb, [.string x1, .int .i64 FR, .int .i64 T2, .int .i64 MO, .int .i64 oa, .int .i64 ob, .int .i64 oc, .int .i64 ta, .int .u8 tz, .int .i64 SV, .string x9])] V1) := K6.out.below hb
            clear hb
            go_wp2_with fail
            go_meet
            case rel => exact Kv
          · have hq : _ = _ := hLX.out
            rw [h45, if_pos rfl] at hq
            have KN : Hid (BS w [(cb, [.string x1, .int .i64 FR, .int .i64 T2, .int .i64 MO, .int .i64 oa, .int .i64 ob, .int .i64 oc, .int .i64 ta, .int .u8 tz, .int .i64 SV, .string LX])] (W6.setCell ⟨cb, 10, none⟩ (.string ⟨#[]⟩))) := by
              rw [← hq]
              exact K6.out.set1 10 (.string ⟨#[]⟩) (by simp) (fun x hx => nomatch hx)
            clear hq
            go_wp2_with fail
            go_meet
            case rel => exact KN
        case rest =>
          have K7 : Hid (BS w [(cb, [.string x1, .int .i64 FR, .int .i64 T2, .int .i64 MO, .int .i64 oa, .int .i64 ob, .int .i64 oc, .int .i64 ta, .int .u8 tz, .int .i64 SV, .string LX])] wc) := hcut
          clear hcut K6 LT hLX f9 ccb_10 zcb_10
          obtain ⟨W7, hW⟩ : ∃ W, W = wc := ⟨_, rfl⟩
          rw [← hW] at K7
          rw [← hW]
          clear hW
          go_upto_region 18 with fail
          go_cut [127] (fun v wx => v = .bool true ∧ Hid (BS w [(cb, [.string x1, .int .i64 FR, .int .i64 T2, .int .i64 MO, .int .i64 oa, .int .i64 ob, .int .i64 oc, .int .i64 ta, .int .u8 tz, .int .i64 SV, .string LX])] wx))
          case first => as_aux_lemma =>
            have ccb_0 : W7.cell? ⟨cb, 0, none⟩ = some (.string x1) := (K7.out.at cb [.string x1, .int .i64 FR, .int .i64 T2, .int .i64 MO, .int .i64 oa, .int .i64 ob, .int .i64 oc, .int .i64 ta, .int .u8 tz, .int .i64 SV, .string LX] (by simp)).c 0 rfl
            go_wp2_with fail
            refine (NM.out _).mono ?_
            rintro e V1 ⟨rfl, hb⟩
            have Kv : Hid (BS w [(cb, [.string x1, .int .i64 FR, .int .i64 T2, .int .i64 MO, .int .i64 oa, .int .i64 ob, .int .i64 oc, .int .i64 ta, .int .u8 tz, .int .i64 SV, .string LX])] V1) := K7.out.below hb
            clear hb K7 ccb_0 NM
            have ccb_1 : V1.cell? ⟨cb, 1, none⟩ = some (.int .i64 FR) := (Kv.out.at cb [.string x1, .int .i64 FR, .int .i64 T2, .int .i64 MO, .int .i64 oa, .int .i64 ob, .int .i64 oc, .int .i64 ta, .int .u8 tz, .int .i64 SV, .string LX] (by simp)).c 1 rfl
            have ccb_2 : V1.cell? ⟨cb, 2, none⟩ = some (.int .i64 T2) := (Kv.out.at cb [.string x1, .int .i64 FR, .int .i64 T2, .int .i64 MO, .int .i64 oa, .int .i64 ob, .int .i64 oc, .int .i64 ta, .int .u8 tz, .int .i64 SV, .string LX] (by simp)).c 2 rfl
            have ccb_3 : V1.cell? ⟨cb, 3, none⟩ = some (.int .i64 MO) := (Kv.out.at cb [.string x1, .int .i64 FR, .int .i64 T2, .int .i64 MO, .int .i64 oa, .int .i64 ob, .int .i64 oc, .int .i64 ta, .int .u8 tz, .int .i64 SV, .string LX] (by simp)).c 3 rfl
            have ccb_9 : V1.cell? ⟨cb, 9, none⟩ = some (.int .i64 SV) := (Kv.out.at cb [.string x1, .int .i64 FR, .int .i64 T2, .int .i64 MO, .int .i64 oa, .int .i64 ob, .int .i64 oc, .int .i64 ta, .int .u8 tz, .int .i64 SV, .string LX] (by simp)).c 9 rfl
            have f4_ : V1.cell? ⟨fb, fo + 4, none⟩ = some (.string x4) := (Kv.out.1.cell (p := ⟨fb, fo + 4, none⟩) hg).trans f4.out
            cases q1 : NMB
            · clear HB
              go_wp2_with fail
              go_meet
              case rel => exact ⟨rfl, Kv⟩
            · cases q2 : (FR == 0)
              · by_cases q3 : T2 < FR
                · clear HB
                  go_wp2_with fail
                  go_meet
                  case rel => exact ⟨rfl, Kv⟩
                · cases q4 : (x4.toList == [45])
                  · clear HB
                    go_wp2_with fail
                    go_meet
                    case rel => exact ⟨rfl, Kv⟩
                  · cases q5 : (MO == 0)
                    · cases q6 : (E != 0)
                      · cases q7 : (E2 != 0)
                        · cases q8 : (E3 != 0)
                          · by_cases q9 : SV < 0
                            · clear HB
                              go_wp2_with fail
                              go_meet
                              case rel => exact ⟨rfl, Kv⟩
                            · by_cases q10 : 7200 < SV
                              · clear HB
                                go_wp2_with fail
                                go_meet
                                case rel => exact ⟨rfl, Kv⟩
                              · have e := HB.out
                                rw [q1, q2, decide_eq_false q3, q4, q5, q6, q7, q8, decide_eq_false q9, decide_eq_false q10] at e
                                exact absurd e (by decide)
                          · clear HB
                            go_wp2_with fail
                            go_meet
                            case rel => exact ⟨rfl, Kv⟩
                        · clear HB
                          go_wp2_with fail
                          go_meet
                          case rel => exact ⟨rfl, Kv⟩
                      · clear HB
                        go_wp2_with fail
                        go_meet
                        case rel => exact ⟨rfl, Kv⟩
                    · clear HB
                      go_wp2_with fail
                      go_meet
                      case rel => exact ⟨rfl, Kv⟩
              · clear HB
                go_wp2_with fail
                go_meet
                case rel => exact ⟨rfl, Kv⟩
          case rest =>
            obtain ⟨rfl, K8'⟩ := hcut
            have K8 : Hid (BS w [(cb, [.string x1, .int .i64 FR, .int .i64 T2, .int .i64 MO, .int .i64 oa, .int .i64 ob, .int .i64 oc, .int .i64 ta, .int .u8 tz, .int .i64 SV, .string LX])] wc) := K8'
            clear K8' K7
            go_wp2_with fail
            go_ret
            exact ⟨rfl, K8.out.1⟩

end Go.Proofs.YtgnfkkcagbbhmaaGreatDoor
