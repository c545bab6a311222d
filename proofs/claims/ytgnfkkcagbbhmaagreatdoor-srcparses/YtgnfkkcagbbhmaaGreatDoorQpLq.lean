/- Contract: the reference's link (a link's line). -/
import Derived.Test.YtgnfkkcagbbhmaaGreatDoorQpDq
import Derived.Test.YtgnfkkcagbbhmaaGreatDoorQpBq
namespace Go.Proofs.YtgnfkkcagbbhmaaGreatDoor
open Go.RowKit
open Sr (gen_any gen_list)
set_option linter.unusedVariables false

/-- a link's line, by whether its names can be. -/
def lkR (b1 b2 : Bool) (S : PSt) (x1 x2 : ByteArray) : Sum Int PSt :=
  if b1 = true then (if b2 = true then (if S.links.length = 16 then .inl 3 else if takenB S x2 = true then .inl 23 else .inr { S with links := S.links ++ [(x1, x2)] }) else .inl 21) else .inl 21

set_option maxRecDepth 100000 in
set_option maxHeartbeats 4000000 in
theorem rlink_len (p : Value) (sa : Option Addr) (k c : Nat) (hk : k ≠ 3) (w : World) :
    Calls Tryz.prog 57 #[p, .slice sa k c] w fun e w' => e = .returned (.int .i64 21) ∧ Below w.heap.size w w' := by
  have h : ((k : Int) != 3) = true := by simp; omega
  go_enter Tryz.func57, Tryz.ntmps57
  go_wp2_with fail
  go_ret
  exact ⟨rfl, Below.refl _ _⟩

set_option maxRecDepth 100000 in
set_option maxHeartbeats 4000000 in
theorem rlink_run (U : World) (g B : Nat) (S : PSt) (xr xl xa xz : Value) (vs : List Value) (w : World) (h : PN U g B S xr xl xa xz vs w) (fb fo c : Nat) (hg : fb < U.heap.size) (hc : 3 ≤ c) (x1 x2 : ByteArray) (f1 : Hid (U.cell? ⟨fb, fo + 1, none⟩ = some (.string x1))) (f2 : Hid (U.cell? ⟨fb, fo + 2, none⟩ = some (.string x2))) (b1 b2 : Bool) (res : Sum Int PSt) (N1 : Hid (∀ w : World, Calls Tryz.prog 16 #[.string x1] w fun e w' => e = .returned (.bool b1) ∧ Below w.heap.size w w')) (N2 : Hid (∀ w : World, Calls Tryz.prog 16 #[.string x2] w fun e w' => e = .returned (.bool b2) ∧ Below w.heap.size w w')) (hz9 : S.links.length ≤ 16) (hs : Few x2) (hZ : Hid (∀ z ∈ S.zones, Few z.1)) (hL : Hid (∀ l ∈ S.links, Few l.2)) (HR : Hid (res = lkR b1 b2 S x1 x2)) :
    Calls Tryz.prog 57 #[.pointer (some ⟨g, 0, none⟩), .slice (some ⟨fb, fo, none⟩) 3 c] w fun e w' => TkN U g B w e w' res := by
  obtain ⟨i0, hi0, iz0, iz1, iz2⟩ := info_partsP infoLinkQ
  have HP : Hid (PN U g B S xr xl xa xz vs w) := h
  clear h
  have f1_ : w.cell? ⟨fb, fo + 1, none⟩ = some (.string x1) := (HP.out.low.cell (p := ⟨fb, fo + 1, none⟩) hg).trans f1.out
  go_enter Tryz.func57, Tryz.ntmps57
  go_wp2_with fail
  refine (N1.out _).mono ?_
  rintro e W1 ⟨rfl, hb⟩
  have K1 : Hid (BW w W1) := hb
  have HP1 : Hid (PN U g B S xr xl xa xz vs W1) := HP.out.below hb
  clear hb f1_ HP
  cases b1
  · go_wp2_with fail
    go_ret
    exact TkN.no HR.out rfl K1.out
  · have f2_ : W1.cell? ⟨fb, fo + 2, none⟩ = some (.string x2) := (HP1.out.low.cell (p := ⟨fb, fo + 2, none⟩) hg).trans f2.out
    go_wp2_with fail
    refine (N2.out _).mono ?_
    rintro e W2 ⟨rfl, hb⟩
    have K2 : Hid (BW w W2) := K1.out.below hb
    have HP2 : Hid (PN U g B S xr xl xa xz vs W2) := HP1.out.below hb
    clear hb f2_ HP1 K1
    cases b2
    · go_wp2_with fail
      go_ret
      exact TkN.no HR.out rfl K2.out
    · obtain ⟨al, cl, hvl, hl1, hl2, -⟩ := own_rowP HP2.out.getL
      subst hvl
      have c2 := HP2.out.box.c 2 rfl
      have lt2 := HP2.out.lt
      by_cases hz16 : S.links.length = 16
      · have HR2 : Hid (res = .inl 3) := by
          have e := HR.out
          unfold lkR at e
          rw [if_pos rfl, if_pos rfl, if_pos hz16] at e
          exact e
        have hz' : (16 : Int) ≤ (S.links.length : Int) := by omega
        clear hz16
        go_wp2_with fail
        go_ret
        exact TkN.no HR2.out rfl K2.out
      · have HZ : Hid (¬ S.links.length = 16) := hz16
        have hz : S.links.length < 16 := by omega
        have hz' : ¬ (16 : Int) ≤ (S.links.length : Int) := by omega
        go_upto_region 5 with fail
        clear c2 lt2
        have f2_ : W2.cell? ⟨fb, fo + 2, none⟩ = some (.string x2) := (HP2.out.low.cell (p := ⟨fb, fo + 2, none⟩) hg).trans f2.out
        go_wp2_with fail
        refine (qtaken_any U g B S xr _ xa xz vs _ HP2.out x2 hs hZ hL).mono ?_
        rintro e W3 ⟨rfl, hb⟩
        have K3 : Hid (BW w W3) := K2.out.below hb
        have HP3 : Hid (PN U g B S xr (.slice al S.links.length cl) xa xz vs W3) := HP2.out.below hb
        clear hb f2_ HP2 K2
        cases ht : takenB S x2
        · have HR2 : Hid (res = .inr { S with links := S.links ++ [(x1, x2)] }) := by
            have e := HR.out
            unfold lkR at e
            rw [if_pos rfl, if_pos rfl, if_neg HZ.out, ht, if_neg Bool.false_ne_true] at e
            exact e
          clear HR ht
          go_upto_region 7 with fail
          have KK0 : Hid _ := HP3.out
          clear HP3 K3
          refine wp_region_held_drew (S := BW U) (by kernel_rfl) KK0.out.low.drew (fun hHeld => ?_)
          refine gen_any (fun V' => PN U g B S xr (.slice al S.links.length cl) xa xz vs V') KK0.out.drew ?_
          clear hHeld KK0
          intro y0 kk
          have KK : Hid (PN U g B S xr (.slice al S.links.length cl) xa xz vs y0) := kk
          have hHeld : BW U y0 := kk.low
          clear kk
          refine wpAnyH_take (i := 0) (v := ?_) (oi := { dst := some 34, op := _, type := _, pos := _, after := _, guard := none }) rfl (by kernel_rfl) (by kernel_rfl) (by kernel_rfl) (fun _ _ _ h => h) (Or.inl ⟨by kernel_rfl, ?_⟩) (by assumption) ?_
          case refine_2 => (intro w9 hSw; clear hSw; go_simp; try with_reducible rfl)
          simp only [Act.put, List.setIfInBounds_toArray, List.set_cons_zero, List.set_cons_succ]
          refine wpAnyH_take (i := 1) (v := ?_) (oi := { dst := some 35, op := _, type := _, pos := _, after := _, guard := none }) rfl (by kernel_rfl) (by kernel_rfl) (by kernel_rfl) (fun _ _ _ h => h) (Or.inl ⟨by kernel_rfl, ?_⟩) (by assumption) ?_
          case refine_2 => (intro w9 hSw; clear hSw; go_simp; try with_reducible rfl)
          simp only [Act.put, List.setIfInBounds_toArray, List.set_cons_zero, List.set_cons_succ]
          refine wpAnyH_take (i := 2) (v := ?_) (oi := { dst := some 36, op := _, type := _, pos := _, after := _, guard := none }) rfl (by kernel_rfl) (by kernel_rfl) (by kernel_rfl) (fun _ _ _ h => h) (Or.inl ⟨by kernel_rfl, ?_⟩) (by assumption) ?_
          case refine_2 => (intro w9 hSw; clear hSw; go_simp; try with_reducible rfl)
          simp only [Act.put, List.setIfInBounds_toArray, List.set_cons_zero, List.set_cons_succ]
          refine wpAnyH_take (i := 3) (v := ?_) (oi := { dst := some 37, op := _, type := _, pos := _, after := _, guard := none }) rfl (by kernel_rfl) (by kernel_rfl) (by kernel_rfl) (fun _ _ _ h => h) (Or.inl ⟨by kernel_rfl, ?_⟩) (by assumption) ?_
          case refine_2 => (intro w9 hSw; clear hSw; go_simp; try with_reducible rfl)
          simp only [Act.put, List.setIfInBounds_toArray, List.set_cons_zero, List.set_cons_succ]
          refine wpAnyH_take (i := 4) (v := ?_) (oi := { dst := some 38, op := _, type := _, pos := _, after := _, guard := none }) rfl (by kernel_rfl) (by kernel_rfl) (by kernel_rfl) (fun _ _ _ h => h) (Or.inl ⟨by kernel_rfl, ?_⟩) (by assumption) ?_
          case refine_2 => (intro w9 hSw; clear hSw; go_simp; try with_reducible rfl)
          simp only [Act.put, List.setIfInBounds_toArray, List.set_cons_zero, List.set_cons_succ]
          refine wpAnyH_take (i := 6) (v := ?_) (oi := { dst := some 40, op := _, type := _, pos := _, after := _, guard := none }) rfl (by kernel_rfl) (by kernel_rfl) (by kernel_rfl) (fun _ _ _ h => h) (Or.inl ⟨by kernel_rfl, ?_⟩) (by assumption) ?_
          case refine_2 => (intro w9 hSw; clear hSw; go_simp; try with_reducible rfl)
          simp only [Act.put, List.setIfInBounds_toArray, List.set_cons_zero, List.set_cons_succ]
          refine wpAnyH_take (i := 7) (v := ?_) (oi := { dst := some 41, op := _, type := _, pos := _, after := _, guard := none }) rfl (by kernel_rfl) (by kernel_rfl) (by kernel_rfl) (fun _ _ _ h => h) (Or.inl ⟨by kernel_rfl, ?_⟩) (by assumption) ?_
          case refine_2 => (intro w9 hSw; clear hSw; go_simp; try with_reducible rfl)
          simp only [Act.put, List.setIfInBounds_toArray, List.set_cons_zero, List.set_cons_succ]
          refine wpAnyH_take (i := 8) (v := ?_) (oi := { dst := some 42, op := _, type := _, pos := _, after := _, guard := none }) rfl (by kernel_rfl) (by kernel_rfl) (by kernel_rfl) (fun _ _ _ h => h) (Or.inl ⟨by kernel_rfl, ?_⟩) (by assumption) ?_
          case refine_2 => (intro w9 hSw; have l1 := (hSw.cell (p := ⟨fb, fo + 1, none⟩) hg).trans f1.out; have l2 := (hSw.cell (p := ⟨fb, fo + 2, none⟩) hg).trans f2.out; clear hSw; go_simp; try with_reducible rfl)
          simp only [Act.put, List.setIfInBounds_toArray, List.set_cons_zero, List.set_cons_succ]
          refine wpAnyH_take (i := 9) (v := ?_) (oi := { dst := some 43, op := _, type := _, pos := _, after := _, guard := none }) rfl (by kernel_rfl) (by kernel_rfl) (by kernel_rfl) (fun _ _ _ h => h) (Or.inl ⟨by kernel_rfl, ?_⟩) (by assumption) ?_
          case refine_2 => (intro w9 hSw; clear hSw; go_simp; try with_reducible rfl)
          simp only [Act.put, List.setIfInBounds_toArray, List.set_cons_zero, List.set_cons_succ]
          refine wpAnyH_take (i := 10) (v := ?_) (oi := { dst := some 44, op := _, type := _, pos := _, after := _, guard := none }) rfl (by kernel_rfl) (by kernel_rfl) (by kernel_rfl) (fun _ _ _ h => h) (Or.inl ⟨by kernel_rfl, ?_⟩) (by assumption) ?_
          case refine_2 => (intro w9 hSw; clear hSw; go_simp; try with_reducible rfl)
          simp only [Act.put, List.setIfInBounds_toArray, List.set_cons_zero, List.set_cons_succ]
          refine wpAnyH_take (i := 11) (v := ?_) (oi := { dst := some 45, op := _, type := _, pos := _, after := _, guard := none }) rfl (by kernel_rfl) (by kernel_rfl) (by kernel_rfl) (fun _ _ _ h => h) (Or.inl ⟨by kernel_rfl, ?_⟩) (by assumption) ?_
          case refine_2 => (intro w9 hSw; have l1 := (hSw.cell (p := ⟨fb, fo + 1, none⟩) hg).trans f1.out; have l2 := (hSw.cell (p := ⟨fb, fo + 2, none⟩) hg).trans f2.out; clear hSw; go_simp; try with_reducible rfl)
          simp only [Act.put, List.setIfInBounds_toArray, List.set_cons_zero, List.set_cons_succ]
          refine wpAnyH_take (i := 12) (v := ?_) (oi := { dst := some 46, op := _, type := _, pos := _, after := _, guard := none }) rfl (by kernel_rfl) (by kernel_rfl) (by kernel_rfl) (fun _ _ _ h => h) (Or.inl ⟨by kernel_rfl, ?_⟩) (by assumption) ?_
          case refine_2 => (intro w9 hSw; clear hSw; go_simp; try with_reducible rfl)
          simp only [Act.put, List.setIfInBounds_toArray, List.set_cons_zero, List.set_cons_succ]
          refine wpAnyH_ready (rs := [5, 13]) (by kernel_rfl) (by simp) (AllReadyH.cons (o := { dst := some 39, op := _, type := _, pos := _, after := _, guard := none }) rfl (fun K hK => ?_) (AllReadyH.cons (o := { dst := some 47, op := _, type := _, pos := _, after := _, guard := none }) rfl (fun K hK => ?_) AllReadyH.nil))
          ·
            have q0 := KK.out.box.c 2 rfl
            have q9 := KK.out.lt
            go_simp
            refine hK.out _ _ hHeld (fun hHeld => ?_)
            clear hK K q0 q9
            refine wpAnyH_ready (rs := [13]) (by kernel_rfl) (by simp) (AllReadyH.cons (o := { dst := some 47, op := _, type := _, pos := _, after := _, guard := none }) rfl (fun K hK => ?_) AllReadyH.nil)
            go_simp
            refine hK.out _ _ (hHeld.below ((Below.refl _ _).alloc (Nat.le_refl _) _)) (fun hHeld => ?_)
            obtain ⟨BR, hBR⟩ : ∃ BR, BR = y0.heap.size := ⟨_, rfl⟩
            have KN : Hid (PN U g B S xr (.slice al S.links.length cl) xa xz vs (y0.alloc (.cells #[.string x1, .string x2] 81)) ∧ Bx (y0.alloc (.cells #[.string x1, .string x2] 81)) BR [.string x1, .string x2]) := ⟨KK.out.below ((Below.refl _ _).alloc (Nat.le_refl _) _), by rw [hBR]; exact Bx.new y0 [.string x1, .string x2] _⟩
            refine gen_any (fun V' => PN U g B S xr (.slice al S.links.length cl) xa xz vs V' ∧ Bx V' BR [.string x1, .string x2]) KN.out ?_
            rw [← hBR]
            clear hHeld hK K KN hBR KK
            intro v2 kk
            have KK : Hid (PN U g B S xr (.slice al S.links.length cl) xa xz vs v2 ∧ Bx v2 BR [.string x1, .string x2]) := kk
            have hHeld : BW U v2 := kk.1.low
            clear kk
            refine wpAnyH_ready (rs := [14]) (by kernel_rfl) (by simp) (AllReadyH.cons (o := { dst := some 48, op := _, type := _, pos := _, after := _, guard := none }) rfl (fun K hK => ?_) AllReadyH.nil)
            refine (if_pos (by kernel_rfl)).mpr (wp_append_newP _ _ 32 rfl B 81 i0 linkZ 2 32 Tryz.underlying32 hi0 iz0 iz1 iz2 rfl (by decide) (.slice al S.links.length cl) S.links.length (linkXs S.links) rfl KK.out.1.getL ⟨BR, 0, none⟩ 1 [.string x1, .string x2] rfl rfl (fun j u hj => by rw [show (⟨BR, 0, none⟩ : Addr).add j = ⟨BR, j, none⟩ from by rw [Addr.add_lit]; simp]; exact (KK.out.2.2 j u hj).1) (by intro u hu; simp at hu; rcases hu with rfl | rfl <;> rfl) (by unfold maxLen; omega) (by omega) KK.out.1.BV ?_)
            intro v' w4 hown' hgrow hnew
            obtain ⟨sq', sn', sc', hv'⟩ := own_sliceP hown'
            subst hv'
            have HQ : Hid (PN U g B { S with links := S.links ++ [(x1, x2)] } xr (.slice sq' sn' sc') xa xz vs (w4.setCell ⟨g, 2, none⟩ (.slice sq' sn' sc'))) := KK.out.1.linked (x1, x2) hgrow hnew hown'
            have HBX : Hid (Bx w4 g _) := KK.out.1.grownBox hgrow (fun c e => (own_ltP KK.out.1.getL e).1)
            have HLW : Below U.heap.size U w4 := KK.out.1.grownLow hgrow (fun c e => (own_ltP KK.out.1.getL e).1)
            refine hK.out _ _ HLW (fun hHeld => ?_)
            clear hK K hown' hgrow hnew KK HLW
            refine wpAnyH_take (i := 15) (v := ?_) (oi := { dst := some 49, op := _, type := _, pos := _, after := _, guard := none }) rfl (by kernel_rfl) (by kernel_rfl) (by kernel_rfl) (fun _ _ _ h => h) (Or.inl ⟨by kernel_rfl, ?_⟩) (by assumption) ?_
            case refine_2 => (intro w9 hSw; clear hSw; go_simp; try with_reducible rfl)
            simp only [Act.put, List.setIfInBounds_toArray, List.set_cons_zero, List.set_cons_succ]
            refine wpAnyH_take (i := 16) (v := ?_) (oi := { dst := some 50, op := _, type := _, pos := _, after := _, guard := none }) rfl (by kernel_rfl) (by kernel_rfl) (by kernel_rfl) (fun _ _ _ h => h) (Or.inl ⟨by kernel_rfl, ?_⟩) (by assumption) ?_
            case refine_2 => (intro w9 hSw; clear hSw; go_simp; try with_reducible rfl)
            simp only [Act.put, List.setIfInBounds_toArray, List.set_cons_zero, List.set_cons_succ]
            refine wpAnyH_take (i := 17) (v := ?_) (oi := { dst := some 51, op := _, type := _, pos := _, after := _, guard := none }) rfl (by kernel_rfl) (by kernel_rfl) (by kernel_rfl) (fun _ _ _ h => h) (Or.inl ⟨by kernel_rfl, ?_⟩) (by assumption) ?_
            case refine_2 => (intro w9 hSw; clear hSw; go_simp; try with_reducible rfl)
            simp only [Act.put, List.setIfInBounds_toArray, List.set_cons_zero, List.set_cons_succ]
            refine wpAnyH_ready (rs := [18]) (by kernel_rfl) (by simp) (AllReadyH.cons (o := { dst := none, op := _, type := _, pos := _, after := _, guard := none }) rfl (fun K hK => ?_) AllReadyH.nil)
            have c2 := HBX.out.c 2 rfl
            have z2 := HBX.out.f 2 rfl
            have h4 := HBX.out.1
            go_simp
            refine hK.out _ _ HQ.out.low (fun hHeld => ?_)
            refine gen_any (fun V' => PN U g B { S with links := S.links ++ [(x1, x2)] } xr (.slice sq' sn' sc') xa xz vs V') HQ.out ?_
            clear hHeld hK K HQ HBX c2 z2 h4
            intro v4 kk
            have KK : Hid (PN U g B { S with links := S.links ++ [(x1, x2)] } xr (.slice sq' sn' sc') xa xz vs v4) := kk
            clear kk
            refine wpAnyH_done (by kernel_rfl) ?_ _
            go_wp2_with fail
            go_ret
            exact TkN.yes HR2.out rfl KK.out
          ·
            go_simp
            refine hK.out _ _ (hHeld.below ((Below.refl _ _).alloc (Nat.le_refl _) _)) (fun hHeld => ?_)
            obtain ⟨BR, hBR⟩ : ∃ BR, BR = y0.heap.size := ⟨_, rfl⟩
            have KN : Hid (PN U g B S xr (.slice al S.links.length cl) xa xz vs (y0.alloc (.cells #[.string x1, .string x2] 81)) ∧ Bx (y0.alloc (.cells #[.string x1, .string x2] 81)) BR [.string x1, .string x2]) := ⟨KK.out.below ((Below.refl _ _).alloc (Nat.le_refl _) _), by rw [hBR]; exact Bx.new y0 [.string x1, .string x2] _⟩
            refine gen_any (fun V' => PN U g B S xr (.slice al S.links.length cl) xa xz vs V' ∧ Bx V' BR [.string x1, .string x2]) KN.out ?_
            rw [← hBR]
            clear hHeld hK K KN hBR KK
            intro v5 kk
            have KK : Hid (PN U g B S xr (.slice al S.links.length cl) xa xz vs v5 ∧ Bx v5 BR [.string x1, .string x2]) := kk
            have hHeld : BW U v5 := kk.1.low
            clear kk
            refine wpAnyH_ready (rs := [5]) (by kernel_rfl) (by simp) (AllReadyH.cons (o := { dst := some 39, op := _, type := _, pos := _, after := _, guard := none }) rfl (fun K hK => ?_) AllReadyH.nil)
            have q0 := KK.out.1.box.c 2 rfl
            have q9 := KK.out.1.lt
            go_simp
            refine hK.out _ _ hHeld (fun hHeld => ?_)
            clear hK K q0 q9
            refine wpAnyH_ready (rs := [14]) (by kernel_rfl) (by simp) (AllReadyH.cons (o := { dst := some 48, op := _, type := _, pos := _, after := _, guard := none }) rfl (fun K hK => ?_) AllReadyH.nil)
            refine (if_pos (by kernel_rfl)).mpr (wp_append_newP _ _ 32 rfl B 81 i0 linkZ 2 32 Tryz.underlying32 hi0 iz0 iz1 iz2 rfl (by decide) (.slice al S.links.length cl) S.links.length (linkXs S.links) rfl KK.out.1.getL ⟨BR, 0, none⟩ 1 [.string x1, .string x2] rfl rfl (fun j u hj => by rw [show (⟨BR, 0, none⟩ : Addr).add j = ⟨BR, j, none⟩ from by rw [Addr.add_lit]; simp]; exact (KK.out.2.2 j u hj).1) (by intro u hu; simp at hu; rcases hu with rfl | rfl <;> rfl) (by unfold maxLen; omega) (by omega) KK.out.1.BV ?_)
            intro v' w4 hown' hgrow hnew
            obtain ⟨sq', sn', sc', hv'⟩ := own_sliceP hown'
            subst hv'
            have HQ : Hid (PN U g B { S with links := S.links ++ [(x1, x2)] } xr (.slice sq' sn' sc') xa xz vs (w4.setCell ⟨g, 2, none⟩ (.slice sq' sn' sc'))) := KK.out.1.linked (x1, x2) hgrow hnew hown'
            have HBX : Hid (Bx w4 g _) := KK.out.1.grownBox hgrow (fun c e => (own_ltP KK.out.1.getL e).1)
            have HLW : Below U.heap.size U w4 := KK.out.1.grownLow hgrow (fun c e => (own_ltP KK.out.1.getL e).1)
            refine hK.out _ _ HLW (fun hHeld => ?_)
            clear hK K hown' hgrow hnew KK HLW
            refine wpAnyH_take (i := 15) (v := ?_) (oi := { dst := some 49, op := _, type := _, pos := _, after := _, guard := none }) rfl (by kernel_rfl) (by kernel_rfl) (by kernel_rfl) (fun _ _ _ h => h) (Or.inl ⟨by kernel_rfl, ?_⟩) (by assumption) ?_
            case refine_2 => (intro w9 hSw; clear hSw; go_simp; try with_reducible rfl)
            simp only [Act.put, List.setIfInBounds_toArray, List.set_cons_zero, List.set_cons_succ]
            refine wpAnyH_take (i := 16) (v := ?_) (oi := { dst := some 50, op := _, type := _, pos := _, after := _, guard := none }) rfl (by kernel_rfl) (by kernel_rfl) (by kernel_rfl) (fun _ _ _ h => h) (Or.inl ⟨by kernel_rfl, ?_⟩) (by assumption) ?_
            case refine_2 => (intro w9 hSw; clear hSw; go_simp; try with_reducible rfl)
            simp only [Act.put, List.setIfInBounds_toArray, List.set_cons_zero, List.set_cons_succ]
            refine wpAnyH_take (i := 17) (v := ?_) (oi := { dst := some 51, op := _, type := _, pos := _, after := _, guard := none }) rfl (by kernel_rfl) (by kernel_rfl) (by kernel_rfl) (fun _ _ _ h => h) (Or.inl ⟨by kernel_rfl, ?_⟩) (by assumption) ?_
            case refine_2 => (intro w9 hSw; clear hSw; go_simp; try with_reducible rfl)
            simp only [Act.put, List.setIfInBounds_toArray, List.set_cons_zero, List.set_cons_succ]
            refine wpAnyH_ready (rs := [18]) (by kernel_rfl) (by simp) (AllReadyH.cons (o := { dst := none, op := _, type := _, pos := _, after := _, guard := none }) rfl (fun K hK => ?_) AllReadyH.nil)
            have c2 := HBX.out.c 2 rfl
            have z2 := HBX.out.f 2 rfl
            have h4 := HBX.out.1
            go_simp
            refine hK.out _ _ HQ.out.low (fun hHeld => ?_)
            refine gen_any (fun V' => PN U g B { S with links := S.links ++ [(x1, x2)] } xr (.slice sq' sn' sc') xa xz vs V') HQ.out ?_
            clear hHeld hK K HQ HBX c2 z2 h4
            intro v8 kk
            have KK : Hid (PN U g B { S with links := S.links ++ [(x1, x2)] } xr (.slice sq' sn' sc') xa xz vs v8) := kk
            clear kk
            refine wpAnyH_done (by kernel_rfl) ?_ _
            go_wp2_with fail
            go_ret
            exact TkN.yes HR2.out rfl KK.out
        · have HR2 : Hid (res = .inl 23) := by
            have e := HR.out
            unfold lkR at e
            rw [if_pos rfl, if_pos rfl, if_neg HZ.out, ht, if_pos rfl] at e
            exact e
          go_wp2_with fail
          go_ret
          exact TkN.no HR2.out rfl K3.out

end Go.Proofs.YtgnfkkcagbbhmaaGreatDoor
