/- Contract: the reference's zone (a zone's first line), over what its era answers. -/
import Derived.Test.YtgnfkkcagbbhmaaGreatDoorQpNq
import Derived.Test.YtgnfkkcagbbhmaaGreatDoorQpDq
namespace Go.Proofs.YtgnfkkcagbbhmaaGreatDoor
open Go.RowKit
open Sr (gen_any gen_list)
set_option linter.unusedVariables false

/-- a zone's first line, by whether its name, its era can be. -/
def znR (b1 b : Bool) (S : PSt) (x1 : ByteArray) (n : Int) (r : EraT) : Sum Int PSt :=
  if b1 = true then (if b = true then (if S.zones.length = 16 then .inl 3 else if takenB S x1 = true then .inl 23 else .inr (addF { S with zones := S.zones ++ [(x1, [])] } n r)) else .inl 21) else .inl 21

set_option maxRecDepth 100000 in
set_option maxHeartbeats 4000000 in
theorem rzone_len (p : Value) (n : Int) (sa : Option Addr) (k c : Nat) (hk : k < 2) (w : World) :
    Calls Tryz.prog 56 #[p, .int .i64 n, .slice sa k c] w fun e w' => e = .returned (.int .i64 21) ∧ Below w.heap.size w w' := by
  have h : (k : Int) < 2 := by omega
  go_enter Tryz.func56, Tryz.ntmps56
  go_wp2_with fail
  go_ret
  exact ⟨rfl, Below.refl _ _⟩

set_option maxRecDepth 100000 in
set_option maxHeartbeats 4000000 in
theorem rzone_run (U : World) (g B : Nat) (S : PSt) (xr xl xa xz : Value) (vs : List Value) (w : World) (h : PN U g B S xr xl xa xz vs w) (n : Int) (fb fo k c : Nat) (hg : fb < U.heap.size) (hc : k + 2 ≤ c) (x1 : ByteArray) (f1 : Hid (U.cell? ⟨fb, fo + 1, none⟩ = some (.string x1))) (A : Option Addr) (hA : Hid ((if c = 2 then some (⟨fb, fo, none⟩ : Addr) else some ⟨fb, fo + 2, none⟩) = A)) (r : EraT) (b1 b : Bool) (res : Sum Int PSt) (N1 : Hid (∀ w : World, Calls Tryz.prog 16 #[.string x1] w fun e w' => e = .returned (.bool b1) ∧ Below w.heap.size w w')) (ER : Hid (∀ W : World, Below U.heap.size U W → Calls Tryz.prog 84 #[.slice A k (c - 2)] W fun e w' => e = .returned (.tuple #[.agg #[.int .i64 r.off, .string r.rl, .int .i64 r.sv, .string r.fm, .int .i64 r.u.y, .int .i64 r.u.mo, .int .i64 r.u.oa, .int .i64 r.u.ob, .int .i64 r.u.oc, .int .i64 r.u.ta, .int .u8 r.u.tz], .bool b]) ∧ Below W.heap.size W w')) (hz9 : S.zones.length ≤ 16) (he9 : S.eras.length ≤ 100000) (hy : b = true → (r.u.y != 0) = decide (0 < r.u.y)) (hs : Few x1) (hZ : Hid (∀ z ∈ S.zones, Few z.1)) (hL : Hid (∀ l ∈ S.links, Few l.2))
    (HR : Hid (res = znR b1 b S x1 n r)) :
    Calls Tryz.prog 56 #[.pointer (some ⟨g, 0, none⟩), .int .i64 n, .slice (some ⟨fb, fo, none⟩) (k + 2) c] w fun e w' => TkN U g B w e w' res := by
  obtain ⟨i0, hi0, iz0, iz1, iz2⟩ := info_partsP infoZoneQ
  have HP : Hid (PN U g B S xr xl xa xz vs w) := h
  clear h
  have h1 : (2 : Int) ≤ ((k + 2 : Nat) : Int) := by omega
  have h2 : ((k + 2 : Nat) : Int) ≤ (c : Int) := by omega
  have h3 : (2 : Int) ≤ (c : Int) := by omega
  have h4 : ¬ ((k + 2 : Nat) : Int) < 2 := by omega
  have h5 : (1 : Int) < ((k + 2 : Nat) : Int) := by omega
  have h6 : 2 ≤ c := by omega
  have f1_ : w.cell? ⟨fb, fo + 1, none⟩ = some (.string x1) := (HP.out.low.cell (p := ⟨fb, fo + 1, none⟩) hg).trans f1.out
  go_enter Tryz.func56, Tryz.ntmps56
  go_wp2_with fail
  refine (N1.out _).mono ?_
  rintro e W1 ⟨rfl, hb⟩
  have K1 : Hid (BW w W1) := hb
  have HP1 : Hid (PN U g B S xr xl xa xz vs W1) := HP.out.below hb
  clear hb f1_ HP
  cases b1
  · go_wp2_with fail
    go_ret
    exact TkN.no HR.out rfl K1.out
  · have hA2 : _ = _ := hA.out
    go_wp2_with fail
    refine (ER.out _ HP1.out.low).mono ?_
    rintro e W2 ⟨rfl, hb⟩
    have K2 : Hid (BW w W2) := K1.out.below hb
    have HP2 : Hid (PN U g B S xr xl xa xz vs W2) := HP1.out.below hb
    clear hb HP1 K1 hA2
    cases b
    · go_wp2_with fail
      go_ret
      exact TkN.no HR.out rfl (K2.out.below ((Below.refl _ _).alloc (Nat.le_refl _) _))
    · have hy2 : Hid ((r.u.y != 0) = decide (0 < r.u.y)) := hy rfl
      clear hy
      have K3 : Hid (BW w (W2.alloc (.cells r.cs.toArray 78))) := K2.out.below ((Below.refl _ _).alloc (Nat.le_refl _) _)
      have HP3 : Hid (PN U g B S xr xl xa xz vs (W2.alloc (.cells r.cs.toArray 78))) := HP2.out.below ((Below.refl _ _).alloc (Nat.le_refl _) _)
      clear K2 HP2
      go_upto_region 4 with fail
      refine gen_code (fun W => PN U g B S xr xl xa xz vs W ∧ BW w W) ⟨HP3.out, K3.out⟩ ?_
      clear HP3 K3
      intro W3 kk
      have HP3 : Hid (PN U g B S xr xl xa xz vs W3) := kk.1
      have K3 : Hid (BW w W3) := kk.2
      clear kk
      obtain ⟨az, cz, hvz, hz1, hz2, -⟩ := own_rowP HP3.out.getZ
      subst hvz
      have c2 := HP3.out.box.c 1 rfl
      have lt2 := HP3.out.lt
      by_cases hz16 : S.zones.length = 16
      · have HR2 : Hid (res = .inl 3) := by
          have e := HR.out
          unfold znR at e
          rw [if_pos rfl, if_pos rfl, if_pos hz16] at e
          exact e
        have hz' : (16 : Int) ≤ (S.zones.length : Int) := by omega
        clear hz16
        go_wp2_with fail
        go_ret
        exact TkN.no HR2.out rfl K3.out
      · have HZ : Hid (¬ S.zones.length = 16) := hz16
        have hz : S.zones.length < 16 := by omega
        have hz' : ¬ (16 : Int) ≤ (S.zones.length : Int) := by omega
        go_upto_region 8 with fail
        clear c2 lt2
        have f1_ : W3.cell? ⟨fb, fo + 1, none⟩ = some (.string x1) := (HP3.out.low.cell (p := ⟨fb, fo + 1, none⟩) hg).trans f1.out
        go_wp2_with fail
        refine (qtaken_any U g B S xr xl xa _ vs _ HP3.out x1 hs hZ hL).mono ?_
        rintro e W4 ⟨rfl, hb⟩
        have K4 : Hid (BW w W4) := K3.out.below hb
        have HP4 : Hid (PN U g B S xr xl xa (.slice az S.zones.length cz) vs W4) := HP3.out.below hb
        clear hb f1_ HP3 K3
        cases ht : takenB S x1
        · have HR2 : Hid (res = .inr (addF { S with zones := S.zones ++ [(x1, [])] } n r)) := by
            have e := HR.out
            unfold znR at e
            rw [if_pos rfl, if_pos rfl, if_neg HZ.out, ht, if_neg Bool.false_ne_true] at e
            exact e
          clear HR ht
          go_upto_region 10 with fail
          have KK0 : Hid _ := HP4.out
          clear HP4 K4
          refine wp_region_held_drew (S := BW U) (by kernel_rfl) KK0.out.low.drew (fun hHeld => ?_)
          refine gen_any (fun V' => PN U g B S xr xl xa (.slice az S.zones.length cz) vs V') KK0.out.drew ?_
          clear hHeld KK0
          intro y0 kk
          have KK : Hid (PN U g B S xr xl xa (.slice az S.zones.length cz) vs y0) := kk
          have hHeld : BW U y0 := kk.low
          clear kk
          refine wpAnyH_take (i := 0) (v := ?_) (oi := { dst := some 39, op := _, type := _, pos := _, after := _, guard := none }) rfl (by kernel_rfl) (by kernel_rfl) (by kernel_rfl) (fun _ _ _ h => h) (Or.inl ⟨by kernel_rfl, ?_⟩) (by assumption) ?_
          case refine_2 => (intro w9 hSw; clear hSw; go_simp; try with_reducible rfl)
          simp only [Act.put, List.setIfInBounds_toArray, List.set_cons_zero, List.set_cons_succ]
          refine wpAnyH_take (i := 1) (v := ?_) (oi := { dst := some 40, op := _, type := _, pos := _, after := _, guard := none }) rfl (by kernel_rfl) (by kernel_rfl) (by kernel_rfl) (fun _ _ _ h => h) (Or.inl ⟨by kernel_rfl, ?_⟩) (by assumption) ?_
          case refine_2 => (intro w9 hSw; clear hSw; go_simp; try with_reducible rfl)
          simp only [Act.put, List.setIfInBounds_toArray, List.set_cons_zero, List.set_cons_succ]
          refine wpAnyH_take (i := 2) (v := ?_) (oi := { dst := some 41, op := _, type := _, pos := _, after := _, guard := none }) rfl (by kernel_rfl) (by kernel_rfl) (by kernel_rfl) (fun _ _ _ h => h) (Or.inl ⟨by kernel_rfl, ?_⟩) (by assumption) ?_
          case refine_2 => (intro w9 hSw; clear hSw; go_simp; try with_reducible rfl)
          simp only [Act.put, List.setIfInBounds_toArray, List.set_cons_zero, List.set_cons_succ]
          refine wpAnyH_take (i := 3) (v := ?_) (oi := { dst := some 42, op := _, type := _, pos := _, after := _, guard := none }) rfl (by kernel_rfl) (by kernel_rfl) (by kernel_rfl) (fun _ _ _ h => h) (Or.inl ⟨by kernel_rfl, ?_⟩) (by assumption) ?_
          case refine_2 => (intro w9 hSw; clear hSw; go_simp; try with_reducible rfl)
          simp only [Act.put, List.setIfInBounds_toArray, List.set_cons_zero, List.set_cons_succ]
          refine wpAnyH_take (i := 4) (v := ?_) (oi := { dst := some 43, op := _, type := _, pos := _, after := _, guard := none }) rfl (by kernel_rfl) (by kernel_rfl) (by kernel_rfl) (fun _ _ _ h => h) (Or.inl ⟨by kernel_rfl, ?_⟩) (by assumption) ?_
          case refine_2 => (intro w9 hSw; clear hSw; go_simp; try with_reducible rfl)
          simp only [Act.put, List.setIfInBounds_toArray, List.set_cons_zero, List.set_cons_succ]
          refine wpAnyH_take (i := 6) (v := ?_) (oi := { dst := some 45, op := _, type := _, pos := _, after := _, guard := none }) rfl (by kernel_rfl) (by kernel_rfl) (by kernel_rfl) (fun _ _ _ h => h) (Or.inl ⟨by kernel_rfl, ?_⟩) (by assumption) ?_
          case refine_2 => (intro w9 hSw; clear hSw; go_simp; try with_reducible rfl)
          simp only [Act.put, List.setIfInBounds_toArray, List.set_cons_zero, List.set_cons_succ]
          refine wpAnyH_take (i := 7) (v := ?_) (oi := { dst := some 46, op := _, type := _, pos := _, after := _, guard := none }) rfl (by kernel_rfl) (by kernel_rfl) (by kernel_rfl) (fun _ _ _ h => h) (Or.inl ⟨by kernel_rfl, ?_⟩) (by assumption) ?_
          case refine_2 => (intro w9 hSw; clear hSw; go_simp; try with_reducible rfl)
          simp only [Act.put, List.setIfInBounds_toArray, List.set_cons_zero, List.set_cons_succ]
          refine wpAnyH_take (i := 8) (v := ?_) (oi := { dst := some 47, op := _, type := _, pos := _, after := _, guard := none }) rfl (by kernel_rfl) (by kernel_rfl) (by kernel_rfl) (fun _ _ _ h => h) (Or.inl ⟨by kernel_rfl, ?_⟩) (by assumption) ?_
          case refine_2 => (intro w9 hSw; have l1 := (hSw.cell (p := ⟨fb, fo + 1, none⟩) hg).trans f1.out; clear hSw; go_simp; try with_reducible rfl)
          simp only [Act.put, List.setIfInBounds_toArray, List.set_cons_zero, List.set_cons_succ]
          refine wpAnyH_take (i := 9) (v := ?_) (oi := { dst := some 48, op := _, type := _, pos := _, after := _, guard := none }) rfl (by kernel_rfl) (by kernel_rfl) (by kernel_rfl) (fun _ _ _ h => h) (Or.inl ⟨by kernel_rfl, ?_⟩) (by assumption) ?_
          case refine_2 => (intro w9 hSw; clear hSw; go_simp; try with_reducible rfl)
          simp only [Act.put, List.setIfInBounds_toArray, List.set_cons_zero, List.set_cons_succ]
          refine wpAnyH_ready (rs := [5, 10]) (by kernel_rfl) (by simp) (AllReadyH.cons (o := { dst := some 44, op := _, type := _, pos := _, after := _, guard := none }) rfl (fun K hK => ?_) (AllReadyH.cons (o := { dst := some 49, op := _, type := _, pos := _, after := _, guard := none }) rfl (fun K hK => ?_) AllReadyH.nil))
          ·
            have q0 := KK.out.box.c 1 rfl
            have q9 := KK.out.lt
            go_simp
            refine hK.out _ _ hHeld (fun hHeld => ?_)
            clear hK K q0 q9
            refine wpAnyH_ready (rs := [10]) (by kernel_rfl) (by simp) (AllReadyH.cons (o := { dst := some 49, op := _, type := _, pos := _, after := _, guard := none }) rfl (fun K hK => ?_) AllReadyH.nil)
            go_simp
            refine hK.out _ _ (hHeld.below ((Below.refl _ _).alloc (Nat.le_refl _) _)) (fun hHeld => ?_)
            obtain ⟨BR, hBR⟩ : ∃ BR, BR = y0.heap.size := ⟨_, rfl⟩
            have KN : Hid (PN U g B S xr xl xa (.slice az S.zones.length cz) vs (y0.alloc (.cells #[.string x1, .slice none 0 0] 74)) ∧ Bx (y0.alloc (.cells #[.string x1, .slice none 0 0] 74)) BR [.string x1, .slice none 0 0]) := ⟨KK.out.below ((Below.refl _ _).alloc (Nat.le_refl _) _), by rw [hBR]; exact Bx.new y0 [.string x1, .slice none 0 0] _⟩
            refine gen_any (fun V' => PN U g B S xr xl xa (.slice az S.zones.length cz) vs V' ∧ Bx V' BR [.string x1, .slice none 0 0]) KN.out ?_
            rw [← hBR]
            clear hHeld hK K KN hBR KK
            intro v2 kk
            have KK : Hid (PN U g B S xr xl xa (.slice az S.zones.length cz) vs v2 ∧ Bx v2 BR [.string x1, .slice none 0 0]) := kk
            have hHeld : BW U v2 := kk.1.low
            clear kk
            refine wpAnyH_ready (rs := [11]) (by kernel_rfl) (by simp) (AllReadyH.cons (o := { dst := some 50, op := _, type := _, pos := _, after := _, guard := none }) rfl (fun K hK => ?_) AllReadyH.nil)
            refine (if_pos (by kernel_rfl)).mpr (wp_append_newP _ _ 31 rfl B 74 i0 zoneZ 2 40 Tryz.underlying31 hi0 iz0 iz1 iz2 rfl (by decide) (.slice az S.zones.length cz) S.zones.length (zoneXs S.zones vs) rfl KK.out.1.getZ ⟨BR, 0, none⟩ 1 [.string x1, .slice none 0 0] rfl rfl (fun j u hj => by rw [show (⟨BR, 0, none⟩ : Addr).add j = ⟨BR, j, none⟩ from by rw [Addr.add_lit]; simp]; exact (KK.out.2.2 j u hj).1) (by intro u hu; simp at hu; rcases hu with rfl | rfl <;> rfl) (by unfold maxLen; omega) (by omega) KK.out.1.BV ?_)
            intro v' w4 hown' hgrow hnew
            obtain ⟨sq', sn', sc', hv'⟩ := own_sliceP hown'
            subst hv'
            have HQ : Hid (PN U g B { S with zones := S.zones ++ [(x1, [])] } xr xl xa (.slice sq' sn' sc') (vs ++ [.slice none 0 0]) (w4.setCell ⟨g, 1, none⟩ (.slice sq' sn' sc'))) := KK.out.1.zoned x1 hgrow hnew hown'
            have HBX : Hid (Bx w4 g _) := KK.out.1.grownBox hgrow (fun c e => (own_ltP KK.out.1.getZ e).1)
            have HLW : Below U.heap.size U w4 := KK.out.1.grownLow hgrow (fun c e => (own_ltP KK.out.1.getZ e).1)
            refine hK.out _ _ HLW (fun hHeld => ?_)
            clear hK K hown' hgrow hnew KK HLW
            refine wpAnyH_take (i := 12) (v := ?_) (oi := { dst := some 51, op := _, type := _, pos := _, after := _, guard := none }) rfl (by kernel_rfl) (by kernel_rfl) (by kernel_rfl) (fun _ _ _ h => h) (Or.inl ⟨by kernel_rfl, ?_⟩) (by assumption) ?_
            case refine_2 => (intro w9 hSw; clear hSw; go_simp; try with_reducible rfl)
            simp only [Act.put, List.setIfInBounds_toArray, List.set_cons_zero, List.set_cons_succ]
            refine wpAnyH_take (i := 13) (v := ?_) (oi := { dst := some 52, op := _, type := _, pos := _, after := _, guard := none }) rfl (by kernel_rfl) (by kernel_rfl) (by kernel_rfl) (fun _ _ _ h => h) (Or.inl ⟨by kernel_rfl, ?_⟩) (by assumption) ?_
            case refine_2 => (intro w9 hSw; clear hSw; go_simp; try with_reducible rfl)
            simp only [Act.put, List.setIfInBounds_toArray, List.set_cons_zero, List.set_cons_succ]
            refine wpAnyH_take (i := 14) (v := ?_) (oi := { dst := some 53, op := _, type := _, pos := _, after := _, guard := none }) rfl (by kernel_rfl) (by kernel_rfl) (by kernel_rfl) (fun _ _ _ h => h) (Or.inl ⟨by kernel_rfl, ?_⟩) (by assumption) ?_
            case refine_2 => (intro w9 hSw; clear hSw; go_simp; try with_reducible rfl)
            simp only [Act.put, List.setIfInBounds_toArray, List.set_cons_zero, List.set_cons_succ]
            refine wpAnyH_ready (rs := [15]) (by kernel_rfl) (by simp) (AllReadyH.cons (o := { dst := none, op := _, type := _, pos := _, after := _, guard := none }) rfl (fun K hK => ?_) AllReadyH.nil)
            have c2 := HBX.out.c 1 rfl
            have z2 := HBX.out.f 1 rfl
            have h4' := HBX.out.1
            go_simp
            refine hK.out _ _ HQ.out.low (fun hHeld => ?_)
            refine gen_any (fun V' => PN U g B { S with zones := S.zones ++ [(x1, [])] } xr xl xa (.slice sq' sn' sc') (vs ++ [.slice none 0 0]) V') HQ.out ?_
            clear hHeld hK K HQ HBX c2 z2 h4'
            intro v4 kk
            have KK : Hid (PN U g B { S with zones := S.zones ++ [(x1, [])] } xr xl xa (.slice sq' sn' sc') (vs ++ [.slice none 0 0]) v4) := kk
            clear kk
            refine wpAnyH_done (by kernel_rfl) ?_ _
            have hA2 : _ = _ := hA.out
            go_wp2_with fail
            refine (radd_run U g B { S with zones := S.zones ++ [(x1, [])] } xr xl xa _ (vs ++ [.slice none 0 0]) _ KK.out n A k (c - 2) r S.zones (x1, []) rfl (by omega) (by show 0 ≤ 12; decide) (.inr (addF { S with zones := S.zones ++ [(x1, [])] } n r)) (if_neg (show ¬ ([] : List EraT).length = 12 by decide)).symm he9 hy2.out (fun W hb => ER.out W (KK.out.low.trans (hb.mono KK.out.low.size)))).mono ?_
            rintro e W6 ⟨rfl, vr', vl', ve', vz', vs', hP⟩
            have HPF : Hid _ := hP
            clear hP KK hA2
            go_wp2_with fail
            go_ret
            exact TkN.yes HR2.out rfl HPF.out
          ·
            go_simp
            refine hK.out _ _ (hHeld.below ((Below.refl _ _).alloc (Nat.le_refl _) _)) (fun hHeld => ?_)
            obtain ⟨BR, hBR⟩ : ∃ BR, BR = y0.heap.size := ⟨_, rfl⟩
            have KN : Hid (PN U g B S xr xl xa (.slice az S.zones.length cz) vs (y0.alloc (.cells #[.string x1, .slice none 0 0] 74)) ∧ Bx (y0.alloc (.cells #[.string x1, .slice none 0 0] 74)) BR [.string x1, .slice none 0 0]) := ⟨KK.out.below ((Below.refl _ _).alloc (Nat.le_refl _) _), by rw [hBR]; exact Bx.new y0 [.string x1, .slice none 0 0] _⟩
            refine gen_any (fun V' => PN U g B S xr xl xa (.slice az S.zones.length cz) vs V' ∧ Bx V' BR [.string x1, .slice none 0 0]) KN.out ?_
            rw [← hBR]
            clear hHeld hK K KN hBR KK
            intro v5 kk
            have KK : Hid (PN U g B S xr xl xa (.slice az S.zones.length cz) vs v5 ∧ Bx v5 BR [.string x1, .slice none 0 0]) := kk
            have hHeld : BW U v5 := kk.1.low
            clear kk
            refine wpAnyH_ready (rs := [5]) (by kernel_rfl) (by simp) (AllReadyH.cons (o := { dst := some 44, op := _, type := _, pos := _, after := _, guard := none }) rfl (fun K hK => ?_) AllReadyH.nil)
            have q0 := KK.out.1.box.c 1 rfl
            have q9 := KK.out.1.lt
            go_simp
            refine hK.out _ _ hHeld (fun hHeld => ?_)
            clear hK K q0 q9
            refine wpAnyH_ready (rs := [11]) (by kernel_rfl) (by simp) (AllReadyH.cons (o := { dst := some 50, op := _, type := _, pos := _, after := _, guard := none }) rfl (fun K hK => ?_) AllReadyH.nil)
            refine (if_pos (by kernel_rfl)).mpr (wp_append_newP _ _ 31 rfl B 74 i0 zoneZ 2 40 Tryz.underlying31 hi0 iz0 iz1 iz2 rfl (by decide) (.slice az S.zones.length cz) S.zones.length (zoneXs S.zones vs) rfl KK.out.1.getZ ⟨BR, 0, none⟩ 1 [.string x1, .slice none 0 0] rfl rfl (fun j u hj => by rw [show (⟨BR, 0, none⟩ : Addr).add j = ⟨BR, j, none⟩ from by rw [Addr.add_lit]; simp]; exact (KK.out.2.2 j u hj).1) (by intro u hu; simp at hu; rcases hu with rfl | rfl <;> rfl) (by unfold maxLen; omega) (by omega) KK.out.1.BV ?_)
            intro v' w4 hown' hgrow hnew
            obtain ⟨sq', sn', sc', hv'⟩ := own_sliceP hown'
            subst hv'
            have HQ : Hid (PN U g B { S with zones := S.zones ++ [(x1, [])] } xr xl xa (.slice sq' sn' sc') (vs ++ [.slice none 0 0]) (w4.setCell ⟨g, 1, none⟩ (.slice sq' sn' sc'))) := KK.out.1.zoned x1 hgrow hnew hown'
            have HBX : Hid (Bx w4 g _) := KK.out.1.grownBox hgrow (fun c e => (own_ltP KK.out.1.getZ e).1)
            have HLW : Below U.heap.size U w4 := KK.out.1.grownLow hgrow (fun c e => (own_ltP KK.out.1.getZ e).1)
            refine hK.out _ _ HLW (fun hHeld => ?_)
            clear hK K hown' hgrow hnew KK HLW
            refine wpAnyH_take (i := 12) (v := ?_) (oi := { dst := some 51, op := _, type := _, pos := _, after := _, guard := none }) rfl (by kernel_rfl) (by kernel_rfl) (by kernel_rfl) (fun _ _ _ h => h) (Or.inl ⟨by kernel_rfl, ?_⟩) (by assumption) ?_
            case refine_2 => (intro w9 hSw; clear hSw; go_simp; try with_reducible rfl)
            simp only [Act.put, List.setIfInBounds_toArray, List.set_cons_zero, List.set_cons_succ]
            refine wpAnyH_take (i := 13) (v := ?_) (oi := { dst := some 52, op := _, type := _, pos := _, after := _, guard := none }) rfl (by kernel_rfl) (by kernel_rfl) (by kernel_rfl) (fun _ _ _ h => h) (Or.inl ⟨by kernel_rfl, ?_⟩) (by assumption) ?_
            case refine_2 => (intro w9 hSw; clear hSw; go_simp; try with_reducible rfl)
            simp only [Act.put, List.setIfInBounds_toArray, List.set_cons_zero, List.set_cons_succ]
            refine wpAnyH_take (i := 14) (v := ?_) (oi := { dst := some 53, op := _, type := _, pos := _, after := _, guard := none }) rfl (by kernel_rfl) (by kernel_rfl) (by kernel_rfl) (fun _ _ _ h => h) (Or.inl ⟨by kernel_rfl, ?_⟩) (by assumption) ?_
            case refine_2 => (intro w9 hSw; clear hSw; go_simp; try with_reducible rfl)
            simp only [Act.put, List.setIfInBounds_toArray, List.set_cons_zero, List.set_cons_succ]
            refine wpAnyH_ready (rs := [15]) (by kernel_rfl) (by simp) (AllReadyH.cons (o := { dst := none, op := _, type := _, pos := _, after := _, guard := none }) rfl (fun K hK => ?_) AllReadyH.nil)
            have c2 := HBX.out.c 1 rfl
            have z2 := HBX.out.f 1 rfl
            have h4' := HBX.out.1
            go_simp
            refine hK.out _ _ HQ.out.low (fun hHeld => ?_)
            refine gen_any (fun V' => PN U g B { S with zones := S.zones ++ [(x1, [])] } xr xl xa (.slice sq' sn' sc') (vs ++ [.slice none 0 0]) V') HQ.out ?_
            clear hHeld hK K HQ HBX c2 z2 h4'
            intro v8 kk
            have KK : Hid (PN U g B { S with zones := S.zones ++ [(x1, [])] } xr xl xa (.slice sq' sn' sc') (vs ++ [.slice none 0 0]) v8) := kk
            clear kk
            refine wpAnyH_done (by kernel_rfl) ?_ _
            have hA2 : _ = _ := hA.out
            go_wp2_with fail
            refine (radd_run U g B { S with zones := S.zones ++ [(x1, [])] } xr xl xa _ (vs ++ [.slice none 0 0]) _ KK.out n A k (c - 2) r S.zones (x1, []) rfl (by omega) (by show 0 ≤ 12; decide) (.inr (addF { S with zones := S.zones ++ [(x1, [])] } n r)) (if_neg (show ¬ ([] : List EraT).length = 12 by decide)).symm he9 hy2.out (fun W hb => ER.out W (KK.out.low.trans (hb.mono KK.out.low.size)))).mono ?_
            rintro e W6 ⟨rfl, vr', vl', ve', vz', vs', hP⟩
            have HPF : Hid _ := hP
            clear hP KK hA2
            go_wp2_with fail
            go_ret
            exact TkN.yes HR2.out rfl HPF.out
        · have HR2 : Hid (res = .inl 23) := by
            have e := HR.out
            unfold znR at e
            rw [if_pos rfl, if_pos rfl, if_neg HZ.out, ht, if_pos rfl] at e
            exact e
          go_wp2_with fail
          go_ret
          exact TkN.no HR2.out rfl K4.out

end Go.Proofs.YtgnfkkcagbbhmaaGreatDoor
