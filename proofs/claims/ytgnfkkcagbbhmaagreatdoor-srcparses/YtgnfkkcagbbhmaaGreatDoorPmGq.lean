/- Contract: src's parser: add (an era more of the last zone). -/
import Derived.Test.YtgnfkkcagbbhmaaGreatDoorPmEq
namespace Go.Proofs.YtgnfkkcagbbhmaaGreatDoor
open Go.RowKit
open Sr (gen_any gen_list)
set_option linter.unusedVariables false

def eraZ : Value := .agg #[.int .i64 0, .string ByteArray.empty, .int .i64 0, .string ByteArray.empty, .int .i64 0, .int .i64 0, .int .i64 0, .int .i64 0, .int .i64 0, .int .i64 0, .int .u8 0]
theorem infoEraP : (Tryz.prog.info? 94).map (fun i => (i.zero, i.size, i.bytes)) = some (some eraZ, 11, 104) := by kernel_rfl
def elnZ : Value := .agg #[.int .i64 0, .string ByteArray.empty]
theorem infoElnP : (Tryz.prog.info? 118).map (fun i => (i.zero, i.size, i.bytes)) = some (some elnZ, 2, 24) := by kernel_rfl
theorem era_oneP (r : EraT) : ∀ u ∈ r.cs, u.oneCell' = true := by
  simp only [EraT.cs, List.forall_mem_cons]
  exact ⟨rfl, rfl, rfl, rfl, rfl, rfl, rfl, rfl, rfl, rfl, rfl, fun _ h => nomatch h⟩

set_option maxRecDepth 100000 in
set_option maxHeartbeats 1000000 in
theorem padd_any (w : World) (g m B : Nat) (S : PSt) (vr vl ve vz : Value) (vs : List Value) (V : World) (h : PM w g m B S vr vl ve vz vs V) (n : Int) (r : EraT) (l : List ZnT') (z : ZnT') (hS : S.zones = l ++ [z]) (hl9 : l.length ≤ 100000) (hz9 : z.2.length ≤ 100000) (he9 : S.eras.length ≤ 100000) :
    Calls Tryz.prog 78 #[.pointer (some ⟨g, 0, none⟩), .int .i64 n, .agg #[.int .i64 r.off, .string r.rl, .int .i64 r.sv, .string r.fm, .int .i64 r.u.y, .int .i64 r.u.mo, .int .i64 r.u.oa, .int .i64 r.u.ob, .int .i64 r.u.oc, .int .i64 r.u.ta, .int .u8 r.u.tz]] V fun e W' => e = .returned (.tuple #[]) ∧ ∃ ve' vs', PM w g m B (addF S n r) vr vl ve' vz vs' W' := by
  obtain ⟨az, cz, hvz, hz1, hz2, hz3⟩ := own_rowP (h.fam.get 3 rfl)
  simp only at hvz hz1 hz3
  have hLn : S.zones.length = l.length + 1 := by rw [hS]; simp
  rw [hLn] at hvz hz1 hz3
  obtain ⟨zb, hzb, hzB⟩ := hz3 (by omega)
  subst hzb hvz
  clear hz3
  have hlen := h.len
  obtain ⟨vq, v, hvs⟩ : ∃ vq v, vs = vq ++ [v] := by
    rcases List.eq_nil_or_concat vs with h0 | ⟨a, b, h0⟩
    · rw [h0, hLn] at hlen; simp at hlen
    · exact ⟨a, b, by rw [h0]; simp⟩
  have hvq : vq.length = l.length := by rw [hvs, hLn] at hlen; simpa using hlen
  have hze : S.zones[l.length]? = some z := by rw [hS]; simp
  have hve : vs[l.length]? = some v := by rw [hvs, ← hvq]; simp
  obtain ⟨s1, s2, s3, hv⟩ := own_sliceP (h.eraAt hze hve)
  subst hv
  obtain ⟨u0, hu0, hu1, hu2⟩ := zoneXs_at _ _ _ _ hlen hze
  rw [hve] at hu2
  have hu2 := Option.some.inj hu2
  subst hu2
  have hwz : IntKind.i64.wrap (l.length : Int) = (l.length : Int) := by rw [IntKind.wrap_i64]; omega
  have hwz2 : IntKind.i64.wrap ((l.length : Int) + 1 - 1) = (l.length : Int) := by rw [IntKind.wrap_i64]; omega
  have hL0 : (0 : Int) ≤ (l.length : Int) := by omega
  have hL1 : (l.length : Int) < (l.length : Int) + 1 := by omega
  unfold maxLen at hz2
  have hL2 : (l.length : Int) + 1 ≤ 9223372036854775807 := by omega
  obtain ⟨S1, hS1⟩ : ∃ S1, { S with zones := addE S.zones r } = S1 := ⟨_, rfl⟩
  obtain ⟨S2, hS2⟩ : ∃ S2, { S with zones := addE S.zones r, eras := S.eras ++ [(n, r.rl)] } = S2 := ⟨_, rfl⟩
  obtain ⟨i0, hi0, iz0, iz1, iz2⟩ := info_partsP infoEraP
  obtain ⟨i1, hi1, jz0, jz1, jz2⟩ := info_partsP infoElnP
  obtain ⟨eb, heb⟩ : ∃ eb, eb = V.heap.size := ⟨_, rfl⟩
  have hzV : zb < V.heap.size := (own_ltP (h.fam.get 3 rfl) rfl).2
  have E0 : Hid (PM w g m B S vr vl ve (.slice (some ⟨zb, 0, none⟩) (l.length + 1) cz) vs (V.alloc (.cells #[.int .i64 r.off, .string r.rl, .int .i64 r.sv, .string r.fm, .int .i64 r.u.y, .int .i64 r.u.mo, .int .i64 r.u.oa, .int .i64 r.u.ob, .int .i64 r.u.oc, .int .i64 r.u.ta, .int .u8 r.u.tz] 94)) ∧ Bx (V.alloc (.cells #[.int .i64 r.off, .string r.rl, .int .i64 r.sv, .string r.fm, .int .i64 r.u.y, .int .i64 r.u.mo, .int .i64 r.u.oa, .int .i64 r.u.ob, .int .i64 r.u.oc, .int .i64 r.u.ta, .int .u8 r.u.tz] 94)) eb r.cs) := ⟨h.below ((Below.refl _ _).alloc (Nat.le_refl _) _), by rw [heb]; exact Bx.new V r.cs _⟩
  go_enter Tryz.func78, Tryz.ntmps78
  go_upto_region 1 with fail
  refine gen_code (fun W => (PM w g m B S vr vl ve (.slice (some ⟨zb, 0, none⟩) (l.length + 1) cz) vs W ∧ Bx W eb r.cs)) E0.out ?_
  clear E0
  intro w1 hE
  have KK : Hid (PM w g m B S vr vl ve (.slice (some ⟨zb, 0, none⟩) (l.length + 1) cz) vs w1 ∧ Bx w1 eb r.cs) := hE
  clear hE
  rw [← heb]
  have hVe : V.heap.size ≤ eb := by omega
  clear heb
  go_wp2_with fail
  refine wp_region_held_drew (S := fun W => (PM w g m B S vr vl ve (.slice (some ⟨zb, 0, none⟩) (l.length + 1) cz) vs W ∧ Bx W eb r.cs)) (by kernel_rfl) ⟨KK.out.1.drew, KK.out.2⟩ (fun hHeld => ?_)
  refine gen_any (fun V' => (PM w g m B S vr vl ve (.slice (some ⟨zb, 0, none⟩) (l.length + 1) cz) vs V' ∧ Bx V' eb r.cs)) hHeld ?_
  clear hHeld KK
  intro y9 kk
  have KK : Hid (PM w g m B S vr vl ve (.slice (some ⟨zb, 0, none⟩) (l.length + 1) cz) vs y9 ∧ Bx y9 eb r.cs) := kk
  clear kk
  have hHeld := KK.out
  refine wpAnyH_take (i := 0) (v := ?_) (oi := { dst := some 7, op := _, type := _, pos := _, after := _, guard := none }) rfl (by kernel_rfl) (by kernel_rfl) (by kernel_rfl) (fun _ _ _ h => h) (Or.inl ⟨by kernel_rfl, ?_⟩) (by assumption) ?_
  case refine_2 => (intro w9 hSw; clear hSw; go_simp; try with_reducible rfl)
  simp only [Act.put, List.setIfInBounds_toArray, List.set_cons_zero, List.set_cons_succ]
  refine wpAnyH_take (i := 1) (v := ?_) (oi := { dst := some 8, op := _, type := _, pos := _, after := _, guard := none }) rfl (by kernel_rfl) (by kernel_rfl) (by kernel_rfl) (fun _ _ _ h => h) (Or.inl ⟨by kernel_rfl, ?_⟩) (by assumption) ?_
  case refine_2 => (intro w9 hSw; clear hSw; go_simp; try with_reducible rfl)
  simp only [Act.put, List.setIfInBounds_toArray, List.set_cons_zero, List.set_cons_succ]
  refine wpAnyH_take (i := 2) (v := ?_) (oi := { dst := some 9, op := _, type := _, pos := _, after := _, guard := none }) rfl (by kernel_rfl) (by kernel_rfl) (by kernel_rfl) (fun _ _ _ h => h) (Or.inl ⟨by kernel_rfl, ?_⟩) (by assumption) ?_
  case refine_2 => (intro w9 hSw; clear hSw; go_simp; try with_reducible rfl)
  simp only [Act.put, List.setIfInBounds_toArray, List.set_cons_zero, List.set_cons_succ]
  refine wpAnyH_take (i := 3) (v := ?_) (oi := { dst := some 10, op := _, type := _, pos := _, after := _, guard := none }) rfl (by kernel_rfl) (by kernel_rfl) (by kernel_rfl) (fun _ _ _ h => h) (Or.inl ⟨by kernel_rfl, ?_⟩) (by assumption) ?_
  case refine_2 => (intro w9 hSw; clear hSw; go_simp; try with_reducible rfl)
  simp only [Act.put, List.setIfInBounds_toArray, List.set_cons_zero, List.set_cons_succ]
  refine wpAnyH_take (i := 4) (v := ?_) (oi := { dst := some 11, op := _, type := _, pos := _, after := _, guard := none }) rfl (by kernel_rfl) (by kernel_rfl) (by kernel_rfl) (fun _ _ _ h => h) (Or.inl ⟨by kernel_rfl, ?_⟩) (by assumption) ?_
  case refine_2 => (intro w9 hSw; have q0 := hSw.1.box.c 1 rfl; clear hSw; go_simp; try with_reducible rfl)
  simp only [Act.put, List.setIfInBounds_toArray, List.set_cons_zero, List.set_cons_succ]
  refine wpAnyH_take (i := 5) (v := ?_) (oi := { dst := some 12, op := _, type := _, pos := _, after := _, guard := none }) rfl (by kernel_rfl) (by kernel_rfl) (by kernel_rfl) (fun _ _ _ h => h) (Or.inl ⟨by kernel_rfl, ?_⟩) (by assumption) ?_
  case refine_2 => (intro w9 hSw; clear hSw; go_simp; try with_reducible rfl)
  simp only [Act.put, List.setIfInBounds_toArray, List.set_cons_zero, List.set_cons_succ]
  refine wpAnyH_take (i := 6) (v := ?_) (oi := { dst := some 13, op := _, type := _, pos := _, after := _, guard := none }) rfl (by kernel_rfl) (by kernel_rfl) (by kernel_rfl) (fun _ _ _ h => h) (Or.inl ⟨by kernel_rfl, ?_⟩) (by assumption) ?_
  case refine_2 => (intro w9 hSw; clear hSw; go_simp; try with_reducible rfl)
  simp only [Act.put, List.setIfInBounds_toArray, List.set_cons_zero, List.set_cons_succ]
  refine wpAnyH_take (i := 7) (v := ?_) (oi := { dst := some 14, op := _, type := _, pos := _, after := _, guard := none }) rfl (by kernel_rfl) (by kernel_rfl) (by kernel_rfl) (fun _ _ _ h => h) (Or.inl ⟨by kernel_rfl, ?_⟩) (by assumption) ?_
  case refine_2 => (intro w9 hSw; clear hSw; go_simp; try with_reducible rfl)
  simp only [Act.put, List.setIfInBounds_toArray, List.set_cons_zero, List.set_cons_succ]
  refine wpAnyH_take (i := 8) (v := ?_) (oi := { dst := some 15, op := _, type := _, pos := _, after := _, guard := none }) rfl (by kernel_rfl) (by kernel_rfl) (by kernel_rfl) (fun _ _ _ h => h) (Or.inl ⟨by kernel_rfl, ?_⟩) (by assumption) ?_
  case refine_2 => (intro w9 hSw; clear hSw; go_simp; try with_reducible rfl)
  simp only [Act.put, List.setIfInBounds_toArray, List.set_cons_zero, List.set_cons_succ]
  refine wpAnyH_take (i := 9) (v := ?_) (oi := { dst := some 16, op := _, type := _, pos := _, after := _, guard := none }) rfl (by kernel_rfl) (by kernel_rfl) (by kernel_rfl) (fun _ _ _ h => h) (Or.inl ⟨by kernel_rfl, ?_⟩) (by assumption) ?_
  case refine_2 => (intro w9 hSw; have q0 := hSw.1.box.c 1 rfl; clear hSw; go_simp; try with_reducible rfl)
  simp only [Act.put, List.setIfInBounds_toArray, List.set_cons_zero, List.set_cons_succ]
  refine wpAnyH_take (i := 10) (v := ?_) (oi := { dst := some 17, op := _, type := _, pos := _, after := _, guard := none }) rfl (by kernel_rfl) (by kernel_rfl) (by kernel_rfl) (fun _ _ _ h => h) (Or.inl ⟨by kernel_rfl, ?_⟩) (by assumption) ?_
  case refine_2 => (intro w9 hSw; clear hSw; go_simp; try with_reducible rfl)
  simp only [Act.put, List.setIfInBounds_toArray, List.set_cons_zero, List.set_cons_succ]
  refine wpAnyH_take (i := 11) (v := ?_) (oi := { dst := some 18, op := _, type := _, pos := _, after := _, guard := none }) rfl (by kernel_rfl) (by kernel_rfl) (by kernel_rfl) (fun _ _ _ h => h) (Or.inl ⟨by kernel_rfl, ?_⟩) (by assumption) ?_
  case refine_2 => (intro w9 hSw; clear hSw; go_simp; try with_reducible rfl)
  simp only [Act.put, List.setIfInBounds_toArray, List.set_cons_zero, List.set_cons_succ]
  refine wpAnyH_take (i := 12) (v := ?_) (oi := { dst := some 19, op := _, type := _, pos := _, after := _, guard := none }) rfl (by kernel_rfl) (by kernel_rfl) (by kernel_rfl) (fun _ _ _ h => h) (Or.inl ⟨by kernel_rfl, ?_⟩) (by assumption) ?_
  case refine_2 => (intro w9 hSw; clear hSw; go_simp; try with_reducible rfl)
  simp only [Act.put, List.setIfInBounds_toArray, List.set_cons_zero, List.set_cons_succ]
  refine wpAnyH_take (i := 13) (v := ?_) (oi := { dst := some 6, op := _, type := _, pos := _, after := _, guard := none }) rfl (by kernel_rfl) (by kernel_rfl) (by kernel_rfl) (fun _ _ _ h => h) (Or.inl ⟨by kernel_rfl, ?_⟩) (by assumption) ?_
  case refine_2 => (intro w9 hSw; clear hSw; go_simp; try with_reducible rfl)
  simp only [Act.put, List.setIfInBounds_toArray, List.set_cons_zero, List.set_cons_succ]
  refine wpAnyH_done (by kernel_rfl) ?_ _
  have KK : Hid _ := hHeld
  clear hHeld
  go_wp2_with fail
  refine wp_region_held_drew (S := fun W => Bx W eb r.cs) (by kernel_rfl) KK.out.2 (fun hHeld => ?_)
  refine gen_any (fun V' => (PM w g m B S vr vl ve (.slice (some ⟨zb, 0, none⟩) (l.length + 1) cz) vs V' ∧ Bx V' eb r.cs)) ⟨KK.out.1.drew, KK.out.2⟩ ?_
  clear hHeld KK
  intro y0 kk
  have KK : Hid (PM w g m B S vr vl ve (.slice (some ⟨zb, 0, none⟩) (l.length + 1) cz) vs y0 ∧ Bx y0 eb r.cs) := kk
  clear kk
  have hHeld : Bx y0 eb r.cs := KK.out.2
  refine wpAnyH_take (i := 0) (v := ?_) (oi := { dst := some 20, op := _, type := _, pos := _, after := _, guard := none }) rfl (by kernel_rfl) (by kernel_rfl) (by kernel_rfl) (fun _ _ _ h => h) (Or.inl ⟨by kernel_rfl, ?_⟩) (by assumption) ?_
  case refine_2 => (intro w9 hSw; clear hSw; go_simp; try with_reducible rfl)
  simp only [Act.put, List.setIfInBounds_toArray, List.set_cons_zero, List.set_cons_succ]
  refine wpAnyH_take (i := 1) (v := ?_) (oi := { dst := some 21, op := _, type := _, pos := _, after := _, guard := none }) rfl (by kernel_rfl) (by kernel_rfl) (by kernel_rfl) (fun _ _ _ h => h) (Or.inl ⟨by kernel_rfl, ?_⟩) (by assumption) ?_
  case refine_2 => (intro w9 hSw; clear hSw; go_simp; try with_reducible rfl)
  simp only [Act.put, List.setIfInBounds_toArray, List.set_cons_zero, List.set_cons_succ]
  refine wpAnyH_take (i := 2) (v := ?_) (oi := { dst := some 22, op := _, type := _, pos := _, after := _, guard := none }) rfl (by kernel_rfl) (by kernel_rfl) (by kernel_rfl) (fun _ _ _ h => h) (Or.inl ⟨by kernel_rfl, ?_⟩) (by assumption) ?_
  case refine_2 => (intro w9 hSw; clear hSw; go_simp; try with_reducible rfl)
  simp only [Act.put, List.setIfInBounds_toArray, List.set_cons_zero, List.set_cons_succ]
  refine wpAnyH_take (i := 3) (v := ?_) (oi := { dst := some 23, op := _, type := _, pos := _, after := _, guard := none }) rfl (by kernel_rfl) (by kernel_rfl) (by kernel_rfl) (fun _ _ _ h => h) (Or.inl ⟨by kernel_rfl, ?_⟩) (by assumption) ?_
  case refine_2 => (intro w9 hSw; clear hSw; go_simp; try with_reducible rfl)
  simp only [Act.put, List.setIfInBounds_toArray, List.set_cons_zero, List.set_cons_succ]
  refine wpAnyH_take (i := 5) (v := ?_) (oi := { dst := some 25, op := _, type := _, pos := _, after := _, guard := none }) rfl (by kernel_rfl) (by kernel_rfl) (by kernel_rfl) (fun _ _ _ h => h) (Or.inl ⟨by kernel_rfl, ?_⟩) (by assumption) ?_
  case refine_2 => (intro w9 hSw; have q0 := hSw.c 0 rfl; have q1 := hSw.c 1 rfl; have q2 := hSw.c 2 rfl; have q3 := hSw.c 3 rfl; have q4 := hSw.c 4 rfl; have q5 := hSw.c 5 rfl; have q6 := hSw.c 6 rfl; have q7 := hSw.c 7 rfl; have q8 := hSw.c 8 rfl; have q9 := hSw.c 9 rfl; have q10 := hSw.c 10 rfl; clear hSw; go_simp; try with_reducible rfl)
  simp only [Act.put, List.setIfInBounds_toArray, List.set_cons_zero, List.set_cons_succ]
  refine wpAnyH_ready (rs := [4, 6]) (by kernel_rfl) (by simp) (AllReadyH.cons (o := { dst := some 24, op := _, type := _, pos := _, after := _, guard := none }) rfl (fun K hK => ?_) (AllReadyH.cons (o := { dst := some 26, op := _, type := _, pos := _, after := _, guard := none }) rfl (fun K hK => ?_) AllReadyH.nil))
  ·
    have q0 := KK.out.1.fam.cell (g := zb) (cap := cz) 3 rfl (by simp only [hLn]) hu1
    have q1 := World.block_lt_of_cell? _ _ q0
    go_simp
    refine hK.out _ _ hHeld (fun hHeld => ?_)
    clear hK K q0 q1
    refine wpAnyH_ready (rs := [6]) (by kernel_rfl) (by simp) (AllReadyH.cons (o := { dst := some 26, op := _, type := _, pos := _, after := _, guard := none }) rfl (fun K hK => ?_) AllReadyH.nil)
    go_simp
    refine hK.out _ _ (hHeld.alloc _) (fun hHeld => ?_)
    obtain ⟨BR, hBR⟩ : ∃ BR, BR = y0.heap.size := ⟨_, rfl⟩
    have KN : Hid (PM w g m B S vr vl ve (.slice (some ⟨zb, 0, none⟩) (l.length + 1) cz) vs (y0.alloc (.cells #[.int .i64 r.off, .string r.rl, .int .i64 r.sv, .string r.fm, .int .i64 r.u.y, .int .i64 r.u.mo, .int .i64 r.u.oa, .int .i64 r.u.ob, .int .i64 r.u.oc, .int .i64 r.u.ta, .int .u8 r.u.tz] 94)) ∧ Bx (y0.alloc (.cells #[.int .i64 r.off, .string r.rl, .int .i64 r.sv, .string r.fm, .int .i64 r.u.y, .int .i64 r.u.mo, .int .i64 r.u.oa, .int .i64 r.u.ob, .int .i64 r.u.oc, .int .i64 r.u.ta, .int .u8 r.u.tz] 94)) BR r.cs ∧ Bx (y0.alloc (.cells #[.int .i64 r.off, .string r.rl, .int .i64 r.sv, .string r.fm, .int .i64 r.u.y, .int .i64 r.u.mo, .int .i64 r.u.oa, .int .i64 r.u.ob, .int .i64 r.u.oc, .int .i64 r.u.ta, .int .u8 r.u.tz] 94)) eb r.cs) := ⟨KK.out.1.below ((Below.refl _ _).alloc (Nat.le_refl _) _), by rw [hBR]; exact Bx.new y0 r.cs _, KK.out.2.alloc _⟩
    refine gen_any (fun V' => (PM w g m B S vr vl ve (.slice (some ⟨zb, 0, none⟩) (l.length + 1) cz) vs V' ∧ Bx V' BR r.cs ∧ Bx V' eb r.cs)) KN.out ?_
    rw [← hBR]
    clear hHeld hK K KN hBR KK
    intro v2 kk
    have KK : Hid (PM w g m B S vr vl ve (.slice (some ⟨zb, 0, none⟩) (l.length + 1) cz) vs v2 ∧ Bx v2 BR r.cs) := ⟨kk.1, kk.2.1⟩
    have hHeld : Bx v2 eb r.cs := kk.2.2
    clear kk
    refine wpAnyH_ready (rs := [7]) (by kernel_rfl) (by simp) (AllReadyH.cons (o := { dst := some 27, op := _, type := _, pos := _, after := _, guard := none }) rfl (fun K hK => ?_) AllReadyH.nil)
    have HOw : Hid (v2.ownsRow B 94 11 (.slice s1 s2 s3) z.2.length (eraXs z.2)) := KK.out.1.eraAt hze hve
    refine (if_pos (by kernel_rfl)).mpr (wp_append_newP _ _ 88 rfl B 94 i0 eraZ 11 104 Tryz.underlying88 hi0 iz0 iz1 iz2 rfl (by decide) (.slice s1 s2 s3) z.2.length (eraXs z.2) rfl HOw.out ⟨BR, 0, none⟩ 1 r.cs rfl rfl (fun j u hj => by rw [show (⟨BR, 0, none⟩ : Addr).add j = ⟨BR, j, none⟩ from by rw [Addr.add_lit]; simp]; exact (KK.out.2.2 j u hj).1) (era_oneP r) (by unfold maxLen; omega) (by omega) KK.out.1.BV ?_)
    intro v' w4 hown' hgrow hnew
    obtain ⟨sq', sn', sc', hv'⟩ := own_sliceP hown'
    subst hv'
    have hq2 : Bx w4 eb r.cs := bx_growP hHeld hgrow (fun e => by have := (own_ltP (h.eraAt hze hve) e).2; omega)
    have HQ : Hid (PM w g m B S1 vr vl ve (.slice (some ⟨zb, 0, none⟩) (l.length + 1) cz) (vq ++ [(.slice sq' sn' sc')]) (w4.setCell ⟨zb, l.length * 2 + 1, none⟩ (.slice sq' sn' sc')) ∧ Bx (w4.setCell ⟨zb, l.length * 2 + 1, none⟩ (.slice sq' sn' sc')) eb r.cs) := ⟨by rw [← hS1]; exact KK.out.1.erad hS hvs r hgrow hnew hown' (by rw [hLn]), hq2.set9 (by omega) _⟩
    have HZ : Hid (w4.ownsRow B 90 2 (.slice (some ⟨zb, 0, none⟩) (l.length + 1) cz) (l.length + 1) (zoneXs S.zones vs)) := by have q := KK.out.1.fam.get 3 rfl; have q2 := q.kept hgrow (.inr (fun e => KK.out.1.fam.2 3 (4 + l.length) _ _ rfl (by unfold rowsP; rw [List.getElem?_append_right (by simp)]; simp only [List.length_cons, List.length_nil]; rw [show 4 + l.length - (0 + 1 + 1 + 1 + 1) = l.length by omega]; exact eraRows_at _ _ _ _ _ hze hve) (by omega) zb rfl e.symm)); simp only [hLn] at q2; exact q2
    refine hK.out _ _ hq2 (fun hHeld => ?_)
    clear hK K hown' hgrow hnew HOw KK hq2
    refine wpAnyH_take (i := 8) (v := ?_) (oi := { dst := some 28, op := _, type := _, pos := _, after := _, guard := none }) rfl (by kernel_rfl) (by kernel_rfl) (by kernel_rfl) (fun _ _ _ h => h) (Or.inl ⟨by kernel_rfl, ?_⟩) (by assumption) ?_
    case refine_2 => (intro w9 hSw; clear hSw; go_simp; try with_reducible rfl)
    simp only [Act.put, List.setIfInBounds_toArray, List.set_cons_zero, List.set_cons_succ]
    refine wpAnyH_take (i := 9) (v := ?_) (oi := { dst := some 29, op := _, type := _, pos := _, after := _, guard := none }) rfl (by kernel_rfl) (by kernel_rfl) (by kernel_rfl) (fun _ _ _ h => h) (Or.inl ⟨by kernel_rfl, ?_⟩) (by assumption) ?_
    case refine_2 => (intro w9 hSw; clear hSw; go_simp; try with_reducible rfl)
    simp only [Act.put, List.setIfInBounds_toArray, List.set_cons_zero, List.set_cons_succ]
    refine wpAnyH_ready (rs := [10]) (by kernel_rfl) (by simp) (AllReadyH.cons (o := { dst := none, op := _, type := _, pos := _, after := _, guard := none }) rfl (fun K hK => ?_) AllReadyH.nil)
    have q0 : w4.cell? ⟨zb, l.length * 2 + 1, none⟩ = some (.slice s1 s2 s3) := (HZ.out.cellAt _ (by omega)).trans hu1
    have q1 := World.block_lt_of_cell? _ _ q0
    have q2 := HZ.out.frozenAt (l.length * 2 + 1)
    go_simp
    refine hK.out _ _ HQ.out.2 (fun hHeld => ?_)
    refine gen_any (fun V' => (PM w g m B S1 vr vl ve (.slice (some ⟨zb, 0, none⟩) (l.length + 1) cz) (vq ++ [(.slice sq' sn' sc')]) V' ∧ Bx V' eb r.cs)) HQ.out ?_
    clear hHeld hK K HQ HZ q0 q1 q2
    intro v4 kk
    have KK : Hid (PM w g m B S1 vr vl ve (.slice (some ⟨zb, 0, none⟩) (l.length + 1) cz) (vq ++ [(.slice sq' sn' sc')]) v4 ∧ Bx v4 eb r.cs) := kk
    clear kk
    refine wpAnyH_done (by kernel_rfl) ?_ _
    clear hHeld
    go_wp2_with fail
    refine wp_region_held_drew (S := fun W => Bx W eb r.cs) (by kernel_rfl) KK.out.2 (fun hHeld => ?_)
    refine gen_any (fun V' => (PM w g m B S1 vr vl ve (.slice (some ⟨zb, 0, none⟩) (l.length + 1) cz) (vq ++ [(.slice sq' sn' sc')]) V' ∧ Bx V' eb r.cs)) ⟨KK.out.1.drew, KK.out.2⟩ ?_
    clear hHeld KK
    intro y1 kk
    have KK : Hid (PM w g m B S1 vr vl ve (.slice (some ⟨zb, 0, none⟩) (l.length + 1) cz) (vq ++ [(.slice sq' sn' sc')]) y1 ∧ Bx y1 eb r.cs) := kk
    clear kk
    have hHeld : Bx y1 eb r.cs := KK.out.2
    refine wpAnyH_take (i := 0) (v := ?_) (oi := { dst := some 30, op := _, type := _, pos := _, after := _, guard := none }) rfl (by kernel_rfl) (by kernel_rfl) (by kernel_rfl) (fun _ _ _ h => h) (Or.inl ⟨by kernel_rfl, ?_⟩) (by assumption) ?_
    case refine_2 => (intro w9 hSw; clear hSw; go_simp; try with_reducible rfl)
    simp only [Act.put, List.setIfInBounds_toArray, List.set_cons_zero, List.set_cons_succ]
    refine wpAnyH_take (i := 1) (v := ?_) (oi := { dst := some 31, op := _, type := _, pos := _, after := _, guard := none }) rfl (by kernel_rfl) (by kernel_rfl) (by kernel_rfl) (fun _ _ _ h => h) (Or.inl ⟨by kernel_rfl, ?_⟩) (by assumption) ?_
    case refine_2 => (intro w9 hSw; clear hSw; go_simp; try with_reducible rfl)
    simp only [Act.put, List.setIfInBounds_toArray, List.set_cons_zero, List.set_cons_succ]
    refine wpAnyH_take (i := 2) (v := ?_) (oi := { dst := some 32, op := _, type := _, pos := _, after := _, guard := none }) rfl (by kernel_rfl) (by kernel_rfl) (by kernel_rfl) (fun _ _ _ h => h) (Or.inl ⟨by kernel_rfl, ?_⟩) (by assumption) ?_
    case refine_2 => (intro w9 hSw; clear hSw; go_simp; try with_reducible rfl)
    simp only [Act.put, List.setIfInBounds_toArray, List.set_cons_zero, List.set_cons_succ]
    refine wpAnyH_take (i := 3) (v := ?_) (oi := { dst := some 33, op := _, type := _, pos := _, after := _, guard := none }) rfl (by kernel_rfl) (by kernel_rfl) (by kernel_rfl) (fun _ _ _ h => h) (Or.inl ⟨by kernel_rfl, ?_⟩) (by assumption) ?_
    case refine_2 => (intro w9 hSw; clear hSw; go_simp; try with_reducible rfl)
    simp only [Act.put, List.setIfInBounds_toArray, List.set_cons_zero, List.set_cons_succ]
    refine wpAnyH_take (i := 5) (v := ?_) (oi := { dst := some 35, op := _, type := _, pos := _, after := _, guard := none }) rfl (by kernel_rfl) (by kernel_rfl) (by kernel_rfl) (fun _ _ _ h => h) (Or.inl ⟨by kernel_rfl, ?_⟩) (by assumption) ?_
    case refine_2 => (intro w9 hSw; clear hSw; go_simp; try with_reducible rfl)
    simp only [Act.put, List.setIfInBounds_toArray, List.set_cons_zero, List.set_cons_succ]
    refine wpAnyH_take (i := 6) (v := ?_) (oi := { dst := some 36, op := _, type := _, pos := _, after := _, guard := none }) rfl (by kernel_rfl) (by kernel_rfl) (by kernel_rfl) (fun _ _ _ h => h) (Or.inl ⟨by kernel_rfl, ?_⟩) (by assumption) ?_
    case refine_2 => (intro w9 hSw; clear hSw; go_simp; try with_reducible rfl)
    simp only [Act.put, List.setIfInBounds_toArray, List.set_cons_zero, List.set_cons_succ]
    refine wpAnyH_take (i := 7) (v := ?_) (oi := { dst := some 37, op := _, type := _, pos := _, after := _, guard := none }) rfl (by kernel_rfl) (by kernel_rfl) (by kernel_rfl) (fun _ _ _ h => h) (Or.inl ⟨by kernel_rfl, ?_⟩) (by assumption) ?_
    case refine_2 => (intro w9 hSw; have q0 := hSw.c 1 rfl; clear hSw; go_simp; try with_reducible rfl)
    simp only [Act.put, List.setIfInBounds_toArray, List.set_cons_zero, List.set_cons_succ]
    refine wpAnyH_take (i := 8) (v := ?_) (oi := { dst := some 38, op := _, type := _, pos := _, after := _, guard := none }) rfl (by kernel_rfl) (by kernel_rfl) (by kernel_rfl) (fun _ _ _ h => h) (Or.inl ⟨by kernel_rfl, ?_⟩) (by assumption) ?_
    case refine_2 => (intro w9 hSw; clear hSw; go_simp; try with_reducible rfl)
    simp only [Act.put, List.setIfInBounds_toArray, List.set_cons_zero, List.set_cons_succ]
    refine wpAnyH_ready (rs := [4, 9]) (by kernel_rfl) (by simp) (AllReadyH.cons (o := { dst := some 34, op := _, type := _, pos := _, after := _, guard := none }) rfl (fun K hK => ?_) (AllReadyH.cons (o := { dst := some 39, op := _, type := _, pos := _, after := _, guard := none }) rfl (fun K hK => ?_) AllReadyH.nil))
    ·
      have q0 := KK.out.1.box.c 4 rfl
      go_simp
      refine hK.out _ _ hHeld (fun hHeld => ?_)
      clear hK K q0
      refine wpAnyH_ready (rs := [9]) (by kernel_rfl) (by simp) (AllReadyH.cons (o := { dst := some 39, op := _, type := _, pos := _, after := _, guard := none }) rfl (fun K hK => ?_) AllReadyH.nil)
      go_simp
      refine hK.out _ _ (hHeld.alloc _) (fun hHeld => ?_)
      obtain ⟨BL, hBL⟩ : ∃ BL, BL = y1.heap.size := ⟨_, rfl⟩
      have KN : Hid (PM w g m B S1 vr vl ve (.slice (some ⟨zb, 0, none⟩) (l.length + 1) cz) (vq ++ [(.slice sq' sn' sc')]) (y1.alloc (.cells #[.int .i64 n, .string r.rl] 118)) ∧ Bx (y1.alloc (.cells #[.int .i64 n, .string r.rl] 118)) BL [.int .i64 n, .string r.rl] ∧ Bx (y1.alloc (.cells #[.int .i64 n, .string r.rl] 118)) eb r.cs) := ⟨KK.out.1.below ((Below.refl _ _).alloc (Nat.le_refl _) _), by rw [hBL]; exact Bx.new y1 [.int .i64 n, .string r.rl] _, KK.out.2.alloc _⟩
      refine gen_any (fun V' => (PM w g m B S1 vr vl ve (.slice (some ⟨zb, 0, none⟩) (l.length + 1) cz) (vq ++ [(.slice sq' sn' sc')]) V' ∧ Bx V' BL [.int .i64 n, .string r.rl] ∧ Bx V' eb r.cs)) KN.out ?_
      rw [← hBL]
      clear hHeld hK K KN hBL KK
      intro v2 kk
      have KK : Hid (PM w g m B S1 vr vl ve (.slice (some ⟨zb, 0, none⟩) (l.length + 1) cz) (vq ++ [(.slice sq' sn' sc')]) v2 ∧ Bx v2 BL [.int .i64 n, .string r.rl]) := ⟨kk.1, kk.2.1⟩
      have hHeld : Bx v2 eb r.cs := kk.2.2
      clear kk
      refine wpAnyH_ready (rs := [10]) (by kernel_rfl) (by simp) (AllReadyH.cons (o := { dst := some 40, op := _, type := _, pos := _, after := _, guard := none }) rfl (fun K hK => ?_) AllReadyH.nil)
      have HOw : Hid (v2.ownsRow B 118 2 ve S.eras.length (lineXs S.eras)) := by have := KK.out.1.fam.get 2 rfl; rw [← hS1] at this; exact this
      refine (if_pos (by kernel_rfl)).mpr (wp_append_newP _ _ 49 rfl B 118 i1 elnZ 2 24 Tryz.underlying49 hi1 jz0 jz1 jz2 rfl (by decide) ve S.eras.length (lineXs S.eras) rfl HOw.out ⟨BL, 0, none⟩ 1 [.int .i64 n, .string r.rl] rfl rfl (fun j u hj => by rw [show (⟨BL, 0, none⟩ : Addr).add j = ⟨BL, j, none⟩ from by rw [Addr.add_lit]; simp]; exact (KK.out.2.2 j u hj).1) (by intro u hu; simp at hu; rcases hu with rfl | rfl <;> rfl) (by unfold maxLen; omega) (by omega) KK.out.1.BV ?_)
      intro v' w5 hown' hgrow hnew
      obtain ⟨sr', sm', sd', hv'⟩ := own_sliceP hown'
      subst hv'
      have hq2 : Bx w5 eb r.cs := bx_growP hHeld hgrow (fun e => by have := (own_ltP (h.fam.get 2 rfl) e).2; omega)
      have HQ : Hid (PM w g m B S2 vr vl (.slice sr' sm' sd') (.slice (some ⟨zb, 0, none⟩) (l.length + 1) cz) (vq ++ [(.slice sq' sn' sc')]) (w5.setCell ⟨g, 4, none⟩ (.slice sr' sm' sd')) ∧ Bx (w5.setCell ⟨g, 4, none⟩ (.slice sr' sm' sd')) eb r.cs) := by
        have q1 := KK.out.1.lined (n, r.rl) (by rw [← hS1] at *; exact hgrow) hnew (by rw [← hS1]; exact hown')
        rw [← hS1] at q1
        exact ⟨by rw [← hS2]; exact q1, hq2.set9 (by have := h.lt; omega) _⟩
      have HBX : Hid (Bx w5 g _) := KK.out.1.grownBox hgrow (fun c e => (own_ltP HOw.out e).1)
      refine hK.out _ _ hq2 (fun hHeld => ?_)
      clear hK K hown' hgrow hnew HOw KK hq2
      refine wpAnyH_take (i := 11) (v := ?_) (oi := { dst := some 41, op := _, type := _, pos := _, after := _, guard := none }) rfl (by kernel_rfl) (by kernel_rfl) (by kernel_rfl) (fun _ _ _ h => h) (Or.inl ⟨by kernel_rfl, ?_⟩) (by assumption) ?_
      case refine_2 => (intro w9 hSw; clear hSw; go_simp; try with_reducible rfl)
      simp only [Act.put, List.setIfInBounds_toArray, List.set_cons_zero, List.set_cons_succ]
      refine wpAnyH_take (i := 12) (v := ?_) (oi := { dst := some 42, op := _, type := _, pos := _, after := _, guard := none }) rfl (by kernel_rfl) (by kernel_rfl) (by kernel_rfl) (fun _ _ _ h => h) (Or.inl ⟨by kernel_rfl, ?_⟩) (by assumption) ?_
      case refine_2 => (intro w9 hSw; clear hSw; go_simp; try with_reducible rfl)
      simp only [Act.put, List.setIfInBounds_toArray, List.set_cons_zero, List.set_cons_succ]
      refine wpAnyH_ready (rs := [13]) (by kernel_rfl) (by simp) (AllReadyH.cons (o := { dst := none, op := _, type := _, pos := _, after := _, guard := none }) rfl (fun K hK => ?_) AllReadyH.nil)
      have c2 := HBX.out.c 4 rfl
      have z2 := HBX.out.f 4 rfl
      have h4 := HBX.out.1
      go_simp
      refine hK.out _ _ HQ.out.2 (fun hHeld => ?_)
      refine gen_any (fun V' => (PM w g m B S2 vr vl (.slice sr' sm' sd') (.slice (some ⟨zb, 0, none⟩) (l.length + 1) cz) (vq ++ [(.slice sq' sn' sc')]) V' ∧ Bx V' eb r.cs)) HQ.out ?_
      clear hHeld hK K HQ HBX c2 z2 h4
      intro v4 kk
      have KK : Hid (PM w g m B S2 vr vl (.slice sr' sm' sd') (.slice (some ⟨zb, 0, none⟩) (l.length + 1) cz) (vq ++ [(.slice sq' sn' sc')]) v4 ∧ Bx v4 eb r.cs) := kk
      clear kk
      refine wpAnyH_done (by kernel_rfl) ?_ _
      have q4 := KK.out.2.c 4 rfl
      have q5 := KK.out.1.box.c 5 rfl
      have q6 := KK.out.1.box.f 5 rfl
      have q7 := KK.out.1.lt
      have q8 := KK.out.2.1
      go_wp2_with fail
      refine bodyPost_end (v := .tuple #[]) (by simp [results, Tryz.results78, go_sem]) rfl ⟨rfl, ?_⟩
      have q := KK.out.1.opened (r.u.y != 0)
      rw [← hS2] at q
      exact ⟨_, _, q⟩
    ·
      go_simp
      refine hK.out _ _ (hHeld.alloc _) (fun hHeld => ?_)
      obtain ⟨BL, hBL⟩ : ∃ BL, BL = y1.heap.size := ⟨_, rfl⟩
      have KN : Hid (PM w g m B S1 vr vl ve (.slice (some ⟨zb, 0, none⟩) (l.length + 1) cz) (vq ++ [(.slice sq' sn' sc')]) (y1.alloc (.cells #[.int .i64 n, .string r.rl] 118)) ∧ Bx (y1.alloc (.cells #[.int .i64 n, .string r.rl] 118)) BL [.int .i64 n, .string r.rl] ∧ Bx (y1.alloc (.cells #[.int .i64 n, .string r.rl] 118)) eb r.cs) := ⟨KK.out.1.below ((Below.refl _ _).alloc (Nat.le_refl _) _), by rw [hBL]; exact Bx.new y1 [.int .i64 n, .string r.rl] _, KK.out.2.alloc _⟩
      refine gen_any (fun V' => (PM w g m B S1 vr vl ve (.slice (some ⟨zb, 0, none⟩) (l.length + 1) cz) (vq ++ [(.slice sq' sn' sc')]) V' ∧ Bx V' BL [.int .i64 n, .string r.rl] ∧ Bx V' eb r.cs)) KN.out ?_
      rw [← hBL]
      clear hHeld hK K KN hBL KK
      intro v5 kk
      have KK : Hid (PM w g m B S1 vr vl ve (.slice (some ⟨zb, 0, none⟩) (l.length + 1) cz) (vq ++ [(.slice sq' sn' sc')]) v5 ∧ Bx v5 BL [.int .i64 n, .string r.rl]) := ⟨kk.1, kk.2.1⟩
      have hHeld : Bx v5 eb r.cs := kk.2.2
      clear kk
      refine wpAnyH_ready (rs := [4]) (by kernel_rfl) (by simp) (AllReadyH.cons (o := { dst := some 34, op := _, type := _, pos := _, after := _, guard := none }) rfl (fun K hK => ?_) AllReadyH.nil)
      have q0 := KK.out.1.box.c 4 rfl
      go_simp
      refine hK.out _ _ hHeld (fun hHeld => ?_)
      clear hK K q0
      refine wpAnyH_ready (rs := [10]) (by kernel_rfl) (by simp) (AllReadyH.cons (o := { dst := some 40, op := _, type := _, pos := _, after := _, guard := none }) rfl (fun K hK => ?_) AllReadyH.nil)
      have HOw : Hid (v5.ownsRow B 118 2 ve S.eras.length (lineXs S.eras)) := by have := KK.out.1.fam.get 2 rfl; rw [← hS1] at this; exact this
      refine (if_pos (by kernel_rfl)).mpr (wp_append_newP _ _ 49 rfl B 118 i1 elnZ 2 24 Tryz.underlying49 hi1 jz0 jz1 jz2 rfl (by decide) ve S.eras.length (lineXs S.eras) rfl HOw.out ⟨BL, 0, none⟩ 1 [.int .i64 n, .string r.rl] rfl rfl (fun j u hj => by rw [show (⟨BL, 0, none⟩ : Addr).add j = ⟨BL, j, none⟩ from by rw [Addr.add_lit]; simp]; exact (KK.out.2.2 j u hj).1) (by intro u hu; simp at hu; rcases hu with rfl | rfl <;> rfl) (by unfold maxLen; omega) (by omega) KK.out.1.BV ?_)
      intro v' w5 hown' hgrow hnew
      obtain ⟨sr', sm', sd', hv'⟩ := own_sliceP hown'
      subst hv'
      have hq2 : Bx w5 eb r.cs := bx_growP hHeld hgrow (fun e => by have := (own_ltP (h.fam.get 2 rfl) e).2; omega)
      have HQ : Hid (PM w g m B S2 vr vl (.slice sr' sm' sd') (.slice (some ⟨zb, 0, none⟩) (l.length + 1) cz) (vq ++ [(.slice sq' sn' sc')]) (w5.setCell ⟨g, 4, none⟩ (.slice sr' sm' sd')) ∧ Bx (w5.setCell ⟨g, 4, none⟩ (.slice sr' sm' sd')) eb r.cs) := by
        have q1 := KK.out.1.lined (n, r.rl) (by rw [← hS1] at *; exact hgrow) hnew (by rw [← hS1]; exact hown')
        rw [← hS1] at q1
        exact ⟨by rw [← hS2]; exact q1, hq2.set9 (by have := h.lt; omega) _⟩
      have HBX : Hid (Bx w5 g _) := KK.out.1.grownBox hgrow (fun c e => (own_ltP HOw.out e).1)
      refine hK.out _ _ hq2 (fun hHeld => ?_)
      clear hK K hown' hgrow hnew HOw KK hq2
      refine wpAnyH_take (i := 11) (v := ?_) (oi := { dst := some 41, op := _, type := _, pos := _, after := _, guard := none }) rfl (by kernel_rfl) (by kernel_rfl) (by kernel_rfl) (fun _ _ _ h => h) (Or.inl ⟨by kernel_rfl, ?_⟩) (by assumption) ?_
      case refine_2 => (intro w9 hSw; clear hSw; go_simp; try with_reducible rfl)
      simp only [Act.put, List.setIfInBounds_toArray, List.set_cons_zero, List.set_cons_succ]
      refine wpAnyH_take (i := 12) (v := ?_) (oi := { dst := some 42, op := _, type := _, pos := _, after := _, guard := none }) rfl (by kernel_rfl) (by kernel_rfl) (by kernel_rfl) (fun _ _ _ h => h) (Or.inl ⟨by kernel_rfl, ?_⟩) (by assumption) ?_
      case refine_2 => (intro w9 hSw; clear hSw; go_simp; try with_reducible rfl)
      simp only [Act.put, List.setIfInBounds_toArray, List.set_cons_zero, List.set_cons_succ]
      refine wpAnyH_ready (rs := [13]) (by kernel_rfl) (by simp) (AllReadyH.cons (o := { dst := none, op := _, type := _, pos := _, after := _, guard := none }) rfl (fun K hK => ?_) AllReadyH.nil)
      have c2 := HBX.out.c 4 rfl
      have z2 := HBX.out.f 4 rfl
      have h4 := HBX.out.1
      go_simp
      refine hK.out _ _ HQ.out.2 (fun hHeld => ?_)
      refine gen_any (fun V' => (PM w g m B S2 vr vl (.slice sr' sm' sd') (.slice (some ⟨zb, 0, none⟩) (l.length + 1) cz) (vq ++ [(.slice sq' sn' sc')]) V' ∧ Bx V' eb r.cs)) HQ.out ?_
      clear hHeld hK K HQ HBX c2 z2 h4
      intro v8 kk
      have KK : Hid (PM w g m B S2 vr vl (.slice sr' sm' sd') (.slice (some ⟨zb, 0, none⟩) (l.length + 1) cz) (vq ++ [(.slice sq' sn' sc')]) v8 ∧ Bx v8 eb r.cs) := kk
      clear kk
      refine wpAnyH_done (by kernel_rfl) ?_ _
      have q4 := KK.out.2.c 4 rfl
      have q5 := KK.out.1.box.c 5 rfl
      have q6 := KK.out.1.box.f 5 rfl
      have q7 := KK.out.1.lt
      have q8 := KK.out.2.1
      go_wp2_with fail
      refine bodyPost_end (v := .tuple #[]) (by simp [results, Tryz.results78, go_sem]) rfl ⟨rfl, ?_⟩
      have q := KK.out.1.opened (r.u.y != 0)
      rw [← hS2] at q
      exact ⟨_, _, q⟩
  ·
    go_simp
    refine hK.out _ _ (hHeld.alloc _) (fun hHeld => ?_)
    obtain ⟨BR, hBR⟩ : ∃ BR, BR = y0.heap.size := ⟨_, rfl⟩
    have KN : Hid (PM w g m B S vr vl ve (.slice (some ⟨zb, 0, none⟩) (l.length + 1) cz) vs (y0.alloc (.cells #[.int .i64 r.off, .string r.rl, .int .i64 r.sv, .string r.fm, .int .i64 r.u.y, .int .i64 r.u.mo, .int .i64 r.u.oa, .int .i64 r.u.ob, .int .i64 r.u.oc, .int .i64 r.u.ta, .int .u8 r.u.tz] 94)) ∧ Bx (y0.alloc (.cells #[.int .i64 r.off, .string r.rl, .int .i64 r.sv, .string r.fm, .int .i64 r.u.y, .int .i64 r.u.mo, .int .i64 r.u.oa, .int .i64 r.u.ob, .int .i64 r.u.oc, .int .i64 r.u.ta, .int .u8 r.u.tz] 94)) BR r.cs ∧ Bx (y0.alloc (.cells #[.int .i64 r.off, .string r.rl, .int .i64 r.sv, .string r.fm, .int .i64 r.u.y, .int .i64 r.u.mo, .int .i64 r.u.oa, .int .i64 r.u.ob, .int .i64 r.u.oc, .int .i64 r.u.ta, .int .u8 r.u.tz] 94)) eb r.cs) := ⟨KK.out.1.below ((Below.refl _ _).alloc (Nat.le_refl _) _), by rw [hBR]; exact Bx.new y0 r.cs _, KK.out.2.alloc _⟩
    refine gen_any (fun V' => (PM w g m B S vr vl ve (.slice (some ⟨zb, 0, none⟩) (l.length + 1) cz) vs V' ∧ Bx V' BR r.cs ∧ Bx V' eb r.cs)) KN.out ?_
    rw [← hBR]
    clear hHeld hK K KN hBR KK
    intro v5 kk
    have KK : Hid (PM w g m B S vr vl ve (.slice (some ⟨zb, 0, none⟩) (l.length + 1) cz) vs v5 ∧ Bx v5 BR r.cs) := ⟨kk.1, kk.2.1⟩
    have hHeld : Bx v5 eb r.cs := kk.2.2
    clear kk
    refine wpAnyH_ready (rs := [4]) (by kernel_rfl) (by simp) (AllReadyH.cons (o := { dst := some 24, op := _, type := _, pos := _, after := _, guard := none }) rfl (fun K hK => ?_) AllReadyH.nil)
    have q0 := KK.out.1.fam.cell (g := zb) (cap := cz) 3 rfl (by simp only [hLn]) hu1
    have q1 := World.block_lt_of_cell? _ _ q0
    go_simp
    refine hK.out _ _ hHeld (fun hHeld => ?_)
    clear hK K q0 q1
    refine wpAnyH_ready (rs := [7]) (by kernel_rfl) (by simp) (AllReadyH.cons (o := { dst := some 27, op := _, type := _, pos := _, after := _, guard := none }) rfl (fun K hK => ?_) AllReadyH.nil)
    have HOw : Hid (v5.ownsRow B 94 11 (.slice s1 s2 s3) z.2.length (eraXs z.2)) := KK.out.1.eraAt hze hve
    refine (if_pos (by kernel_rfl)).mpr (wp_append_newP _ _ 88 rfl B 94 i0 eraZ 11 104 Tryz.underlying88 hi0 iz0 iz1 iz2 rfl (by decide) (.slice s1 s2 s3) z.2.length (eraXs z.2) rfl HOw.out ⟨BR, 0, none⟩ 1 r.cs rfl rfl (fun j u hj => by rw [show (⟨BR, 0, none⟩ : Addr).add j = ⟨BR, j, none⟩ from by rw [Addr.add_lit]; simp]; exact (KK.out.2.2 j u hj).1) (era_oneP r) (by unfold maxLen; omega) (by omega) KK.out.1.BV ?_)
    intro v' w4 hown' hgrow hnew
    obtain ⟨sq', sn', sc', hv'⟩ := own_sliceP hown'
    subst hv'
    have hq2 : Bx w4 eb r.cs := bx_growP hHeld hgrow (fun e => by have := (own_ltP (h.eraAt hze hve) e).2; omega)
    have HQ : Hid (PM w g m B S1 vr vl ve (.slice (some ⟨zb, 0, none⟩) (l.length + 1) cz) (vq ++ [(.slice sq' sn' sc')]) (w4.setCell ⟨zb, l.length * 2 + 1, none⟩ (.slice sq' sn' sc')) ∧ Bx (w4.setCell ⟨zb, l.length * 2 + 1, none⟩ (.slice sq' sn' sc')) eb r.cs) := ⟨by rw [← hS1]; exact KK.out.1.erad hS hvs r hgrow hnew hown' (by rw [hLn]), hq2.set9 (by omega) _⟩
    have HZ : Hid (w4.ownsRow B 90 2 (.slice (some ⟨zb, 0, none⟩) (l.length + 1) cz) (l.length + 1) (zoneXs S.zones vs)) := by have q := KK.out.1.fam.get 3 rfl; have q2 := q.kept hgrow (.inr (fun e => KK.out.1.fam.2 3 (4 + l.length) _ _ rfl (by unfold rowsP; rw [List.getElem?_append_right (by simp)]; simp only [List.length_cons, List.length_nil]; rw [show 4 + l.length - (0 + 1 + 1 + 1 + 1) = l.length by omega]; exact eraRows_at _ _ _ _ _ hze hve) (by omega) zb rfl e.symm)); simp only [hLn] at q2; exact q2
    refine hK.out _ _ hq2 (fun hHeld => ?_)
    clear hK K hown' hgrow hnew HOw KK hq2
    refine wpAnyH_take (i := 8) (v := ?_) (oi := { dst := some 28, op := _, type := _, pos := _, after := _, guard := none }) rfl (by kernel_rfl) (by kernel_rfl) (by kernel_rfl) (fun _ _ _ h => h) (Or.inl ⟨by kernel_rfl, ?_⟩) (by assumption) ?_
    case refine_2 => (intro w9 hSw; clear hSw; go_simp; try with_reducible rfl)
    simp only [Act.put, List.setIfInBounds_toArray, List.set_cons_zero, List.set_cons_succ]
    refine wpAnyH_take (i := 9) (v := ?_) (oi := { dst := some 29, op := _, type := _, pos := _, after := _, guard := none }) rfl (by kernel_rfl) (by kernel_rfl) (by kernel_rfl) (fun _ _ _ h => h) (Or.inl ⟨by kernel_rfl, ?_⟩) (by assumption) ?_
    case refine_2 => (intro w9 hSw; clear hSw; go_simp; try with_reducible rfl)
    simp only [Act.put, List.setIfInBounds_toArray, List.set_cons_zero, List.set_cons_succ]
    refine wpAnyH_ready (rs := [10]) (by kernel_rfl) (by simp) (AllReadyH.cons (o := { dst := none, op := _, type := _, pos := _, after := _, guard := none }) rfl (fun K hK => ?_) AllReadyH.nil)
    have q0 : w4.cell? ⟨zb, l.length * 2 + 1, none⟩ = some (.slice s1 s2 s3) := (HZ.out.cellAt _ (by omega)).trans hu1
    have q1 := World.block_lt_of_cell? _ _ q0
    have q2 := HZ.out.frozenAt (l.length * 2 + 1)
    go_simp
    refine hK.out _ _ HQ.out.2 (fun hHeld => ?_)
    refine gen_any (fun V' => (PM w g m B S1 vr vl ve (.slice (some ⟨zb, 0, none⟩) (l.length + 1) cz) (vq ++ [(.slice sq' sn' sc')]) V' ∧ Bx V' eb r.cs)) HQ.out ?_
    clear hHeld hK K HQ HZ q0 q1 q2
    intro v8 kk
    have KK : Hid (PM w g m B S1 vr vl ve (.slice (some ⟨zb, 0, none⟩) (l.length + 1) cz) (vq ++ [(.slice sq' sn' sc')]) v8 ∧ Bx v8 eb r.cs) := kk
    clear kk
    refine wpAnyH_done (by kernel_rfl) ?_ _
    clear hHeld
    go_wp2_with fail
    refine wp_region_held_drew (S := fun W => Bx W eb r.cs) (by kernel_rfl) KK.out.2 (fun hHeld => ?_)
    refine gen_any (fun V' => (PM w g m B S1 vr vl ve (.slice (some ⟨zb, 0, none⟩) (l.length + 1) cz) (vq ++ [(.slice sq' sn' sc')]) V' ∧ Bx V' eb r.cs)) ⟨KK.out.1.drew, KK.out.2⟩ ?_
    clear hHeld KK
    intro y1 kk
    have KK : Hid (PM w g m B S1 vr vl ve (.slice (some ⟨zb, 0, none⟩) (l.length + 1) cz) (vq ++ [(.slice sq' sn' sc')]) y1 ∧ Bx y1 eb r.cs) := kk
    clear kk
    have hHeld : Bx y1 eb r.cs := KK.out.2
    refine wpAnyH_take (i := 0) (v := ?_) (oi := { dst := some 30, op := _, type := _, pos := _, after := _, guard := none }) rfl (by kernel_rfl) (by kernel_rfl) (by kernel_rfl) (fun _ _ _ h => h) (Or.inl ⟨by kernel_rfl, ?_⟩) (by assumption) ?_
    case refine_2 => (intro w9 hSw; clear hSw; go_simp; try with_reducible rfl)
    simp only [Act.put, List.setIfInBounds_toArray, List.set_cons_zero, List.set_cons_succ]
    refine wpAnyH_take (i := 1) (v := ?_) (oi := { dst := some 31, op := _, type := _, pos := _, after := _, guard := none }) rfl (by kernel_rfl) (by kernel_rfl) (by kernel_rfl) (fun _ _ _ h => h) (Or.inl ⟨by kernel_rfl, ?_⟩) (by assumption) ?_
    case refine_2 => (intro w9 hSw; clear hSw; go_simp; try with_reducible rfl)
    simp only [Act.put, List.setIfInBounds_toArray, List.set_cons_zero, List.set_cons_succ]
    refine wpAnyH_take (i := 2) (v := ?_) (oi := { dst := some 32, op := _, type := _, pos := _, after := _, guard := none }) rfl (by kernel_rfl) (by kernel_rfl) (by kernel_rfl) (fun _ _ _ h => h) (Or.inl ⟨by kernel_rfl, ?_⟩) (by assumption) ?_
    case refine_2 => (intro w9 hSw; clear hSw; go_simp; try with_reducible rfl)
    simp only [Act.put, List.setIfInBounds_toArray, List.set_cons_zero, List.set_cons_succ]
    refine wpAnyH_take (i := 3) (v := ?_) (oi := { dst := some 33, op := _, type := _, pos := _, after := _, guard := none }) rfl (by kernel_rfl) (by kernel_rfl) (by kernel_rfl) (fun _ _ _ h => h) (Or.inl ⟨by kernel_rfl, ?_⟩) (by assumption) ?_
    case refine_2 => (intro w9 hSw; clear hSw; go_simp; try with_reducible rfl)
    simp only [Act.put, List.setIfInBounds_toArray, List.set_cons_zero, List.set_cons_succ]
    refine wpAnyH_take (i := 5) (v := ?_) (oi := { dst := some 35, op := _, type := _, pos := _, after := _, guard := none }) rfl (by kernel_rfl) (by kernel_rfl) (by kernel_rfl) (fun _ _ _ h => h) (Or.inl ⟨by kernel_rfl, ?_⟩) (by assumption) ?_
    case refine_2 => (intro w9 hSw; clear hSw; go_simp; try with_reducible rfl)
    simp only [Act.put, List.setIfInBounds_toArray, List.set_cons_zero, List.set_cons_succ]
    refine wpAnyH_take (i := 6) (v := ?_) (oi := { dst := some 36, op := _, type := _, pos := _, after := _, guard := none }) rfl (by kernel_rfl) (by kernel_rfl) (by kernel_rfl) (fun _ _ _ h => h) (Or.inl ⟨by kernel_rfl, ?_⟩) (by assumption) ?_
    case refine_2 => (intro w9 hSw; clear hSw; go_simp; try with_reducible rfl)
    simp only [Act.put, List.setIfInBounds_toArray, List.set_cons_zero, List.set_cons_succ]
    refine wpAnyH_take (i := 7) (v := ?_) (oi := { dst := some 37, op := _, type := _, pos := _, after := _, guard := none }) rfl (by kernel_rfl) (by kernel_rfl) (by kernel_rfl) (fun _ _ _ h => h) (Or.inl ⟨by kernel_rfl, ?_⟩) (by assumption) ?_
    case refine_2 => (intro w9 hSw; have q0 := hSw.c 1 rfl; clear hSw; go_simp; try with_reducible rfl)
    simp only [Act.put, List.setIfInBounds_toArray, List.set_cons_zero, List.set_cons_succ]
    refine wpAnyH_take (i := 8) (v := ?_) (oi := { dst := some 38, op := _, type := _, pos := _, after := _, guard := none }) rfl (by kernel_rfl) (by kernel_rfl) (by kernel_rfl) (fun _ _ _ h => h) (Or.inl ⟨by kernel_rfl, ?_⟩) (by assumption) ?_
    case refine_2 => (intro w9 hSw; clear hSw; go_simp; try with_reducible rfl)
    simp only [Act.put, List.setIfInBounds_toArray, List.set_cons_zero, List.set_cons_succ]
    refine wpAnyH_ready (rs := [4, 9]) (by kernel_rfl) (by simp) (AllReadyH.cons (o := { dst := some 34, op := _, type := _, pos := _, after := _, guard := none }) rfl (fun K hK => ?_) (AllReadyH.cons (o := { dst := some 39, op := _, type := _, pos := _, after := _, guard := none }) rfl (fun K hK => ?_) AllReadyH.nil))
    ·
      have q0 := KK.out.1.box.c 4 rfl
      go_simp
      refine hK.out _ _ hHeld (fun hHeld => ?_)
      clear hK K q0
      refine wpAnyH_ready (rs := [9]) (by kernel_rfl) (by simp) (AllReadyH.cons (o := { dst := some 39, op := _, type := _, pos := _, after := _, guard := none }) rfl (fun K hK => ?_) AllReadyH.nil)
      go_simp
      refine hK.out _ _ (hHeld.alloc _) (fun hHeld => ?_)
      obtain ⟨BL, hBL⟩ : ∃ BL, BL = y1.heap.size := ⟨_, rfl⟩
      have KN : Hid (PM w g m B S1 vr vl ve (.slice (some ⟨zb, 0, none⟩) (l.length + 1) cz) (vq ++ [(.slice sq' sn' sc')]) (y1.alloc (.cells #[.int .i64 n, .string r.rl] 118)) ∧ Bx (y1.alloc (.cells #[.int .i64 n, .string r.rl] 118)) BL [.int .i64 n, .string r.rl] ∧ Bx (y1.alloc (.cells #[.int .i64 n, .string r.rl] 118)) eb r.cs) := ⟨KK.out.1.below ((Below.refl _ _).alloc (Nat.le_refl _) _), by rw [hBL]; exact Bx.new y1 [.int .i64 n, .string r.rl] _, KK.out.2.alloc _⟩
      refine gen_any (fun V' => (PM w g m B S1 vr vl ve (.slice (some ⟨zb, 0, none⟩) (l.length + 1) cz) (vq ++ [(.slice sq' sn' sc')]) V' ∧ Bx V' BL [.int .i64 n, .string r.rl] ∧ Bx V' eb r.cs)) KN.out ?_
      rw [← hBL]
      clear hHeld hK K KN hBL KK
      intro v2 kk
      have KK : Hid (PM w g m B S1 vr vl ve (.slice (some ⟨zb, 0, none⟩) (l.length + 1) cz) (vq ++ [(.slice sq' sn' sc')]) v2 ∧ Bx v2 BL [.int .i64 n, .string r.rl]) := ⟨kk.1, kk.2.1⟩
      have hHeld : Bx v2 eb r.cs := kk.2.2
      clear kk
      refine wpAnyH_ready (rs := [10]) (by kernel_rfl) (by simp) (AllReadyH.cons (o := { dst := some 40, op := _, type := _, pos := _, after := _, guard := none }) rfl (fun K hK => ?_) AllReadyH.nil)
      have HOw : Hid (v2.ownsRow B 118 2 ve S.eras.length (lineXs S.eras)) := by have := KK.out.1.fam.get 2 rfl; rw [← hS1] at this; exact this
      refine (if_pos (by kernel_rfl)).mpr (wp_append_newP _ _ 49 rfl B 118 i1 elnZ 2 24 Tryz.underlying49 hi1 jz0 jz1 jz2 rfl (by decide) ve S.eras.length (lineXs S.eras) rfl HOw.out ⟨BL, 0, none⟩ 1 [.int .i64 n, .string r.rl] rfl rfl (fun j u hj => by rw [show (⟨BL, 0, none⟩ : Addr).add j = ⟨BL, j, none⟩ from by rw [Addr.add_lit]; simp]; exact (KK.out.2.2 j u hj).1) (by intro u hu; simp at hu; rcases hu with rfl | rfl <;> rfl) (by unfold maxLen; omega) (by omega) KK.out.1.BV ?_)
      intro v' w5 hown' hgrow hnew
      obtain ⟨sr', sm', sd', hv'⟩ := own_sliceP hown'
      subst hv'
      have hq2 : Bx w5 eb r.cs := bx_growP hHeld hgrow (fun e => by have := (own_ltP (h.fam.get 2 rfl) e).2; omega)
      have HQ : Hid (PM w g m B S2 vr vl (.slice sr' sm' sd') (.slice (some ⟨zb, 0, none⟩) (l.length + 1) cz) (vq ++ [(.slice sq' sn' sc')]) (w5.setCell ⟨g, 4, none⟩ (.slice sr' sm' sd')) ∧ Bx (w5.setCell ⟨g, 4, none⟩ (.slice sr' sm' sd')) eb r.cs) := by
        have q1 := KK.out.1.lined (n, r.rl) (by rw [← hS1] at *; exact hgrow) hnew (by rw [← hS1]; exact hown')
        rw [← hS1] at q1
        exact ⟨by rw [← hS2]; exact q1, hq2.set9 (by have := h.lt; omega) _⟩
      have HBX : Hid (Bx w5 g _) := KK.out.1.grownBox hgrow (fun c e => (own_ltP HOw.out e).1)
      refine hK.out _ _ hq2 (fun hHeld => ?_)
      clear hK K hown' hgrow hnew HOw KK hq2
      refine wpAnyH_take (i := 11) (v := ?_) (oi := { dst := some 41, op := _, type := _, pos := _, after := _, guard := none }) rfl (by kernel_rfl) (by kernel_rfl) (by kernel_rfl) (fun _ _ _ h => h) (Or.inl ⟨by kernel_rfl, ?_⟩) (by assumption) ?_
      case refine_2 => (intro w9 hSw; clear hSw; go_simp; try with_reducible rfl)
      simp only [Act.put, List.setIfInBounds_toArray, List.set_cons_zero, List.set_cons_succ]
      refine wpAnyH_take (i := 12) (v := ?_) (oi := { dst := some 42, op := _, type := _, pos := _, after := _, guard := none }) rfl (by kernel_rfl) (by kernel_rfl) (by kernel_rfl) (fun _ _ _ h => h) (Or.inl ⟨by kernel_rfl, ?_⟩) (by assumption) ?_
      case refine_2 => (intro w9 hSw; clear hSw; go_simp; try with_reducible rfl)
      simp only [Act.put, List.setIfInBounds_toArray, List.set_cons_zero, List.set_cons_succ]
      refine wpAnyH_ready (rs := [13]) (by kernel_rfl) (by simp) (AllReadyH.cons (o := { dst := none, op := _, type := _, pos := _, after := _, guard := none }) rfl (fun K hK => ?_) AllReadyH.nil)
      have c2 := HBX.out.c 4 rfl
      have z2 := HBX.out.f 4 rfl
      have h4 := HBX.out.1
      go_simp
      refine hK.out _ _ HQ.out.2 (fun hHeld => ?_)
      refine gen_any (fun V' => (PM w g m B S2 vr vl (.slice sr' sm' sd') (.slice (some ⟨zb, 0, none⟩) (l.length + 1) cz) (vq ++ [(.slice sq' sn' sc')]) V' ∧ Bx V' eb r.cs)) HQ.out ?_
      clear hHeld hK K HQ HBX c2 z2 h4
      intro v4 kk
      have KK : Hid (PM w g m B S2 vr vl (.slice sr' sm' sd') (.slice (some ⟨zb, 0, none⟩) (l.length + 1) cz) (vq ++ [(.slice sq' sn' sc')]) v4 ∧ Bx v4 eb r.cs) := kk
      clear kk
      refine wpAnyH_done (by kernel_rfl) ?_ _
      have q4 := KK.out.2.c 4 rfl
      have q5 := KK.out.1.box.c 5 rfl
      have q6 := KK.out.1.box.f 5 rfl
      have q7 := KK.out.1.lt
      have q8 := KK.out.2.1
      go_wp2_with fail
      refine bodyPost_end (v := .tuple #[]) (by simp [results, Tryz.results78, go_sem]) rfl ⟨rfl, ?_⟩
      have q := KK.out.1.opened (r.u.y != 0)
      rw [← hS2] at q
      exact ⟨_, _, q⟩
    ·
      go_simp
      refine hK.out _ _ (hHeld.alloc _) (fun hHeld => ?_)
      obtain ⟨BL, hBL⟩ : ∃ BL, BL = y1.heap.size := ⟨_, rfl⟩
      have KN : Hid (PM w g m B S1 vr vl ve (.slice (some ⟨zb, 0, none⟩) (l.length + 1) cz) (vq ++ [(.slice sq' sn' sc')]) (y1.alloc (.cells #[.int .i64 n, .string r.rl] 118)) ∧ Bx (y1.alloc (.cells #[.int .i64 n, .string r.rl] 118)) BL [.int .i64 n, .string r.rl] ∧ Bx (y1.alloc (.cells #[.int .i64 n, .string r.rl] 118)) eb r.cs) := ⟨KK.out.1.below ((Below.refl _ _).alloc (Nat.le_refl _) _), by rw [hBL]; exact Bx.new y1 [.int .i64 n, .string r.rl] _, KK.out.2.alloc _⟩
      refine gen_any (fun V' => (PM w g m B S1 vr vl ve (.slice (some ⟨zb, 0, none⟩) (l.length + 1) cz) (vq ++ [(.slice sq' sn' sc')]) V' ∧ Bx V' BL [.int .i64 n, .string r.rl] ∧ Bx V' eb r.cs)) KN.out ?_
      rw [← hBL]
      clear hHeld hK K KN hBL KK
      intro v5 kk
      have KK : Hid (PM w g m B S1 vr vl ve (.slice (some ⟨zb, 0, none⟩) (l.length + 1) cz) (vq ++ [(.slice sq' sn' sc')]) v5 ∧ Bx v5 BL [.int .i64 n, .string r.rl]) := ⟨kk.1, kk.2.1⟩
      have hHeld : Bx v5 eb r.cs := kk.2.2
      clear kk
      refine wpAnyH_ready (rs := [4]) (by kernel_rfl) (by simp) (AllReadyH.cons (o := { dst := some 34, op := _, type := _, pos := _, after := _, guard := none }) rfl (fun K hK => ?_) AllReadyH.nil)
      have q0 := KK.out.1.box.c 4 rfl
      go_simp
      refine hK.out _ _ hHeld (fun hHeld => ?_)
      clear hK K q0
      refine wpAnyH_ready (rs := [10]) (by kernel_rfl) (by simp) (AllReadyH.cons (o := { dst := some 40, op := _, type := _, pos := _, after := _, guard := none }) rfl (fun K hK => ?_) AllReadyH.nil)
      have HOw : Hid (v5.ownsRow B 118 2 ve S.eras.length (lineXs S.eras)) := by have := KK.out.1.fam.get 2 rfl; rw [← hS1] at this; exact this
      refine (if_pos (by kernel_rfl)).mpr (wp_append_newP _ _ 49 rfl B 118 i1 elnZ 2 24 Tryz.underlying49 hi1 jz0 jz1 jz2 rfl (by decide) ve S.eras.length (lineXs S.eras) rfl HOw.out ⟨BL, 0, none⟩ 1 [.int .i64 n, .string r.rl] rfl rfl (fun j u hj => by rw [show (⟨BL, 0, none⟩ : Addr).add j = ⟨BL, j, none⟩ from by rw [Addr.add_lit]; simp]; exact (KK.out.2.2 j u hj).1) (by intro u hu; simp at hu; rcases hu with rfl | rfl <;> rfl) (by unfold maxLen; omega) (by omega) KK.out.1.BV ?_)
      intro v' w5 hown' hgrow hnew
      obtain ⟨sr', sm', sd', hv'⟩ := own_sliceP hown'
      subst hv'
      have hq2 : Bx w5 eb r.cs := bx_growP hHeld hgrow (fun e => by have := (own_ltP (h.fam.get 2 rfl) e).2; omega)
      have HQ : Hid (PM w g m B S2 vr vl (.slice sr' sm' sd') (.slice (some ⟨zb, 0, none⟩) (l.length + 1) cz) (vq ++ [(.slice sq' sn' sc')]) (w5.setCell ⟨g, 4, none⟩ (.slice sr' sm' sd')) ∧ Bx (w5.setCell ⟨g, 4, none⟩ (.slice sr' sm' sd')) eb r.cs) := by
        have q1 := KK.out.1.lined (n, r.rl) (by rw [← hS1] at *; exact hgrow) hnew (by rw [← hS1]; exact hown')
        rw [← hS1] at q1
        exact ⟨by rw [← hS2]; exact q1, hq2.set9 (by have := h.lt; omega) _⟩
      have HBX : Hid (Bx w5 g _) := KK.out.1.grownBox hgrow (fun c e => (own_ltP HOw.out e).1)
      refine hK.out _ _ hq2 (fun hHeld => ?_)
      clear hK K hown' hgrow hnew HOw KK hq2
      refine wpAnyH_take (i := 11) (v := ?_) (oi := { dst := some 41, op := _, type := _, pos := _, after := _, guard := none }) rfl (by kernel_rfl) (by kernel_rfl) (by kernel_rfl) (fun _ _ _ h => h) (Or.inl ⟨by kernel_rfl, ?_⟩) (by assumption) ?_
      case refine_2 => (intro w9 hSw; clear hSw; go_simp; try with_reducible rfl)
      simp only [Act.put, List.setIfInBounds_toArray, List.set_cons_zero, List.set_cons_succ]
      refine wpAnyH_take (i := 12) (v := ?_) (oi := { dst := some 42, op := _, type := _, pos := _, after := _, guard := none }) rfl (by kernel_rfl) (by kernel_rfl) (by kernel_rfl) (fun _ _ _ h => h) (Or.inl ⟨by kernel_rfl, ?_⟩) (by assumption) ?_
      case refine_2 => (intro w9 hSw; clear hSw; go_simp; try with_reducible rfl)
      simp only [Act.put, List.setIfInBounds_toArray, List.set_cons_zero, List.set_cons_succ]
      refine wpAnyH_ready (rs := [13]) (by kernel_rfl) (by simp) (AllReadyH.cons (o := { dst := none, op := _, type := _, pos := _, after := _, guard := none }) rfl (fun K hK => ?_) AllReadyH.nil)
      have c2 := HBX.out.c 4 rfl
      have z2 := HBX.out.f 4 rfl
      have h4 := HBX.out.1
      go_simp
      refine hK.out _ _ HQ.out.2 (fun hHeld => ?_)
      refine gen_any (fun V' => (PM w g m B S2 vr vl (.slice sr' sm' sd') (.slice (some ⟨zb, 0, none⟩) (l.length + 1) cz) (vq ++ [(.slice sq' sn' sc')]) V' ∧ Bx V' eb r.cs)) HQ.out ?_
      clear hHeld hK K HQ HBX c2 z2 h4
      intro v8 kk
      have KK : Hid (PM w g m B S2 vr vl (.slice sr' sm' sd') (.slice (some ⟨zb, 0, none⟩) (l.length + 1) cz) (vq ++ [(.slice sq' sn' sc')]) v8 ∧ Bx v8 eb r.cs) := kk
      clear kk
      refine wpAnyH_done (by kernel_rfl) ?_ _
      have q4 := KK.out.2.c 4 rfl
      have q5 := KK.out.1.box.c 5 rfl
      have q6 := KK.out.1.box.f 5 rfl
      have q7 := KK.out.1.lt
      have q8 := KK.out.2.1
      go_wp2_with fail
      refine bodyPost_end (v := .tuple #[]) (by simp [results, Tryz.results78, go_sem]) rfl ⟨rfl, ?_⟩
      have q := KK.out.1.opened (r.u.y != 0)
      rw [← hS2] at q
      exact ⟨_, _, q⟩

end Go.Proofs.YtgnfkkcagbbhmaaGreatDoor
