/- Contracts: law08's on, at, taken. -/
import Derived.Test.YtgnfkkcagbbhmaaGreatDoorPmQq
namespace Go.Proofs.YtgnfkkcagbbhmaaGreatDoor
open Go.RowKit
open Sr (gen_any gen_list)
set_option linter.unusedVariables false

set_option maxRecDepth 100000 in
set_option maxHeartbeats 8000000 in
theorem law08_on (a b c : Int) (w : World) : Calls Tryz.prog 23 #[.agg #[.int .i64 a, .int .i64 b, .int .i64 c]] w fun e w' => e = .returned (.agg #[.int .i64 a, .int .i64 b, .int .i64 c]) ∧ Below w.heap.size w w' := by
  go_enter Tryz.func23, Tryz.ntmps23
  go_wp2
  refine bodyPost_ret (v := .agg #[.int .i64 a, .int .i64 b, .int .i64 c]) (by simp [results, Tryz.results23, go_sem]) rfl ⟨rfl, ?_⟩
  exact ((Below.refl _ _).alloc (Nat.le_refl _) _).alloc (by simp) _

set_option maxRecDepth 100000 in
set_option maxHeartbeats 8000000 in
theorem law08_at (a b : Int) (w : World) : Calls Tryz.prog 24 #[.agg #[.int .i64 a, .int .u8 b]] w fun e w' => e = .returned (.agg #[.int .i64 a, .int .u8 b]) ∧ Below w.heap.size w w' := by
  go_enter Tryz.func24, Tryz.ntmps24
  go_wp2
  refine bodyPost_ret (v := .agg #[.int .i64 a, .int .u8 b]) (by simp [results, Tryz.results24, go_sem]) rfl ⟨rfl, ?_⟩
  exact ((Below.refl _ _).alloc (Nat.le_refl _) _).alloc (by simp) _

theorem ruleXs_at : ∀ (l : List RuleT) (i k : Nat) (r : RuleT) (v : Value), l[i]? = some r → r.cs[k]? = some v → (ruleXs l)[i * 11 + k]? = some v
  | [], i, k, r, v, h, _ => by simp at h
  | y :: l, 0, k, r, v, h, h2 => by
    simp at h; subst h
    have hk : k < y.cs.length := (List.getElem?_eq_some_iff.1 h2).1
    rw [Nat.zero_mul, Nat.zero_add]; show (y.cs ++ ruleXs l)[k]? = _
    rw [List.getElem?_append_left hk]; exact h2
  | y :: l, i + 1, k, r, v, h, h2 => by
    show (y.cs ++ ruleXs l)[_]? = _
    have hy : y.cs.length = 11 := rfl
    rw [List.getElem?_append_right (by omega), hy, show (i + 1) * 11 + k - 11 = i * 11 + k by omega]
    exact ruleXs_at l i k r v (by simpa using h) h2
theorem eraXs_at : ∀ (l : List EraT) (i k : Nat) (r : EraT) (v : Value), l[i]? = some r → r.cs[k]? = some v → (eraXs l)[i * 11 + k]? = some v
  | [], i, k, r, v, h, _ => by simp at h
  | y :: l, 0, k, r, v, h, h2 => by
    simp at h; subst h
    have hk : k < y.cs.length := (List.getElem?_eq_some_iff.1 h2).1
    rw [Nat.zero_mul, Nat.zero_add]; show (y.cs ++ eraXs l)[k]? = _
    rw [List.getElem?_append_left hk]; exact h2
  | y :: l, i + 1, k, r, v, h, h2 => by
    show (y.cs ++ eraXs l)[_]? = _
    have hy : y.cs.length = 11 := rfl
    rw [List.getElem?_append_right (by omega), hy, show (i + 1) * 11 + k - 11 = i * 11 + k by omega]
    exact eraXs_at l i k r v (by simpa using h) h2
def ruleQZ : Value := .agg #[.string ByteArray.empty, .int .i64 0, .int .i64 0, .int .i64 0, .int .i64 0, .int .i64 0, .int .i64 0, .int .i64 0, .int .u8 0, .int .i64 0, .string ByteArray.empty]
theorem infoRuleQ : (Tryz.prog.info? 71).map (fun i => (i.zero, i.size, i.bytes)) = some (some ruleQZ, 11, 104) := by kernel_rfl
def eraQZ : Value := .agg #[.int .i64 0, .string ByteArray.empty, .int .i64 0, .string ByteArray.empty, .int .i64 0, .int .i64 0, .int .i64 0, .int .i64 0, .int .i64 0, .int .i64 0, .int .u8 0]
theorem infoEraQ : (Tryz.prog.info? 78).map (fun i => (i.zero, i.size, i.bytes)) = some (some eraQZ, 11, 104) := by kernel_rfl
theorem infoLinkQ : (Tryz.prog.info? 81).map (fun i => (i.zero, i.size, i.bytes)) = some (some linkZ, 2, 32) := by kernel_rfl
theorem infoZoneQ : (Tryz.prog.info? 74).map (fun i => (i.zero, i.size, i.bytes)) = some (some zoneZ, 2, 40) := by kernel_rfl
theorem take_snoc {α : Type} {l : List α} {j : Nat} {x : α} (h : l[j]? = some x) : l.take (j + 1) = l.take j ++ [x] := by
  rw [List.take_add_one, h]; rfl

set_option maxRecDepth 100000 in
set_option maxHeartbeats 8000000 in
theorem taken_any (S : PSt) (vr vl ve vz : Value) (vs : List Value) (B0 : Nat) (V : World) (hF : Fam B0 V (rowsP S vr vl ve vz vs)) (hlen : vs.length = S.zones.length) (hO : OkS S 400) :
    Calls Tryz.prog 9 #[.agg #[vr, vz, vl]] V fun e W' => ∃ (xr xl xz : Value) (xs : List Value) (B : Nat), e = .returned (.agg #[xr, xz, xl]) ∧ Below V.heap.size V W' ∧ V.heap.size ≤ B ∧ Fam B W' (rowsQ S.rules S.zones S.links xr xl xz xs) ∧ xs.length = S.zones.length := by
  obtain ⟨ar, cr, hvr, hr1, hr2, hr3⟩ := own_rowP (hF.get 0 rfl)
  obtain ⟨al, cl, hvl, hl1, hl2, hl3⟩ := own_rowP (hF.get 1 rfl)
  obtain ⟨az, cz, hvz, hz1, hz2, hz3⟩ := own_rowP (hF.get 3 rfl)
  simp only at hvr hr1 hr3 hvl hl1 hl3 hvz hz1 hz3
  subst hvr hvl hvz
  have nr := hO.rules
  have nz := hO.zones
  have nl := hO.links
  have nze := hO.ze
  obtain ⟨i0, hi0, iz0, iz1, iz2⟩ := info_partsP infoRuleQ
  obtain ⟨i1, hi1, jz0, jz1, jz2⟩ := info_partsP infoLinkQ
  obtain ⟨i2, hi2, kz0, kz1, kz2⟩ := info_partsP infoZoneQ
  obtain ⟨i3, hi3, mz0, mz1, mz2⟩ := info_partsP infoEraQ
  obtain ⟨U, hU⟩ : ∃ U, U = ((V.alloc (.cells #[.slice ar S.rules.length cr, .slice az S.zones.length cz, .slice al S.links.length cl] 26)).alloc (.cells #[.slice none 0 0, .slice none 0 0, .slice none 0 0] 34)) := ⟨_, rfl⟩
  obtain ⟨xb, hxb⟩ : ∃ xb, xb = U.heap.size := ⟨_, rfl⟩
  have hxv : xb = V.heap.size + 1 + 1 := by rw [hxb, hU]; simp
  have BVU : Hid (Below V.heap.size V U) := by rw [hU]; exact ((Below.refl _ _).alloc (Nat.le_refl _) _).alloc (by simp) _
  have XT : Hid (Bx U V.heap.size [(.slice ar S.rules.length cr), (.slice az S.zones.length cz), (.slice al S.links.length cl)]) := by rw [hU]; exact (Bx.new V [(.slice ar S.rules.length cr), (.slice az S.zones.length cz), (.slice al S.links.length cl)] 26).alloc _
  have XR : Hid (Bx U (V.heap.size + 1) zDb) := by
    rw [hU]
    have q := Bx.new (V.alloc (.cells #[.slice ar S.rules.length cr, .slice az S.zones.length cz, .slice al S.links.length cl] 26)) zDb 34
    have e : (V.alloc (.cells #[.slice ar S.rules.length cr, .slice az S.zones.length cz, .slice al S.links.length cl] 26)).heap.size = V.heap.size + 1 := by simp
    rw [e] at q
    exact q
  have FU : Hid (Fam B0 U (rowsP S (.slice ar S.rules.length cr) (.slice al S.links.length cl) ve (.slice az S.zones.length cz) vs)) := hF.below BVU.out
  have Q0 : Hid (QM U xb (xb + 1) [] [] [] (.slice none 0 0) (.slice none 0 0) (.slice none 0 0) [] [] (U.alloc (.cells #[.slice none 0 0, .slice none 0 0, .slice none 0 0] 34))) := by
    refine ⟨(Below.refl _ _).alloc (Nat.le_refl _) _, by rw [hxb]; exact Bx.new U zDb _, ?_, rfl, by omega, by omega, by rw [hxb]; simp⟩
    rw [List.append_nil]
    exact ((((Fam.zero _ _).push 71 11).push 81 2).push 74 2)
  clear hF
  go_enter Tryz.func9, Tryz.ntmps9
  go_upto_region 2 with fail
  rw [← hU]
  refine gen_code (fun W => QM U xb (xb + 1) [] [] [] (.slice none 0 0) (.slice none 0 0) (.slice none 0 0) [] [] W) Q0.out ?_
  clear Q0
  intro w0 kk
  have Q0 : Hid (QM U xb (xb + 1) [] [] [] (.slice none 0 0) (.slice none 0 0) (.slice none 0 0) [] [] w0) := kk
  clear kk
  rw [← hxv]
  have hxV : V.heap.size + 1 < xb := by omega
  clear hU hxb hxv
  go_wp2_with fail
  go_loopw [4] (fun iv W => ∃ (j : Nat) (xr : Value), iv = .int .i64 (j : Int) ∧ j ≤ S.rules.length ∧ Hid (QM U xb (xb + 1) (S.rules.take j) [] [] xr (.slice none 0 0) (.slice none 0 0) [] [] W)) (fun iv _ => S.rules.length - (intOf iv).toNat)
  case atStart => exact ⟨0, _, rfl, Nat.zero_le _, Q0⟩
  case round =>
    obtain ⟨j, xr, rfl, hj, KQ⟩ := hrel
    clear Q0
    have hj0 : (0 : Int) ≤ (j : Int) := by omega
    have t0 := (XT.out.below KQ.out.low).c 0 rfl
    have tl := (XT.out.below KQ.out.low).1
    by_cases hjn : j < S.rules.length
    · have hjI : (j : Int) < (S.rules.length : Int) := by omega
      have hjw : IntKind.i64.wrap ((j : Int) + 1) = (j : Int) + 1 := by rw [IntKind.wrap_i64]; omega
      have hnr : (S.rules.length : Int) ≤ 9223372036854775807 := by omega
      obtain ⟨b, hb, hbB⟩ := hr3 (by omega)
      subst hb
      obtain ⟨r, hr⟩ : ∃ r, S.rules[j]? = some r := ⟨_, List.getElem?_eq_getElem hjn⟩
      have hlj : (S.rules.take j).length = j := by rw [List.length_take]; omega
      have hown := (FU.out.below KQ.out.low).get 0 rfl
      have f0 := (hown.cellAt (j * 11) (by show _ < S.rules.length * 11; omega)).trans (ruleXs_at _ j 0 r _ hr rfl)
      have f1 := (hown.cellAt (j * 11 + 1) (by show _ < S.rules.length * 11; omega)).trans (ruleXs_at _ j 1 r _ hr rfl)
      have f2 := (hown.cellAt (j * 11 + 2) (by show _ < S.rules.length * 11; omega)).trans (ruleXs_at _ j 2 r _ hr rfl)
      have f3 := (hown.cellAt (j * 11 + 3) (by show _ < S.rules.length * 11; omega)).trans (ruleXs_at _ j 3 r _ hr rfl)
      have f4 := (hown.cellAt (j * 11 + 4) (by show _ < S.rules.length * 11; omega)).trans (ruleXs_at _ j 4 r _ hr rfl)
      have f5 := (hown.cellAt (j * 11 + 5) (by show _ < S.rules.length * 11; omega)).trans (ruleXs_at _ j 5 r _ hr rfl)
      have f6 := (hown.cellAt (j * 11 + 6) (by show _ < S.rules.length * 11; omega)).trans (ruleXs_at _ j 6 r _ hr rfl)
      have f7 := (hown.cellAt (j * 11 + 7) (by show _ < S.rules.length * 11; omega)).trans (ruleXs_at _ j 7 r _ hr rfl)
      have f8 := (hown.cellAt (j * 11 + 8) (by show _ < S.rules.length * 11; omega)).trans (ruleXs_at _ j 8 r _ hr rfl)
      have f9 := (hown.cellAt (j * 11 + 9) (by show _ < S.rules.length * 11; omega)).trans (ruleXs_at _ j 9 r _ hr rfl)
      have f10 := (hown.cellAt (j * 11 + 10) (by show _ < S.rules.length * 11; omega)).trans (ruleXs_at _ j 10 r _ hr rfl)
      have hbw := World.block_lt_of_cell? _ _ f0
      simp only at hbw
      obtain ⟨cb, hcb⟩ : ∃ cb, cb = wr.heap.size := ⟨_, rfl⟩
      have hcx : xb < cb := by have := KQ.out.box.1; omega
      have hcbn : ∀ c, xr.ownBlock = some c → c ≠ cb := fun c e => by have := (own_ltP KQ.out.getR e).2; omega
      have E0 : Hid (QM U xb (xb + 1) (S.rules.take j) [] [] xr (.slice none 0 0) (.slice none 0 0) [] [] (wr.alloc (.cells #[.string r.nm, .int .i64 r.fr, .int .i64 r.tt, .int .i64 r.mo, .int .i64 r.oa, .int .i64 r.ob, .int .i64 r.oc, .int .i64 r.ta, .int .u8 r.tz, .int .i64 r.sv, .string r.lt] 85)) ∧ Bx (wr.alloc (.cells #[.string r.nm, .int .i64 r.fr, .int .i64 r.tt, .int .i64 r.mo, .int .i64 r.oa, .int .i64 r.ob, .int .i64 r.oc, .int .i64 r.ta, .int .u8 r.tz, .int .i64 r.sv, .string r.lt] 85)) cb r.cs) := ⟨KQ.out.below ((Below.refl _ _).alloc (Nat.le_refl _) _), by rw [hcb]; exact Bx.new wr r.cs _⟩
      clear hown
      go_upto_region 6 with fail
      refine gen_code (fun W => (QM U xb (xb + 1) (S.rules.take j) [] [] xr (.slice none 0 0) (.slice none 0 0) [] [] W ∧ Bx W cb r.cs)) E0.out ?_
      clear E0 KQ t0 tl hbw f0 f1 f2 f3 f4 f5 f6 f7 f8 f9 f10
      intro w1 kk
      have KK : Hid (QM U xb (xb + 1) (S.rules.take j) [] [] xr (.slice none 0 0) (.slice none 0 0) [] [] w1 ∧ Bx w1 cb r.cs) := kk
      clear kk
      rw [← hcb]
      clear hcb
      go_wp2_with fail
      refine wp_region_held_drew (S := fun W => Bx W cb r.cs) (by kernel_rfl) KK.out.2 (fun hHeld => ?_)
      refine gen_any (fun V' => (QM U xb (xb + 1) (S.rules.take j) [] [] xr (.slice none 0 0) (.slice none 0 0) [] [] V' ∧ Bx V' cb r.cs)) ⟨KK.out.1.drew, KK.out.2⟩ ?_
      clear hHeld KK
      intro y0 kk
      have KK : Hid (QM U xb (xb + 1) (S.rules.take j) [] [] xr (.slice none 0 0) (.slice none 0 0) [] [] y0 ∧ Bx y0 cb r.cs) := kk
      have hHeld : Bx y0 cb r.cs := kk.2
      clear kk
      refine wpAnyH_take (i := 0) (v := ?_) (oi := { dst := some 24, op := _, type := _, pos := _, after := _, guard := none }) rfl (by kernel_rfl) (by kernel_rfl) (by kernel_rfl) (fun _ _ _ h => h) (Or.inl ⟨by kernel_rfl, ?_⟩) (by assumption) ?_
      case refine_2 => (intro w9 hSw; clear hSw; go_simp; try with_reducible rfl)
      simp only [Act.put, List.setIfInBounds_toArray, List.set_cons_zero, List.set_cons_succ]
      refine wpAnyH_take (i := 2) (v := ?_) (oi := { dst := some 26, op := _, type := _, pos := _, after := _, guard := none }) rfl (by kernel_rfl) (by kernel_rfl) (by kernel_rfl) (fun _ _ _ h => h) (Or.inl ⟨by kernel_rfl, ?_⟩) (by assumption) ?_
      case refine_2 => (intro w9 hSw; clear hSw; go_simp; try with_reducible rfl)
      simp only [Act.put, List.setIfInBounds_toArray, List.set_cons_zero, List.set_cons_succ]
      refine wpAnyH_take (i := 3) (v := ?_) (oi := { dst := some 27, op := _, type := _, pos := _, after := _, guard := none }) rfl (by kernel_rfl) (by kernel_rfl) (by kernel_rfl) (fun _ _ _ h => h) (Or.inl ⟨by kernel_rfl, ?_⟩) (by assumption) ?_
      case refine_2 => (intro w9 hSw; have q0 := hSw.c 0 rfl; have q1 := hSw.c 1 rfl; have q2 := hSw.c 2 rfl; have q3 := hSw.c 3 rfl; have q4 := hSw.c 4 rfl; have q5 := hSw.c 5 rfl; have q6 := hSw.c 6 rfl; have q7 := hSw.c 7 rfl; have q8 := hSw.c 8 rfl; have q9 := hSw.c 9 rfl; have q10 := hSw.c 10 rfl; clear hSw; go_simp; try with_reducible rfl)
      simp only [Act.put, List.setIfInBounds_toArray, List.set_cons_zero, List.set_cons_succ]
      refine wpAnyH_take (i := 4) (v := ?_) (oi := { dst := some 28, op := _, type := _, pos := _, after := _, guard := none }) rfl (by kernel_rfl) (by kernel_rfl) (by kernel_rfl) (fun _ _ _ h => h) (Or.inl ⟨by kernel_rfl, ?_⟩) (by assumption) ?_
      case refine_2 => (intro w9 hSw; clear hSw; go_simp; try with_reducible rfl)
      simp only [Act.put, List.setIfInBounds_toArray, List.set_cons_zero, List.set_cons_succ]
      refine wpAnyH_take (i := 5) (v := ?_) (oi := { dst := some 29, op := _, type := _, pos := _, after := _, guard := none }) rfl (by kernel_rfl) (by kernel_rfl) (by kernel_rfl) (fun _ _ _ h => h) (Or.inl ⟨by kernel_rfl, ?_⟩) (by assumption) ?_
      case refine_2 => (intro w9 hSw; have q0 := hSw.c 0 rfl; have q1 := hSw.c 1 rfl; have q2 := hSw.c 2 rfl; have q3 := hSw.c 3 rfl; have q4 := hSw.c 4 rfl; have q5 := hSw.c 5 rfl; have q6 := hSw.c 6 rfl; have q7 := hSw.c 7 rfl; have q8 := hSw.c 8 rfl; have q9 := hSw.c 9 rfl; have q10 := hSw.c 10 rfl; clear hSw; go_simp; try with_reducible rfl)
      simp only [Act.put, List.setIfInBounds_toArray, List.set_cons_zero, List.set_cons_succ]
      refine wpAnyH_take (i := 6) (v := ?_) (oi := { dst := some 30, op := _, type := _, pos := _, after := _, guard := none }) rfl (by kernel_rfl) (by kernel_rfl) (by kernel_rfl) (fun _ _ _ h => h) (Or.inl ⟨by kernel_rfl, ?_⟩) (by assumption) ?_
      case refine_2 => (intro w9 hSw; clear hSw; go_simp; try with_reducible rfl)
      simp only [Act.put, List.setIfInBounds_toArray, List.set_cons_zero, List.set_cons_succ]
      refine wpAnyH_take (i := 7) (v := ?_) (oi := { dst := some 31, op := _, type := _, pos := _, after := _, guard := none }) rfl (by kernel_rfl) (by kernel_rfl) (by kernel_rfl) (fun _ _ _ h => h) (Or.inl ⟨by kernel_rfl, ?_⟩) (by assumption) ?_
      case refine_2 => (intro w9 hSw; have q0 := hSw.c 0 rfl; have q1 := hSw.c 1 rfl; have q2 := hSw.c 2 rfl; have q3 := hSw.c 3 rfl; have q4 := hSw.c 4 rfl; have q5 := hSw.c 5 rfl; have q6 := hSw.c 6 rfl; have q7 := hSw.c 7 rfl; have q8 := hSw.c 8 rfl; have q9 := hSw.c 9 rfl; have q10 := hSw.c 10 rfl; clear hSw; go_simp; try with_reducible rfl)
      simp only [Act.put, List.setIfInBounds_toArray, List.set_cons_zero, List.set_cons_succ]
      refine wpAnyH_take (i := 8) (v := ?_) (oi := { dst := some 32, op := _, type := _, pos := _, after := _, guard := none }) rfl (by kernel_rfl) (by kernel_rfl) (by kernel_rfl) (fun _ _ _ h => h) (Or.inl ⟨by kernel_rfl, ?_⟩) (by assumption) ?_
      case refine_2 => (intro w9 hSw; clear hSw; go_simp; try with_reducible rfl)
      simp only [Act.put, List.setIfInBounds_toArray, List.set_cons_zero, List.set_cons_succ]
      refine wpAnyH_take (i := 9) (v := ?_) (oi := { dst := some 33, op := _, type := _, pos := _, after := _, guard := none }) rfl (by kernel_rfl) (by kernel_rfl) (by kernel_rfl) (fun _ _ _ h => h) (Or.inl ⟨by kernel_rfl, ?_⟩) (by assumption) ?_
      case refine_2 => (intro w9 hSw; have q0 := hSw.c 0 rfl; have q1 := hSw.c 1 rfl; have q2 := hSw.c 2 rfl; have q3 := hSw.c 3 rfl; have q4 := hSw.c 4 rfl; have q5 := hSw.c 5 rfl; have q6 := hSw.c 6 rfl; have q7 := hSw.c 7 rfl; have q8 := hSw.c 8 rfl; have q9 := hSw.c 9 rfl; have q10 := hSw.c 10 rfl; clear hSw; go_simp; try with_reducible rfl)
      simp only [Act.put, List.setIfInBounds_toArray, List.set_cons_zero, List.set_cons_succ]
      refine wpAnyH_take (i := 10) (v := ?_) (oi := { dst := some 34, op := _, type := _, pos := _, after := _, guard := none }) rfl (by kernel_rfl) (by kernel_rfl) (by kernel_rfl) (fun _ _ _ h => h) (Or.inl ⟨by kernel_rfl, ?_⟩) (by assumption) ?_
      case refine_2 => (intro w9 hSw; clear hSw; go_simp; try with_reducible rfl)
      simp only [Act.put, List.setIfInBounds_toArray, List.set_cons_zero, List.set_cons_succ]
      refine wpAnyH_take (i := 11) (v := ?_) (oi := { dst := some 35, op := _, type := _, pos := _, after := _, guard := none }) rfl (by kernel_rfl) (by kernel_rfl) (by kernel_rfl) (fun _ _ _ h => h) (Or.inl ⟨by kernel_rfl, ?_⟩) (by assumption) ?_
      case refine_2 => (intro w9 hSw; have q0 := hSw.c 0 rfl; have q1 := hSw.c 1 rfl; have q2 := hSw.c 2 rfl; have q3 := hSw.c 3 rfl; have q4 := hSw.c 4 rfl; have q5 := hSw.c 5 rfl; have q6 := hSw.c 6 rfl; have q7 := hSw.c 7 rfl; have q8 := hSw.c 8 rfl; have q9 := hSw.c 9 rfl; have q10 := hSw.c 10 rfl; clear hSw; go_simp; try with_reducible rfl)
      simp only [Act.put, List.setIfInBounds_toArray, List.set_cons_zero, List.set_cons_succ]
      refine wpAnyH_take (i := 13) (v := ?_) (oi := { dst := some 37, op := _, type := _, pos := _, after := _, guard := none }) rfl (by kernel_rfl) (by kernel_rfl) (by kernel_rfl) (fun _ _ _ h => h) (Or.inl ⟨by kernel_rfl, ?_⟩) (by assumption) ?_
      case refine_2 => (intro w9 hSw; clear hSw; go_simp; try with_reducible rfl)
      simp only [Act.put, List.setIfInBounds_toArray, List.set_cons_zero, List.set_cons_succ]
      refine wpAnyH_take (i := 14) (v := ?_) (oi := { dst := some 38, op := _, type := _, pos := _, after := _, guard := none }) rfl (by kernel_rfl) (by kernel_rfl) (by kernel_rfl) (fun _ _ _ h => h) (Or.inl ⟨by kernel_rfl, ?_⟩) (by assumption) ?_
      case refine_2 => (intro w9 hSw; have q0 := hSw.c 0 rfl; have q1 := hSw.c 1 rfl; have q2 := hSw.c 2 rfl; have q3 := hSw.c 3 rfl; have q4 := hSw.c 4 rfl; have q5 := hSw.c 5 rfl; have q6 := hSw.c 6 rfl; have q7 := hSw.c 7 rfl; have q8 := hSw.c 8 rfl; have q9 := hSw.c 9 rfl; have q10 := hSw.c 10 rfl; clear hSw; go_simp; try with_reducible rfl)
      simp only [Act.put, List.setIfInBounds_toArray, List.set_cons_zero, List.set_cons_succ]
      refine wpAnyH_take (i := 16) (v := ?_) (oi := { dst := some 40, op := _, type := _, pos := _, after := _, guard := none }) rfl (by kernel_rfl) (by kernel_rfl) (by kernel_rfl) (fun _ _ _ h => h) (Or.inl ⟨by kernel_rfl, ?_⟩) (by assumption) ?_
      case refine_2 => (intro w9 hSw; clear hSw; go_simp; try with_reducible rfl)
      simp only [Act.put, List.setIfInBounds_toArray, List.set_cons_zero, List.set_cons_succ]
      refine wpAnyH_take (i := 17) (v := ?_) (oi := { dst := some 41, op := _, type := _, pos := _, after := _, guard := none }) rfl (by kernel_rfl) (by kernel_rfl) (by kernel_rfl) (fun _ _ _ h => h) (Or.inl ⟨by kernel_rfl, ?_⟩) (by assumption) ?_
      case refine_2 => (intro w9 hSw; have q0 := hSw.c 0 rfl; have q1 := hSw.c 1 rfl; have q2 := hSw.c 2 rfl; have q3 := hSw.c 3 rfl; have q4 := hSw.c 4 rfl; have q5 := hSw.c 5 rfl; have q6 := hSw.c 6 rfl; have q7 := hSw.c 7 rfl; have q8 := hSw.c 8 rfl; have q9 := hSw.c 9 rfl; have q10 := hSw.c 10 rfl; clear hSw; go_simp; try with_reducible rfl)
      simp only [Act.put, List.setIfInBounds_toArray, List.set_cons_zero, List.set_cons_succ]
      refine wpAnyH_take (i := 18) (v := ?_) (oi := { dst := some 42, op := _, type := _, pos := _, after := _, guard := none }) rfl (by kernel_rfl) (by kernel_rfl) (by kernel_rfl) (fun _ _ _ h => h) (Or.inl ⟨by kernel_rfl, ?_⟩) (by assumption) ?_
      case refine_2 => (intro w9 hSw; clear hSw; go_simp; try with_reducible rfl)
      simp only [Act.put, List.setIfInBounds_toArray, List.set_cons_zero, List.set_cons_succ]
      refine wpAnyH_take (i := 19) (v := ?_) (oi := { dst := some 43, op := _, type := _, pos := _, after := _, guard := none }) rfl (by kernel_rfl) (by kernel_rfl) (by kernel_rfl) (fun _ _ _ h => h) (Or.inl ⟨by kernel_rfl, ?_⟩) (by assumption) ?_
      case refine_2 => (intro w9 hSw; have q0 := hSw.c 0 rfl; have q1 := hSw.c 1 rfl; have q2 := hSw.c 2 rfl; have q3 := hSw.c 3 rfl; have q4 := hSw.c 4 rfl; have q5 := hSw.c 5 rfl; have q6 := hSw.c 6 rfl; have q7 := hSw.c 7 rfl; have q8 := hSw.c 8 rfl; have q9 := hSw.c 9 rfl; have q10 := hSw.c 10 rfl; clear hSw; go_simp; try with_reducible rfl)
      simp only [Act.put, List.setIfInBounds_toArray, List.set_cons_zero, List.set_cons_succ]
      refine wpAnyH_ready (rs := [1, 12]) (by kernel_rfl) (by simp) (AllReadyH.cons (o := { dst := some 25, op := _, type := _, pos := _, after := _, guard := none }) rfl (fun K hK => ?_) (AllReadyH.cons (o := { dst := some 36, op := _, type := _, pos := _, after := _, guard := none }) rfl (fun K hK => ?_) AllReadyH.nil))
      ·
        have q0 := KK.out.1.box.c 0 rfl
        go_simp
        refine hK.out _ _ hHeld (fun hHeld => ?_)
        clear hK K q0
        refine wpAnyH_ready (rs := [12]) (by kernel_rfl) (by simp) (AllReadyH.cons (o := { dst := some 36, op := _, type := _, pos := _, after := _, guard := none }) rfl (fun K hK => ?_) AllReadyH.nil)
        go_simp
        refine (law08_on _ _ _ _).mono ?_
        rintro e v2 ⟨rfl, hb2⟩
        refine hK.out _ _ (hHeld.below hb2) (fun hHeld => ?_)
        replace KK : Hid (QM U xb (xb + 1) (S.rules.take j) [] [] xr (.slice none 0 0) (.slice none 0 0) [] [] v2 ∧ Bx v2 cb r.cs) := ⟨KK.out.1.below hb2, KK.out.2.below hb2⟩
        clear hK K hb2
        refine wpAnyH_ready (rs := [15]) (by kernel_rfl) (by simp) (AllReadyH.cons (o := { dst := some 39, op := _, type := _, pos := _, after := _, guard := none }) rfl (fun K hK => ?_) AllReadyH.nil)
        go_simp
        refine (law08_at _ _ _).mono ?_
        rintro e v3 ⟨rfl, hb3⟩
        refine hK.out _ _ (hHeld.below hb3) (fun hHeld => ?_)
        replace KK : Hid (QM U xb (xb + 1) (S.rules.take j) [] [] xr (.slice none 0 0) (.slice none 0 0) [] [] v3 ∧ Bx v3 cb r.cs) := ⟨KK.out.1.below hb3, KK.out.2.below hb3⟩
        clear hK K hb3
        refine wpAnyH_take (i := 20) (v := ?_) (oi := { dst := some 44, op := _, type := _, pos := _, after := _, guard := none }) rfl (by kernel_rfl) (by kernel_rfl) (by kernel_rfl) (fun _ _ _ h => h) (Or.inl ⟨by kernel_rfl, ?_⟩) (by assumption) ?_
        case refine_2 => (intro w9 hSw; clear hSw; go_simp; try with_reducible rfl)
        simp only [Act.put, List.setIfInBounds_toArray, List.set_cons_zero, List.set_cons_succ]
        refine wpAnyH_ready (rs := [21]) (by kernel_rfl) (by simp) (AllReadyH.cons (o := { dst := some 45, op := _, type := _, pos := _, after := _, guard := none }) rfl (fun K hK => ?_) AllReadyH.nil)
        go_simp
        refine hK.out _ _ (hHeld.alloc _) (fun hHeld => ?_)
        obtain ⟨BR, hBR⟩ : ∃ BR, BR = v3.heap.size := ⟨_, rfl⟩
        have KN : Hid (QM U xb (xb + 1) (S.rules.take j) [] [] xr (.slice none 0 0) (.slice none 0 0) [] [] (v3.alloc (.cells #[.string r.nm, .int .i64 r.fr, .int .i64 r.tt, .int .i64 r.mo, .int .i64 r.oa, .int .i64 r.ob, .int .i64 r.oc, .int .i64 r.ta, .int .u8 r.tz, .int .i64 r.sv, .string r.lt] 71)) ∧ Bx (v3.alloc (.cells #[.string r.nm, .int .i64 r.fr, .int .i64 r.tt, .int .i64 r.mo, .int .i64 r.oa, .int .i64 r.ob, .int .i64 r.oc, .int .i64 r.ta, .int .u8 r.tz, .int .i64 r.sv, .string r.lt] 71)) BR r.cs ∧ Bx (v3.alloc (.cells #[.string r.nm, .int .i64 r.fr, .int .i64 r.tt, .int .i64 r.mo, .int .i64 r.oa, .int .i64 r.ob, .int .i64 r.oc, .int .i64 r.ta, .int .u8 r.tz, .int .i64 r.sv, .string r.lt] 71)) cb r.cs) := ⟨KK.out.1.below ((Below.refl _ _).alloc (Nat.le_refl _) _), by rw [hBR]; exact Bx.new v3 r.cs _, KK.out.2.alloc _⟩
        refine gen_any (fun V' => (QM U xb (xb + 1) (S.rules.take j) [] [] xr (.slice none 0 0) (.slice none 0 0) [] [] V' ∧ Bx V' BR r.cs ∧ Bx V' cb r.cs)) KN.out ?_
        rw [← hBR]
        clear hHeld hK K KN hBR KK
        intro v4 kk
        have KK : Hid (QM U xb (xb + 1) (S.rules.take j) [] [] xr (.slice none 0 0) (.slice none 0 0) [] [] v4 ∧ Bx v4 BR r.cs) := ⟨kk.1, kk.2.1⟩
        have hHeld : Bx v4 cb r.cs := kk.2.2
        clear kk
        refine wpAnyH_ready (rs := [22]) (by kernel_rfl) (by simp) (AllReadyH.cons (o := { dst := some 46, op := _, type := _, pos := _, after := _, guard := none }) rfl (fun K hK => ?_) AllReadyH.nil)
        refine (if_pos (by kernel_rfl)).mpr (wp_append_newP _ _ 30 rfl (xb + 1) 71 i0 ruleQZ 11 104 Tryz.underlying30 hi0 iz0 iz1 iz2 rfl (by decide) xr (S.rules.take j).length (ruleXs (S.rules.take j)) rfl KK.out.1.getR ⟨BR, 0, none⟩ 1 r.cs rfl rfl (fun j u hj => by rw [show (⟨BR, 0, none⟩ : Addr).add j = ⟨BR, j, none⟩ from by rw [Addr.add_lit]; simp]; exact (KK.out.2.2 j u hj).1) (rule_oneP r) (by rw [hlj]; unfold maxLen; omega) (by rw [hlj]; omega) KK.out.1.BV ?_)
        intro v' w4 hown' hgrow hnew
        obtain ⟨sq', sn', sc', hv'⟩ := own_sliceP hown'
        subst hv'
        have hq2 : Bx w4 cb r.cs := bx_growP hHeld hgrow (fun e => hcbn _ e rfl)
        have HQ : Hid (QM U xb (xb + 1) (S.rules.take (j + 1)) [] [] (.slice sq' sn' sc') (.slice none 0 0) (.slice none 0 0) [] [] (w4.setCell ⟨xb, 0, none⟩ (.slice sq' sn' sc')) ∧ Bx (w4.setCell ⟨xb, 0, none⟩ (.slice sq' sn' sc')) cb r.cs) := ⟨by rw [take_snoc hr]; exact KK.out.1.ruled r hgrow hnew hown', hq2.set9 (by omega) _⟩
        have HBX : Hid (Bx w4 xb _) := KK.out.1.grownBox hgrow (fun c e => (own_ltP KK.out.1.getR e).1)
        refine hK.out _ _ hq2 (fun hHeld => ?_)
        clear hK K hown' hgrow hnew KK hq2
        refine wpAnyH_take (i := 23) (v := ?_) (oi := { dst := some 47, op := _, type := _, pos := _, after := _, guard := none }) rfl (by kernel_rfl) (by kernel_rfl) (by kernel_rfl) (fun _ _ _ h => h) (Or.inl ⟨by kernel_rfl, ?_⟩) (by assumption) ?_
        case refine_2 => (intro w9 hSw; clear hSw; go_simp; try with_reducible rfl)
        simp only [Act.put, List.setIfInBounds_toArray, List.set_cons_zero, List.set_cons_succ]
        refine wpAnyH_ready (rs := [24]) (by kernel_rfl) (by simp) (AllReadyH.cons (o := { dst := none, op := _, type := _, pos := _, after := _, guard := none }) rfl (fun K hK => ?_) AllReadyH.nil)
        have c2 := HBX.out.c 0 rfl
        have z2 := HBX.out.f 0 rfl
        have h4 := HBX.out.1
        go_simp
        refine hK.out _ _ HQ.out.2 (fun hHeld => ?_)
        refine gen_any (fun V' => QM U xb (xb + 1) (S.rules.take (j + 1)) [] [] (.slice sq' sn' sc') (.slice none 0 0) (.slice none 0 0) [] [] V') HQ.out.1 ?_
        clear hHeld hK K HQ HBX c2 z2 h4
        intro v6 kk
        have KK : Hid (QM U xb (xb + 1) (S.rules.take (j + 1)) [] [] (.slice sq' sn' sc') (.slice none 0 0) (.slice none 0 0) [] [] v6) := kk
        clear kk
        refine wpAnyH_done (by kernel_rfl) ?_ _
        go_wp2_with fail
        exact ⟨⟨j + 1, _, rfl, by omega, KK⟩, by simp only [intOf]; omega⟩
      ·
        go_simp
        refine (law08_on _ _ _ _).mono ?_
        rintro e v7 ⟨rfl, hb7⟩
        refine hK.out _ _ (hHeld.below hb7) (fun hHeld => ?_)
        replace KK : Hid (QM U xb (xb + 1) (S.rules.take j) [] [] xr (.slice none 0 0) (.slice none 0 0) [] [] v7 ∧ Bx v7 cb r.cs) := ⟨KK.out.1.below hb7, KK.out.2.below hb7⟩
        clear hK K hb7
        refine wpAnyH_ready (rs := [1, 15]) (by kernel_rfl) (by simp) (AllReadyH.cons (o := { dst := some 25, op := _, type := _, pos := _, after := _, guard := none }) rfl (fun K hK => ?_) (AllReadyH.cons (o := { dst := some 39, op := _, type := _, pos := _, after := _, guard := none }) rfl (fun K hK => ?_) AllReadyH.nil))
        ·
          have q0 := KK.out.1.box.c 0 rfl
          go_simp
          refine hK.out _ _ hHeld (fun hHeld => ?_)
          clear hK K q0
          refine wpAnyH_ready (rs := [15]) (by kernel_rfl) (by simp) (AllReadyH.cons (o := { dst := some 39, op := _, type := _, pos := _, after := _, guard := none }) rfl (fun K hK => ?_) AllReadyH.nil)
          go_simp
          refine (law08_at _ _ _).mono ?_
          rintro e v9 ⟨rfl, hb9⟩
          refine hK.out _ _ (hHeld.below hb9) (fun hHeld => ?_)
          replace KK : Hid (QM U xb (xb + 1) (S.rules.take j) [] [] xr (.slice none 0 0) (.slice none 0 0) [] [] v9 ∧ Bx v9 cb r.cs) := ⟨KK.out.1.below hb9, KK.out.2.below hb9⟩
          clear hK K hb9
          refine wpAnyH_take (i := 20) (v := ?_) (oi := { dst := some 44, op := _, type := _, pos := _, after := _, guard := none }) rfl (by kernel_rfl) (by kernel_rfl) (by kernel_rfl) (fun _ _ _ h => h) (Or.inl ⟨by kernel_rfl, ?_⟩) (by assumption) ?_
          case refine_2 => (intro w9 hSw; clear hSw; go_simp; try with_reducible rfl)
          simp only [Act.put, List.setIfInBounds_toArray, List.set_cons_zero, List.set_cons_succ]
          refine wpAnyH_ready (rs := [21]) (by kernel_rfl) (by simp) (AllReadyH.cons (o := { dst := some 45, op := _, type := _, pos := _, after := _, guard := none }) rfl (fun K hK => ?_) AllReadyH.nil)
          go_simp
          refine hK.out _ _ (hHeld.alloc _) (fun hHeld => ?_)
          obtain ⟨BR, hBR⟩ : ∃ BR, BR = v9.heap.size := ⟨_, rfl⟩
          have KN : Hid (QM U xb (xb + 1) (S.rules.take j) [] [] xr (.slice none 0 0) (.slice none 0 0) [] [] (v9.alloc (.cells #[.string r.nm, .int .i64 r.fr, .int .i64 r.tt, .int .i64 r.mo, .int .i64 r.oa, .int .i64 r.ob, .int .i64 r.oc, .int .i64 r.ta, .int .u8 r.tz, .int .i64 r.sv, .string r.lt] 71)) ∧ Bx (v9.alloc (.cells #[.string r.nm, .int .i64 r.fr, .int .i64 r.tt, .int .i64 r.mo, .int .i64 r.oa, .int .i64 r.ob, .int .i64 r.oc, .int .i64 r.ta, .int .u8 r.tz, .int .i64 r.sv, .string r.lt] 71)) BR r.cs ∧ Bx (v9.alloc (.cells #[.string r.nm, .int .i64 r.fr, .int .i64 r.tt, .int .i64 r.mo, .int .i64 r.oa, .int .i64 r.ob, .int .i64 r.oc, .int .i64 r.ta, .int .u8 r.tz, .int .i64 r.sv, .string r.lt] 71)) cb r.cs) := ⟨KK.out.1.below ((Below.refl _ _).alloc (Nat.le_refl _) _), by rw [hBR]; exact Bx.new v9 r.cs _, KK.out.2.alloc _⟩
          refine gen_any (fun V' => (QM U xb (xb + 1) (S.rules.take j) [] [] xr (.slice none 0 0) (.slice none 0 0) [] [] V' ∧ Bx V' BR r.cs ∧ Bx V' cb r.cs)) KN.out ?_
          rw [← hBR]
          clear hHeld hK K KN hBR KK
          intro v10 kk
          have KK : Hid (QM U xb (xb + 1) (S.rules.take j) [] [] xr (.slice none 0 0) (.slice none 0 0) [] [] v10 ∧ Bx v10 BR r.cs) := ⟨kk.1, kk.2.1⟩
          have hHeld : Bx v10 cb r.cs := kk.2.2
          clear kk
          refine wpAnyH_ready (rs := [22]) (by kernel_rfl) (by simp) (AllReadyH.cons (o := { dst := some 46, op := _, type := _, pos := _, after := _, guard := none }) rfl (fun K hK => ?_) AllReadyH.nil)
          refine (if_pos (by kernel_rfl)).mpr (wp_append_newP _ _ 30 rfl (xb + 1) 71 i0 ruleQZ 11 104 Tryz.underlying30 hi0 iz0 iz1 iz2 rfl (by decide) xr (S.rules.take j).length (ruleXs (S.rules.take j)) rfl KK.out.1.getR ⟨BR, 0, none⟩ 1 r.cs rfl rfl (fun j u hj => by rw [show (⟨BR, 0, none⟩ : Addr).add j = ⟨BR, j, none⟩ from by rw [Addr.add_lit]; simp]; exact (KK.out.2.2 j u hj).1) (rule_oneP r) (by rw [hlj]; unfold maxLen; omega) (by rw [hlj]; omega) KK.out.1.BV ?_)
          intro v' w4 hown' hgrow hnew
          obtain ⟨sq', sn', sc', hv'⟩ := own_sliceP hown'
          subst hv'
          have hq2 : Bx w4 cb r.cs := bx_growP hHeld hgrow (fun e => hcbn _ e rfl)
          have HQ : Hid (QM U xb (xb + 1) (S.rules.take (j + 1)) [] [] (.slice sq' sn' sc') (.slice none 0 0) (.slice none 0 0) [] [] (w4.setCell ⟨xb, 0, none⟩ (.slice sq' sn' sc')) ∧ Bx (w4.setCell ⟨xb, 0, none⟩ (.slice sq' sn' sc')) cb r.cs) := ⟨by rw [take_snoc hr]; exact KK.out.1.ruled r hgrow hnew hown', hq2.set9 (by omega) _⟩
          have HBX : Hid (Bx w4 xb _) := KK.out.1.grownBox hgrow (fun c e => (own_ltP KK.out.1.getR e).1)
          refine hK.out _ _ hq2 (fun hHeld => ?_)
          clear hK K hown' hgrow hnew KK hq2
          refine wpAnyH_take (i := 23) (v := ?_) (oi := { dst := some 47, op := _, type := _, pos := _, after := _, guard := none }) rfl (by kernel_rfl) (by kernel_rfl) (by kernel_rfl) (fun _ _ _ h => h) (Or.inl ⟨by kernel_rfl, ?_⟩) (by assumption) ?_
          case refine_2 => (intro w9 hSw; clear hSw; go_simp; try with_reducible rfl)
          simp only [Act.put, List.setIfInBounds_toArray, List.set_cons_zero, List.set_cons_succ]
          refine wpAnyH_ready (rs := [24]) (by kernel_rfl) (by simp) (AllReadyH.cons (o := { dst := none, op := _, type := _, pos := _, after := _, guard := none }) rfl (fun K hK => ?_) AllReadyH.nil)
          have c2 := HBX.out.c 0 rfl
          have z2 := HBX.out.f 0 rfl
          have h4 := HBX.out.1
          go_simp
          refine hK.out _ _ HQ.out.2 (fun hHeld => ?_)
          refine gen_any (fun V' => QM U xb (xb + 1) (S.rules.take (j + 1)) [] [] (.slice sq' sn' sc') (.slice none 0 0) (.slice none 0 0) [] [] V') HQ.out.1 ?_
          clear hHeld hK K HQ HBX c2 z2 h4
          intro v12 kk
          have KK : Hid (QM U xb (xb + 1) (S.rules.take (j + 1)) [] [] (.slice sq' sn' sc') (.slice none 0 0) (.slice none 0 0) [] [] v12) := kk
          clear kk
          refine wpAnyH_done (by kernel_rfl) ?_ _
          go_wp2_with fail
          exact ⟨⟨j + 1, _, rfl, by omega, KK⟩, by simp only [intOf]; omega⟩
        ·
          go_simp
          refine (law08_at _ _ _).mono ?_
          rintro e v13 ⟨rfl, hb13⟩
          refine hK.out _ _ (hHeld.below hb13) (fun hHeld => ?_)
          replace KK : Hid (QM U xb (xb + 1) (S.rules.take j) [] [] xr (.slice none 0 0) (.slice none 0 0) [] [] v13 ∧ Bx v13 cb r.cs) := ⟨KK.out.1.below hb13, KK.out.2.below hb13⟩
          clear hK K hb13
          refine wpAnyH_take (i := 20) (v := ?_) (oi := { dst := some 44, op := _, type := _, pos := _, after := _, guard := none }) rfl (by kernel_rfl) (by kernel_rfl) (by kernel_rfl) (fun _ _ _ h => h) (Or.inl ⟨by kernel_rfl, ?_⟩) (by assumption) ?_
          case refine_2 => (intro w9 hSw; clear hSw; go_simp; try with_reducible rfl)
          simp only [Act.put, List.setIfInBounds_toArray, List.set_cons_zero, List.set_cons_succ]
          refine wpAnyH_ready (rs := [1, 21]) (by kernel_rfl) (by simp) (AllReadyH.cons (o := { dst := some 25, op := _, type := _, pos := _, after := _, guard := none }) rfl (fun K hK => ?_) (AllReadyH.cons (o := { dst := some 45, op := _, type := _, pos := _, after := _, guard := none }) rfl (fun K hK => ?_) AllReadyH.nil))
          ·
            have q0 := KK.out.1.box.c 0 rfl
            go_simp
            refine hK.out _ _ hHeld (fun hHeld => ?_)
            clear hK K q0
            refine wpAnyH_ready (rs := [21]) (by kernel_rfl) (by simp) (AllReadyH.cons (o := { dst := some 45, op := _, type := _, pos := _, after := _, guard := none }) rfl (fun K hK => ?_) AllReadyH.nil)
            go_simp
            refine hK.out _ _ (hHeld.alloc _) (fun hHeld => ?_)
            obtain ⟨BR, hBR⟩ : ∃ BR, BR = v13.heap.size := ⟨_, rfl⟩
            have KN : Hid (QM U xb (xb + 1) (S.rules.take j) [] [] xr (.slice none 0 0) (.slice none 0 0) [] [] (v13.alloc (.cells #[.string r.nm, .int .i64 r.fr, .int .i64 r.tt, .int .i64 r.mo, .int .i64 r.oa, .int .i64 r.ob, .int .i64 r.oc, .int .i64 r.ta, .int .u8 r.tz, .int .i64 r.sv, .string r.lt] 71)) ∧ Bx (v13.alloc (.cells #[.string r.nm, .int .i64 r.fr, .int .i64 r.tt, .int .i64 r.mo, .int .i64 r.oa, .int .i64 r.ob, .int .i64 r.oc, .int .i64 r.ta, .int .u8 r.tz, .int .i64 r.sv, .string r.lt] 71)) BR r.cs ∧ Bx (v13.alloc (.cells #[.string r.nm, .int .i64 r.fr, .int .i64 r.tt, .int .i64 r.mo, .int .i64 r.oa, .int .i64 r.ob, .int .i64 r.oc, .int .i64 r.ta, .int .u8 r.tz, .int .i64 r.sv, .string r.lt] 71)) cb r.cs) := ⟨KK.out.1.below ((Below.refl _ _).alloc (Nat.le_refl _) _), by rw [hBR]; exact Bx.new v13 r.cs _, KK.out.2.alloc _⟩
            refine gen_any (fun V' => (QM U xb (xb + 1) (S.rules.take j) [] [] xr (.slice none 0 0) (.slice none 0 0) [] [] V' ∧ Bx V' BR r.cs ∧ Bx V' cb r.cs)) KN.out ?_
            rw [← hBR]
            clear hHeld hK K KN hBR KK
            intro v15 kk
            have KK : Hid (QM U xb (xb + 1) (S.rules.take j) [] [] xr (.slice none 0 0) (.slice none 0 0) [] [] v15 ∧ Bx v15 BR r.cs) := ⟨kk.1, kk.2.1⟩
            have hHeld : Bx v15 cb r.cs := kk.2.2
            clear kk
            refine wpAnyH_ready (rs := [22]) (by kernel_rfl) (by simp) (AllReadyH.cons (o := { dst := some 46, op := _, type := _, pos := _, after := _, guard := none }) rfl (fun K hK => ?_) AllReadyH.nil)
            refine (if_pos (by kernel_rfl)).mpr (wp_append_newP _ _ 30 rfl (xb + 1) 71 i0 ruleQZ 11 104 Tryz.underlying30 hi0 iz0 iz1 iz2 rfl (by decide) xr (S.rules.take j).length (ruleXs (S.rules.take j)) rfl KK.out.1.getR ⟨BR, 0, none⟩ 1 r.cs rfl rfl (fun j u hj => by rw [show (⟨BR, 0, none⟩ : Addr).add j = ⟨BR, j, none⟩ from by rw [Addr.add_lit]; simp]; exact (KK.out.2.2 j u hj).1) (rule_oneP r) (by rw [hlj]; unfold maxLen; omega) (by rw [hlj]; omega) KK.out.1.BV ?_)
            intro v' w4 hown' hgrow hnew
            obtain ⟨sq', sn', sc', hv'⟩ := own_sliceP hown'
            subst hv'
            have hq2 : Bx w4 cb r.cs := bx_growP hHeld hgrow (fun e => hcbn _ e rfl)
            have HQ : Hid (QM U xb (xb + 1) (S.rules.take (j + 1)) [] [] (.slice sq' sn' sc') (.slice none 0 0) (.slice none 0 0) [] [] (w4.setCell ⟨xb, 0, none⟩ (.slice sq' sn' sc')) ∧ Bx (w4.setCell ⟨xb, 0, none⟩ (.slice sq' sn' sc')) cb r.cs) := ⟨by rw [take_snoc hr]; exact KK.out.1.ruled r hgrow hnew hown', hq2.set9 (by omega) _⟩
            have HBX : Hid (Bx w4 xb _) := KK.out.1.grownBox hgrow (fun c e => (own_ltP KK.out.1.getR e).1)
            refine hK.out _ _ hq2 (fun hHeld => ?_)
            clear hK K hown' hgrow hnew KK hq2
            refine wpAnyH_take (i := 23) (v := ?_) (oi := { dst := some 47, op := _, type := _, pos := _, after := _, guard := none }) rfl (by kernel_rfl) (by kernel_rfl) (by kernel_rfl) (fun _ _ _ h => h) (Or.inl ⟨by kernel_rfl, ?_⟩) (by assumption) ?_
            case refine_2 => (intro w9 hSw; clear hSw; go_simp; try with_reducible rfl)
            simp only [Act.put, List.setIfInBounds_toArray, List.set_cons_zero, List.set_cons_succ]
            refine wpAnyH_ready (rs := [24]) (by kernel_rfl) (by simp) (AllReadyH.cons (o := { dst := none, op := _, type := _, pos := _, after := _, guard := none }) rfl (fun K hK => ?_) AllReadyH.nil)
            have c2 := HBX.out.c 0 rfl
            have z2 := HBX.out.f 0 rfl
            have h4 := HBX.out.1
            go_simp
            refine hK.out _ _ HQ.out.2 (fun hHeld => ?_)
            refine gen_any (fun V' => QM U xb (xb + 1) (S.rules.take (j + 1)) [] [] (.slice sq' sn' sc') (.slice none 0 0) (.slice none 0 0) [] [] V') HQ.out.1 ?_
            clear hHeld hK K HQ HBX c2 z2 h4
            intro v17 kk
            have KK : Hid (QM U xb (xb + 1) (S.rules.take (j + 1)) [] [] (.slice sq' sn' sc') (.slice none 0 0) (.slice none 0 0) [] [] v17) := kk
            clear kk
            refine wpAnyH_done (by kernel_rfl) ?_ _
            go_wp2_with fail
            exact ⟨⟨j + 1, _, rfl, by omega, KK⟩, by simp only [intOf]; omega⟩
          ·
            go_simp
            refine hK.out _ _ (hHeld.alloc _) (fun hHeld => ?_)
            obtain ⟨BR, hBR⟩ : ∃ BR, BR = v13.heap.size := ⟨_, rfl⟩
            have KN : Hid (QM U xb (xb + 1) (S.rules.take j) [] [] xr (.slice none 0 0) (.slice none 0 0) [] [] (v13.alloc (.cells #[.string r.nm, .int .i64 r.fr, .int .i64 r.tt, .int .i64 r.mo, .int .i64 r.oa, .int .i64 r.ob, .int .i64 r.oc, .int .i64 r.ta, .int .u8 r.tz, .int .i64 r.sv, .string r.lt] 71)) ∧ Bx (v13.alloc (.cells #[.string r.nm, .int .i64 r.fr, .int .i64 r.tt, .int .i64 r.mo, .int .i64 r.oa, .int .i64 r.ob, .int .i64 r.oc, .int .i64 r.ta, .int .u8 r.tz, .int .i64 r.sv, .string r.lt] 71)) BR r.cs ∧ Bx (v13.alloc (.cells #[.string r.nm, .int .i64 r.fr, .int .i64 r.tt, .int .i64 r.mo, .int .i64 r.oa, .int .i64 r.ob, .int .i64 r.oc, .int .i64 r.ta, .int .u8 r.tz, .int .i64 r.sv, .string r.lt] 71)) cb r.cs) := ⟨KK.out.1.below ((Below.refl _ _).alloc (Nat.le_refl _) _), by rw [hBR]; exact Bx.new v13 r.cs _, KK.out.2.alloc _⟩
            refine gen_any (fun V' => (QM U xb (xb + 1) (S.rules.take j) [] [] xr (.slice none 0 0) (.slice none 0 0) [] [] V' ∧ Bx V' BR r.cs ∧ Bx V' cb r.cs)) KN.out ?_
            rw [← hBR]
            clear hHeld hK K KN hBR KK
            intro v18 kk
            have KK : Hid (QM U xb (xb + 1) (S.rules.take j) [] [] xr (.slice none 0 0) (.slice none 0 0) [] [] v18 ∧ Bx v18 BR r.cs) := ⟨kk.1, kk.2.1⟩
            have hHeld : Bx v18 cb r.cs := kk.2.2
            clear kk
            refine wpAnyH_ready (rs := [1]) (by kernel_rfl) (by simp) (AllReadyH.cons (o := { dst := some 25, op := _, type := _, pos := _, after := _, guard := none }) rfl (fun K hK => ?_) AllReadyH.nil)
            have q0 := KK.out.1.box.c 0 rfl
            go_simp
            refine hK.out _ _ hHeld (fun hHeld => ?_)
            clear hK K q0
            refine wpAnyH_ready (rs := [22]) (by kernel_rfl) (by simp) (AllReadyH.cons (o := { dst := some 46, op := _, type := _, pos := _, after := _, guard := none }) rfl (fun K hK => ?_) AllReadyH.nil)
            refine (if_pos (by kernel_rfl)).mpr (wp_append_newP _ _ 30 rfl (xb + 1) 71 i0 ruleQZ 11 104 Tryz.underlying30 hi0 iz0 iz1 iz2 rfl (by decide) xr (S.rules.take j).length (ruleXs (S.rules.take j)) rfl KK.out.1.getR ⟨BR, 0, none⟩ 1 r.cs rfl rfl (fun j u hj => by rw [show (⟨BR, 0, none⟩ : Addr).add j = ⟨BR, j, none⟩ from by rw [Addr.add_lit]; simp]; exact (KK.out.2.2 j u hj).1) (rule_oneP r) (by rw [hlj]; unfold maxLen; omega) (by rw [hlj]; omega) KK.out.1.BV ?_)
            intro v' w4 hown' hgrow hnew
            obtain ⟨sq', sn', sc', hv'⟩ := own_sliceP hown'
            subst hv'
            have hq2 : Bx w4 cb r.cs := bx_growP hHeld hgrow (fun e => hcbn _ e rfl)
            have HQ : Hid (QM U xb (xb + 1) (S.rules.take (j + 1)) [] [] (.slice sq' sn' sc') (.slice none 0 0) (.slice none 0 0) [] [] (w4.setCell ⟨xb, 0, none⟩ (.slice sq' sn' sc')) ∧ Bx (w4.setCell ⟨xb, 0, none⟩ (.slice sq' sn' sc')) cb r.cs) := ⟨by rw [take_snoc hr]; exact KK.out.1.ruled r hgrow hnew hown', hq2.set9 (by omega) _⟩
            have HBX : Hid (Bx w4 xb _) := KK.out.1.grownBox hgrow (fun c e => (own_ltP KK.out.1.getR e).1)
            refine hK.out _ _ hq2 (fun hHeld => ?_)
            clear hK K hown' hgrow hnew KK hq2
            refine wpAnyH_take (i := 23) (v := ?_) (oi := { dst := some 47, op := _, type := _, pos := _, after := _, guard := none }) rfl (by kernel_rfl) (by kernel_rfl) (by kernel_rfl) (fun _ _ _ h => h) (Or.inl ⟨by kernel_rfl, ?_⟩) (by assumption) ?_
            case refine_2 => (intro w9 hSw; clear hSw; go_simp; try with_reducible rfl)
            simp only [Act.put, List.setIfInBounds_toArray, List.set_cons_zero, List.set_cons_succ]
            refine wpAnyH_ready (rs := [24]) (by kernel_rfl) (by simp) (AllReadyH.cons (o := { dst := none, op := _, type := _, pos := _, after := _, guard := none }) rfl (fun K hK => ?_) AllReadyH.nil)
            have c2 := HBX.out.c 0 rfl
            have z2 := HBX.out.f 0 rfl
            have h4 := HBX.out.1
            go_simp
            refine hK.out _ _ HQ.out.2 (fun hHeld => ?_)
            refine gen_any (fun V' => QM U xb (xb + 1) (S.rules.take (j + 1)) [] [] (.slice sq' sn' sc') (.slice none 0 0) (.slice none 0 0) [] [] V') HQ.out.1 ?_
            clear hHeld hK K HQ HBX c2 z2 h4
            intro v21 kk
            have KK : Hid (QM U xb (xb + 1) (S.rules.take (j + 1)) [] [] (.slice sq' sn' sc') (.slice none 0 0) (.slice none 0 0) [] [] v21) := kk
            clear kk
            refine wpAnyH_done (by kernel_rfl) ?_ _
            go_wp2_with fail
            exact ⟨⟨j + 1, _, rfl, by omega, KK⟩, by simp only [intOf]; omega⟩
    · have hjI : ¬ (j : Int) < (S.rules.length : Int) := by omega
      have hjL : j = S.rules.length := by omega
      have QA : Hid (QM U xb (xb + 1) S.rules [] [] xr (.slice none 0 0) (.slice none 0 0) [] [] wr) := by have := KQ.out; rw [hjL, List.take_length] at this; exact this
      clear KQ
      go_wp2_with fail
      go_loopw [6] (fun iv W => ∃ (j : Nat) (xz : Value) (xs : List Value), iv = .int .i64 (j : Int) ∧ j ≤ S.zones.length ∧ Hid (QM U xb (xb + 1) S.rules (S.zones.take j) [] xr (.slice none 0 0) xz xs [] W)) (fun iv _ => S.zones.length - (intOf iv).toNat)
      case atStart => exact ⟨0, _, _, rfl, Nat.zero_le _, QA⟩
      case round =>
        clear hj hj0 hjn hjI hjL t0 tl
        obtain ⟨j, xz, xs, rfl, hj, KQ⟩ := hrel
        clear QA
        have hj0 : (0 : Int) ≤ (j : Int) := by omega
        have t1 := (XT.out.below KQ.out.low).c 1 rfl
        have tl := (XT.out.below KQ.out.low).1
        by_cases hjn : j < S.zones.length
        · have hjI : (j : Int) < (S.zones.length : Int) := by omega
          have hjw : IntKind.i64.wrap ((j : Int) + 1) = (j : Int) + 1 := by rw [IntKind.wrap_i64]; omega
          have hnz : (S.zones.length : Int) ≤ 9223372036854775807 := by omega
          obtain ⟨b, hb, hbB⟩ := hz3 (by omega)
          subst hb
          obtain ⟨z, hz⟩ : ∃ z, S.zones[j]? = some z := ⟨_, List.getElem?_eq_getElem hjn⟩
          have hlj : (S.zones.take j).length = j := by rw [List.length_take]; omega
          have hze9 := nze z (List.mem_of_getElem? hz)
          obtain ⟨nm, E⟩ := z
          simp only at hze9
          obtain ⟨ve9, g0, g1, g2⟩ := zoneXs_at _ _ j _ hlen hz
          simp only at g0
          obtain ⟨ae, ce, hve, he1, he2, he3⟩ := own_rowP (famEra FU.out hz g2)
          simp only at hve he1 he3
          subst hve
          have hown := (FU.out.below KQ.out.low).get 3 rfl
          have f0 := (hown.cellAt (j * 2) (by show _ < S.zones.length * 2; omega)).trans g0
          have f1 := (hown.cellAt (j * 2 + 1) (by show _ < S.zones.length * 2; omega)).trans g1
          have hbw := World.block_lt_of_cell? _ _ f0
          simp only at hbw
          obtain ⟨zb, hzb⟩ : ∃ zb, zb = wr.heap.size := ⟨_, rfl⟩
          have hzx : xb < zb := by have := KQ.out.box.1; omega
          have HN : Hid (∀ r9 ∈ rowsQ S.rules (S.zones.take j) [] xr (.slice none 0 0) xz xs, ∀ c9, r9.v.ownBlock = some c9 → c9 < zb) := fun r9 h9 c9 e9 => by rw [hzb]; exact (KQ.out.fam.lt (List.mem_append_left _ h9) e9).2
          have E0 : Hid (QM U xb (xb + 1) S.rules (S.zones.take j) [] xr (.slice none 0 0) xz xs [⟨78, 11, (.slice none 0 0), (E.take 0).length, eraXs (E.take 0)⟩] (wr.alloc (.cells #[.string nm, .slice none 0 0] 74)) ∧ Bx (wr.alloc (.cells #[.string nm, .slice none 0 0] 74)) zb [.string nm, .slice none 0 0]) := ⟨by rw [List.take_zero]; exact (KQ.out.below ((Below.refl _ _).alloc (Nat.le_refl _) _)).begun, by rw [hzb]; exact Bx.new wr [.string nm, .slice none 0 0] _⟩
          clear hown
          go_upto_region 11 with fail
          refine gen_code (fun W => QM U xb (xb + 1) S.rules (S.zones.take j) [] xr (.slice none 0 0) xz xs [⟨78, 11, (.slice none 0 0), (E.take 0).length, eraXs (E.take 0)⟩] W ∧ Bx W zb [.string nm, .slice none 0 0]) E0.out ?_
          clear E0 KQ t1 tl hbw f0 f1
          intro w1 kk
          have KK : Hid (QM U xb (xb + 1) S.rules (S.zones.take j) [] xr (.slice none 0 0) xz xs [⟨78, 11, (.slice none 0 0), (E.take 0).length, eraXs (E.take 0)⟩] w1 ∧ Bx w1 zb [.string nm, .slice none 0 0]) := kk
          clear kk
          rw [← hzb]
          clear hzb
          go_wp2_with fail
          go_loopw [8] (fun iv W => ∃ (k : Nat) (va : Value), iv = .int .i64 (k : Int) ∧ k ≤ E.length ∧ Hid (QM U xb (xb + 1) S.rules (S.zones.take j) [] xr (.slice none 0 0) xz xs [⟨78, 11, va, (E.take k).length, eraXs (E.take k)⟩] W) ∧ Hid (Bx W zb [.string nm, va]) ∧ Hid (∀ c, va.ownBlock = some c → zb < c)) (fun iv _ => E.length - (intOf iv).toNat)
          case atStart => exact ⟨0, _, rfl, Nat.zero_le _, KK.out.1, KK.out.2, fun c e => by cases e⟩
          case round =>
            obtain ⟨k, va, rfl, hk, KE, KZ, HV⟩ := hrel
            clear KK
            have hk0 : (0 : Int) ≤ (k : Int) := by omega
            have t1 := (XT.out.below KE.out.low).c 1 rfl
            have tl := (XT.out.below KE.out.low).1
            have hown := (FU.out.below KE.out.low).get 3 rfl
            have f1 := (hown.cellAt (j * 2 + 1) (by show _ < S.zones.length * 2; omega)).trans g1
            have hbw := World.block_lt_of_cell? _ _ f1
            simp only at hbw
            clear hown
            by_cases hkn : k < E.length
            · have hkI : (k : Int) < (E.length : Int) := by omega
              have hkw : IntKind.i64.wrap ((k : Int) + 1) = (k : Int) + 1 := by rw [IntKind.wrap_i64]; omega
              have hnE : (E.length : Int) ≤ 9223372036854775807 := by omega
              obtain ⟨b5, hb5, hb5B⟩ := he3 (by omega)
              subst hb5
              obtain ⟨r, hre⟩ : ∃ r, E[k]? = some r := ⟨_, List.getElem?_eq_getElem hkn⟩
              have hlk : (E.take k).length = k := by rw [List.length_take]; omega
              have hoe := famEra (FU.out.below KE.out.low) hz g2
              have d0 := (hoe.cellAt (k * 11) (by show _ < E.length * 11; omega)).trans (eraXs_at _ k 0 r _ hre rfl)
              have d1 := (hoe.cellAt (k * 11 + 1) (by show _ < E.length * 11; omega)).trans (eraXs_at _ k 1 r _ hre rfl)
              have d2 := (hoe.cellAt (k * 11 + 2) (by show _ < E.length * 11; omega)).trans (eraXs_at _ k 2 r _ hre rfl)
              have d3 := (hoe.cellAt (k * 11 + 3) (by show _ < E.length * 11; omega)).trans (eraXs_at _ k 3 r _ hre rfl)
              have d4 := (hoe.cellAt (k * 11 + 4) (by show _ < E.length * 11; omega)).trans (eraXs_at _ k 4 r _ hre rfl)
              have d5 := (hoe.cellAt (k * 11 + 5) (by show _ < E.length * 11; omega)).trans (eraXs_at _ k 5 r _ hre rfl)
              have d6 := (hoe.cellAt (k * 11 + 6) (by show _ < E.length * 11; omega)).trans (eraXs_at _ k 6 r _ hre rfl)
              have d7 := (hoe.cellAt (k * 11 + 7) (by show _ < E.length * 11; omega)).trans (eraXs_at _ k 7 r _ hre rfl)
              have d8 := (hoe.cellAt (k * 11 + 8) (by show _ < E.length * 11; omega)).trans (eraXs_at _ k 8 r _ hre rfl)
              have d9 := (hoe.cellAt (k * 11 + 9) (by show _ < E.length * 11; omega)).trans (eraXs_at _ k 9 r _ hre rfl)
              have d10 := (hoe.cellAt (k * 11 + 10) (by show _ < E.length * 11; omega)).trans (eraXs_at _ k 10 r _ hre rfl)
              have hb5w := World.block_lt_of_cell? _ _ d0
              simp only at hb5w
              obtain ⟨cb, hcb⟩ : ∃ cb, cb = wr.heap.size := ⟨_, rfl⟩
              have hcx : xb < cb := by have := KE.out.box.1; omega
              have hzc : zb < cb := by have := KZ.out.1; omega
              have E0 : Hid (QM U xb (xb + 1) S.rules (S.zones.take j) [] xr (.slice none 0 0) xz xs [⟨78, 11, va, (E.take k).length, eraXs (E.take k)⟩] (wr.alloc (.cells #[.int .i64 r.off, .string r.rl, .int .i64 r.sv, .string r.fm, .int .i64 r.u.y, .int .i64 r.u.mo, .int .i64 r.u.oa, .int .i64 r.u.ob, .int .i64 r.u.oc, .int .i64 r.u.ta, .int .u8 r.u.tz] 94)) ∧ Bx (wr.alloc (.cells #[.int .i64 r.off, .string r.rl, .int .i64 r.sv, .string r.fm, .int .i64 r.u.y, .int .i64 r.u.mo, .int .i64 r.u.oa, .int .i64 r.u.ob, .int .i64 r.u.oc, .int .i64 r.u.ta, .int .u8 r.u.tz] 94)) zb [.string nm, va] ∧ Bx (wr.alloc (.cells #[.int .i64 r.off, .string r.rl, .int .i64 r.sv, .string r.fm, .int .i64 r.u.y, .int .i64 r.u.mo, .int .i64 r.u.oa, .int .i64 r.u.ob, .int .i64 r.u.oc, .int .i64 r.u.ta, .int .u8 r.u.tz] 94)) cb r.cs) := ⟨KE.out.below ((Below.refl _ _).alloc (Nat.le_refl _) _), KZ.out.alloc _, by rw [hcb]; exact Bx.new wr r.cs _⟩
              clear hoe
              go_upto_region 15 with fail
              refine gen_code (fun W => (QM U xb (xb + 1) S.rules (S.zones.take j) [] xr (.slice none 0 0) xz xs [⟨78, 11, va, (E.take k).length, eraXs (E.take k)⟩] W ∧ Bx W zb [.string nm, va] ∧ Bx W cb r.cs)) E0.out ?_
              clear E0 KE KZ t1 tl hbw f1 hb5w d0 d1 d2 d3 d4 d5 d6 d7 d8 d9 d10
              intro w2 kk
              have KK : Hid (QM U xb (xb + 1) S.rules (S.zones.take j) [] xr (.slice none 0 0) xz xs [⟨78, 11, va, (E.take k).length, eraXs (E.take k)⟩] w2 ∧ Bx w2 zb [.string nm, va] ∧ Bx w2 cb r.cs) := kk
              clear kk
              rw [← hcb]
              clear hcb
              go_wp2_with fail
              refine wp_region_held_drew (S := fun W => Bx W cb r.cs) (by kernel_rfl) KK.out.2.2 (fun hHeld => ?_)
              refine gen_any (fun V' => (QM U xb (xb + 1) S.rules (S.zones.take j) [] xr (.slice none 0 0) xz xs [⟨78, 11, va, (E.take k).length, eraXs (E.take k)⟩] V' ∧ Bx V' zb [.string nm, va] ∧ Bx V' cb r.cs)) ⟨KK.out.1.drew, KK.out.2⟩ ?_
              clear hHeld KK
              intro x0 kk
              have KK : Hid (QM U xb (xb + 1) S.rules (S.zones.take j) [] xr (.slice none 0 0) xz xs [⟨78, 11, va, (E.take k).length, eraXs (E.take k)⟩] x0 ∧ Bx x0 zb [.string nm, va] ∧ Bx x0 cb r.cs) := kk
              have hHeld : Bx x0 cb r.cs := kk.2.2
              clear kk
              refine wpAnyH_take (i := 0) (v := ?_) (oi := { dst := some 82, op := _, type := _, pos := _, after := _, guard := none }) rfl (by kernel_rfl) (by kernel_rfl) (by kernel_rfl) (fun _ _ _ h => h) (Or.inl ⟨by kernel_rfl, ?_⟩) (by assumption) ?_
              case refine_2 => (intro w9 hSw; clear hSw; go_simp; try with_reducible rfl)
              simp only [Act.put, List.setIfInBounds_toArray, List.set_cons_zero, List.set_cons_succ]
              refine wpAnyH_take (i := 1) (v := ?_) (oi := { dst := some 83, op := _, type := _, pos := _, after := _, guard := none }) rfl (by kernel_rfl) (by kernel_rfl) (by kernel_rfl) (fun _ _ _ h => h) (Or.inl ⟨by kernel_rfl, ?_⟩) (by assumption) ?_
              case refine_2 => (intro w9 hSw; clear hSw; go_simp; try with_reducible rfl)
              simp only [Act.put, List.setIfInBounds_toArray, List.set_cons_zero, List.set_cons_succ]
              refine wpAnyH_take (i := 2) (v := ?_) (oi := { dst := some 84, op := _, type := _, pos := _, after := _, guard := none }) rfl (by kernel_rfl) (by kernel_rfl) (by kernel_rfl) (fun _ _ _ h => h) (Or.inl ⟨by kernel_rfl, ?_⟩) (by assumption) ?_
              case refine_2 => (intro w9 hSw; have q0 := hSw.c 0 rfl; have q1 := hSw.c 1 rfl; have q2 := hSw.c 2 rfl; have q3 := hSw.c 3 rfl; have q4 := hSw.c 4 rfl; have q5 := hSw.c 5 rfl; have q6 := hSw.c 6 rfl; have q7 := hSw.c 7 rfl; have q8 := hSw.c 8 rfl; have q9 := hSw.c 9 rfl; have q10 := hSw.c 10 rfl; clear hSw; go_simp; try with_reducible rfl)
              simp only [Act.put, List.setIfInBounds_toArray, List.set_cons_zero, List.set_cons_succ]
              refine wpAnyH_take (i := 3) (v := ?_) (oi := { dst := some 85, op := _, type := _, pos := _, after := _, guard := none }) rfl (by kernel_rfl) (by kernel_rfl) (by kernel_rfl) (fun _ _ _ h => h) (Or.inl ⟨by kernel_rfl, ?_⟩) (by assumption) ?_
              case refine_2 => (intro w9 hSw; clear hSw; go_simp; try with_reducible rfl)
              simp only [Act.put, List.setIfInBounds_toArray, List.set_cons_zero, List.set_cons_succ]
              refine wpAnyH_take (i := 4) (v := ?_) (oi := { dst := some 86, op := _, type := _, pos := _, after := _, guard := none }) rfl (by kernel_rfl) (by kernel_rfl) (by kernel_rfl) (fun _ _ _ h => h) (Or.inl ⟨by kernel_rfl, ?_⟩) (by assumption) ?_
              case refine_2 => (intro w9 hSw; clear hSw; go_simp; try with_reducible rfl)
              simp only [Act.put, List.setIfInBounds_toArray, List.set_cons_zero, List.set_cons_succ]
              refine wpAnyH_take (i := 5) (v := ?_) (oi := { dst := some 87, op := _, type := _, pos := _, after := _, guard := none }) rfl (by kernel_rfl) (by kernel_rfl) (by kernel_rfl) (fun _ _ _ h => h) (Or.inl ⟨by kernel_rfl, ?_⟩) (by assumption) ?_
              case refine_2 => (intro w9 hSw; have q0 := hSw.c 0 rfl; have q1 := hSw.c 1 rfl; have q2 := hSw.c 2 rfl; have q3 := hSw.c 3 rfl; have q4 := hSw.c 4 rfl; have q5 := hSw.c 5 rfl; have q6 := hSw.c 6 rfl; have q7 := hSw.c 7 rfl; have q8 := hSw.c 8 rfl; have q9 := hSw.c 9 rfl; have q10 := hSw.c 10 rfl; clear hSw; go_simp; try with_reducible rfl)
              simp only [Act.put, List.setIfInBounds_toArray, List.set_cons_zero, List.set_cons_succ]
              refine wpAnyH_take (i := 6) (v := ?_) (oi := { dst := some 88, op := _, type := _, pos := _, after := _, guard := none }) rfl (by kernel_rfl) (by kernel_rfl) (by kernel_rfl) (fun _ _ _ h => h) (Or.inl ⟨by kernel_rfl, ?_⟩) (by assumption) ?_
              case refine_2 => (intro w9 hSw; clear hSw; go_simp; try with_reducible rfl)
              simp only [Act.put, List.setIfInBounds_toArray, List.set_cons_zero, List.set_cons_succ]
              refine wpAnyH_take (i := 7) (v := ?_) (oi := { dst := some 89, op := _, type := _, pos := _, after := _, guard := none }) rfl (by kernel_rfl) (by kernel_rfl) (by kernel_rfl) (fun _ _ _ h => h) (Or.inl ⟨by kernel_rfl, ?_⟩) (by assumption) ?_
              case refine_2 => (intro w9 hSw; clear hSw; go_simp; try with_reducible rfl)
              simp only [Act.put, List.setIfInBounds_toArray, List.set_cons_zero, List.set_cons_succ]
              refine wpAnyH_take (i := 8) (v := ?_) (oi := { dst := some 90, op := _, type := _, pos := _, after := _, guard := none }) rfl (by kernel_rfl) (by kernel_rfl) (by kernel_rfl) (fun _ _ _ h => h) (Or.inl ⟨by kernel_rfl, ?_⟩) (by assumption) ?_
              case refine_2 => (intro w9 hSw; have q0 := hSw.c 0 rfl; have q1 := hSw.c 1 rfl; have q2 := hSw.c 2 rfl; have q3 := hSw.c 3 rfl; have q4 := hSw.c 4 rfl; have q5 := hSw.c 5 rfl; have q6 := hSw.c 6 rfl; have q7 := hSw.c 7 rfl; have q8 := hSw.c 8 rfl; have q9 := hSw.c 9 rfl; have q10 := hSw.c 10 rfl; clear hSw; go_simp; try with_reducible rfl)
              simp only [Act.put, List.setIfInBounds_toArray, List.set_cons_zero, List.set_cons_succ]
              refine wpAnyH_take (i := 10) (v := ?_) (oi := { dst := some 92, op := _, type := _, pos := _, after := _, guard := none }) rfl (by kernel_rfl) (by kernel_rfl) (by kernel_rfl) (fun _ _ _ h => h) (Or.inl ⟨by kernel_rfl, ?_⟩) (by assumption) ?_
              case refine_2 => (intro w9 hSw; clear hSw; go_simp; try with_reducible rfl)
              simp only [Act.put, List.setIfInBounds_toArray, List.set_cons_zero, List.set_cons_succ]
              refine wpAnyH_take (i := 11) (v := ?_) (oi := { dst := some 93, op := _, type := _, pos := _, after := _, guard := none }) rfl (by kernel_rfl) (by kernel_rfl) (by kernel_rfl) (fun _ _ _ h => h) (Or.inl ⟨by kernel_rfl, ?_⟩) (by assumption) ?_
              case refine_2 => (intro w9 hSw; clear hSw; go_simp; try with_reducible rfl)
              simp only [Act.put, List.setIfInBounds_toArray, List.set_cons_zero, List.set_cons_succ]
              refine wpAnyH_take (i := 12) (v := ?_) (oi := { dst := some 94, op := _, type := _, pos := _, after := _, guard := none }) rfl (by kernel_rfl) (by kernel_rfl) (by kernel_rfl) (fun _ _ _ h => h) (Or.inl ⟨by kernel_rfl, ?_⟩) (by assumption) ?_
              case refine_2 => (intro w9 hSw; have q0 := hSw.c 0 rfl; have q1 := hSw.c 1 rfl; have q2 := hSw.c 2 rfl; have q3 := hSw.c 3 rfl; have q4 := hSw.c 4 rfl; have q5 := hSw.c 5 rfl; have q6 := hSw.c 6 rfl; have q7 := hSw.c 7 rfl; have q8 := hSw.c 8 rfl; have q9 := hSw.c 9 rfl; have q10 := hSw.c 10 rfl; clear hSw; go_simp; try with_reducible rfl)
              simp only [Act.put, List.setIfInBounds_toArray, List.set_cons_zero, List.set_cons_succ]
              refine wpAnyH_ready (rs := [9, 15]) (by kernel_rfl) (by simp) (AllReadyH.cons (o := { dst := some 91, op := _, type := _, pos := _, after := _, guard := none }) rfl (fun K hK => ?_) (AllReadyH.cons (o := { dst := some 10, op := _, type := _, pos := _, after := _, guard := none }) rfl (fun K hK => ?_) AllReadyH.nil))
              ·
                go_simp
                refine (law08_on _ _ _ _).mono ?_
                rintro e v1 ⟨rfl, hb1⟩
                refine hK.out _ _ (hHeld.below hb1) (fun hHeld => ?_)
                replace KK : Hid (QM U xb (xb + 1) S.rules (S.zones.take j) [] xr (.slice none 0 0) xz xs [⟨78, 11, va, (E.take k).length, eraXs (E.take k)⟩] v1 ∧ Bx v1 zb [.string nm, va] ∧ Bx v1 cb r.cs) := ⟨KK.out.1.below hb1, KK.out.2.1.below hb1, KK.out.2.2.below hb1⟩
                clear hK K hb1
                refine wpAnyH_ready (rs := [13, 15]) (by kernel_rfl) (by simp) (AllReadyH.cons (o := { dst := some 95, op := _, type := _, pos := _, after := _, guard := none }) rfl (fun K hK => ?_) (AllReadyH.cons (o := { dst := some 10, op := _, type := _, pos := _, after := _, guard := none }) rfl (fun K hK => ?_) AllReadyH.nil))
                ·
                  go_simp
                  refine (law08_at _ _ _).mono ?_
                  rintro e v2 ⟨rfl, hb2⟩
                  refine hK.out _ _ (hHeld.below hb2) (fun hHeld => ?_)
                  replace KK : Hid (QM U xb (xb + 1) S.rules (S.zones.take j) [] xr (.slice none 0 0) xz xs [⟨78, 11, va, (E.take k).length, eraXs (E.take k)⟩] v2 ∧ Bx v2 zb [.string nm, va] ∧ Bx v2 cb r.cs) := ⟨KK.out.1.below hb2, KK.out.2.1.below hb2, KK.out.2.2.below hb2⟩
                  clear hK K hb2
                  refine wpAnyH_take (i := 14) (v := ?_) (oi := { dst := some 96, op := _, type := _, pos := _, after := _, guard := none }) rfl (by kernel_rfl) (by kernel_rfl) (by kernel_rfl) (fun _ _ _ h => h) (Or.inl ⟨by kernel_rfl, ?_⟩) (by assumption) ?_
                  case refine_2 => (intro w9 hSw; clear hSw; go_simp; try with_reducible rfl)
                  simp only [Act.put, List.setIfInBounds_toArray, List.set_cons_zero, List.set_cons_succ]
                  refine wpAnyH_ready (rs := [15]) (by kernel_rfl) (by simp) (AllReadyH.cons (o := { dst := some 10, op := _, type := _, pos := _, after := _, guard := none }) rfl (fun K hK => ?_) AllReadyH.nil)
                  go_simp
                  refine hK.out _ _ (hHeld.alloc _) (fun hHeld => ?_)
                  obtain ⟨ub, hub⟩ : ∃ ub, ub = v2.heap.size := ⟨_, rfl⟩
                  have HU : Hid (∀ r9 ∈ rowsQ S.rules (S.zones.take j) [] xr (.slice none 0 0) xz xs ++ [⟨78, 11, va, (E.take k).length, eraXs (E.take k)⟩], ∀ c9, r9.v.ownBlock = some c9 → c9 < ub) := fun r9 h9 c9 e9 => by rw [hub]; exact (KK.out.1.fam.lt h9 e9).2
                  have hux : xb < ub := by have := KK.out.1.box.1; omega
                  have hzu : zb < ub := by have := KK.out.2.1.1; omega
                  have hcu : cb < ub := by have := KK.out.2.2.1; omega
                  have KN : Hid (QM U xb (xb + 1) S.rules (S.zones.take j) [] xr (.slice none 0 0) xz xs [⟨78, 11, va, (E.take k).length, eraXs (E.take k)⟩] (v2.alloc (.cells #[.int .i64 0, .int .i64 0, .int .i64 0, .int .i64 0, .int .i64 0, .int .i64 0, .int .u8 0] 76)) ∧ Bx (v2.alloc (.cells #[.int .i64 0, .int .i64 0, .int .i64 0, .int .i64 0, .int .i64 0, .int .i64 0, .int .u8 0] 76)) zb [.string nm, va] ∧ Bx (v2.alloc (.cells #[.int .i64 0, .int .i64 0, .int .i64 0, .int .i64 0, .int .i64 0, .int .i64 0, .int .u8 0] 76)) cb r.cs ∧ Bx (v2.alloc (.cells #[.int .i64 0, .int .i64 0, .int .i64 0, .int .i64 0, .int .i64 0, .int .i64 0, .int .u8 0] 76)) ub [.int .i64 0, .int .i64 0, .int .i64 0, .int .i64 0, .int .i64 0, .int .i64 0, .int .u8 0]) := ⟨KK.out.1.below ((Below.refl _ _).alloc (Nat.le_refl _) _), KK.out.2.1.alloc _, KK.out.2.2.alloc _, by rw [hub]; exact Bx.new v2 [.int .i64 0, .int .i64 0, .int .i64 0, .int .i64 0, .int .i64 0, .int .i64 0, .int .u8 0] _⟩
                  refine gen_any (fun V' => (QM U xb (xb + 1) S.rules (S.zones.take j) [] xr (.slice none 0 0) xz xs [⟨78, 11, va, (E.take k).length, eraXs (E.take k)⟩] V' ∧ Bx V' zb [.string nm, va] ∧ Bx V' cb r.cs ∧ Bx V' ub [.int .i64 0, .int .i64 0, .int .i64 0, .int .i64 0, .int .i64 0, .int .i64 0, .int .u8 0])) KN.out ?_
                  rw [← hub]
                  clear hHeld hK K KN hub KK
                  intro v3 kk
                  have KK : Hid (QM U xb (xb + 1) S.rules (S.zones.take j) [] xr (.slice none 0 0) xz xs [⟨78, 11, va, (E.take k).length, eraXs (E.take k)⟩] v3 ∧ Bx v3 zb [.string nm, va] ∧ Bx v3 cb r.cs ∧ Bx v3 ub [.int .i64 0, .int .i64 0, .int .i64 0, .int .i64 0, .int .i64 0, .int .i64 0, .int .u8 0]) := kk
                  have hHeld : Bx v3 cb r.cs := kk.2.2.1
                  clear kk
                  refine wpAnyH_ready (rs := [16]) (by kernel_rfl) (by simp) (AllReadyH.cons (o := { dst := none, op := _, type := _, pos := _, after := _, guard := none }) rfl (fun K hK => ?_) AllReadyH.nil)
                  have P4 : (QM U xb (xb + 1) S.rules (S.zones.take j) [] xr (.slice none 0 0) xz xs [⟨78, 11, va, (E.take k).length, eraXs (E.take k)⟩] (v3.setCells ub 0 [.int .i64 r.u.y, .int .i64 r.u.mo, .int .i64 r.u.oa, .int .i64 r.u.ob, .int .i64 r.u.oc, .int .i64 r.u.ta, .int .u8 r.u.tz]) ∧ Bx (v3.setCells ub 0 [.int .i64 r.u.y, .int .i64 r.u.mo, .int .i64 r.u.oa, .int .i64 r.u.ob, .int .i64 r.u.oc, .int .i64 r.u.ta, .int .u8 r.u.tz]) zb [.string nm, va] ∧ Bx (v3.setCells ub 0 [.int .i64 r.u.y, .int .i64 r.u.mo, .int .i64 r.u.oa, .int .i64 r.u.ob, .int .i64 r.u.oc, .int .i64 r.u.ta, .int .u8 r.u.tz]) cb r.cs ∧ Bx (v3.setCells ub 0 [.int .i64 r.u.y, .int .i64 r.u.mo, .int .i64 r.u.oa, .int .i64 r.u.ob, .int .i64 r.u.oc, .int .i64 r.u.ta, .int .u8 r.u.tz]) ub [.int .i64 r.u.y, .int .i64 r.u.mo, .int .i64 r.u.oa, .int .i64 r.u.ob, .int .i64 r.u.oc, .int .i64 r.u.ta, .int .u8 r.u.tz]) := ⟨KK.out.1.off (by have := KK.out.1.wx; omega) (by omega) (fun r9 h9 c9 e9 => by have := HU.out r9 h9 c9 e9; omega) _, KK.out.2.1.setOther (by omega) _, KK.out.2.2.1.setOther (by omega) _, KK.out.2.2.2.setAll [.int .i64 r.u.y, .int .i64 r.u.mo, .int .i64 r.u.oa, .int .i64 r.u.ob, .int .i64 r.u.oc, .int .i64 r.u.ta, .int .u8 r.u.tz] rfl⟩
                  refine (if_pos (by kernel_rfl)).mpr (wp_store_mid 76 _ _ rfl ub 0 #[.int .i64 r.u.y, .int .i64 r.u.mo, .int .i64 r.u.oa, .int .i64 r.u.ob, .int .i64 r.u.oc, .int .i64 r.u.ta, .int .u8 r.u.tz] rfl rfl KK.out.2.2.2.there (by kernel_rfl) (all_oneCell_toArray (cs := [.int .i64 r.u.y, .int .i64 r.u.mo, .int .i64 r.u.oa, .int .i64 r.u.ob, .int .i64 r.u.oc, .int .i64 r.u.ta, .int .u8 r.u.tz]) (by simp only [List.forall_mem_cons]; exact ⟨rfl, rfl, rfl, rfl, rfl, rfl, rfl, fun _ h => nomatch h⟩)) ?_)
                  refine hK.out _ (v3.setCells ub 0 [.int .i64 r.u.y, .int .i64 r.u.mo, .int .i64 r.u.oa, .int .i64 r.u.ob, .int .i64 r.u.oc, .int .i64 r.u.ta, .int .u8 r.u.tz]) P4.2.2.1 (fun _ => ?_)
                  clear hK K
                  refine gen_any (w1 := (v3.setCells ub 0 [.int .i64 r.u.y, .int .i64 r.u.mo, .int .i64 r.u.oa, .int .i64 r.u.ob, .int .i64 r.u.oc, .int .i64 r.u.ta, .int .u8 r.u.tz])) (fun V' => (QM U xb (xb + 1) S.rules (S.zones.take j) [] xr (.slice none 0 0) xz xs [⟨78, 11, va, (E.take k).length, eraXs (E.take k)⟩] V' ∧ Bx V' zb [.string nm, va] ∧ Bx V' cb r.cs ∧ Bx V' ub [.int .i64 r.u.y, .int .i64 r.u.mo, .int .i64 r.u.oa, .int .i64 r.u.ob, .int .i64 r.u.oc, .int .i64 r.u.ta, .int .u8 r.u.tz])) P4 ?_
                  clear hHeld KK P4 HU
                  intro v4 kk
                  have KK : Hid (QM U xb (xb + 1) S.rules (S.zones.take j) [] xr (.slice none 0 0) xz xs [⟨78, 11, va, (E.take k).length, eraXs (E.take k)⟩] v4 ∧ Bx v4 zb [.string nm, va] ∧ Bx v4 cb r.cs ∧ Bx v4 ub [.int .i64 r.u.y, .int .i64 r.u.mo, .int .i64 r.u.oa, .int .i64 r.u.ob, .int .i64 r.u.oc, .int .i64 r.u.ta, .int .u8 r.u.tz]) := kk
                  clear kk
                  refine wpAnyH_done (by kernel_rfl) ?_ _
                  obtain ⟨s1, s2, s3, hva⟩ := own_sliceP KK.out.1.getM
                  subst hva
                  have z0 := KK.out.2.1.c 0 rfl
                  have z1 := KK.out.2.1.c 1 rfl
                  have z2 := KK.out.2.1.1
                  have e0 := KK.out.2.2.1.c 0 rfl
                  have e1 := KK.out.2.2.1.c 1 rfl
                  have e2 := KK.out.2.2.1.c 2 rfl
                  have e3 := KK.out.2.2.1.c 3 rfl
                  have e9 := KK.out.2.2.1.1
                  have u0 := KK.out.2.2.2.c 0 rfl
                  have u1 := KK.out.2.2.2.c 1 rfl
                  have u2 := KK.out.2.2.2.c 2 rfl
                  have u3 := KK.out.2.2.2.c 3 rfl
                  have u4 := KK.out.2.2.2.c 4 rfl
                  have u5 := KK.out.2.2.2.c 5 rfl
                  have u6 := KK.out.2.2.2.c 6 rfl
                  have u9 := KK.out.2.2.2.1
                  obtain ⟨wl, hwl⟩ : ∃ wl, wl = v4 := ⟨_, rfl⟩
                  have HOw := KK.out.1.getM
                  simp only at HOw
                  have HOw : Hid (_ ∧ True) := ⟨HOw, trivial⟩
                  go_wp2_with (at_builtin; refine wpl_append_newP rfl _ _ 72 rfl (xb + 1) 78 i3 eraQZ 11 104 Tryz.underlying72 hi3 mz0 mz1 mz2 rfl (by decide) (.slice s1 s2 s3) (E.take k).length (eraXs (E.take k)) rfl (HOw.out.1.alloc _) ⟨v4.heap.size, 0, none⟩ 1 r.cs rfl rfl (fun j u hj => by rw [show (⟨v4.heap.size, 0, none⟩ : Addr).add j = ⟨v4.heap.size, j, none⟩ from by rw [Addr.add_lit]; simp]; exact ((Bx.new v4 r.cs 78).2 j u hj).1) (era_oneP r) (by rw [hlk]; unfold maxLen; omega) (by rw [hlk]; omega) (Nat.le_trans KK.out.1.BV (by simp)) ?_
                               intro v' w4 hown' hgrow hnew
                               obtain ⟨sq', sn', sc', hv'⟩ := own_sliceP hown'
                               subst hv'
                               have hb3 : Below v4.heap.size v4 (v4.alloc (.cells #[.int .i64 r.off, .string r.rl, .int .i64 r.sv, .string r.fm, .int .i64 r.u.y, .int .i64 r.u.mo, .int .i64 r.u.oa, .int .i64 r.u.ob, .int .i64 r.u.oc, .int .i64 r.u.ta, .int .u8 r.u.tz] 78)) := (Below.refl _ _).alloc (Nat.le_refl _) _
                               have hz4 : Bx w4 zb [.string nm, .slice s1 s2 s3] := bx_growP (KK.out.2.1.below hb3) hgrow (fun e => by have := HV.out _ e; omega)
                               have HQ : Hid ((QM U xb (xb + 1) S.rules (S.zones.take j) [] xr (.slice none 0 0) xz xs [⟨78, 11, (.slice sq' sn' sc'), (E.take (k + 1)).length, eraXs (E.take (k + 1))⟩] (w4.setCell ⟨zb, 1, none⟩ (.slice sq' sn' sc'))) ∧ Bx (w4.setCell ⟨zb, 1, none⟩ (.slice sq' sn' sc')) zb [.string nm, (.slice sq' sn' sc')] ∧ ∀ c, (Value.slice sq' sn' sc').ownBlock = some c → zb < c) := by
                                 have hn9 : ∀ c, (Value.slice sq' sn' sc').ownBlock = some c → zb < c := fun c e => by rcases hnew c e with q | q; exact HV.out c q; have := KK.out.2.1.1; simp at q; omega
                                 exact ⟨by rw [take_snoc hre]; exact (KK.out.1.below hb3).grewE r hgrow hnew hown' (by have := KK.out.1.wx; omega) (by omega) (fun r9 h9 c9 e9 => by have := HN.out r9 h9 c9 e9; omega) (fun c e => by have := hn9 c e; omega) _, hz4.set1 1 _ (by simp), hn9⟩
                               have z3 := hz4.c 1 rfl
                               have z4 := hz4.f 1 rfl
                               have z5 := hz4.1
                               clear hown' hgrow hnew hb3 hz4)
                  exact ⟨⟨k + 1, _, rfl, by omega, HQ.out.1, HQ.out.2.1, HQ.out.2.2⟩, by simp only [intOf]; omega⟩
                ·
                  go_simp
                  refine hK.out _ _ (hHeld.alloc _) (fun hHeld => ?_)
                  obtain ⟨ub, hub⟩ : ∃ ub, ub = v1.heap.size := ⟨_, rfl⟩
                  have HU : Hid (∀ r9 ∈ rowsQ S.rules (S.zones.take j) [] xr (.slice none 0 0) xz xs ++ [⟨78, 11, va, (E.take k).length, eraXs (E.take k)⟩], ∀ c9, r9.v.ownBlock = some c9 → c9 < ub) := fun r9 h9 c9 e9 => by rw [hub]; exact (KK.out.1.fam.lt h9 e9).2
                  have hux : xb < ub := by have := KK.out.1.box.1; omega
                  have hzu : zb < ub := by have := KK.out.2.1.1; omega
                  have hcu : cb < ub := by have := KK.out.2.2.1; omega
                  have KN : Hid (QM U xb (xb + 1) S.rules (S.zones.take j) [] xr (.slice none 0 0) xz xs [⟨78, 11, va, (E.take k).length, eraXs (E.take k)⟩] (v1.alloc (.cells #[.int .i64 0, .int .i64 0, .int .i64 0, .int .i64 0, .int .i64 0, .int .i64 0, .int .u8 0] 76)) ∧ Bx (v1.alloc (.cells #[.int .i64 0, .int .i64 0, .int .i64 0, .int .i64 0, .int .i64 0, .int .i64 0, .int .u8 0] 76)) zb [.string nm, va] ∧ Bx (v1.alloc (.cells #[.int .i64 0, .int .i64 0, .int .i64 0, .int .i64 0, .int .i64 0, .int .i64 0, .int .u8 0] 76)) cb r.cs ∧ Bx (v1.alloc (.cells #[.int .i64 0, .int .i64 0, .int .i64 0, .int .i64 0, .int .i64 0, .int .i64 0, .int .u8 0] 76)) ub [.int .i64 0, .int .i64 0, .int .i64 0, .int .i64 0, .int .i64 0, .int .i64 0, .int .u8 0]) := ⟨KK.out.1.below ((Below.refl _ _).alloc (Nat.le_refl _) _), KK.out.2.1.alloc _, KK.out.2.2.alloc _, by rw [hub]; exact Bx.new v1 [.int .i64 0, .int .i64 0, .int .i64 0, .int .i64 0, .int .i64 0, .int .i64 0, .int .u8 0] _⟩
                  refine gen_any (fun V' => (QM U xb (xb + 1) S.rules (S.zones.take j) [] xr (.slice none 0 0) xz xs [⟨78, 11, va, (E.take k).length, eraXs (E.take k)⟩] V' ∧ Bx V' zb [.string nm, va] ∧ Bx V' cb r.cs ∧ Bx V' ub [.int .i64 0, .int .i64 0, .int .i64 0, .int .i64 0, .int .i64 0, .int .i64 0, .int .u8 0])) KN.out ?_
                  rw [← hub]
                  clear hHeld hK K KN hub KK
                  intro v5 kk
                  have KK : Hid (QM U xb (xb + 1) S.rules (S.zones.take j) [] xr (.slice none 0 0) xz xs [⟨78, 11, va, (E.take k).length, eraXs (E.take k)⟩] v5 ∧ Bx v5 zb [.string nm, va] ∧ Bx v5 cb r.cs ∧ Bx v5 ub [.int .i64 0, .int .i64 0, .int .i64 0, .int .i64 0, .int .i64 0, .int .i64 0, .int .u8 0]) := kk
                  have hHeld : Bx v5 cb r.cs := kk.2.2.1
                  clear kk
                  refine wpAnyH_ready (rs := [13]) (by kernel_rfl) (by simp) (AllReadyH.cons (o := { dst := some 95, op := _, type := _, pos := _, after := _, guard := none }) rfl (fun K hK => ?_) AllReadyH.nil)
                  go_simp
                  refine (law08_at _ _ _).mono ?_
                  rintro e v6 ⟨rfl, hb6⟩
                  refine hK.out _ _ (hHeld.below hb6) (fun hHeld => ?_)
                  replace KK : Hid (QM U xb (xb + 1) S.rules (S.zones.take j) [] xr (.slice none 0 0) xz xs [⟨78, 11, va, (E.take k).length, eraXs (E.take k)⟩] v6 ∧ Bx v6 zb [.string nm, va] ∧ Bx v6 cb r.cs ∧ Bx v6 ub [.int .i64 0, .int .i64 0, .int .i64 0, .int .i64 0, .int .i64 0, .int .i64 0, .int .u8 0]) := ⟨KK.out.1.below hb6, KK.out.2.1.below hb6, KK.out.2.2.1.below hb6, KK.out.2.2.2.below hb6⟩
                  clear hK K hb6
                  refine wpAnyH_take (i := 14) (v := ?_) (oi := { dst := some 96, op := _, type := _, pos := _, after := _, guard := none }) rfl (by kernel_rfl) (by kernel_rfl) (by kernel_rfl) (fun _ _ _ h => h) (Or.inl ⟨by kernel_rfl, ?_⟩) (by assumption) ?_
                  case refine_2 => (intro w9 hSw; clear hSw; go_simp; try with_reducible rfl)
                  simp only [Act.put, List.setIfInBounds_toArray, List.set_cons_zero, List.set_cons_succ]
                  refine wpAnyH_ready (rs := [16]) (by kernel_rfl) (by simp) (AllReadyH.cons (o := { dst := none, op := _, type := _, pos := _, after := _, guard := none }) rfl (fun K hK => ?_) AllReadyH.nil)
                  have P4 : (QM U xb (xb + 1) S.rules (S.zones.take j) [] xr (.slice none 0 0) xz xs [⟨78, 11, va, (E.take k).length, eraXs (E.take k)⟩] (v6.setCells ub 0 [.int .i64 r.u.y, .int .i64 r.u.mo, .int .i64 r.u.oa, .int .i64 r.u.ob, .int .i64 r.u.oc, .int .i64 r.u.ta, .int .u8 r.u.tz]) ∧ Bx (v6.setCells ub 0 [.int .i64 r.u.y, .int .i64 r.u.mo, .int .i64 r.u.oa, .int .i64 r.u.ob, .int .i64 r.u.oc, .int .i64 r.u.ta, .int .u8 r.u.tz]) zb [.string nm, va] ∧ Bx (v6.setCells ub 0 [.int .i64 r.u.y, .int .i64 r.u.mo, .int .i64 r.u.oa, .int .i64 r.u.ob, .int .i64 r.u.oc, .int .i64 r.u.ta, .int .u8 r.u.tz]) cb r.cs ∧ Bx (v6.setCells ub 0 [.int .i64 r.u.y, .int .i64 r.u.mo, .int .i64 r.u.oa, .int .i64 r.u.ob, .int .i64 r.u.oc, .int .i64 r.u.ta, .int .u8 r.u.tz]) ub [.int .i64 r.u.y, .int .i64 r.u.mo, .int .i64 r.u.oa, .int .i64 r.u.ob, .int .i64 r.u.oc, .int .i64 r.u.ta, .int .u8 r.u.tz]) := ⟨KK.out.1.off (by have := KK.out.1.wx; omega) (by omega) (fun r9 h9 c9 e9 => by have := HU.out r9 h9 c9 e9; omega) _, KK.out.2.1.setOther (by omega) _, KK.out.2.2.1.setOther (by omega) _, KK.out.2.2.2.setAll [.int .i64 r.u.y, .int .i64 r.u.mo, .int .i64 r.u.oa, .int .i64 r.u.ob, .int .i64 r.u.oc, .int .i64 r.u.ta, .int .u8 r.u.tz] rfl⟩
                  refine (if_pos (by kernel_rfl)).mpr (wp_store_mid 76 _ _ rfl ub 0 #[.int .i64 r.u.y, .int .i64 r.u.mo, .int .i64 r.u.oa, .int .i64 r.u.ob, .int .i64 r.u.oc, .int .i64 r.u.ta, .int .u8 r.u.tz] rfl rfl KK.out.2.2.2.there (by kernel_rfl) (all_oneCell_toArray (cs := [.int .i64 r.u.y, .int .i64 r.u.mo, .int .i64 r.u.oa, .int .i64 r.u.ob, .int .i64 r.u.oc, .int .i64 r.u.ta, .int .u8 r.u.tz]) (by simp only [List.forall_mem_cons]; exact ⟨rfl, rfl, rfl, rfl, rfl, rfl, rfl, fun _ h => nomatch h⟩)) ?_)
                  refine hK.out _ (v6.setCells ub 0 [.int .i64 r.u.y, .int .i64 r.u.mo, .int .i64 r.u.oa, .int .i64 r.u.ob, .int .i64 r.u.oc, .int .i64 r.u.ta, .int .u8 r.u.tz]) P4.2.2.1 (fun _ => ?_)
                  clear hK K
                  refine gen_any (w1 := (v6.setCells ub 0 [.int .i64 r.u.y, .int .i64 r.u.mo, .int .i64 r.u.oa, .int .i64 r.u.ob, .int .i64 r.u.oc, .int .i64 r.u.ta, .int .u8 r.u.tz])) (fun V' => (QM U xb (xb + 1) S.rules (S.zones.take j) [] xr (.slice none 0 0) xz xs [⟨78, 11, va, (E.take k).length, eraXs (E.take k)⟩] V' ∧ Bx V' zb [.string nm, va] ∧ Bx V' cb r.cs ∧ Bx V' ub [.int .i64 r.u.y, .int .i64 r.u.mo, .int .i64 r.u.oa, .int .i64 r.u.ob, .int .i64 r.u.oc, .int .i64 r.u.ta, .int .u8 r.u.tz])) P4 ?_
                  clear hHeld KK P4 HU
                  intro v7 kk
                  have KK : Hid (QM U xb (xb + 1) S.rules (S.zones.take j) [] xr (.slice none 0 0) xz xs [⟨78, 11, va, (E.take k).length, eraXs (E.take k)⟩] v7 ∧ Bx v7 zb [.string nm, va] ∧ Bx v7 cb r.cs ∧ Bx v7 ub [.int .i64 r.u.y, .int .i64 r.u.mo, .int .i64 r.u.oa, .int .i64 r.u.ob, .int .i64 r.u.oc, .int .i64 r.u.ta, .int .u8 r.u.tz]) := kk
                  clear kk
                  refine wpAnyH_done (by kernel_rfl) ?_ _
                  obtain ⟨s1, s2, s3, hva⟩ := own_sliceP KK.out.1.getM
                  subst hva
                  have z0 := KK.out.2.1.c 0 rfl
                  have z1 := KK.out.2.1.c 1 rfl
                  have z2 := KK.out.2.1.1
                  have e0 := KK.out.2.2.1.c 0 rfl
                  have e1 := KK.out.2.2.1.c 1 rfl
                  have e2 := KK.out.2.2.1.c 2 rfl
                  have e3 := KK.out.2.2.1.c 3 rfl
                  have e9 := KK.out.2.2.1.1
                  have u0 := KK.out.2.2.2.c 0 rfl
                  have u1 := KK.out.2.2.2.c 1 rfl
                  have u2 := KK.out.2.2.2.c 2 rfl
                  have u3 := KK.out.2.2.2.c 3 rfl
                  have u4 := KK.out.2.2.2.c 4 rfl
                  have u5 := KK.out.2.2.2.c 5 rfl
                  have u6 := KK.out.2.2.2.c 6 rfl
                  have u9 := KK.out.2.2.2.1
                  obtain ⟨wl, hwl⟩ : ∃ wl, wl = v7 := ⟨_, rfl⟩
                  have HOw := KK.out.1.getM
                  simp only at HOw
                  have HOw : Hid (_ ∧ True) := ⟨HOw, trivial⟩
                  go_wp2_with (at_builtin; refine wpl_append_newP rfl _ _ 72 rfl (xb + 1) 78 i3 eraQZ 11 104 Tryz.underlying72 hi3 mz0 mz1 mz2 rfl (by decide) (.slice s1 s2 s3) (E.take k).length (eraXs (E.take k)) rfl (HOw.out.1.alloc _) ⟨v7.heap.size, 0, none⟩ 1 r.cs rfl rfl (fun j u hj => by rw [show (⟨v7.heap.size, 0, none⟩ : Addr).add j = ⟨v7.heap.size, j, none⟩ from by rw [Addr.add_lit]; simp]; exact ((Bx.new v7 r.cs 78).2 j u hj).1) (era_oneP r) (by rw [hlk]; unfold maxLen; omega) (by rw [hlk]; omega) (Nat.le_trans KK.out.1.BV (by simp)) ?_
                               intro v' w4 hown' hgrow hnew
                               obtain ⟨sq', sn', sc', hv'⟩ := own_sliceP hown'
                               subst hv'
                               have hb3 : Below v7.heap.size v7 (v7.alloc (.cells #[.int .i64 r.off, .string r.rl, .int .i64 r.sv, .string r.fm, .int .i64 r.u.y, .int .i64 r.u.mo, .int .i64 r.u.oa, .int .i64 r.u.ob, .int .i64 r.u.oc, .int .i64 r.u.ta, .int .u8 r.u.tz] 78)) := (Below.refl _ _).alloc (Nat.le_refl _) _
                               have hz4 : Bx w4 zb [.string nm, .slice s1 s2 s3] := bx_growP (KK.out.2.1.below hb3) hgrow (fun e => by have := HV.out _ e; omega)
                               have HQ : Hid ((QM U xb (xb + 1) S.rules (S.zones.take j) [] xr (.slice none 0 0) xz xs [⟨78, 11, (.slice sq' sn' sc'), (E.take (k + 1)).length, eraXs (E.take (k + 1))⟩] (w4.setCell ⟨zb, 1, none⟩ (.slice sq' sn' sc'))) ∧ Bx (w4.setCell ⟨zb, 1, none⟩ (.slice sq' sn' sc')) zb [.string nm, (.slice sq' sn' sc')] ∧ ∀ c, (Value.slice sq' sn' sc').ownBlock = some c → zb < c) := by
                                 have hn9 : ∀ c, (Value.slice sq' sn' sc').ownBlock = some c → zb < c := fun c e => by rcases hnew c e with q | q; exact HV.out c q; have := KK.out.2.1.1; simp at q; omega
                                 exact ⟨by rw [take_snoc hre]; exact (KK.out.1.below hb3).grewE r hgrow hnew hown' (by have := KK.out.1.wx; omega) (by omega) (fun r9 h9 c9 e9 => by have := HN.out r9 h9 c9 e9; omega) (fun c e => by have := hn9 c e; omega) _, hz4.set1 1 _ (by simp), hn9⟩
                               have z3 := hz4.c 1 rfl
                               have z4 := hz4.f 1 rfl
                               have z5 := hz4.1
                               clear hown' hgrow hnew hb3 hz4)
                  exact ⟨⟨k + 1, _, rfl, by omega, HQ.out.1, HQ.out.2.1, HQ.out.2.2⟩, by simp only [intOf]; omega⟩
              ·
                go_simp
                refine hK.out _ _ (hHeld.alloc _) (fun hHeld => ?_)
                obtain ⟨ub, hub⟩ : ∃ ub, ub = x0.heap.size := ⟨_, rfl⟩
                have HU : Hid (∀ r9 ∈ rowsQ S.rules (S.zones.take j) [] xr (.slice none 0 0) xz xs ++ [⟨78, 11, va, (E.take k).length, eraXs (E.take k)⟩], ∀ c9, r9.v.ownBlock = some c9 → c9 < ub) := fun r9 h9 c9 e9 => by rw [hub]; exact (KK.out.1.fam.lt h9 e9).2
                have hux : xb < ub := by have := KK.out.1.box.1; omega
                have hzu : zb < ub := by have := KK.out.2.1.1; omega
                have hcu : cb < ub := by have := KK.out.2.2.1; omega
                have KN : Hid (QM U xb (xb + 1) S.rules (S.zones.take j) [] xr (.slice none 0 0) xz xs [⟨78, 11, va, (E.take k).length, eraXs (E.take k)⟩] (x0.alloc (.cells #[.int .i64 0, .int .i64 0, .int .i64 0, .int .i64 0, .int .i64 0, .int .i64 0, .int .u8 0] 76)) ∧ Bx (x0.alloc (.cells #[.int .i64 0, .int .i64 0, .int .i64 0, .int .i64 0, .int .i64 0, .int .i64 0, .int .u8 0] 76)) zb [.string nm, va] ∧ Bx (x0.alloc (.cells #[.int .i64 0, .int .i64 0, .int .i64 0, .int .i64 0, .int .i64 0, .int .i64 0, .int .u8 0] 76)) cb r.cs ∧ Bx (x0.alloc (.cells #[.int .i64 0, .int .i64 0, .int .i64 0, .int .i64 0, .int .i64 0, .int .i64 0, .int .u8 0] 76)) ub [.int .i64 0, .int .i64 0, .int .i64 0, .int .i64 0, .int .i64 0, .int .i64 0, .int .u8 0]) := ⟨KK.out.1.below ((Below.refl _ _).alloc (Nat.le_refl _) _), KK.out.2.1.alloc _, KK.out.2.2.alloc _, by rw [hub]; exact Bx.new x0 [.int .i64 0, .int .i64 0, .int .i64 0, .int .i64 0, .int .i64 0, .int .i64 0, .int .u8 0] _⟩
                refine gen_any (fun V' => (QM U xb (xb + 1) S.rules (S.zones.take j) [] xr (.slice none 0 0) xz xs [⟨78, 11, va, (E.take k).length, eraXs (E.take k)⟩] V' ∧ Bx V' zb [.string nm, va] ∧ Bx V' cb r.cs ∧ Bx V' ub [.int .i64 0, .int .i64 0, .int .i64 0, .int .i64 0, .int .i64 0, .int .i64 0, .int .u8 0])) KN.out ?_
                rw [← hub]
                clear hHeld hK K KN hub KK
                intro v8 kk
                have KK : Hid (QM U xb (xb + 1) S.rules (S.zones.take j) [] xr (.slice none 0 0) xz xs [⟨78, 11, va, (E.take k).length, eraXs (E.take k)⟩] v8 ∧ Bx v8 zb [.string nm, va] ∧ Bx v8 cb r.cs ∧ Bx v8 ub [.int .i64 0, .int .i64 0, .int .i64 0, .int .i64 0, .int .i64 0, .int .i64 0, .int .u8 0]) := kk
                have hHeld : Bx v8 cb r.cs := kk.2.2.1
                clear kk
                refine wpAnyH_ready (rs := [9]) (by kernel_rfl) (by simp) (AllReadyH.cons (o := { dst := some 91, op := _, type := _, pos := _, after := _, guard := none }) rfl (fun K hK => ?_) AllReadyH.nil)
                go_simp
                refine (law08_on _ _ _ _).mono ?_
                rintro e v9 ⟨rfl, hb9⟩
                refine hK.out _ _ (hHeld.below hb9) (fun hHeld => ?_)
                replace KK : Hid (QM U xb (xb + 1) S.rules (S.zones.take j) [] xr (.slice none 0 0) xz xs [⟨78, 11, va, (E.take k).length, eraXs (E.take k)⟩] v9 ∧ Bx v9 zb [.string nm, va] ∧ Bx v9 cb r.cs ∧ Bx v9 ub [.int .i64 0, .int .i64 0, .int .i64 0, .int .i64 0, .int .i64 0, .int .i64 0, .int .u8 0]) := ⟨KK.out.1.below hb9, KK.out.2.1.below hb9, KK.out.2.2.1.below hb9, KK.out.2.2.2.below hb9⟩
                clear hK K hb9
                refine wpAnyH_ready (rs := [13]) (by kernel_rfl) (by simp) (AllReadyH.cons (o := { dst := some 95, op := _, type := _, pos := _, after := _, guard := none }) rfl (fun K hK => ?_) AllReadyH.nil)
                go_simp
                refine (law08_at _ _ _).mono ?_
                rintro e v10 ⟨rfl, hb10⟩
                refine hK.out _ _ (hHeld.below hb10) (fun hHeld => ?_)
                replace KK : Hid (QM U xb (xb + 1) S.rules (S.zones.take j) [] xr (.slice none 0 0) xz xs [⟨78, 11, va, (E.take k).length, eraXs (E.take k)⟩] v10 ∧ Bx v10 zb [.string nm, va] ∧ Bx v10 cb r.cs ∧ Bx v10 ub [.int .i64 0, .int .i64 0, .int .i64 0, .int .i64 0, .int .i64 0, .int .i64 0, .int .u8 0]) := ⟨KK.out.1.below hb10, KK.out.2.1.below hb10, KK.out.2.2.1.below hb10, KK.out.2.2.2.below hb10⟩
                clear hK K hb10
                refine wpAnyH_take (i := 14) (v := ?_) (oi := { dst := some 96, op := _, type := _, pos := _, after := _, guard := none }) rfl (by kernel_rfl) (by kernel_rfl) (by kernel_rfl) (fun _ _ _ h => h) (Or.inl ⟨by kernel_rfl, ?_⟩) (by assumption) ?_
                case refine_2 => (intro w9 hSw; clear hSw; go_simp; try with_reducible rfl)
                simp only [Act.put, List.setIfInBounds_toArray, List.set_cons_zero, List.set_cons_succ]
                refine wpAnyH_ready (rs := [16]) (by kernel_rfl) (by simp) (AllReadyH.cons (o := { dst := none, op := _, type := _, pos := _, after := _, guard := none }) rfl (fun K hK => ?_) AllReadyH.nil)
                have P4 : (QM U xb (xb + 1) S.rules (S.zones.take j) [] xr (.slice none 0 0) xz xs [⟨78, 11, va, (E.take k).length, eraXs (E.take k)⟩] (v10.setCells ub 0 [.int .i64 r.u.y, .int .i64 r.u.mo, .int .i64 r.u.oa, .int .i64 r.u.ob, .int .i64 r.u.oc, .int .i64 r.u.ta, .int .u8 r.u.tz]) ∧ Bx (v10.setCells ub 0 [.int .i64 r.u.y, .int .i64 r.u.mo, .int .i64 r.u.oa, .int .i64 r.u.ob, .int .i64 r.u.oc, .int .i64 r.u.ta, .int .u8 r.u.tz]) zb [.string nm, va] ∧ Bx (v10.setCells ub 0 [.int .i64 r.u.y, .int .i64 r.u.mo, .int .i64 r.u.oa, .int .i64 r.u.ob, .int .i64 r.u.oc, .int .i64 r.u.ta, .int .u8 r.u.tz]) cb r.cs ∧ Bx (v10.setCells ub 0 [.int .i64 r.u.y, .int .i64 r.u.mo, .int .i64 r.u.oa, .int .i64 r.u.ob, .int .i64 r.u.oc, .int .i64 r.u.ta, .int .u8 r.u.tz]) ub [.int .i64 r.u.y, .int .i64 r.u.mo, .int .i64 r.u.oa, .int .i64 r.u.ob, .int .i64 r.u.oc, .int .i64 r.u.ta, .int .u8 r.u.tz]) := ⟨KK.out.1.off (by have := KK.out.1.wx; omega) (by omega) (fun r9 h9 c9 e9 => by have := HU.out r9 h9 c9 e9; omega) _, KK.out.2.1.setOther (by omega) _, KK.out.2.2.1.setOther (by omega) _, KK.out.2.2.2.setAll [.int .i64 r.u.y, .int .i64 r.u.mo, .int .i64 r.u.oa, .int .i64 r.u.ob, .int .i64 r.u.oc, .int .i64 r.u.ta, .int .u8 r.u.tz] rfl⟩
                refine (if_pos (by kernel_rfl)).mpr (wp_store_mid 76 _ _ rfl ub 0 #[.int .i64 r.u.y, .int .i64 r.u.mo, .int .i64 r.u.oa, .int .i64 r.u.ob, .int .i64 r.u.oc, .int .i64 r.u.ta, .int .u8 r.u.tz] rfl rfl KK.out.2.2.2.there (by kernel_rfl) (all_oneCell_toArray (cs := [.int .i64 r.u.y, .int .i64 r.u.mo, .int .i64 r.u.oa, .int .i64 r.u.ob, .int .i64 r.u.oc, .int .i64 r.u.ta, .int .u8 r.u.tz]) (by simp only [List.forall_mem_cons]; exact ⟨rfl, rfl, rfl, rfl, rfl, rfl, rfl, fun _ h => nomatch h⟩)) ?_)
                refine hK.out _ (v10.setCells ub 0 [.int .i64 r.u.y, .int .i64 r.u.mo, .int .i64 r.u.oa, .int .i64 r.u.ob, .int .i64 r.u.oc, .int .i64 r.u.ta, .int .u8 r.u.tz]) P4.2.2.1 (fun _ => ?_)
                clear hK K
                refine gen_any (w1 := (v10.setCells ub 0 [.int .i64 r.u.y, .int .i64 r.u.mo, .int .i64 r.u.oa, .int .i64 r.u.ob, .int .i64 r.u.oc, .int .i64 r.u.ta, .int .u8 r.u.tz])) (fun V' => (QM U xb (xb + 1) S.rules (S.zones.take j) [] xr (.slice none 0 0) xz xs [⟨78, 11, va, (E.take k).length, eraXs (E.take k)⟩] V' ∧ Bx V' zb [.string nm, va] ∧ Bx V' cb r.cs ∧ Bx V' ub [.int .i64 r.u.y, .int .i64 r.u.mo, .int .i64 r.u.oa, .int .i64 r.u.ob, .int .i64 r.u.oc, .int .i64 r.u.ta, .int .u8 r.u.tz])) P4 ?_
                clear hHeld KK P4 HU
                intro v11 kk
                have KK : Hid (QM U xb (xb + 1) S.rules (S.zones.take j) [] xr (.slice none 0 0) xz xs [⟨78, 11, va, (E.take k).length, eraXs (E.take k)⟩] v11 ∧ Bx v11 zb [.string nm, va] ∧ Bx v11 cb r.cs ∧ Bx v11 ub [.int .i64 r.u.y, .int .i64 r.u.mo, .int .i64 r.u.oa, .int .i64 r.u.ob, .int .i64 r.u.oc, .int .i64 r.u.ta, .int .u8 r.u.tz]) := kk
                clear kk
                refine wpAnyH_done (by kernel_rfl) ?_ _
                obtain ⟨s1, s2, s3, hva⟩ := own_sliceP KK.out.1.getM
                subst hva
                have z0 := KK.out.2.1.c 0 rfl
                have z1 := KK.out.2.1.c 1 rfl
                have z2 := KK.out.2.1.1
                have e0 := KK.out.2.2.1.c 0 rfl
                have e1 := KK.out.2.2.1.c 1 rfl
                have e2 := KK.out.2.2.1.c 2 rfl
                have e3 := KK.out.2.2.1.c 3 rfl
                have e9 := KK.out.2.2.1.1
                have u0 := KK.out.2.2.2.c 0 rfl
                have u1 := KK.out.2.2.2.c 1 rfl
                have u2 := KK.out.2.2.2.c 2 rfl
                have u3 := KK.out.2.2.2.c 3 rfl
                have u4 := KK.out.2.2.2.c 4 rfl
                have u5 := KK.out.2.2.2.c 5 rfl
                have u6 := KK.out.2.2.2.c 6 rfl
                have u9 := KK.out.2.2.2.1
                obtain ⟨wl, hwl⟩ : ∃ wl, wl = v11 := ⟨_, rfl⟩
                have HOw := KK.out.1.getM
                simp only at HOw
                have HOw : Hid (_ ∧ True) := ⟨HOw, trivial⟩
                go_wp2_with (at_builtin; refine wpl_append_newP rfl _ _ 72 rfl (xb + 1) 78 i3 eraQZ 11 104 Tryz.underlying72 hi3 mz0 mz1 mz2 rfl (by decide) (.slice s1 s2 s3) (E.take k).length (eraXs (E.take k)) rfl (HOw.out.1.alloc _) ⟨v11.heap.size, 0, none⟩ 1 r.cs rfl rfl (fun j u hj => by rw [show (⟨v11.heap.size, 0, none⟩ : Addr).add j = ⟨v11.heap.size, j, none⟩ from by rw [Addr.add_lit]; simp]; exact ((Bx.new v11 r.cs 78).2 j u hj).1) (era_oneP r) (by rw [hlk]; unfold maxLen; omega) (by rw [hlk]; omega) (Nat.le_trans KK.out.1.BV (by simp)) ?_
                             intro v' w4 hown' hgrow hnew
                             obtain ⟨sq', sn', sc', hv'⟩ := own_sliceP hown'
                             subst hv'
                             have hb3 : Below v11.heap.size v11 (v11.alloc (.cells #[.int .i64 r.off, .string r.rl, .int .i64 r.sv, .string r.fm, .int .i64 r.u.y, .int .i64 r.u.mo, .int .i64 r.u.oa, .int .i64 r.u.ob, .int .i64 r.u.oc, .int .i64 r.u.ta, .int .u8 r.u.tz] 78)) := (Below.refl _ _).alloc (Nat.le_refl _) _
                             have hz4 : Bx w4 zb [.string nm, .slice s1 s2 s3] := bx_growP (KK.out.2.1.below hb3) hgrow (fun e => by have := HV.out _ e; omega)
                             have HQ : Hid ((QM U xb (xb + 1) S.rules (S.zones.take j) [] xr (.slice none 0 0) xz xs [⟨78, 11, (.slice sq' sn' sc'), (E.take (k + 1)).length, eraXs (E.take (k + 1))⟩] (w4.setCell ⟨zb, 1, none⟩ (.slice sq' sn' sc'))) ∧ Bx (w4.setCell ⟨zb, 1, none⟩ (.slice sq' sn' sc')) zb [.string nm, (.slice sq' sn' sc')] ∧ ∀ c, (Value.slice sq' sn' sc').ownBlock = some c → zb < c) := by
                               have hn9 : ∀ c, (Value.slice sq' sn' sc').ownBlock = some c → zb < c := fun c e => by rcases hnew c e with q | q; exact HV.out c q; have := KK.out.2.1.1; simp at q; omega
                               exact ⟨by rw [take_snoc hre]; exact (KK.out.1.below hb3).grewE r hgrow hnew hown' (by have := KK.out.1.wx; omega) (by omega) (fun r9 h9 c9 e9 => by have := HN.out r9 h9 c9 e9; omega) (fun c e => by have := hn9 c e; omega) _, hz4.set1 1 _ (by simp), hn9⟩
                             have z3 := hz4.c 1 rfl
                             have z4 := hz4.f 1 rfl
                             have z5 := hz4.1
                             clear hown' hgrow hnew hb3 hz4)
                exact ⟨⟨k + 1, _, rfl, by omega, HQ.out.1, HQ.out.2.1, HQ.out.2.2⟩, by simp only [intOf]; omega⟩
            · have hkI : ¬ (k : Int) < (E.length : Int) := by omega
              have hkL : k = E.length := by omega
              obtain ⟨s1, s2, s3, hva⟩ := own_sliceP KE.out.getM
              subst hva
              have KE2 : Hid (QM U xb (xb + 1) S.rules (S.zones.take j) [] xr (.slice none 0 0) xz xs [⟨78, 11, (.slice s1 s2 s3), E.length, eraXs E⟩] wr) := by have := KE.out; rw [hkL, List.take_length] at this; exact this
              have z0 := KZ.out.c 0 rfl
              have z1 := KZ.out.c 1 rfl
              have z2 := KZ.out.1
              have x1 := KE.out.box.c 1 rfl
              have x2 := KE.out.box.1
              have HZw : Hid (wr.ownsRow (xb + 1) 74 2 xz (S.zones.take j).length (zoneXs (S.zones.take j) xs) ∧ True) := ⟨KE2.out.getZ, trivial⟩
              clear KE hk0 hkI hkL
              go_wp2_with (at_builtin; refine wpl_append_newP rfl _ _ 31 rfl (xb + 1) 74 i2 zoneZ 2 40 Tryz.underlying31 hi2 kz0 kz1 kz2 rfl (by decide) xz (S.zones.take j).length (zoneXs (S.zones.take j) xs) rfl (HZw.out.1.alloc _) ⟨wr.heap.size, 0, none⟩ 1 [.string nm, .slice s1 s2 s3] rfl rfl (fun j u hj => by rw [show (⟨wr.heap.size, 0, none⟩ : Addr).add j = ⟨wr.heap.size, j, none⟩ from by rw [Addr.add_lit]; simp]; exact ((Bx.new wr [.string nm, .slice s1 s2 s3] 74).2 j u hj).1) (by intro u hu; simp at hu; rcases hu with rfl | rfl <;> rfl) (by rw [hlj]; unfold maxLen; omega) (by rw [hlj]; omega) (Nat.le_trans KE2.out.BV (by simp)) ?_
                           intro v' w4 hown' hgrow hnew
                           obtain ⟨sq', sn', sc', hv'⟩ := own_sliceP hown'
                           subst hv'
                           have hb3 : Below wr.heap.size wr (wr.alloc (.cells #[.string nm, .slice s1 s2 s3] 74)) := (Below.refl _ _).alloc (Nat.le_refl _) _
                           have HQ : Hid (QM U xb (xb + 1) S.rules (S.zones.take (j + 1)) [] xr (.slice none 0 0) (.slice sq' sn' sc') (xs ++ [.slice s1 s2 s3]) [] (w4.setCell ⟨xb, 1, none⟩ (.slice sq' sn' sc'))) := by rw [take_snoc hz]; exact (KE2.out.below hb3).zoned nm hgrow hnew hown'
                           have HBX : Hid (Bx w4 xb _) := (KE2.out.below hb3).grownBox hgrow (fun c e => (own_ltP HZw.out.1 e).1)
                           have c2 := HBX.out.c 1 rfl
                           have c3 := HBX.out.f 1 rfl
                           have h4 := HBX.out.1
                           clear hown' hgrow hnew hb3 HBX)
              exact ⟨⟨j + 1, _, _, rfl, by omega, HQ⟩, by simp only [intOf]; omega⟩
        · have hjI : ¬ (j : Int) < (S.zones.length : Int) := by omega
          have hjL : j = S.zones.length := by omega
          have QB : Hid (QM U xb (xb + 1) S.rules S.zones [] xr (.slice none 0 0) xz xs [] wr) := by have := KQ.out; rw [hjL, List.take_length] at this; exact this
          clear KQ
          go_wp2_with fail
          go_loopw [11] (fun iv W => ∃ (j : Nat) (xl : Value), iv = .int .i64 (j : Int) ∧ j ≤ S.links.length ∧ Hid (QM U xb (xb + 1) S.rules S.zones (S.links.take j) xr xl xz xs [] W)) (fun iv _ => S.links.length - (intOf iv).toNat)
          case atStart => exact ⟨0, _, rfl, Nat.zero_le _, QB⟩
          case round =>
            clear hj hj0 hjn hjI hjL t1 tl
            obtain ⟨j, xl, rfl, hj, KQ⟩ := hrel
            clear QB
            have hj0 : (0 : Int) ≤ (j : Int) := by omega
            have t2 := (XT.out.below KQ.out.low).c 2 rfl
            have tl := (XT.out.below KQ.out.low).1
            by_cases hjn : j < S.links.length
            · have hjI : (j : Int) < (S.links.length : Int) := by omega
              have hjw : IntKind.i64.wrap ((j : Int) + 1) = (j : Int) + 1 := by rw [IntKind.wrap_i64]; omega
              have hnl : (S.links.length : Int) ≤ 9223372036854775807 := by omega
              obtain ⟨b, hb, hbB⟩ := hl3 (by omega)
              subst hb
              obtain ⟨r, hr⟩ : ∃ r, S.links[j]? = some r := ⟨_, List.getElem?_eq_getElem hjn⟩
              have hlj : (S.links.take j).length = j := by rw [List.length_take]; omega
              obtain ⟨g0, g1⟩ := linkXs_at _ j r hr
              have hown := FU.out.get 1 rfl
              have f0 := (hown.cellAt (j * 2) (by show _ < S.links.length * 2; omega)).trans g0
              have f1 := (hown.cellAt (j * 2 + 1) (by show _ < S.links.length * 2; omega)).trans g1
              have HF0 : Hid (U.cell? ⟨b, j * 2, none⟩ = some (.string r.1) ∧ U.cell? ⟨b, j * 2 + 1, none⟩ = some (.string r.2)) := ⟨f0, f1⟩
              have KK : Hid (QM U xb (xb + 1) S.rules S.zones (S.links.take j) xr xl xz xs [] wr) := KQ.out
              clear hown g0 g1 f0 f1 KQ
              go_wp2_with fail
              clear t2 tl
              refine wp_region_held_drew (S := fun W => Below U.heap.size U W) (by kernel_rfl) KK.out.low.drew (fun hHeld => ?_)
              refine gen_any (fun V' => QM U xb (xb + 1) S.rules S.zones (S.links.take j) xr xl xz xs [] V') KK.out.drew ?_
              clear hHeld KK
              intro x1 kk
              have KK : Hid (QM U xb (xb + 1) S.rules S.zones (S.links.take j) xr xl xz xs [] x1) := kk
              have hHeld := kk.low
              clear kk
              refine wpAnyH_take (i := 0) (v := ?_) (oi := { dst := some 125, op := _, type := _, pos := _, after := _, guard := none }) rfl (by kernel_rfl) (by kernel_rfl) (by kernel_rfl) (fun _ _ _ h => h) (Or.inl ⟨by kernel_rfl, ?_⟩) (by assumption) ?_
              case refine_2 => (intro w9 hSw; clear hSw; go_simp; try with_reducible rfl)
              simp only [Act.put, List.setIfInBounds_toArray, List.set_cons_zero, List.set_cons_succ]
              refine wpAnyH_take (i := 2) (v := ?_) (oi := { dst := some 127, op := _, type := _, pos := _, after := _, guard := none }) rfl (by kernel_rfl) (by kernel_rfl) (by kernel_rfl) (fun _ _ _ h => h) (Or.inl ⟨by kernel_rfl, ?_⟩) (by assumption) ?_
              case refine_2 => (intro w9 hSw; clear hSw; go_simp; try with_reducible rfl)
              simp only [Act.put, List.setIfInBounds_toArray, List.set_cons_zero, List.set_cons_succ]
              refine wpAnyH_take (i := 3) (v := ?_) (oi := { dst := some 128, op := _, type := _, pos := _, after := _, guard := none }) rfl (by kernel_rfl) (by kernel_rfl) (by kernel_rfl) (fun _ _ _ h => h) (Or.inl ⟨by kernel_rfl, ?_⟩) (by assumption) ?_
              case refine_2 => (intro w9 hSw; have t2 := (XT.out.below hSw).c 2 rfl; have tl := (XT.out.below hSw).1; have q0 := (hSw.cell (p := ⟨b, j * 2, none⟩) (World.block_lt_of_cell? _ _ HF0.out.1)).trans HF0.out.1; have q1 := (hSw.cell (p := ⟨b, j * 2 + 1, none⟩) (World.block_lt_of_cell? _ _ HF0.out.2)).trans HF0.out.2; have q2 := World.block_lt_of_cell? _ _ q0; clear hSw; go_simp; try with_reducible rfl)
              simp only [Act.put, List.setIfInBounds_toArray, List.set_cons_zero, List.set_cons_succ]
              refine wpAnyH_take (i := 4) (v := ?_) (oi := { dst := some 129, op := _, type := _, pos := _, after := _, guard := none }) rfl (by kernel_rfl) (by kernel_rfl) (by kernel_rfl) (fun _ _ _ h => h) (Or.inl ⟨by kernel_rfl, ?_⟩) (by assumption) ?_
              case refine_2 => (intro w9 hSw; clear hSw; go_simp; try with_reducible rfl)
              simp only [Act.put, List.setIfInBounds_toArray, List.set_cons_zero, List.set_cons_succ]
              refine wpAnyH_take (i := 5) (v := ?_) (oi := { dst := some 130, op := _, type := _, pos := _, after := _, guard := none }) rfl (by kernel_rfl) (by kernel_rfl) (by kernel_rfl) (fun _ _ _ h => h) (Or.inl ⟨by kernel_rfl, ?_⟩) (by assumption) ?_
              case refine_2 => (intro w9 hSw; clear hSw; go_simp; try with_reducible rfl)
              simp only [Act.put, List.setIfInBounds_toArray, List.set_cons_zero, List.set_cons_succ]
              refine wpAnyH_take (i := 6) (v := ?_) (oi := { dst := some 131, op := _, type := _, pos := _, after := _, guard := none }) rfl (by kernel_rfl) (by kernel_rfl) (by kernel_rfl) (fun _ _ _ h => h) (Or.inl ⟨by kernel_rfl, ?_⟩) (by assumption) ?_
              case refine_2 => (intro w9 hSw; clear hSw; go_simp; try with_reducible rfl)
              simp only [Act.put, List.setIfInBounds_toArray, List.set_cons_zero, List.set_cons_succ]
              refine wpAnyH_take (i := 7) (v := ?_) (oi := { dst := some 132, op := _, type := _, pos := _, after := _, guard := none }) rfl (by kernel_rfl) (by kernel_rfl) (by kernel_rfl) (fun _ _ _ h => h) (Or.inl ⟨by kernel_rfl, ?_⟩) (by assumption) ?_
              case refine_2 => (intro w9 hSw; have t2 := (XT.out.below hSw).c 2 rfl; have tl := (XT.out.below hSw).1; have q0 := (hSw.cell (p := ⟨b, j * 2, none⟩) (World.block_lt_of_cell? _ _ HF0.out.1)).trans HF0.out.1; have q1 := (hSw.cell (p := ⟨b, j * 2 + 1, none⟩) (World.block_lt_of_cell? _ _ HF0.out.2)).trans HF0.out.2; have q2 := World.block_lt_of_cell? _ _ q0; clear hSw; go_simp; try with_reducible rfl)
              simp only [Act.put, List.setIfInBounds_toArray, List.set_cons_zero, List.set_cons_succ]
              refine wpAnyH_take (i := 8) (v := ?_) (oi := { dst := some 133, op := _, type := _, pos := _, after := _, guard := none }) rfl (by kernel_rfl) (by kernel_rfl) (by kernel_rfl) (fun _ _ _ h => h) (Or.inl ⟨by kernel_rfl, ?_⟩) (by assumption) ?_
              case refine_2 => (intro w9 hSw; clear hSw; go_simp; try with_reducible rfl)
              simp only [Act.put, List.setIfInBounds_toArray, List.set_cons_zero, List.set_cons_succ]
              refine wpAnyH_take (i := 9) (v := ?_) (oi := { dst := some 134, op := _, type := _, pos := _, after := _, guard := none }) rfl (by kernel_rfl) (by kernel_rfl) (by kernel_rfl) (fun _ _ _ h => h) (Or.inl ⟨by kernel_rfl, ?_⟩) (by assumption) ?_
              case refine_2 => (intro w9 hSw; have t2 := (XT.out.below hSw).c 2 rfl; have tl := (XT.out.below hSw).1; have q0 := (hSw.cell (p := ⟨b, j * 2, none⟩) (World.block_lt_of_cell? _ _ HF0.out.1)).trans HF0.out.1; have q1 := (hSw.cell (p := ⟨b, j * 2 + 1, none⟩) (World.block_lt_of_cell? _ _ HF0.out.2)).trans HF0.out.2; have q2 := World.block_lt_of_cell? _ _ q0; clear hSw; go_simp; try with_reducible rfl)
              simp only [Act.put, List.setIfInBounds_toArray, List.set_cons_zero, List.set_cons_succ]
              refine wpAnyH_take (i := 10) (v := ?_) (oi := { dst := some 135, op := _, type := _, pos := _, after := _, guard := none }) rfl (by kernel_rfl) (by kernel_rfl) (by kernel_rfl) (fun _ _ _ h => h) (Or.inl ⟨by kernel_rfl, ?_⟩) (by assumption) ?_
              case refine_2 => (intro w9 hSw; clear hSw; go_simp; try with_reducible rfl)
              simp only [Act.put, List.setIfInBounds_toArray, List.set_cons_zero, List.set_cons_succ]
              refine wpAnyH_take (i := 11) (v := ?_) (oi := { dst := some 136, op := _, type := _, pos := _, after := _, guard := none }) rfl (by kernel_rfl) (by kernel_rfl) (by kernel_rfl) (fun _ _ _ h => h) (Or.inl ⟨by kernel_rfl, ?_⟩) (by assumption) ?_
              case refine_2 => (intro w9 hSw; clear hSw; go_simp; try with_reducible rfl)
              simp only [Act.put, List.setIfInBounds_toArray, List.set_cons_zero, List.set_cons_succ]
              refine wpAnyH_take (i := 12) (v := ?_) (oi := { dst := some 137, op := _, type := _, pos := _, after := _, guard := none }) rfl (by kernel_rfl) (by kernel_rfl) (by kernel_rfl) (fun _ _ _ h => h) (Or.inl ⟨by kernel_rfl, ?_⟩) (by assumption) ?_
              case refine_2 => (intro w9 hSw; clear hSw; go_simp; try with_reducible rfl)
              simp only [Act.put, List.setIfInBounds_toArray, List.set_cons_zero, List.set_cons_succ]
              refine wpAnyH_take (i := 13) (v := ?_) (oi := { dst := some 138, op := _, type := _, pos := _, after := _, guard := none }) rfl (by kernel_rfl) (by kernel_rfl) (by kernel_rfl) (fun _ _ _ h => h) (Or.inl ⟨by kernel_rfl, ?_⟩) (by assumption) ?_
              case refine_2 => (intro w9 hSw; have t2 := (XT.out.below hSw).c 2 rfl; have tl := (XT.out.below hSw).1; have q0 := (hSw.cell (p := ⟨b, j * 2, none⟩) (World.block_lt_of_cell? _ _ HF0.out.1)).trans HF0.out.1; have q1 := (hSw.cell (p := ⟨b, j * 2 + 1, none⟩) (World.block_lt_of_cell? _ _ HF0.out.2)).trans HF0.out.2; have q2 := World.block_lt_of_cell? _ _ q0; clear hSw; go_simp; try with_reducible rfl)
              simp only [Act.put, List.setIfInBounds_toArray, List.set_cons_zero, List.set_cons_succ]
              refine wpAnyH_take (i := 14) (v := ?_) (oi := { dst := some 139, op := _, type := _, pos := _, after := _, guard := none }) rfl (by kernel_rfl) (by kernel_rfl) (by kernel_rfl) (fun _ _ _ h => h) (Or.inl ⟨by kernel_rfl, ?_⟩) (by assumption) ?_
              case refine_2 => (intro w9 hSw; clear hSw; go_simp; try with_reducible rfl)
              simp only [Act.put, List.setIfInBounds_toArray, List.set_cons_zero, List.set_cons_succ]
              refine wpAnyH_ready (rs := [1, 15]) (by kernel_rfl) (by simp) (AllReadyH.cons (o := { dst := some 126, op := _, type := _, pos := _, after := _, guard := none }) rfl (fun K hK => ?_) (AllReadyH.cons (o := { dst := some 140, op := _, type := _, pos := _, after := _, guard := none }) rfl (fun K hK => ?_) AllReadyH.nil))
              ·
                have q0 := KK.out.box.c 2 rfl
                go_simp
                refine hK.out _ _ hHeld (fun hHeld => ?_)
                clear hK K q0
                refine wpAnyH_ready (rs := [15]) (by kernel_rfl) (by simp) (AllReadyH.cons (o := { dst := some 140, op := _, type := _, pos := _, after := _, guard := none }) rfl (fun K hK => ?_) AllReadyH.nil)
                go_simp
                refine hK.out _ _ (hHeld.trans (((Below.refl _ _).alloc (Nat.le_refl _) _).mono hHeld.size)) (fun hHeld => ?_)
                obtain ⟨BL, hBL⟩ : ∃ BL, BL = x1.heap.size := ⟨_, rfl⟩
                have KN : Hid (QM U xb (xb + 1) S.rules S.zones (S.links.take j) xr xl xz xs [] (x1.alloc (.cells #[.string r.1, .string r.2] 81)) ∧ Bx (x1.alloc (.cells #[.string r.1, .string r.2] 81)) BL [.string r.1, .string r.2]) := ⟨KK.out.below ((Below.refl _ _).alloc (Nat.le_refl _) _), by rw [hBL]; exact Bx.new x1 [.string r.1, .string r.2] _⟩
                refine gen_any (fun V' => (QM U xb (xb + 1) S.rules S.zones (S.links.take j) xr xl xz xs [] V' ∧ Bx V' BL [.string r.1, .string r.2])) KN.out ?_
                rw [← hBL]
                clear hHeld hK K KN hBL KK
                intro v2 kk
                have KK : Hid (QM U xb (xb + 1) S.rules S.zones (S.links.take j) xr xl xz xs [] v2 ∧ Bx v2 BL [.string r.1, .string r.2]) := kk
                have hHeld := KK.out.1.low
                clear kk
                refine wpAnyH_ready (rs := [16]) (by kernel_rfl) (by simp) (AllReadyH.cons (o := { dst := some 141, op := _, type := _, pos := _, after := _, guard := none }) rfl (fun K hK => ?_) AllReadyH.nil)
                refine (if_pos (by kernel_rfl)).mpr (wp_append_newP _ _ 32 rfl (xb + 1) 81 i1 linkZ 2 32 Tryz.underlying32 hi1 jz0 jz1 jz2 rfl (by decide) xl (S.links.take j).length (linkXs (S.links.take j)) rfl KK.out.1.getL ⟨BL, 0, none⟩ 1 [.string r.1, .string r.2] rfl rfl (fun j u hj => by rw [show (⟨BL, 0, none⟩ : Addr).add j = ⟨BL, j, none⟩ from by rw [Addr.add_lit]; simp]; exact (KK.out.2.2 j u hj).1) (by intro u hu; simp at hu; rcases hu with rfl | rfl <;> rfl) (by rw [hlj]; unfold maxLen; omega) (by rw [hlj]; omega) KK.out.1.BV ?_)
                intro v' w4 hown' hgrow hnew
                obtain ⟨sq', sn', sc', hv'⟩ := own_sliceP hown'
                subst hv'
                have hq2 := KK.out.1.grownLow hgrow (fun c e => (own_ltP KK.out.1.getL e).1)
                have HQ : Hid (QM U xb (xb + 1) S.rules S.zones (S.links.take (j + 1)) xr (.slice sq' sn' sc') xz xs [] (w4.setCell ⟨xb, 2, none⟩ (.slice sq' sn' sc'))) := by rw [take_snoc hr]; exact KK.out.1.linked r hgrow hnew hown'
                have HBX : Hid (Bx w4 xb _) := KK.out.1.grownBox hgrow (fun c e => (own_ltP KK.out.1.getL e).1)
                refine hK.out _ _ hq2 (fun hHeld => ?_)
                clear hK K hown' hgrow hnew KK hq2
                refine wpAnyH_take (i := 17) (v := ?_) (oi := { dst := some 142, op := _, type := _, pos := _, after := _, guard := none }) rfl (by kernel_rfl) (by kernel_rfl) (by kernel_rfl) (fun _ _ _ h => h) (Or.inl ⟨by kernel_rfl, ?_⟩) (by assumption) ?_
                case refine_2 => (intro w9 hSw; clear hSw; go_simp; try with_reducible rfl)
                simp only [Act.put, List.setIfInBounds_toArray, List.set_cons_zero, List.set_cons_succ]
                refine wpAnyH_ready (rs := [18]) (by kernel_rfl) (by simp) (AllReadyH.cons (o := { dst := none, op := _, type := _, pos := _, after := _, guard := none }) rfl (fun K hK => ?_) AllReadyH.nil)
                have c2 := HBX.out.c 2 rfl
                have z2 := HBX.out.f 2 rfl
                have h4 := HBX.out.1
                go_simp
                refine hK.out _ _ HQ.out.low (fun hHeld => ?_)
                refine gen_any (fun V' => QM U xb (xb + 1) S.rules S.zones (S.links.take (j + 1)) xr (.slice sq' sn' sc') xz xs [] V') HQ.out ?_
                clear hHeld hK K HQ HBX c2 z2 h4
                intro v4 kk
                have KK : Hid (QM U xb (xb + 1) S.rules S.zones (S.links.take (j + 1)) xr (.slice sq' sn' sc') xz xs [] v4) := kk
                clear kk
                refine wpAnyH_done (by kernel_rfl) ?_ _
                go_wp2_with fail
                exact ⟨⟨j + 1, _, rfl, by omega, KK⟩, by simp only [intOf]; omega⟩
              ·
                go_simp
                refine hK.out _ _ (hHeld.trans (((Below.refl _ _).alloc (Nat.le_refl _) _).mono hHeld.size)) (fun hHeld => ?_)
                obtain ⟨BL, hBL⟩ : ∃ BL, BL = x1.heap.size := ⟨_, rfl⟩
                have KN : Hid (QM U xb (xb + 1) S.rules S.zones (S.links.take j) xr xl xz xs [] (x1.alloc (.cells #[.string r.1, .string r.2] 81)) ∧ Bx (x1.alloc (.cells #[.string r.1, .string r.2] 81)) BL [.string r.1, .string r.2]) := ⟨KK.out.below ((Below.refl _ _).alloc (Nat.le_refl _) _), by rw [hBL]; exact Bx.new x1 [.string r.1, .string r.2] _⟩
                refine gen_any (fun V' => (QM U xb (xb + 1) S.rules S.zones (S.links.take j) xr xl xz xs [] V' ∧ Bx V' BL [.string r.1, .string r.2])) KN.out ?_
                rw [← hBL]
                clear hHeld hK K KN hBL KK
                intro v5 kk
                have KK : Hid (QM U xb (xb + 1) S.rules S.zones (S.links.take j) xr xl xz xs [] v5 ∧ Bx v5 BL [.string r.1, .string r.2]) := kk
                have hHeld := KK.out.1.low
                clear kk
                refine wpAnyH_ready (rs := [1]) (by kernel_rfl) (by simp) (AllReadyH.cons (o := { dst := some 126, op := _, type := _, pos := _, after := _, guard := none }) rfl (fun K hK => ?_) AllReadyH.nil)
                have q0 := KK.out.1.box.c 2 rfl
                go_simp
                refine hK.out _ _ hHeld (fun hHeld => ?_)
                clear hK K q0
                refine wpAnyH_ready (rs := [16]) (by kernel_rfl) (by simp) (AllReadyH.cons (o := { dst := some 141, op := _, type := _, pos := _, after := _, guard := none }) rfl (fun K hK => ?_) AllReadyH.nil)
                refine (if_pos (by kernel_rfl)).mpr (wp_append_newP _ _ 32 rfl (xb + 1) 81 i1 linkZ 2 32 Tryz.underlying32 hi1 jz0 jz1 jz2 rfl (by decide) xl (S.links.take j).length (linkXs (S.links.take j)) rfl KK.out.1.getL ⟨BL, 0, none⟩ 1 [.string r.1, .string r.2] rfl rfl (fun j u hj => by rw [show (⟨BL, 0, none⟩ : Addr).add j = ⟨BL, j, none⟩ from by rw [Addr.add_lit]; simp]; exact (KK.out.2.2 j u hj).1) (by intro u hu; simp at hu; rcases hu with rfl | rfl <;> rfl) (by rw [hlj]; unfold maxLen; omega) (by rw [hlj]; omega) KK.out.1.BV ?_)
                intro v' w4 hown' hgrow hnew
                obtain ⟨sq', sn', sc', hv'⟩ := own_sliceP hown'
                subst hv'
                have hq2 := KK.out.1.grownLow hgrow (fun c e => (own_ltP KK.out.1.getL e).1)
                have HQ : Hid (QM U xb (xb + 1) S.rules S.zones (S.links.take (j + 1)) xr (.slice sq' sn' sc') xz xs [] (w4.setCell ⟨xb, 2, none⟩ (.slice sq' sn' sc'))) := by rw [take_snoc hr]; exact KK.out.1.linked r hgrow hnew hown'
                have HBX : Hid (Bx w4 xb _) := KK.out.1.grownBox hgrow (fun c e => (own_ltP KK.out.1.getL e).1)
                refine hK.out _ _ hq2 (fun hHeld => ?_)
                clear hK K hown' hgrow hnew KK hq2
                refine wpAnyH_take (i := 17) (v := ?_) (oi := { dst := some 142, op := _, type := _, pos := _, after := _, guard := none }) rfl (by kernel_rfl) (by kernel_rfl) (by kernel_rfl) (fun _ _ _ h => h) (Or.inl ⟨by kernel_rfl, ?_⟩) (by assumption) ?_
                case refine_2 => (intro w9 hSw; clear hSw; go_simp; try with_reducible rfl)
                simp only [Act.put, List.setIfInBounds_toArray, List.set_cons_zero, List.set_cons_succ]
                refine wpAnyH_ready (rs := [18]) (by kernel_rfl) (by simp) (AllReadyH.cons (o := { dst := none, op := _, type := _, pos := _, after := _, guard := none }) rfl (fun K hK => ?_) AllReadyH.nil)
                have c2 := HBX.out.c 2 rfl
                have z2 := HBX.out.f 2 rfl
                have h4 := HBX.out.1
                go_simp
                refine hK.out _ _ HQ.out.low (fun hHeld => ?_)
                refine gen_any (fun V' => QM U xb (xb + 1) S.rules S.zones (S.links.take (j + 1)) xr (.slice sq' sn' sc') xz xs [] V') HQ.out ?_
                clear hHeld hK K HQ HBX c2 z2 h4
                intro v8 kk
                have KK : Hid (QM U xb (xb + 1) S.rules S.zones (S.links.take (j + 1)) xr (.slice sq' sn' sc') xz xs [] v8) := kk
                clear kk
                refine wpAnyH_done (by kernel_rfl) ?_ _
                go_wp2_with fail
                exact ⟨⟨j + 1, _, rfl, by omega, KK⟩, by simp only [intOf]; omega⟩
            · have hjI : ¬ (j : Int) < (S.links.length : Int) := by omega
              have hjL : j = S.links.length := by omega
              have QC : Hid (QM U xb (xb + 1) S.rules S.zones S.links xr xl xz xs [] wr) := by have := KQ.out; rw [hjL, List.take_length] at this; exact this
              clear KQ
              obtain ⟨p1, p2, p3, hxr⟩ := own_sliceP QC.out.getR
              obtain ⟨o1, o2, o3, hxl⟩ := own_sliceP QC.out.getL
              obtain ⟨m1, m2, m3, hxz⟩ := own_sliceP QC.out.getZ
              subst hxr hxl hxz
              have g0 := QC.out.box.c 0 rfl
              have g1 := QC.out.box.c 1 rfl
              have g2 := QC.out.box.c 2 rfl
              have g3 := QC.out.box.1
              have XW : Hid (Bx wr (V.heap.size + 1) zDb) := XR.out.below QC.out.low
              have BW : Hid (Below V.heap.size V wr) := BVU.out.trans (QC.out.low.mono BVU.out.size)
              clear hj hj0 hjn hjL
              go_wp2_with (refine wpList_store_mid rfl 34 _ _ rfl (V.heap.size + 1) 0 #[.slice p1 p2 p3, .slice m1 m2 m3, .slice o1 o2 o3] rfl rfl XW.out.there (by kernel_rfl) (all_oneCell_toArray (cs := [.slice p1 p2 p3, .slice m1 m2 m3, .slice o1 o2 o3]) (by simp only [List.forall_mem_cons]; exact ⟨rfl, rfl, rfl, fun _ h => nomatch h⟩)) ?_; refine gen_list (fun W => Bx W (V.heap.size + 1) [.slice p1 p2 p3, .slice m1 m2 m3, .slice o1 o2 o3] ∧ Below V.heap.size V W ∧ Fam (xb + 1) W (rowsQ S.rules S.zones S.links (.slice p1 p2 p3) (.slice o1 o2 o3) (.slice m1 m2 m3) xs)) ⟨XW.out.setAll [.slice p1 p2 p3, .slice m1 m2 m3, .slice o1 o2 o3] rfl, below_setCells (by omega) _ _ 0 BW.out, by have q := QC.out.fam; rw [List.append_nil] at q; exact q.keep fun c h1 h2 _ => setCells_heap _ _ _ _ _ (by omega)⟩ ?_; rintro w4 ⟨X4, B4, F4⟩)
              have y0 := X4.c 0 rfl
              have y1 := X4.c 1 rfl
              have y2 := X4.c 2 rfl
              have HB : Hid (Below V.heap.size V w4 ∧ Fam (xb + 1) w4 (rowsQ S.rules S.zones S.links (.slice p1 p2 p3) (.slice o1 o2 o3) (.slice m1 m2 m3) xs)) := ⟨B4, F4⟩
              have hlq := QC.out.len
              clear X4 B4 F4
              refine bodyPost_ret (v := .agg #[.slice p1 p2 p3, .slice m1 m2 m3, .slice o1 o2 o3]) (by simp [results, Tryz.results9, go_sem, y0, y1, y2]) rfl ?_
              exact ⟨.slice p1 p2 p3, .slice o1 o2 o3, .slice m1 m2 m3, rfl, HB.out.1, xs, xb + 1, by omega, HB.out.2, hlq⟩


end Go.Proofs.YtgnfkkcagbbhmaaGreatDoor
