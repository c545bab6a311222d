/- Contract: the reference's Same of two sources that say the same. -/
import Derived.Test.YtgnfkkcagbbhmaaGreatDoorPmRq
import Derived.Laws.StructEq
namespace Go.Proofs.YtgnfkkcagbbhmaaGreatDoor
open Go.RowKit
open Sr (gen_any gen_list)
set_option linter.unusedVariables false

theorem famEraQ {B0 : Nat} {W : World} {R : List RuleT} {Z : List ZnT'} {L : List (ByteArray × ByteArray)} {xr xl xz : Value} {xs : List Value} (h : Fam B0 W (rowsQ R Z L xr xl xz xs)) {i : Nat} {z : ZnT'} {v : Value} (hz : Z[i]? = some z) (hv : xs[i]? = some v) : W.ownsRow B0 78 11 v z.2.length (eraXs z.2) :=
  h.get (3 + i) (r := eraRowQ z v) (by unfold rowsQ; rw [List.getElem?_append_right (by simp)]; simp only [List.length_cons, List.length_nil]; rw [show 3 + i - (0 + 1 + 1 + 1) = i by omega]; exact eraRowsQ_at _ _ _ _ _ hz hv)
set_option maxRecDepth 100000 in
set_option maxHeartbeats 8000000 in
theorem same_any (R : List RuleT) (Z : List ZnT') (L : List (ByteArray × ByteArray)) (xr xl xz yr yl yz : Value) (xs ys : List Value) (B1 B2 : Nat) (V : World) (hF1 : Fam B1 V (rowsQ R Z L xr xl xz xs)) (hF2 : Fam B2 V (rowsQ R Z L yr yl yz ys)) (hx : xs.length = Z.length) (hy : ys.length = Z.length) (hR : R.length ≤ 1000) (hZ : Z.length ≤ 1000) (hL : L.length ≤ 1000) (hE : ∀ z ∈ Z, z.2.length ≤ 1000) :
    Calls Tryz.prog 8 #[.agg #[xr, xz, xl], .agg #[yr, yz, yl]] V fun e W' => e = .returned (.bool true) ∧ Below V.heap.size V W' := by
  obtain ⟨ar, cr, h1, h2, h3, k1⟩ := own_rowP (hF1.get 0 rfl)
  obtain ⟨al, cl, h4, h5, h6, k2⟩ := own_rowP (hF1.get 1 rfl)
  obtain ⟨az, cz, h7, h8, h9, k3⟩ := own_rowP (hF1.get 2 rfl)
  obtain ⟨br, dr, g1, g2, g3, k4⟩ := own_rowP (hF2.get 0 rfl)
  obtain ⟨bl, dl, g4, g5, g6, k5⟩ := own_rowP (hF2.get 1 rfl)
  obtain ⟨bz, dz, g7, g8, g9, k6⟩ := own_rowP (hF2.get 2 rfl)
  simp only at h1 h2 h4 h5 h7 h8 g1 g2 g4 g5 g7 g8 k1 k2 k3 k4 k5 k6
  subst h1 h4 h7 g1 g4 g7
  obtain ⟨U, hU⟩ : ∃ U, U = ((V.alloc (.cells #[.slice ar R.length cr, .slice az Z.length cz, .slice al L.length cl] 34)).alloc (.cells #[.slice br R.length dr, .slice bz Z.length dz, .slice bl L.length dl] 34)) := ⟨_, rfl⟩
  have BU : Hid (Below V.heap.size V U) := by rw [hU]; exact ((Below.refl _ _).alloc (Nat.le_refl _) _).alloc (by simp) _
  have X1 : Hid (Bx U V.heap.size [.slice ar R.length cr, .slice az Z.length cz, .slice al L.length cl]) := by rw [hU]; exact (Bx.new V [.slice ar R.length cr, .slice az Z.length cz, .slice al L.length cl] 34).alloc _
  have X2 : Hid (Bx U (V.heap.size + 1) [.slice br R.length dr, .slice bz Z.length dz, .slice bl L.length dl]) := by
    rw [hU]
    have q := Bx.new (V.alloc (.cells #[.slice ar R.length cr, .slice az Z.length cz, .slice al L.length cl] 34)) [.slice br R.length dr, .slice bz Z.length dz, .slice bl L.length dl] 34
    have e : (V.alloc (.cells #[.slice ar R.length cr, .slice az Z.length cz, .slice al L.length cl] 34)).heap.size = V.heap.size + 1 := by simp
    rw [e] at q
    exact q
  have F1 : Hid (Fam B1 U (rowsQ R Z L (.slice ar R.length cr) (.slice al L.length cl) (.slice az Z.length cz) xs)) := hF1.below BU.out
  have F2 : Hid (Fam B2 U (rowsQ R Z L (.slice br R.length dr) (.slice bl L.length dl) (.slice bz Z.length dz) ys)) := hF2.below BU.out
  have KB : Hid (Below U.heap.size U U) := Below.refl _ _
  clear hF1 hF2
  have hnR : (R.length : Int) ≤ 1000 := by omega
  have hnZ : (Z.length : Int) ≤ 1000 := by omega
  have hnL : (L.length : Int) ≤ 1000 := by omega
  go_enter Tryz.func8, Tryz.ntmps8
  go_upto_region 3 with fail
  rw [← hU]
  refine gen_code (fun W => Below U.heap.size U W) KB.out ?_
  clear KB hU
  intro w0 kk
  have KB : Hid (Below U.heap.size U w0) := kk
  clear kk
  go_wp2_with fail
  go_loopw [5] (fun iv W => ∃ j : Nat, iv = .int .i64 (j : Int) ∧ j ≤ R.length ∧ Hid (Below U.heap.size U W)) (fun iv _ => R.length - (intOf iv).toNat)
  case atStart => exact ⟨0, rfl, Nat.zero_le _, KB⟩
  case round =>
    clear KB
    obtain ⟨j, rfl, hj, KB⟩ := hrel
    have hj0 : (0 : Int) ≤ (j : Int) := by omega
    have t10 := (X1.out.below KB.out).c 0 rfl
    have u1 := (X1.out.below KB.out).1
    by_cases hjn : j < R.length
    · have hjI : (j : Int) < (R.length : Int) := by omega
      have hjw : IntKind.i64.wrap ((j : Int) + 1) = (j : Int) + 1 := by rw [IntKind.wrap_i64]; omega
      obtain ⟨b1, hb1, -⟩ := k1 (by omega)
      obtain ⟨b2, hb2, -⟩ := k4 (by omega)
      subst hb1 hb2
      obtain ⟨r, hr⟩ : ∃ r, R[j]? = some r := ⟨_, List.getElem?_eq_getElem hjn⟩
      go_upto_region 6 with fail
      clear t10 u1
      go_wp2_with fail
      refine wp_region_held_drew (S := fun W => Below U.heap.size U W) (by kernel_rfl) KB.out.drew (fun hHeld => ?_)
      refine gen_any (fun W => Below U.heap.size U W) hHeld ?_
      clear hHeld KB
      intro w5 kk
      have KB : Hid (Below U.heap.size U w5) := kk
      have hHeld := kk
      clear kk
      refine wpAnyH_take (i := 0) (v := ?_) (oi := { dst := some 41, op := _, type := _, pos := _, after := _, guard := none }) rfl (by kernel_rfl) (by kernel_rfl) (by kernel_rfl) (fun _ _ _ h => h) (Or.inl ⟨by kernel_rfl, ?_⟩) (by assumption) ?_
      case refine_2 => (intro w9 hSw; clear hSw; go_simp; try with_reducible rfl)
      simp only [Act.put, List.setIfInBounds_toArray, List.set_cons_zero, List.set_cons_succ]
      refine wpAnyH_take (i := 1) (v := ?_) (oi := { dst := some 42, op := _, type := _, pos := _, after := _, guard := none }) rfl (by kernel_rfl) (by kernel_rfl) (by kernel_rfl) (fun _ _ _ h => h) (Or.inl ⟨by kernel_rfl, ?_⟩) (by assumption) ?_
      case refine_2 => (intro w9 hSw; have t10 := (X1.out.below hSw).c 0 rfl; have u1 := (X1.out.below hSw).1; clear hSw; go_simp; try with_reducible rfl)
      simp only [Act.put, List.setIfInBounds_toArray, List.set_cons_zero, List.set_cons_succ]
      refine wpAnyH_take (i := 2) (v := ?_) (oi := { dst := some 43, op := _, type := _, pos := _, after := _, guard := none }) rfl (by kernel_rfl) (by kernel_rfl) (by kernel_rfl) (fun _ _ _ h => h) (Or.inl ⟨by kernel_rfl, ?_⟩) (by assumption) ?_
      case refine_2 => (intro w9 hSw; clear hSw; go_simp; try with_reducible rfl)
      simp only [Act.put, List.setIfInBounds_toArray, List.set_cons_zero, List.set_cons_succ]
      refine wpAnyH_take (i := 3) (v := ?_) (oi := { dst := some 44, op := _, type := _, pos := _, after := _, guard := none }) rfl (by kernel_rfl) (by kernel_rfl) (by kernel_rfl) (fun _ _ _ h => h) (Or.inl ⟨by kernel_rfl, ?_⟩) (by assumption) ?_
      case refine_2 => (intro w9 hSw; clear hSw; go_simp; try with_reducible rfl)
      simp only [Act.put, List.setIfInBounds_toArray, List.set_cons_zero, List.set_cons_succ]
      refine wpAnyH_take (i := 4) (v := ?_) (oi := { dst := some 45, op := _, type := _, pos := _, after := _, guard := none }) rfl (by kernel_rfl) (by kernel_rfl) (by kernel_rfl) (fun _ _ _ h => h) (Or.inl ⟨by kernel_rfl, ?_⟩) (by assumption) ?_
      case refine_2 => (intro w9 hSw; have a0 := (((F1.out.below hSw).get 0 rfl).cellAt (j * 11) (by show _ < R.length * 11; omega)).trans (ruleXs_at _ j 0 r _ hr rfl); have a1 := (((F1.out.below hSw).get 0 rfl).cellAt (j * 11 + 1) (by show _ < R.length * 11; omega)).trans (ruleXs_at _ j 1 r _ hr rfl); have a2 := (((F1.out.below hSw).get 0 rfl).cellAt (j * 11 + 2) (by show _ < R.length * 11; omega)).trans (ruleXs_at _ j 2 r _ hr rfl); have a3 := (((F1.out.below hSw).get 0 rfl).cellAt (j * 11 + 3) (by show _ < R.length * 11; omega)).trans (ruleXs_at _ j 3 r _ hr rfl); have a4 := (((F1.out.below hSw).get 0 rfl).cellAt (j * 11 + 4) (by show _ < R.length * 11; omega)).trans (ruleXs_at _ j 4 r _ hr rfl); have a5 := (((F1.out.below hSw).get 0 rfl).cellAt (j * 11 + 5) (by show _ < R.length * 11; omega)).trans (ruleXs_at _ j 5 r _ hr rfl); have a6 := (((F1.out.below hSw).get 0 rfl).cellAt (j * 11 + 6) (by show _ < R.length * 11; omega)).trans (ruleXs_at _ j 6 r _ hr rfl); have a7 := (((F1.out.below hSw).get 0 rfl).cellAt (j * 11 + 7) (by show _ < R.length * 11; omega)).trans (ruleXs_at _ j 7 r _ hr rfl); have a8 := (((F1.out.below hSw).get 0 rfl).cellAt (j * 11 + 8) (by show _ < R.length * 11; omega)).trans (ruleXs_at _ j 8 r _ hr rfl); have a9 := (((F1.out.below hSw).get 0 rfl).cellAt (j * 11 + 9) (by show _ < R.length * 11; omega)).trans (ruleXs_at _ j 9 r _ hr rfl); have a10 := (((F1.out.below hSw).get 0 rfl).cellAt (j * 11 + 10) (by show _ < R.length * 11; omega)).trans (ruleXs_at _ j 10 r _ hr rfl); have aw := World.block_lt_of_cell? _ _ a0; clear hSw; go_simp; try with_reducible rfl)
      simp only [Act.put, List.setIfInBounds_toArray, List.set_cons_zero, List.set_cons_succ]
      refine wpAnyH_take (i := 5) (v := ?_) (oi := { dst := some 46, op := _, type := _, pos := _, after := _, guard := none }) rfl (by kernel_rfl) (by kernel_rfl) (by kernel_rfl) (fun _ _ _ h => h) (Or.inl ⟨by kernel_rfl, ?_⟩) (by assumption) ?_
      case refine_2 => (intro w9 hSw; clear hSw; go_simp; try with_reducible rfl)
      simp only [Act.put, List.setIfInBounds_toArray, List.set_cons_zero, List.set_cons_succ]
      refine wpAnyH_take (i := 6) (v := ?_) (oi := { dst := some 47, op := _, type := _, pos := _, after := _, guard := none }) rfl (by kernel_rfl) (by kernel_rfl) (by kernel_rfl) (fun _ _ _ h => h) (Or.inl ⟨by kernel_rfl, ?_⟩) (by assumption) ?_
      case refine_2 => (intro w9 hSw; have t20 := (X2.out.below hSw).c 0 rfl; have u2 := (X2.out.below hSw).1; clear hSw; go_simp; try with_reducible rfl)
      simp only [Act.put, List.setIfInBounds_toArray, List.set_cons_zero, List.set_cons_succ]
      refine wpAnyH_take (i := 7) (v := ?_) (oi := { dst := some 48, op := _, type := _, pos := _, after := _, guard := none }) rfl (by kernel_rfl) (by kernel_rfl) (by kernel_rfl) (fun _ _ _ h => h) (Or.inl ⟨by kernel_rfl, ?_⟩) (by assumption) ?_
      case refine_2 => (intro w9 hSw; clear hSw; go_simp; try with_reducible rfl)
      simp only [Act.put, List.setIfInBounds_toArray, List.set_cons_zero, List.set_cons_succ]
      refine wpAnyH_take (i := 8) (v := ?_) (oi := { dst := some 49, op := _, type := _, pos := _, after := _, guard := none }) rfl (by kernel_rfl) (by kernel_rfl) (by kernel_rfl) (fun _ _ _ h => h) (Or.inl ⟨by kernel_rfl, ?_⟩) (by assumption) ?_
      case refine_2 => (intro w9 hSw; clear hSw; go_simp; try with_reducible rfl)
      simp only [Act.put, List.setIfInBounds_toArray, List.set_cons_zero, List.set_cons_succ]
      refine wpAnyH_take (i := 9) (v := ?_) (oi := { dst := some 50, op := _, type := _, pos := _, after := _, guard := none }) rfl (by kernel_rfl) (by kernel_rfl) (by kernel_rfl) (fun _ _ _ h => h) (Or.inl ⟨by kernel_rfl, ?_⟩) (by assumption) ?_
      case refine_2 => (intro w9 hSw; have b0 := (((F2.out.below hSw).get 0 rfl).cellAt (j * 11) (by show _ < R.length * 11; omega)).trans (ruleXs_at _ j 0 r _ hr rfl); have b1 := (((F2.out.below hSw).get 0 rfl).cellAt (j * 11 + 1) (by show _ < R.length * 11; omega)).trans (ruleXs_at _ j 1 r _ hr rfl); have b2 := (((F2.out.below hSw).get 0 rfl).cellAt (j * 11 + 2) (by show _ < R.length * 11; omega)).trans (ruleXs_at _ j 2 r _ hr rfl); have b3 := (((F2.out.below hSw).get 0 rfl).cellAt (j * 11 + 3) (by show _ < R.length * 11; omega)).trans (ruleXs_at _ j 3 r _ hr rfl); have b4 := (((F2.out.below hSw).get 0 rfl).cellAt (j * 11 + 4) (by show _ < R.length * 11; omega)).trans (ruleXs_at _ j 4 r _ hr rfl); have b5 := (((F2.out.below hSw).get 0 rfl).cellAt (j * 11 + 5) (by show _ < R.length * 11; omega)).trans (ruleXs_at _ j 5 r _ hr rfl); have b6 := (((F2.out.below hSw).get 0 rfl).cellAt (j * 11 + 6) (by show _ < R.length * 11; omega)).trans (ruleXs_at _ j 6 r _ hr rfl); have b7 := (((F2.out.below hSw).get 0 rfl).cellAt (j * 11 + 7) (by show _ < R.length * 11; omega)).trans (ruleXs_at _ j 7 r _ hr rfl); have b8 := (((F2.out.below hSw).get 0 rfl).cellAt (j * 11 + 8) (by show _ < R.length * 11; omega)).trans (ruleXs_at _ j 8 r _ hr rfl); have b9 := (((F2.out.below hSw).get 0 rfl).cellAt (j * 11 + 9) (by show _ < R.length * 11; omega)).trans (ruleXs_at _ j 9 r _ hr rfl); have b10 := (((F2.out.below hSw).get 0 rfl).cellAt (j * 11 + 10) (by show _ < R.length * 11; omega)).trans (ruleXs_at _ j 10 r _ hr rfl); have bw := World.block_lt_of_cell? _ _ b0; clear hSw; go_simp; try with_reducible rfl)
      simp only [Act.put, List.setIfInBounds_toArray, List.set_cons_zero, List.set_cons_succ]
      refine wpAnyH_take (i := 10) (v := ?_) (oi := { dst := some 51, op := _, type := _, pos := _, after := _, guard := none }) rfl (by kernel_rfl) (by kernel_rfl) (by kernel_rfl) (fun _ _ _ h => h) (Or.inl ⟨by kernel_rfl, ?_⟩) (by assumption) ?_
      case refine_2 => (intro w9 hSw; clear hSw; go_simp; try with_reducible rfl)
      simp only [Act.put, List.setIfInBounds_toArray, List.set_cons_zero, List.set_cons_succ]
      refine wpAnyH_done (by kernel_rfl) ?_ _
      go_wp2_with fail
      exact ⟨⟨j + 1, rfl, by omega, KB⟩, by simp only [intOf]; omega⟩
    · have hjI : ¬ (j : Int) < (R.length : Int) := by omega
      go_wp2_with fail
      clear t10 u1 hj hj0 hjn hjI
      go_loopw [6] (fun iv W => ∃ j : Nat, iv = .int .i64 (j : Int) ∧ j ≤ Z.length ∧ Hid (Below U.heap.size U W)) (fun iv _ => Z.length - (intOf iv).toNat)
      case atStart => exact ⟨0, rfl, Nat.zero_le _, KB⟩
      case round =>
        clear KB
        obtain ⟨j, rfl, hj, KB⟩ := hrel
        have hj0 : (0 : Int) ≤ (j : Int) := by omega
        have t11 := (X1.out.below KB.out).c 1 rfl
        have u1 := (X1.out.below KB.out).1
        by_cases hjn : j < Z.length
        · have hjI : (j : Int) < (Z.length : Int) := by omega
          have hjw : IntKind.i64.wrap ((j : Int) + 1) = (j : Int) + 1 := by rw [IntKind.wrap_i64]; omega
          obtain ⟨b1, hb1, -⟩ := k3 (by omega)
          obtain ⟨b2, hb2, -⟩ := k6 (by omega)
          subst hb1 hb2
          obtain ⟨z, hz⟩ : ∃ z, Z[j]? = some z := ⟨_, List.getElem?_eq_getElem hjn⟩
          have hz9 := hE z (List.mem_of_getElem? hz)
          obtain ⟨nm, E⟩ := z
          simp only at hz9
          obtain ⟨v1, p0, p1, p2⟩ := zoneXs_at _ _ j _ hx hz
          obtain ⟨v2, q0, q1, q2⟩ := zoneXs_at _ _ j _ hy hz
          simp only at p0 q0
          obtain ⟨ae, ce, e1, e2, e3, e4⟩ := own_rowP (famEraQ F1.out hz p2)
          obtain ⟨be, de, f1, f2, f3, f4⟩ := own_rowP (famEraQ F2.out hz q2)
          simp only at e1 e2 e4 f1 f2 f4
          subst e1 f1
          have hnE : (E.length : Int) ≤ 1000 := by omega
          go_upto_region 11 with fail
          clear t11 u1
          go_wp2_with fail
          refine wp_region_held_drew (S := fun W => Below U.heap.size U W) (by kernel_rfl) KB.out.drew (fun hHeld => ?_)
          refine gen_any (fun W => Below U.heap.size U W) hHeld ?_
          clear hHeld KB
          intro w5 kk
          have KB : Hid (Below U.heap.size U w5) := kk
          have hHeld := kk
          clear kk
          refine wpAnyH_take (i := 0) (v := ?_) (oi := { dst := some 59, op := _, type := _, pos := _, after := _, guard := none }) rfl (by kernel_rfl) (by kernel_rfl) (by kernel_rfl) (fun _ _ _ h => h) (Or.inl ⟨by kernel_rfl, ?_⟩) (by assumption) ?_
          case refine_2 => (intro w9 hSw; clear hSw; go_simp; try with_reducible rfl)
          simp only [Act.put, List.setIfInBounds_toArray, List.set_cons_zero, List.set_cons_succ]
          refine wpAnyH_take (i := 1) (v := ?_) (oi := { dst := some 60, op := _, type := _, pos := _, after := _, guard := none }) rfl (by kernel_rfl) (by kernel_rfl) (by kernel_rfl) (fun _ _ _ h => h) (Or.inl ⟨by kernel_rfl, ?_⟩) (by assumption) ?_
          case refine_2 => (intro w9 hSw; have t11 := (X1.out.below hSw).c 1 rfl; have u1 := (X1.out.below hSw).1; clear hSw; go_simp; try with_reducible rfl)
          simp only [Act.put, List.setIfInBounds_toArray, List.set_cons_zero, List.set_cons_succ]
          refine wpAnyH_take (i := 2) (v := ?_) (oi := { dst := some 61, op := _, type := _, pos := _, after := _, guard := none }) rfl (by kernel_rfl) (by kernel_rfl) (by kernel_rfl) (fun _ _ _ h => h) (Or.inl ⟨by kernel_rfl, ?_⟩) (by assumption) ?_
          case refine_2 => (intro w9 hSw; clear hSw; go_simp; try with_reducible rfl)
          simp only [Act.put, List.setIfInBounds_toArray, List.set_cons_zero, List.set_cons_succ]
          refine wpAnyH_take (i := 3) (v := ?_) (oi := { dst := some 62, op := _, type := _, pos := _, after := _, guard := none }) rfl (by kernel_rfl) (by kernel_rfl) (by kernel_rfl) (fun _ _ _ h => h) (Or.inl ⟨by kernel_rfl, ?_⟩) (by assumption) ?_
          case refine_2 => (intro w9 hSw; clear hSw; go_simp; try with_reducible rfl)
          simp only [Act.put, List.setIfInBounds_toArray, List.set_cons_zero, List.set_cons_succ]
          refine wpAnyH_take (i := 4) (v := ?_) (oi := { dst := some 63, op := _, type := _, pos := _, after := _, guard := none }) rfl (by kernel_rfl) (by kernel_rfl) (by kernel_rfl) (fun _ _ _ h => h) (Or.inl ⟨by kernel_rfl, ?_⟩) (by assumption) ?_
          case refine_2 => (intro w9 hSw; clear hSw; go_simp; try with_reducible rfl)
          simp only [Act.put, List.setIfInBounds_toArray, List.set_cons_zero, List.set_cons_succ]
          refine wpAnyH_take (i := 5) (v := ?_) (oi := { dst := some 64, op := _, type := _, pos := _, after := _, guard := none }) rfl (by kernel_rfl) (by kernel_rfl) (by kernel_rfl) (fun _ _ _ h => h) (Or.inl ⟨by kernel_rfl, ?_⟩) (by assumption) ?_
          case refine_2 => (intro w9 hSw; have a0 := (((F1.out.below hSw).get 2 rfl).cellAt (j * 2) (by show _ < Z.length * 2; omega)).trans (p0); have a1 := (((F1.out.below hSw).get 2 rfl).cellAt (j * 2 + 1) (by show _ < Z.length * 2; omega)).trans (p1); have aw := World.block_lt_of_cell? _ _ a0; clear hSw; go_simp; try with_reducible rfl)
          simp only [Act.put, List.setIfInBounds_toArray, List.set_cons_zero, List.set_cons_succ]
          refine wpAnyH_take (i := 6) (v := ?_) (oi := { dst := some 65, op := _, type := _, pos := _, after := _, guard := none }) rfl (by kernel_rfl) (by kernel_rfl) (by kernel_rfl) (fun _ _ _ h => h) (Or.inl ⟨by kernel_rfl, ?_⟩) (by assumption) ?_
          case refine_2 => (intro w9 hSw; clear hSw; go_simp; try with_reducible rfl)
          simp only [Act.put, List.setIfInBounds_toArray, List.set_cons_zero, List.set_cons_succ]
          refine wpAnyH_take (i := 7) (v := ?_) (oi := { dst := some 66, op := _, type := _, pos := _, after := _, guard := none }) rfl (by kernel_rfl) (by kernel_rfl) (by kernel_rfl) (fun _ _ _ h => h) (Or.inl ⟨by kernel_rfl, ?_⟩) (by assumption) ?_
          case refine_2 => (intro w9 hSw; have t21 := (X2.out.below hSw).c 1 rfl; have u2 := (X2.out.below hSw).1; clear hSw; go_simp; try with_reducible rfl)
          simp only [Act.put, List.setIfInBounds_toArray, List.set_cons_zero, List.set_cons_succ]
          refine wpAnyH_take (i := 8) (v := ?_) (oi := { dst := some 67, op := _, type := _, pos := _, after := _, guard := none }) rfl (by kernel_rfl) (by kernel_rfl) (by kernel_rfl) (fun _ _ _ h => h) (Or.inl ⟨by kernel_rfl, ?_⟩) (by assumption) ?_
          case refine_2 => (intro w9 hSw; clear hSw; go_simp; try with_reducible rfl)
          simp only [Act.put, List.setIfInBounds_toArray, List.set_cons_zero, List.set_cons_succ]
          refine wpAnyH_take (i := 9) (v := ?_) (oi := { dst := some 68, op := _, type := _, pos := _, after := _, guard := none }) rfl (by kernel_rfl) (by kernel_rfl) (by kernel_rfl) (fun _ _ _ h => h) (Or.inl ⟨by kernel_rfl, ?_⟩) (by assumption) ?_
          case refine_2 => (intro w9 hSw; clear hSw; go_simp; try with_reducible rfl)
          simp only [Act.put, List.setIfInBounds_toArray, List.set_cons_zero, List.set_cons_succ]
          refine wpAnyH_take (i := 10) (v := ?_) (oi := { dst := some 69, op := _, type := _, pos := _, after := _, guard := none }) rfl (by kernel_rfl) (by kernel_rfl) (by kernel_rfl) (fun _ _ _ h => h) (Or.inl ⟨by kernel_rfl, ?_⟩) (by assumption) ?_
          case refine_2 => (intro w9 hSw; clear hSw; go_simp; try with_reducible rfl)
          simp only [Act.put, List.setIfInBounds_toArray, List.set_cons_zero, List.set_cons_succ]
          refine wpAnyH_take (i := 11) (v := ?_) (oi := { dst := some 70, op := _, type := _, pos := _, after := _, guard := none }) rfl (by kernel_rfl) (by kernel_rfl) (by kernel_rfl) (fun _ _ _ h => h) (Or.inl ⟨by kernel_rfl, ?_⟩) (by assumption) ?_
          case refine_2 => (intro w9 hSw; have b0 := (((F2.out.below hSw).get 2 rfl).cellAt (j * 2) (by show _ < Z.length * 2; omega)).trans (q0); have b1 := (((F2.out.below hSw).get 2 rfl).cellAt (j * 2 + 1) (by show _ < Z.length * 2; omega)).trans (q1); have bw := World.block_lt_of_cell? _ _ b0; clear hSw; go_simp; try with_reducible rfl)
          simp only [Act.put, List.setIfInBounds_toArray, List.set_cons_zero, List.set_cons_succ]
          refine wpAnyH_take (i := 12) (v := ?_) (oi := { dst := some 71, op := _, type := _, pos := _, after := _, guard := none }) rfl (by kernel_rfl) (by kernel_rfl) (by kernel_rfl) (fun _ _ _ h => h) (Or.inl ⟨by kernel_rfl, ?_⟩) (by assumption) ?_
          case refine_2 => (intro w9 hSw; clear hSw; go_simp; try with_reducible rfl)
          simp only [Act.put, List.setIfInBounds_toArray, List.set_cons_zero, List.set_cons_succ]
          refine wpAnyH_take (i := 13) (v := ?_) (oi := { dst := some 72, op := _, type := _, pos := _, after := _, guard := none }) rfl (by kernel_rfl) (by kernel_rfl) (by kernel_rfl) (fun _ _ _ h => h) (Or.inl ⟨by kernel_rfl, ?_⟩) (by assumption) ?_
          case refine_2 => (intro w9 hSw; clear hSw; go_simp; try with_reducible rfl)
          simp only [Act.put, List.setIfInBounds_toArray, List.set_cons_zero, List.set_cons_succ]
          refine wpAnyH_take (i := 14) (v := ?_) (oi := { dst := some 73, op := _, type := _, pos := _, after := _, guard := some (13, false) }) rfl (by kernel_rfl) (by kernel_rfl) (by kernel_rfl) (fun _ _ _ h => h) (Or.inl ⟨by kernel_rfl, ?_⟩) (by assumption) ?_
          case refine_2 => (intro w9 hSw; clear hSw; go_simp; try with_reducible rfl)
          simp only [Act.put, List.setIfInBounds_toArray, List.set_cons_zero, List.set_cons_succ]
          refine wpAnyH_take (i := 15) (v := ?_) (oi := { dst := some 74, op := _, type := _, pos := _, after := _, guard := some (13, false) }) rfl (by kernel_rfl) (by kernel_rfl) (by kernel_rfl) (fun _ _ _ h => h) (Or.inl ⟨by kernel_rfl, ?_⟩) (by assumption) ?_
          case refine_2 => (intro w9 hSw; have t11 := (X1.out.below hSw).c 1 rfl; have u1 := (X1.out.below hSw).1; clear hSw; go_simp; try with_reducible rfl)
          simp only [Act.put, List.setIfInBounds_toArray, List.set_cons_zero, List.set_cons_succ]
          refine wpAnyH_take (i := 16) (v := ?_) (oi := { dst := some 75, op := _, type := _, pos := _, after := _, guard := some (13, false) }) rfl (by kernel_rfl) (by kernel_rfl) (by kernel_rfl) (fun _ _ _ h => h) (Or.inl ⟨by kernel_rfl, ?_⟩) (by assumption) ?_
          case refine_2 => (intro w9 hSw; clear hSw; go_simp; try with_reducible rfl)
          simp only [Act.put, List.setIfInBounds_toArray, List.set_cons_zero, List.set_cons_succ]
          refine wpAnyH_take (i := 17) (v := ?_) (oi := { dst := some 76, op := _, type := _, pos := _, after := _, guard := some (13, false) }) rfl (by kernel_rfl) (by kernel_rfl) (by kernel_rfl) (fun _ _ _ h => h) (Or.inl ⟨by kernel_rfl, ?_⟩) (by assumption) ?_
          case refine_2 => (intro w9 hSw; clear hSw; go_simp; try with_reducible rfl)
          simp only [Act.put, List.setIfInBounds_toArray, List.set_cons_zero, List.set_cons_succ]
          refine wpAnyH_take (i := 18) (v := ?_) (oi := { dst := some 77, op := _, type := _, pos := _, after := _, guard := some (13, false) }) rfl (by kernel_rfl) (by kernel_rfl) (by kernel_rfl) (fun _ _ _ h => h) (Or.inl ⟨by kernel_rfl, ?_⟩) (by assumption) ?_
          case refine_2 => (intro w9 hSw; clear hSw; go_simp; try with_reducible rfl)
          simp only [Act.put, List.setIfInBounds_toArray, List.set_cons_zero, List.set_cons_succ]
          refine wpAnyH_take (i := 19) (v := ?_) (oi := { dst := some 78, op := _, type := _, pos := _, after := _, guard := some (13, false) }) rfl (by kernel_rfl) (by kernel_rfl) (by kernel_rfl) (fun _ _ _ h => h) (Or.inl ⟨by kernel_rfl, ?_⟩) (by assumption) ?_
          case refine_2 => (intro w9 hSw; have a0 := (((F1.out.below hSw).get 2 rfl).cellAt (j * 2) (by show _ < Z.length * 2; omega)).trans (p0); have a1 := (((F1.out.below hSw).get 2 rfl).cellAt (j * 2 + 1) (by show _ < Z.length * 2; omega)).trans (p1); have aw := World.block_lt_of_cell? _ _ a0; clear hSw; go_simp; try with_reducible rfl)
          simp only [Act.put, List.setIfInBounds_toArray, List.set_cons_zero, List.set_cons_succ]
          refine wpAnyH_take (i := 20) (v := ?_) (oi := { dst := some 79, op := _, type := _, pos := _, after := _, guard := some (13, false) }) rfl (by kernel_rfl) (by kernel_rfl) (by kernel_rfl) (fun _ _ _ h => h) (Or.inl ⟨by kernel_rfl, ?_⟩) (by assumption) ?_
          case refine_2 => (intro w9 hSw; clear hSw; go_simp; try with_reducible rfl)
          simp only [Act.put, List.setIfInBounds_toArray, List.set_cons_zero, List.set_cons_succ]
          refine wpAnyH_take (i := 21) (v := ?_) (oi := { dst := some 80, op := _, type := _, pos := _, after := _, guard := some (13, false) }) rfl (by kernel_rfl) (by kernel_rfl) (by kernel_rfl) (fun _ _ _ h => h) (Or.inl ⟨by kernel_rfl, ?_⟩) (by assumption) ?_
          case refine_2 => (intro w9 hSw; clear hSw; go_simp; try with_reducible rfl)
          simp only [Act.put, List.setIfInBounds_toArray, List.set_cons_zero, List.set_cons_succ]
          refine wpAnyH_take (i := 22) (v := ?_) (oi := { dst := some 81, op := _, type := _, pos := _, after := _, guard := some (13, false) }) rfl (by kernel_rfl) (by kernel_rfl) (by kernel_rfl) (fun _ _ _ h => h) (Or.inl ⟨by kernel_rfl, ?_⟩) (by assumption) ?_
          case refine_2 => (intro w9 hSw; have t21 := (X2.out.below hSw).c 1 rfl; have u2 := (X2.out.below hSw).1; clear hSw; go_simp; try with_reducible rfl)
          simp only [Act.put, List.setIfInBounds_toArray, List.set_cons_zero, List.set_cons_succ]
          refine wpAnyH_take (i := 23) (v := ?_) (oi := { dst := some 82, op := _, type := _, pos := _, after := _, guard := some (13, false) }) rfl (by kernel_rfl) (by kernel_rfl) (by kernel_rfl) (fun _ _ _ h => h) (Or.inl ⟨by kernel_rfl, ?_⟩) (by assumption) ?_
          case refine_2 => (intro w9 hSw; clear hSw; go_simp; try with_reducible rfl)
          simp only [Act.put, List.setIfInBounds_toArray, List.set_cons_zero, List.set_cons_succ]
          refine wpAnyH_take (i := 24) (v := ?_) (oi := { dst := some 83, op := _, type := _, pos := _, after := _, guard := some (13, false) }) rfl (by kernel_rfl) (by kernel_rfl) (by kernel_rfl) (fun _ _ _ h => h) (Or.inl ⟨by kernel_rfl, ?_⟩) (by assumption) ?_
          case refine_2 => (intro w9 hSw; clear hSw; go_simp; try with_reducible rfl)
          simp only [Act.put, List.setIfInBounds_toArray, List.set_cons_zero, List.set_cons_succ]
          refine wpAnyH_take (i := 25) (v := ?_) (oi := { dst := some 84, op := _, type := _, pos := _, after := _, guard := some (13, false) }) rfl (by kernel_rfl) (by kernel_rfl) (by kernel_rfl) (fun _ _ _ h => h) (Or.inl ⟨by kernel_rfl, ?_⟩) (by assumption) ?_
          case refine_2 => (intro w9 hSw; clear hSw; go_simp; try with_reducible rfl)
          simp only [Act.put, List.setIfInBounds_toArray, List.set_cons_zero, List.set_cons_succ]
          refine wpAnyH_take (i := 26) (v := ?_) (oi := { dst := some 85, op := _, type := _, pos := _, after := _, guard := some (13, false) }) rfl (by kernel_rfl) (by kernel_rfl) (by kernel_rfl) (fun _ _ _ h => h) (Or.inl ⟨by kernel_rfl, ?_⟩) (by assumption) ?_
          case refine_2 => (intro w9 hSw; have b0 := (((F2.out.below hSw).get 2 rfl).cellAt (j * 2) (by show _ < Z.length * 2; omega)).trans (q0); have b1 := (((F2.out.below hSw).get 2 rfl).cellAt (j * 2 + 1) (by show _ < Z.length * 2; omega)).trans (q1); have bw := World.block_lt_of_cell? _ _ b0; clear hSw; go_simp; try with_reducible rfl)
          simp only [Act.put, List.setIfInBounds_toArray, List.set_cons_zero, List.set_cons_succ]
          refine wpAnyH_take (i := 27) (v := ?_) (oi := { dst := some 86, op := _, type := _, pos := _, after := _, guard := some (13, false) }) rfl (by kernel_rfl) (by kernel_rfl) (by kernel_rfl) (fun _ _ _ h => h) (Or.inl ⟨by kernel_rfl, ?_⟩) (by assumption) ?_
          case refine_2 => (intro w9 hSw; clear hSw; go_simp; try with_reducible rfl)
          simp only [Act.put, List.setIfInBounds_toArray, List.set_cons_zero, List.set_cons_succ]
          refine wpAnyH_take (i := 28) (v := ?_) (oi := { dst := some 87, op := _, type := _, pos := _, after := _, guard := some (13, false) }) rfl (by kernel_rfl) (by kernel_rfl) (by kernel_rfl) (fun _ _ _ h => h) (Or.inl ⟨by kernel_rfl, ?_⟩) (by assumption) ?_
          case refine_2 => (intro w9 hSw; clear hSw; go_simp; try with_reducible rfl)
          simp only [Act.put, List.setIfInBounds_toArray, List.set_cons_zero, List.set_cons_succ]
          refine wpAnyH_take (i := 29) (v := ?_) (oi := { dst := some 88, op := _, type := _, pos := _, after := _, guard := none }) rfl (by kernel_rfl) (by kernel_rfl) (by kernel_rfl) (fun _ _ _ h => h) (Or.inl ⟨by kernel_rfl, ?_⟩) (by assumption) ?_
          case refine_2 => (intro w9 hSw; clear hSw; go_simp; try with_reducible rfl)
          simp only [Act.put, List.setIfInBounds_toArray, List.set_cons_zero, List.set_cons_succ]
          refine wpAnyH_done (by kernel_rfl) ?_ _
          have t11 := (X1.out.below KB.out).c 1 rfl
          have u1 := (X1.out.below KB.out).1
          have a1 := (((F1.out.below KB.out).get 2 rfl).cellAt (j * 2 + 1) (by show _ < Z.length * 2; omega)).trans (p1)
          have aw := World.block_lt_of_cell? _ _ a1
          go_wp2_with fail
          clear t11 u1 a1 aw
          go_loopw [7] (fun iv W => ∃ k : Nat, iv = .int .i64 (k : Int) ∧ k ≤ E.length ∧ Hid (Below U.heap.size U W)) (fun iv _ => E.length - (intOf iv).toNat)
          case atStart => exact ⟨0, rfl, Nat.zero_le _, KB⟩
          case round =>
            clear KB
            obtain ⟨k, rfl, hk, KB⟩ := hrel
            have hk0 : (0 : Int) ≤ (k : Int) := by omega
            have t11 := (X1.out.below KB.out).c 1 rfl
            have u1 := (X1.out.below KB.out).1
            have a1 := (((F1.out.below KB.out).get 2 rfl).cellAt (j * 2 + 1) (by show _ < Z.length * 2; omega)).trans (p1)
            have aw := World.block_lt_of_cell? _ _ a1
            by_cases hkn : k < E.length
            · have hkI : (k : Int) < (E.length : Int) := by omega
              have hkw : IntKind.i64.wrap ((k : Int) + 1) = (k : Int) + 1 := by rw [IntKind.wrap_i64]; omega
              obtain ⟨b3, hb3, -⟩ := e4 (by omega)
              obtain ⟨b4, hb4, -⟩ := f4 (by omega)
              subst hb3 hb4
              obtain ⟨r, hre⟩ : ∃ r, E[k]? = some r := ⟨_, List.getElem?_eq_getElem hkn⟩
              go_upto_region 16 with fail
              clear t11 u1 a1 aw
              go_wp2_with fail
              refine wp_region_held_drew (S := fun W => Below U.heap.size U W) (by kernel_rfl) KB.out.drew (fun hHeld => ?_)
              refine gen_any (fun W => Below U.heap.size U W) hHeld ?_
              clear hHeld KB
              intro w5 kk
              have KB : Hid (Below U.heap.size U w5) := kk
              have hHeld := kk
              clear kk
              refine wpAnyH_take (i := 0) (v := ?_) (oi := { dst := some 100, op := _, type := _, pos := _, after := _, guard := none }) rfl (by kernel_rfl) (by kernel_rfl) (by kernel_rfl) (fun _ _ _ h => h) (Or.inl ⟨by kernel_rfl, ?_⟩) (by assumption) ?_
              case refine_2 => (intro w9 hSw; clear hSw; go_simp; try with_reducible rfl)
              simp only [Act.put, List.setIfInBounds_toArray, List.set_cons_zero, List.set_cons_succ]
              refine wpAnyH_take (i := 1) (v := ?_) (oi := { dst := some 101, op := _, type := _, pos := _, after := _, guard := none }) rfl (by kernel_rfl) (by kernel_rfl) (by kernel_rfl) (fun _ _ _ h => h) (Or.inl ⟨by kernel_rfl, ?_⟩) (by assumption) ?_
              case refine_2 => (intro w9 hSw; have t11 := (X1.out.below hSw).c 1 rfl; have u1 := (X1.out.below hSw).1; clear hSw; go_simp; try with_reducible rfl)
              simp only [Act.put, List.setIfInBounds_toArray, List.set_cons_zero, List.set_cons_succ]
              refine wpAnyH_take (i := 2) (v := ?_) (oi := { dst := some 102, op := _, type := _, pos := _, after := _, guard := none }) rfl (by kernel_rfl) (by kernel_rfl) (by kernel_rfl) (fun _ _ _ h => h) (Or.inl ⟨by kernel_rfl, ?_⟩) (by assumption) ?_
              case refine_2 => (intro w9 hSw; clear hSw; go_simp; try with_reducible rfl)
              simp only [Act.put, List.setIfInBounds_toArray, List.set_cons_zero, List.set_cons_succ]
              refine wpAnyH_take (i := 3) (v := ?_) (oi := { dst := some 103, op := _, type := _, pos := _, after := _, guard := none }) rfl (by kernel_rfl) (by kernel_rfl) (by kernel_rfl) (fun _ _ _ h => h) (Or.inl ⟨by kernel_rfl, ?_⟩) (by assumption) ?_
              case refine_2 => (intro w9 hSw; clear hSw; go_simp; try with_reducible rfl)
              simp only [Act.put, List.setIfInBounds_toArray, List.set_cons_zero, List.set_cons_succ]
              refine wpAnyH_take (i := 4) (v := ?_) (oi := { dst := some 104, op := _, type := _, pos := _, after := _, guard := none }) rfl (by kernel_rfl) (by kernel_rfl) (by kernel_rfl) (fun _ _ _ h => h) (Or.inl ⟨by kernel_rfl, ?_⟩) (by assumption) ?_
              case refine_2 => (intro w9 hSw; clear hSw; go_simp; try with_reducible rfl)
              simp only [Act.put, List.setIfInBounds_toArray, List.set_cons_zero, List.set_cons_succ]
              refine wpAnyH_take (i := 5) (v := ?_) (oi := { dst := some 105, op := _, type := _, pos := _, after := _, guard := none }) rfl (by kernel_rfl) (by kernel_rfl) (by kernel_rfl) (fun _ _ _ h => h) (Or.inl ⟨by kernel_rfl, ?_⟩) (by assumption) ?_
              case refine_2 => (intro w9 hSw; have a0 := (((F1.out.below hSw).get 2 rfl).cellAt (j * 2) (by show _ < Z.length * 2; omega)).trans (p0); have a1 := (((F1.out.below hSw).get 2 rfl).cellAt (j * 2 + 1) (by show _ < Z.length * 2; omega)).trans (p1); have aw := World.block_lt_of_cell? _ _ a0; clear hSw; go_simp; try with_reducible rfl)
              simp only [Act.put, List.setIfInBounds_toArray, List.set_cons_zero, List.set_cons_succ]
              refine wpAnyH_take (i := 6) (v := ?_) (oi := { dst := some 106, op := _, type := _, pos := _, after := _, guard := none }) rfl (by kernel_rfl) (by kernel_rfl) (by kernel_rfl) (fun _ _ _ h => h) (Or.inl ⟨by kernel_rfl, ?_⟩) (by assumption) ?_
              case refine_2 => (intro w9 hSw; clear hSw; go_simp; try with_reducible rfl)
              simp only [Act.put, List.setIfInBounds_toArray, List.set_cons_zero, List.set_cons_succ]
              refine wpAnyH_take (i := 7) (v := ?_) (oi := { dst := some 107, op := _, type := _, pos := _, after := _, guard := none }) rfl (by kernel_rfl) (by kernel_rfl) (by kernel_rfl) (fun _ _ _ h => h) (Or.inl ⟨by kernel_rfl, ?_⟩) (by assumption) ?_
              case refine_2 => (intro w9 hSw; clear hSw; go_simp; try with_reducible rfl)
              simp only [Act.put, List.setIfInBounds_toArray, List.set_cons_zero, List.set_cons_succ]
              refine wpAnyH_take (i := 8) (v := ?_) (oi := { dst := some 108, op := _, type := _, pos := _, after := _, guard := none }) rfl (by kernel_rfl) (by kernel_rfl) (by kernel_rfl) (fun _ _ _ h => h) (Or.inl ⟨by kernel_rfl, ?_⟩) (by assumption) ?_
              case refine_2 => (intro w9 hSw; have c0 := ((famEraQ (F1.out.below hSw) hz p2).cellAt (k * 11) (by show _ < E.length * 11; omega)).trans (eraXs_at _ k 0 r _ hre rfl); have c1 := ((famEraQ (F1.out.below hSw) hz p2).cellAt (k * 11 + 1) (by show _ < E.length * 11; omega)).trans (eraXs_at _ k 1 r _ hre rfl); have c2 := ((famEraQ (F1.out.below hSw) hz p2).cellAt (k * 11 + 2) (by show _ < E.length * 11; omega)).trans (eraXs_at _ k 2 r _ hre rfl); have c3 := ((famEraQ (F1.out.below hSw) hz p2).cellAt (k * 11 + 3) (by show _ < E.length * 11; omega)).trans (eraXs_at _ k 3 r _ hre rfl); have c4 := ((famEraQ (F1.out.below hSw) hz p2).cellAt (k * 11 + 4) (by show _ < E.length * 11; omega)).trans (eraXs_at _ k 4 r _ hre rfl); have c5 := ((famEraQ (F1.out.below hSw) hz p2).cellAt (k * 11 + 5) (by show _ < E.length * 11; omega)).trans (eraXs_at _ k 5 r _ hre rfl); have c6 := ((famEraQ (F1.out.below hSw) hz p2).cellAt (k * 11 + 6) (by show _ < E.length * 11; omega)).trans (eraXs_at _ k 6 r _ hre rfl); have c7 := ((famEraQ (F1.out.below hSw) hz p2).cellAt (k * 11 + 7) (by show _ < E.length * 11; omega)).trans (eraXs_at _ k 7 r _ hre rfl); have c8 := ((famEraQ (F1.out.below hSw) hz p2).cellAt (k * 11 + 8) (by show _ < E.length * 11; omega)).trans (eraXs_at _ k 8 r _ hre rfl); have c9 := ((famEraQ (F1.out.below hSw) hz p2).cellAt (k * 11 + 9) (by show _ < E.length * 11; omega)).trans (eraXs_at _ k 9 r _ hre rfl); have c10 := ((famEraQ (F1.out.below hSw) hz p2).cellAt (k * 11 + 10) (by show _ < E.length * 11; omega)).trans (eraXs_at _ k 10 r _ hre rfl); have cw := World.block_lt_of_cell? _ _ c0; clear hSw; go_simp; try with_reducible rfl)
              simp only [Act.put, List.setIfInBounds_toArray, List.set_cons_zero, List.set_cons_succ]
              refine wpAnyH_take (i := 9) (v := ?_) (oi := { dst := some 109, op := _, type := _, pos := _, after := _, guard := none }) rfl (by kernel_rfl) (by kernel_rfl) (by kernel_rfl) (fun _ _ _ h => h) (Or.inl ⟨by kernel_rfl, ?_⟩) (by assumption) ?_
              case refine_2 => (intro w9 hSw; clear hSw; go_simp; try with_reducible rfl)
              simp only [Act.put, List.setIfInBounds_toArray, List.set_cons_zero, List.set_cons_succ]
              refine wpAnyH_take (i := 10) (v := ?_) (oi := { dst := some 110, op := _, type := _, pos := _, after := _, guard := none }) rfl (by kernel_rfl) (by kernel_rfl) (by kernel_rfl) (fun _ _ _ h => h) (Or.inl ⟨by kernel_rfl, ?_⟩) (by assumption) ?_
              case refine_2 => (intro w9 hSw; have t21 := (X2.out.below hSw).c 1 rfl; have u2 := (X2.out.below hSw).1; clear hSw; go_simp; try with_reducible rfl)
              simp only [Act.put, List.setIfInBounds_toArray, List.set_cons_zero, List.set_cons_succ]
              refine wpAnyH_take (i := 11) (v := ?_) (oi := { dst := some 111, op := _, type := _, pos := _, after := _, guard := none }) rfl (by kernel_rfl) (by kernel_rfl) (by kernel_rfl) (fun _ _ _ h => h) (Or.inl ⟨by kernel_rfl, ?_⟩) (by assumption) ?_
              case refine_2 => (intro w9 hSw; clear hSw; go_simp; try with_reducible rfl)
              simp only [Act.put, List.setIfInBounds_toArray, List.set_cons_zero, List.set_cons_succ]
              refine wpAnyH_take (i := 12) (v := ?_) (oi := { dst := some 112, op := _, type := _, pos := _, after := _, guard := none }) rfl (by kernel_rfl) (by kernel_rfl) (by kernel_rfl) (fun _ _ _ h => h) (Or.inl ⟨by kernel_rfl, ?_⟩) (by assumption) ?_
              case refine_2 => (intro w9 hSw; clear hSw; go_simp; try with_reducible rfl)
              simp only [Act.put, List.setIfInBounds_toArray, List.set_cons_zero, List.set_cons_succ]
              refine wpAnyH_take (i := 13) (v := ?_) (oi := { dst := some 113, op := _, type := _, pos := _, after := _, guard := none }) rfl (by kernel_rfl) (by kernel_rfl) (by kernel_rfl) (fun _ _ _ h => h) (Or.inl ⟨by kernel_rfl, ?_⟩) (by assumption) ?_
              case refine_2 => (intro w9 hSw; clear hSw; go_simp; try with_reducible rfl)
              simp only [Act.put, List.setIfInBounds_toArray, List.set_cons_zero, List.set_cons_succ]
              refine wpAnyH_take (i := 14) (v := ?_) (oi := { dst := some 114, op := _, type := _, pos := _, after := _, guard := none }) rfl (by kernel_rfl) (by kernel_rfl) (by kernel_rfl) (fun _ _ _ h => h) (Or.inl ⟨by kernel_rfl, ?_⟩) (by assumption) ?_
              case refine_2 => (intro w9 hSw; have b0 := (((F2.out.below hSw).get 2 rfl).cellAt (j * 2) (by show _ < Z.length * 2; omega)).trans (q0); have b1 := (((F2.out.below hSw).get 2 rfl).cellAt (j * 2 + 1) (by show _ < Z.length * 2; omega)).trans (q1); have bw := World.block_lt_of_cell? _ _ b0; clear hSw; go_simp; try with_reducible rfl)
              simp only [Act.put, List.setIfInBounds_toArray, List.set_cons_zero, List.set_cons_succ]
              refine wpAnyH_take (i := 15) (v := ?_) (oi := { dst := some 115, op := _, type := _, pos := _, after := _, guard := none }) rfl (by kernel_rfl) (by kernel_rfl) (by kernel_rfl) (fun _ _ _ h => h) (Or.inl ⟨by kernel_rfl, ?_⟩) (by assumption) ?_
              case refine_2 => (intro w9 hSw; clear hSw; go_simp; try with_reducible rfl)
              simp only [Act.put, List.setIfInBounds_toArray, List.set_cons_zero, List.set_cons_succ]
              refine wpAnyH_take (i := 16) (v := ?_) (oi := { dst := some 116, op := _, type := _, pos := _, after := _, guard := none }) rfl (by kernel_rfl) (by kernel_rfl) (by kernel_rfl) (fun _ _ _ h => h) (Or.inl ⟨by kernel_rfl, ?_⟩) (by assumption) ?_
              case refine_2 => (intro w9 hSw; clear hSw; go_simp; try with_reducible rfl)
              simp only [Act.put, List.setIfInBounds_toArray, List.set_cons_zero, List.set_cons_succ]
              refine wpAnyH_take (i := 17) (v := ?_) (oi := { dst := some 117, op := _, type := _, pos := _, after := _, guard := none }) rfl (by kernel_rfl) (by kernel_rfl) (by kernel_rfl) (fun _ _ _ h => h) (Or.inl ⟨by kernel_rfl, ?_⟩) (by assumption) ?_
              case refine_2 => (intro w9 hSw; have d0 := ((famEraQ (F2.out.below hSw) hz q2).cellAt (k * 11) (by show _ < E.length * 11; omega)).trans (eraXs_at _ k 0 r _ hre rfl); have d1 := ((famEraQ (F2.out.below hSw) hz q2).cellAt (k * 11 + 1) (by show _ < E.length * 11; omega)).trans (eraXs_at _ k 1 r _ hre rfl); have d2 := ((famEraQ (F2.out.below hSw) hz q2).cellAt (k * 11 + 2) (by show _ < E.length * 11; omega)).trans (eraXs_at _ k 2 r _ hre rfl); have d3 := ((famEraQ (F2.out.below hSw) hz q2).cellAt (k * 11 + 3) (by show _ < E.length * 11; omega)).trans (eraXs_at _ k 3 r _ hre rfl); have d4 := ((famEraQ (F2.out.below hSw) hz q2).cellAt (k * 11 + 4) (by show _ < E.length * 11; omega)).trans (eraXs_at _ k 4 r _ hre rfl); have d5 := ((famEraQ (F2.out.below hSw) hz q2).cellAt (k * 11 + 5) (by show _ < E.length * 11; omega)).trans (eraXs_at _ k 5 r _ hre rfl); have d6 := ((famEraQ (F2.out.below hSw) hz q2).cellAt (k * 11 + 6) (by show _ < E.length * 11; omega)).trans (eraXs_at _ k 6 r _ hre rfl); have d7 := ((famEraQ (F2.out.below hSw) hz q2).cellAt (k * 11 + 7) (by show _ < E.length * 11; omega)).trans (eraXs_at _ k 7 r _ hre rfl); have d8 := ((famEraQ (F2.out.below hSw) hz q2).cellAt (k * 11 + 8) (by show _ < E.length * 11; omega)).trans (eraXs_at _ k 8 r _ hre rfl); have d9 := ((famEraQ (F2.out.below hSw) hz q2).cellAt (k * 11 + 9) (by show _ < E.length * 11; omega)).trans (eraXs_at _ k 9 r _ hre rfl); have d10 := ((famEraQ (F2.out.below hSw) hz q2).cellAt (k * 11 + 10) (by show _ < E.length * 11; omega)).trans (eraXs_at _ k 10 r _ hre rfl); have dw := World.block_lt_of_cell? _ _ d0; clear hSw; go_simp; try with_reducible rfl)
              simp only [Act.put, List.setIfInBounds_toArray, List.set_cons_zero, List.set_cons_succ]
              refine wpAnyH_take (i := 18) (v := ?_) (oi := { dst := some 118, op := _, type := _, pos := _, after := _, guard := none }) rfl (by kernel_rfl) (by kernel_rfl) (by kernel_rfl) (fun _ _ _ h => h) (Or.inl ⟨by kernel_rfl, ?_⟩) (by assumption) ?_
              case refine_2 => (intro w9 hSw; clear hSw; go_simp; try with_reducible rfl)
              simp only [Act.put, List.setIfInBounds_toArray, List.set_cons_zero, List.set_cons_succ]
              refine wpAnyH_done (by kernel_rfl) ?_ _
              go_wp2_with fail
              exact ⟨⟨k + 1, rfl, by omega, KB⟩, by simp only [intOf]; omega⟩
            · have hkI : ¬ (k : Int) < (E.length : Int) := by omega
              go_wp2_with fail
              exact ⟨⟨j + 1, rfl, by omega, KB⟩, by simp only [intOf]; omega⟩
        · have hjI : ¬ (j : Int) < (Z.length : Int) := by omega
          go_wp2_with fail
          clear t11 u1 hj hj0 hjn hjI
          go_loopw [8] (fun iv W => ∃ j : Nat, iv = .int .i64 (j : Int) ∧ j ≤ L.length ∧ Hid (Below U.heap.size U W)) (fun iv _ => L.length - (intOf iv).toNat)
          case atStart => exact ⟨0, rfl, Nat.zero_le _, KB⟩
          case round =>
            clear KB
            obtain ⟨j, rfl, hj, KB⟩ := hrel
            have hj0 : (0 : Int) ≤ (j : Int) := by omega
            have t12 := (X1.out.below KB.out).c 2 rfl
            have u1 := (X1.out.below KB.out).1
            by_cases hjn : j < L.length
            · have hjI : (j : Int) < (L.length : Int) := by omega
              have hjw : IntKind.i64.wrap ((j : Int) + 1) = (j : Int) + 1 := by rw [IntKind.wrap_i64]; omega
              obtain ⟨b1, hb1, -⟩ := k2 (by omega)
              obtain ⟨b2, hb2, -⟩ := k5 (by omega)
              subst hb1 hb2
              obtain ⟨r, hr⟩ : ∃ r, L[j]? = some r := ⟨_, List.getElem?_eq_getElem hjn⟩
              obtain ⟨p0, p1⟩ := linkXs_at _ j r hr
              go_upto_region 21 with fail
              clear t12 u1
              go_wp2_with fail
              refine wp_region_held_drew (S := fun W => Below U.heap.size U W) (by kernel_rfl) KB.out.drew (fun hHeld => ?_)
              refine gen_any (fun W => Below U.heap.size U W) hHeld ?_
              clear hHeld KB
              intro w5 kk
              have KB : Hid (Below U.heap.size U w5) := kk
              have hHeld := kk
              clear kk
              refine wpAnyH_take (i := 0) (v := ?_) (oi := { dst := some 126, op := _, type := _, pos := _, after := _, guard := none }) rfl (by kernel_rfl) (by kernel_rfl) (by kernel_rfl) (fun _ _ _ h => h) (Or.inl ⟨by kernel_rfl, ?_⟩) (by assumption) ?_
              case refine_2 => (intro w9 hSw; clear hSw; go_simp; try with_reducible rfl)
              simp only [Act.put, List.setIfInBounds_toArray, List.set_cons_zero, List.set_cons_succ]
              refine wpAnyH_take (i := 1) (v := ?_) (oi := { dst := some 127, op := _, type := _, pos := _, after := _, guard := none }) rfl (by kernel_rfl) (by kernel_rfl) (by kernel_rfl) (fun _ _ _ h => h) (Or.inl ⟨by kernel_rfl, ?_⟩) (by assumption) ?_
              case refine_2 => (intro w9 hSw; have t12 := (X1.out.below hSw).c 2 rfl; have u1 := (X1.out.below hSw).1; clear hSw; go_simp; try with_reducible rfl)
              simp only [Act.put, List.setIfInBounds_toArray, List.set_cons_zero, List.set_cons_succ]
              refine wpAnyH_take (i := 2) (v := ?_) (oi := { dst := some 128, op := _, type := _, pos := _, after := _, guard := none }) rfl (by kernel_rfl) (by kernel_rfl) (by kernel_rfl) (fun _ _ _ h => h) (Or.inl ⟨by kernel_rfl, ?_⟩) (by assumption) ?_
              case refine_2 => (intro w9 hSw; clear hSw; go_simp; try with_reducible rfl)
              simp only [Act.put, List.setIfInBounds_toArray, List.set_cons_zero, List.set_cons_succ]
              refine wpAnyH_take (i := 3) (v := ?_) (oi := { dst := some 129, op := _, type := _, pos := _, after := _, guard := none }) rfl (by kernel_rfl) (by kernel_rfl) (by kernel_rfl) (fun _ _ _ h => h) (Or.inl ⟨by kernel_rfl, ?_⟩) (by assumption) ?_
              case refine_2 => (intro w9 hSw; clear hSw; go_simp; try with_reducible rfl)
              simp only [Act.put, List.setIfInBounds_toArray, List.set_cons_zero, List.set_cons_succ]
              refine wpAnyH_take (i := 4) (v := ?_) (oi := { dst := some 130, op := _, type := _, pos := _, after := _, guard := none }) rfl (by kernel_rfl) (by kernel_rfl) (by kernel_rfl) (fun _ _ _ h => h) (Or.inl ⟨by kernel_rfl, ?_⟩) (by assumption) ?_
              case refine_2 => (intro w9 hSw; have a0 := (((F1.out.below hSw).get 1 rfl).cellAt (j * 2) (by show _ < L.length * 2; omega)).trans (p0); have a1 := (((F1.out.below hSw).get 1 rfl).cellAt (j * 2 + 1) (by show _ < L.length * 2; omega)).trans (p1); have aw := World.block_lt_of_cell? _ _ a0; clear hSw; go_simp; try with_reducible rfl)
              simp only [Act.put, List.setIfInBounds_toArray, List.set_cons_zero, List.set_cons_succ]
              refine wpAnyH_take (i := 5) (v := ?_) (oi := { dst := some 131, op := _, type := _, pos := _, after := _, guard := none }) rfl (by kernel_rfl) (by kernel_rfl) (by kernel_rfl) (fun _ _ _ h => h) (Or.inl ⟨by kernel_rfl, ?_⟩) (by assumption) ?_
              case refine_2 => (intro w9 hSw; clear hSw; go_simp; try with_reducible rfl)
              simp only [Act.put, List.setIfInBounds_toArray, List.set_cons_zero, List.set_cons_succ]
              refine wpAnyH_take (i := 6) (v := ?_) (oi := { dst := some 132, op := _, type := _, pos := _, after := _, guard := none }) rfl (by kernel_rfl) (by kernel_rfl) (by kernel_rfl) (fun _ _ _ h => h) (Or.inl ⟨by kernel_rfl, ?_⟩) (by assumption) ?_
              case refine_2 => (intro w9 hSw; have t22 := (X2.out.below hSw).c 2 rfl; have u2 := (X2.out.below hSw).1; clear hSw; go_simp; try with_reducible rfl)
              simp only [Act.put, List.setIfInBounds_toArray, List.set_cons_zero, List.set_cons_succ]
              refine wpAnyH_take (i := 7) (v := ?_) (oi := { dst := some 133, op := _, type := _, pos := _, after := _, guard := none }) rfl (by kernel_rfl) (by kernel_rfl) (by kernel_rfl) (fun _ _ _ h => h) (Or.inl ⟨by kernel_rfl, ?_⟩) (by assumption) ?_
              case refine_2 => (intro w9 hSw; clear hSw; go_simp; try with_reducible rfl)
              simp only [Act.put, List.setIfInBounds_toArray, List.set_cons_zero, List.set_cons_succ]
              refine wpAnyH_take (i := 8) (v := ?_) (oi := { dst := some 134, op := _, type := _, pos := _, after := _, guard := none }) rfl (by kernel_rfl) (by kernel_rfl) (by kernel_rfl) (fun _ _ _ h => h) (Or.inl ⟨by kernel_rfl, ?_⟩) (by assumption) ?_
              case refine_2 => (intro w9 hSw; clear hSw; go_simp; try with_reducible rfl)
              simp only [Act.put, List.setIfInBounds_toArray, List.set_cons_zero, List.set_cons_succ]
              refine wpAnyH_take (i := 9) (v := ?_) (oi := { dst := some 135, op := _, type := _, pos := _, after := _, guard := none }) rfl (by kernel_rfl) (by kernel_rfl) (by kernel_rfl) (fun _ _ _ h => h) (Or.inl ⟨by kernel_rfl, ?_⟩) (by assumption) ?_
              case refine_2 => (intro w9 hSw; have b0 := (((F2.out.below hSw).get 1 rfl).cellAt (j * 2) (by show _ < L.length * 2; omega)).trans (p0); have b1 := (((F2.out.below hSw).get 1 rfl).cellAt (j * 2 + 1) (by show _ < L.length * 2; omega)).trans (p1); have bw := World.block_lt_of_cell? _ _ b0; clear hSw; go_simp; try with_reducible rfl)
              simp only [Act.put, List.setIfInBounds_toArray, List.set_cons_zero, List.set_cons_succ]
              refine wpAnyH_take (i := 10) (v := ?_) (oi := { dst := some 136, op := _, type := _, pos := _, after := _, guard := none }) rfl (by kernel_rfl) (by kernel_rfl) (by kernel_rfl) (fun _ _ _ h => h) (Or.inl ⟨by kernel_rfl, ?_⟩) (by assumption) ?_
              case refine_2 => (intro w9 hSw; clear hSw; go_simp; try with_reducible rfl)
              simp only [Act.put, List.setIfInBounds_toArray, List.set_cons_zero, List.set_cons_succ]
              refine wpAnyH_done (by kernel_rfl) ?_ _
              go_wp2_with fail
              exact ⟨⟨j + 1, rfl, by omega, KB⟩, by simp only [intOf]; omega⟩
            · have hjI : ¬ (j : Int) < (L.length : Int) := by omega
              go_wp2_with fail
              go_ret
              exact ⟨rfl, BU.out.trans (KB.out.mono BU.out.size)⟩

end Go.Proofs.YtgnfkkcagbbhmaaGreatDoor
