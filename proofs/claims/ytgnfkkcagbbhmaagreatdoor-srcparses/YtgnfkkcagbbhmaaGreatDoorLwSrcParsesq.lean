/- The walk of SrcParses: the program's Parse and the reference's say the same of any source. -/
import Derived.Test.YtgnfkkcagbbhmaaGreatDoorQpPq
import Derived.Test.YtgnfkkcagbbhmaaGreatDoorPmSq
import Derived.Test.YtgnfkkcagbbhmaaGreatDoorPmWq
namespace Go.Proofs.YtgnfkkcagbbhmaaGreatDoor
open Go.RowKit Lin
open Sr (gen_any gen_list)
set_option linter.unusedVariables false

/-- what is handed back: a source, a line, an error. -/
def dbOf : Sum (Int × Int) PSt → PSt × Int × Int
  | .inl a => (pst0, a.1, a.2)
  | .inr S => (S, 0, 0)
theorem OkS.zero400 : OkS pst0 400 := OkS.zero.mono (Nat.zero_le _)
theorem parse_db {w : World} {e : Ending} {w' : World} {r : Sum (Int × Int) PSt} (h : ParseIs w e w' r) : ∃ (vr vl ve vz : Value) (vs : List Value) (B : Nat), e = .returned (.tuple #[.agg #[vr, vz, vl], .int .i64 (dbOf r).2.1, .int .i64 (dbOf r).2.2]) ∧ Fam B w' (rowsP (dbOf r).1 vr vl ve vz vs) ∧ vs.length = (dbOf r).1.zones.length ∧ OkS (dbOf r).1 400 := by
  cases r with
  | inl a => exact ⟨.slice none 0 0, .slice none 0 0, .slice none 0 0, .slice none 0 0, [], 0, h, (((((Fam.zero _ _).push 85 11).push 95 2).push 118 2).push 90 2), rfl, OkS.zero400⟩
  | inr S =>
    obtain ⟨vr, vl, ve, vz, vs, B, rfl, hB, hF, hl, hO⟩ := h
    exact ⟨vr, vl, ve, vz, vs, B, rfl, hF, hl, hO⟩
theorem parse_dbN {w : World} {e : Ending} {w' : World} {r : Sum (Int × Int) PSt} (h : ParseIsN w e w' r) : ∃ (vr vl vz : Value) (vs : List Value) (B : Nat), e = .returned (.tuple #[.agg #[vr, vz, vl], .int .i64 (dbOf r).2.1, .int .i64 (dbOf r).2.2]) ∧ Fam B w' (rowsQ (dbOf r).1.rules (dbOf r).1.zones (dbOf r).1.links vr vl vz vs) ∧ vs.length = (dbOf r).1.zones.length := by
  cases r with
  | inl a => exact ⟨.slice none 0 0, .slice none 0 0, .slice none 0 0, [], 0, h, ((((Fam.zero _ _).push 71 11).push 81 2).push 74 2), rfl⟩
  | inr S =>
    obtain ⟨vr, vl, vz, vs, B, rfl, hB, hF, hl, hO⟩ := h
    exact ⟨vr, vl, vz, vs, B, rfl, hF, hl⟩

set_option maxRecDepth 100000 in
set_option maxHeartbeats 4000000 in
theorem core_SrcParses (s : ByteArray) (w : World) (hM : Mx w) (hT : Clk.Tab w) (hs : s.size ≤ 140737488351232) :
    Calls Tryz.prog 3 #[.string s] w fun e w' => e = .returned (.bool true) ∧ Below w.heap.size w w' := by
  have HM : Hid (Mx w) := hM
  have HT : Hid (Clk.Tab w) := hT
  clear hM hT
  obtain ⟨S, hS⟩ : ∃ S, (dbOf (parseP s)).1 = S := ⟨_, rfl⟩
  obtain ⟨n1, hn1⟩ : ∃ n1, (dbOf (parseP s)).2.1 = n1 := ⟨_, rfl⟩
  obtain ⟨n2, hn2⟩ : ∃ n2, (dbOf (parseP s)).2.2 = n2 := ⟨_, rfl⟩
  go_enter Tryz.func3, Tryz.ntmps3
  go_wp2_with fail
  refine (parse_any s w HM.out hs).mono ?_
  rintro e w1 ⟨hb, hI⟩
  obtain ⟨vr, vl, ve, vz, vs, B0, he, hF, hlen, hOk⟩ := parse_db hI
  subst he
  rw [hS] at hF hlen hOk
  rw [hn1, hn2]
  have hO : Hid (OkS S 400) := hOk
  obtain ⟨a1, a2, a3, ha⟩ := own_sliceP (hF.get 0 rfl)
  obtain ⟨a4, a5, a6, ha2⟩ := own_sliceP (hF.get 1 rfl)
  obtain ⟨a7, a8, a9, ha3⟩ := own_sliceP (hF.get 3 rfl)
  simp only at ha ha2 ha3
  subst ha ha2 ha3
  obtain ⟨d1, hd1⟩ : ∃ d1, d1 = w1.heap.size := ⟨_, rfl⟩
  have KB : Hid (BS w [(d1, [.slice a1 a2 a3, .slice a7 a8 a9, .slice a4 a5 a6])] (w1.alloc (.cells #[.slice a1 a2 a3, .slice a7 a8 a9, .slice a4 a5 a6] 26))) := ((BS.start w).below hb).new [.slice a1 a2 a3, .slice a7 a8 a9, .slice a4 a5 a6] _ hd1.symm
  have KF : Hid (Fam B0 (w1.alloc (.cells #[.slice a1 a2 a3, .slice a7 a8 a9, .slice a4 a5 a6] 26)) (rowsP S (.slice a1 a2 a3) (.slice a4 a5 a6) ve (.slice a7 a8 a9) vs)) := hF.below ((Below.refl _ _).alloc (Nat.le_refl _) _)
  clear hb hI hF hOk
  go_upto_region 2 with fail
  rw [← hd1]
  refine gen_code (fun W => BS w [(d1, [.slice a1 a2 a3, .slice a7 a8 a9, .slice a4 a5 a6])] W ∧ (Fam B0 W (rowsP S (.slice a1 a2 a3) (.slice a4 a5 a6) ve (.slice a7 a8 a9) vs))) ⟨KB.out, KF.out⟩ ?_
  clear KB KF
  intro w2 kk
  have KB : Hid (BS w [(d1, [.slice a1 a2 a3, .slice a7 a8 a9, .slice a4 a5 a6])] w2) := kk.1
  have KF : Hid (Fam B0 w2 (rowsP S (.slice a1 a2 a3) (.slice a4 a5 a6) ve (.slice a7 a8 a9) vs)) := kk.2
  clear kk hd1
  go_wp2_with fail
  refine (rparseS_any s w2).mono ?_
  rintro e w3 ⟨hb, hI⟩
  obtain ⟨yr, yl, yz, ys, B2, he, hG, hy⟩ := parse_dbN hI
  subst he
  rw [hS] at hG hy
  rw [hn1, hn2]
  obtain ⟨c1, c2, c3, hc1⟩ := own_sliceP (hG.get 0 rfl)
  obtain ⟨c4, c5, c6, hc2⟩ := own_sliceP (hG.get 1 rfl)
  obtain ⟨c7, c8, c9, hc3⟩ := own_sliceP (hG.get 2 rfl)
  simp only at hc1 hc2 hc3
  subst hc1 hc2 hc3
  have KB3 : Hid (BS w [(d1, [.slice a1 a2 a3, .slice a7 a8 a9, .slice a4 a5 a6])] w3) := KB.out.below hb
  have KF3 : Hid (Fam B0 w3 (rowsP S (.slice a1 a2 a3) (.slice a4 a5 a6) ve (.slice a7 a8 a9) vs)) := KF.out.below hb
  have KG3 : Hid (Fam B2 w3 (rowsQ S.rules S.zones S.links (.slice c1 c2 c3) (.slice c4 c5 c6) (.slice c7 c8 c9) ys)) := hG
  clear hb hI hG KB KF
  obtain ⟨d2, hd2⟩ : ∃ d2, d2 = w3.heap.size := ⟨_, rfl⟩
  have KB4 : Hid (BS w [(d2, [.slice c1 c2 c3, .slice c7 c8 c9, .slice c4 c5 c6]), (d1, [.slice a1 a2 a3, .slice a7 a8 a9, .slice a4 a5 a6])] (w3.alloc (.cells #[.slice c1 c2 c3, .slice c7 c8 c9, .slice c4 c5 c6] 34))) := KB3.out.new [.slice c1 c2 c3, .slice c7 c8 c9, .slice c4 c5 c6] _ hd2.symm
  have KF4 := KF3.out.below ((Below.refl _ _).alloc (Nat.le_refl _) (.cells #[.slice c1 c2 c3, .slice c7 c8 c9, .slice c4 c5 c6] 34))
  have KG4 := KG3.out.below ((Below.refl _ _).alloc (Nat.le_refl _) (.cells #[.slice c1 c2 c3, .slice c7 c8 c9, .slice c4 c5 c6] 34))
  have KK4 : Hid (BS w [(d2, [.slice c1 c2 c3, .slice c7 c8 c9, .slice c4 c5 c6]), (d1, [.slice a1 a2 a3, .slice a7 a8 a9, .slice a4 a5 a6])] (w3.alloc (.cells #[.slice c1 c2 c3, .slice c7 c8 c9, .slice c4 c5 c6] 34)) ∧ (Fam B0 (w3.alloc (.cells #[.slice c1 c2 c3, .slice c7 c8 c9, .slice c4 c5 c6] 34)) (rowsP S (.slice a1 a2 a3) (.slice a4 a5 a6) ve (.slice a7 a8 a9) vs)) ∧ (Fam B2 (w3.alloc (.cells #[.slice c1 c2 c3, .slice c7 c8 c9, .slice c4 c5 c6] 34)) (rowsQ S.rules S.zones S.links (.slice c1 c2 c3) (.slice c4 c5 c6) (.slice c7 c8 c9) ys))) := ⟨KB4.out, KF4, KG4⟩
  clear KB3 KF3 KG3 KB4 KF4 KG4
  go_upto_region 3 with fail
  rw [← hd2]
  refine gen_code (fun W => BS w [(d2, [.slice c1 c2 c3, .slice c7 c8 c9, .slice c4 c5 c6]), (d1, [.slice a1 a2 a3, .slice a7 a8 a9, .slice a4 a5 a6])] W ∧ (Fam B0 W (rowsP S (.slice a1 a2 a3) (.slice a4 a5 a6) ve (.slice a7 a8 a9) vs)) ∧ (Fam B2 W (rowsQ S.rules S.zones S.links (.slice c1 c2 c3) (.slice c4 c5 c6) (.slice c7 c8 c9) ys))) KK4.out ?_
  clear KK4 hd2
  intro w4 kk
  have KB : Hid (BS w [(d2, [.slice c1 c2 c3, .slice c7 c8 c9, .slice c4 c5 c6]), (d1, [.slice a1 a2 a3, .slice a7 a8 a9, .slice a4 a5 a6])] w4) := kk.1
  have KF : Hid (Fam B0 w4.drew (rowsP S (.slice a1 a2 a3) (.slice a4 a5 a6) ve (.slice a7 a8 a9) vs)) := kk.2.1
  have KG : Hid (Fam B2 w4.drew (rowsQ S.rules S.zones S.links (.slice c1 c2 c3) (.slice c4 c5 c6) (.slice c7 c8 c9) ys)) := kk.2.2
  clear kk hS hn1 hn2
  refine wp_region_held_drew (S := BS w [(d2, [.slice c1 c2 c3, .slice c7 c8 c9, .slice c4 c5 c6]), (d1, [.slice a1 a2 a3, .slice a7 a8 a9, .slice a4 a5 a6])]) (by kernel_rfl) KB.out.drew (fun hHeld => ?_)
  refine wpAnyH_take (i := 0) (v := ?_) (oi := { dst := some 21, op := _, type := _, pos := _, after := _, guard := none }) rfl (by kernel_rfl) (by kernel_rfl) (by kernel_rfl) (fun _ _ _ h => h) (Or.inl ⟨by kernel_rfl, ?_⟩) (by assumption) ?_
  case refine_2 => (intro w9 hSw; have l0_0 := (hSw.at d2 [.slice c1 c2 c3, .slice c7 c8 c9, .slice c4 c5 c6] (by simp)).c 0 rfl; have l0_1 := (hSw.at d2 [.slice c1 c2 c3, .slice c7 c8 c9, .slice c4 c5 c6] (by simp)).c 1 rfl; have l0_2 := (hSw.at d2 [.slice c1 c2 c3, .slice c7 c8 c9, .slice c4 c5 c6] (by simp)).c 2 rfl; have l1_0 := (hSw.at d1 [.slice a1 a2 a3, .slice a7 a8 a9, .slice a4 a5 a6] (by simp)).c 0 rfl; have l1_1 := (hSw.at d1 [.slice a1 a2 a3, .slice a7 a8 a9, .slice a4 a5 a6] (by simp)).c 1 rfl; have l1_2 := (hSw.at d1 [.slice a1 a2 a3, .slice a7 a8 a9, .slice a4 a5 a6] (by simp)).c 2 rfl; clear hSw; go_simp; try with_reducible rfl)
  simp only [Act.put, List.setIfInBounds_toArray, List.set_cons_zero, List.set_cons_succ]
  refine wpAnyH_take (i := 2) (v := ?_) (oi := { dst := some 23, op := _, type := _, pos := _, after := _, guard := none }) rfl (by kernel_rfl) (by kernel_rfl) (by kernel_rfl) (fun _ _ _ h => h) (Or.inl ⟨by kernel_rfl, ?_⟩) (by assumption) ?_
  case refine_2 => (intro w9 hSw; have l0_0 := (hSw.at d2 [.slice c1 c2 c3, .slice c7 c8 c9, .slice c4 c5 c6] (by simp)).c 0 rfl; have l0_1 := (hSw.at d2 [.slice c1 c2 c3, .slice c7 c8 c9, .slice c4 c5 c6] (by simp)).c 1 rfl; have l0_2 := (hSw.at d2 [.slice c1 c2 c3, .slice c7 c8 c9, .slice c4 c5 c6] (by simp)).c 2 rfl; have l1_0 := (hSw.at d1 [.slice a1 a2 a3, .slice a7 a8 a9, .slice a4 a5 a6] (by simp)).c 0 rfl; have l1_1 := (hSw.at d1 [.slice a1 a2 a3, .slice a7 a8 a9, .slice a4 a5 a6] (by simp)).c 1 rfl; have l1_2 := (hSw.at d1 [.slice a1 a2 a3, .slice a7 a8 a9, .slice a4 a5 a6] (by simp)).c 2 rfl; clear hSw; go_simp; try with_reducible rfl)
  simp only [Act.put, List.setIfInBounds_toArray, List.set_cons_zero, List.set_cons_succ]
  refine wpAnyH_ready (rs := [1]) (by kernel_rfl) (by simp) (AllReadyH.cons (o := { dst := some 22, op := _, type := _, pos := _, after := _, guard := none }) rfl (fun K hK => ?_) AllReadyH.nil)
  go_simp
  refine (taken_any S _ _ ve _ vs B0 _ KF.out hlen hO.out).mono ?_
  rintro e v1 ⟨xr, xl, xz, xs, B1, rfl, hb1, hB1, hF1, hx⟩
  refine hK.out _ _ (hHeld.below hb1) (fun hHeld => ?_)
  have KG2 : Hid (Fam B2 v1 (rowsQ S.rules S.zones S.links (.slice c1 c2 c3) (.slice c4 c5 c6) (.slice c7 c8 c9) ys)) := KG.out.below hb1
  have KT : Hid (Fam B1 v1 (rowsQ S.rules S.zones S.links xr xl xz xs)) := hF1
  clear hK K KG KF hb1 hB1 hF1
  have KG : Hid (Fam B2 v1 (rowsQ S.rules S.zones S.links (.slice c1 c2 c3) (.slice c4 c5 c6) (.slice c7 c8 c9) ys)) := KG2.out
  clear KG2
  refine wpAnyH_ready (rs := [3]) (by kernel_rfl) (by simp) (AllReadyH.cons (o := { dst := some 24, op := _, type := _, pos := _, after := _, guard := none }) rfl (fun K hK => ?_) AllReadyH.nil)
  go_simp
  refine (same_any S.rules S.zones S.links xr xl xz _ _ _ xs ys B1 B2 _ KT.out KG.out hx hy (by have := hO.out.rules; omega) (by have := hO.out.zones; omega) (by have := hO.out.links; omega) (fun z hz => by have := hO.out.ze z hz; omega)).mono ?_
  rintro e v2 ⟨rfl, hb2⟩
  refine hK.out _ _ (hHeld.below hb2) (fun hHeld => ?_)
  clear hK K KG KT hb2
  refine wpAnyH_take (i := 4) (v := ?_) (oi := { dst := some 25, op := _, type := _, pos := _, after := _, guard := none }) rfl (by kernel_rfl) (by kernel_rfl) (by kernel_rfl) (fun _ _ _ h => h) (Or.inl ⟨by kernel_rfl, ?_⟩) (by assumption) ?_
  case refine_2 => (intro w9 hSw; clear hSw; go_simp; try with_reducible rfl)
  simp only [Act.put, List.setIfInBounds_toArray, List.set_cons_zero, List.set_cons_succ]
  refine wpAnyH_take (i := 5) (v := ?_) (oi := { dst := some 26, op := _, type := _, pos := _, after := _, guard := some (4, true) }) rfl (by kernel_rfl) (by kernel_rfl) (by kernel_rfl) (fun _ _ _ h => h) (Or.inl ⟨by kernel_rfl, ?_⟩) (by assumption) ?_
  case refine_2 => (intro w9 hSw; clear hSw; go_simp; try with_reducible rfl)
  simp only [Act.put, List.setIfInBounds_toArray, List.set_cons_zero, List.set_cons_succ]
  refine wpAnyH_take (i := 6) (v := ?_) (oi := { dst := some 27, op := _, type := _, pos := _, after := _, guard := some (4, true) }) rfl (by kernel_rfl) (by kernel_rfl) (by kernel_rfl) (fun _ _ _ h => h) (Or.inl ⟨by kernel_rfl, ?_⟩) (by assumption) ?_
  case refine_2 => (intro w9 hSw; clear hSw; go_simp; try with_reducible rfl)
  simp only [Act.put, List.setIfInBounds_toArray, List.set_cons_zero, List.set_cons_succ]
  refine wpAnyH_take (i := 7) (v := ?_) (oi := { dst := some 28, op := _, type := _, pos := _, after := _, guard := some (4, true) }) rfl (by kernel_rfl) (by kernel_rfl) (by kernel_rfl) (fun _ _ _ h => h) (Or.inl ⟨by kernel_rfl, ?_⟩) (by assumption) ?_
  case refine_2 => (intro w9 hSw; clear hSw; go_simp; try with_reducible rfl)
  simp only [Act.put, List.setIfInBounds_toArray, List.set_cons_zero, List.set_cons_succ]
  refine wpAnyH_take (i := 8) (v := ?_) (oi := { dst := some 29, op := _, type := _, pos := _, after := _, guard := none }) rfl (by kernel_rfl) (by kernel_rfl) (by kernel_rfl) (fun _ _ _ h => h) (Or.inl ⟨by kernel_rfl, ?_⟩) (by assumption) ?_
  case refine_2 => (intro w9 hSw; clear hSw; go_simp; try with_reducible rfl)
  simp only [Act.put, List.setIfInBounds_toArray, List.set_cons_zero, List.set_cons_succ]
  refine wpAnyH_take (i := 9) (v := ?_) (oi := { dst := some 30, op := _, type := _, pos := _, after := _, guard := none }) rfl (by kernel_rfl) (by kernel_rfl) (by kernel_rfl) (fun _ _ _ h => h) (Or.inl ⟨by kernel_rfl, ?_⟩) (by assumption) ?_
  case refine_2 => (intro w9 hSw; clear hSw; go_simp; try with_reducible rfl)
  simp only [Act.put, List.setIfInBounds_toArray, List.set_cons_zero, List.set_cons_succ]
  refine wpAnyH_take (i := 10) (v := ?_) (oi := { dst := some 31, op := _, type := _, pos := _, after := _, guard := some (9, true) }) rfl (by kernel_rfl) (by kernel_rfl) (by kernel_rfl) (fun _ _ _ h => h) (Or.inl ⟨by kernel_rfl, ?_⟩) (by assumption) ?_
  case refine_2 => (intro w9 hSw; clear hSw; go_simp; try with_reducible rfl)
  simp only [Act.put, List.setIfInBounds_toArray, List.set_cons_zero, List.set_cons_succ]
  refine wpAnyH_take (i := 11) (v := ?_) (oi := { dst := some 32, op := _, type := _, pos := _, after := _, guard := some (9, true) }) rfl (by kernel_rfl) (by kernel_rfl) (by kernel_rfl) (fun _ _ _ h => h) (Or.inl ⟨by kernel_rfl, ?_⟩) (by assumption) ?_
  case refine_2 => (intro w9 hSw; clear hSw; go_simp; try with_reducible rfl)
  simp only [Act.put, List.setIfInBounds_toArray, List.set_cons_zero, List.set_cons_succ]
  refine wpAnyH_take (i := 12) (v := ?_) (oi := { dst := some 33, op := _, type := _, pos := _, after := _, guard := some (9, true) }) rfl (by kernel_rfl) (by kernel_rfl) (by kernel_rfl) (fun _ _ _ h => h) (Or.inl ⟨by kernel_rfl, ?_⟩) (by assumption) ?_
  case refine_2 => (intro w9 hSw; clear hSw; go_simp; try with_reducible rfl)
  simp only [Act.put, List.setIfInBounds_toArray, List.set_cons_zero, List.set_cons_succ]
  refine wpAnyH_take (i := 13) (v := ?_) (oi := { dst := some 34, op := _, type := _, pos := _, after := _, guard := none }) rfl (by kernel_rfl) (by kernel_rfl) (by kernel_rfl) (fun _ _ _ h => h) (Or.inl ⟨by kernel_rfl, ?_⟩) (by assumption) ?_
  case refine_2 => (intro w9 hSw; clear hSw; go_simp; try with_reducible rfl)
  simp only [Act.put, List.setIfInBounds_toArray, List.set_cons_zero, List.set_cons_succ]
  refine wpAnyH_take (i := 14) (v := ?_) (oi := { dst := some 35, op := _, type := _, pos := _, after := _, guard := none }) rfl (by kernel_rfl) (by kernel_rfl) (by kernel_rfl) (fun _ _ _ h => h) (Or.inl ⟨by kernel_rfl, ?_⟩) (by assumption) ?_
  case refine_2 => (intro w9 hSw; clear hSw; go_simp; try with_reducible rfl)
  simp only [Act.put, List.setIfInBounds_toArray, List.set_cons_zero, List.set_cons_succ]
  refine wpAnyH_ready (rs := [15]) (by kernel_rfl) (by simp) (AllReadyH.cons (o := { dst := some 36, op := _, type := _, pos := _, after := _, guard := some (14, true) }) rfl (fun K hK => ?_) AllReadyH.nil)
  go_simp
  refine (known08_any _ (HM.out.below hHeld.1) (HT.out.below hHeld.1)).mono ?_
  rintro e v3 ⟨rfl, hb3⟩
  refine hK.out _ _ (hHeld.below hb3) (fun hHeld => ?_)
  clear hK K hb3
  refine wpAnyH_take (i := 16) (v := ?_) (oi := { dst := some 37, op := _, type := _, pos := _, after := _, guard := none }) rfl (by kernel_rfl) (by kernel_rfl) (by kernel_rfl) (fun _ _ _ h => h) (Or.inl ⟨by kernel_rfl, ?_⟩) (by assumption) ?_
  case refine_2 => (intro w9 hSw; clear hSw; go_simp; try with_reducible rfl)
  simp only [Act.put, List.setIfInBounds_toArray, List.set_cons_zero, List.set_cons_succ]
  refine wpAnyH_take (i := 17) (v := ?_) (oi := { dst := some 2, op := _, type := _, pos := _, after := _, guard := none }) rfl (by kernel_rfl) (by kernel_rfl) (by kernel_rfl) (fun _ _ _ h => h) (Or.inl ⟨by kernel_rfl, ?_⟩) (by assumption) ?_
  case refine_2 => (intro w9 hSw; clear hSw; go_simp; try with_reducible rfl)
  simp only [Act.put, List.setIfInBounds_toArray, List.set_cons_zero, List.set_cons_succ]
  refine wpAnyH_done (by kernel_rfl) ?_ _
  have HB : Hid (Below w.heap.size w _) := hHeld.1
  clear hHeld
  go_wp2_with fail
  go_ret
  exact ⟨rfl, HB.out⟩

end Go.Proofs.YtgnfkkcagbbhmaaGreatDoor
