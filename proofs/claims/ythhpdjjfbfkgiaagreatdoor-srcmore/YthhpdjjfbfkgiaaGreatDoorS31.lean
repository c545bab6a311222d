import Derived.Test.YthhpdjjfbfkgiaaGreatDoorS30
/- The walk of SrcMore. -/
namespace Go.Proofs.YthhpdjjfbfkgiaaGreatDoor
open Go.RowKit Lin
open Sr (gen_any gen_list)
set_option linter.unusedVariables false

theorem parseP_err {s : ByteArray} {a : Int × Int} (h : parseP s = .inl a) : a.2 ≠ 0 := by
  have k1 : (21 : Int) ≠ 0 := by omega
  have k3 : (23 : Int) ≠ 0 := by omega
  cases hL : lnsS s with
  | inl b => rw [parseP_none hL] at h; cases h; exact lnsS_err hL
  | inr L =>
    rw [parseP_lines hL] at h
    have hr : ∀ (L' : List Lne) (S : PSt) (b : Int × Int), runP S L' = .inl b → b.2 ≠ 0 := by
      intro L'
      induction L' with
      | nil => intro S b e; cases e
      | cons l L' ih =>
        intro S b e
        rw [runP] at e
        cases ht : tkF S l.1 l.2 with
        | inl c => rw [ht] at e; cases e; exact tkF_err ht
        | inr S1 => rw [ht] at e; exact ih S1 b e
    cases hrun : runP pst0 L with
    | inl b => rw [hrun] at h; cases h; exact hr _ _ _ hrun
    | inr S0 =>
      rw [hrun] at h
      unfold endP at h
      dsimp only at h
      split at h
      · cases h; exact k1
      · split at h
        · cases h; exact k3
        · cases h
/-- a row that is struck leaves the others. -/
theorem Fam.struck {B : Nat} {V : World} {K : List PRow} {r : PRow} (h : Fam B V (r :: K)) (t : TypeId) (z : Nat) : Fam B V (PRow.new t z :: K) := by
  refine ⟨fun s hs => ?_, fun i j a b hi hj hij c hc => ?_⟩
  · rcases List.mem_cons.1 hs with hs | hs
    · rw [hs]; exact World.ownsRow_nil _ _ _ _
    · exact h.1 s (List.mem_cons_of_mem _ hs)
  · cases i with
    | zero => simp at hi; rw [← hi] at hc; cases hc
    | succ i =>
      cases j with
      | zero => simp at hj; rw [← hj]; intro q; cases q
      | succ j => exact h.2 (i + 1) (j + 1) a b hi hj hij c hc

set_option maxRecDepth 100000 in
set_option maxHeartbeats 4000000 in
theorem core_SrcMore (s : ByteArray) (y : Int) (w : World) (hM : Mx w) (hT : Clk.Tab w) (hs : s.size ≤ 140737488351232) :
    Calls Tryz.prog 3 #[.string s, .int .i64 y] w fun e w' => e = .returned (.bool true) ∧ Below w.heap.size w w' := by
  have HM : Hid (Mx w) := hM
  have HT : Hid (Clk.Tab w) := hT
  clear hM hT
  go_enter Tryz.func3, Tryz.ntmps3
  go_wp2_with fail
  refine (parse_any s w HM.out hs).mono ?_
  rintro e w1 ⟨hb, hI⟩
  have B1 : Hid (Below w.heap.size w w1) := hb
  clear hb
  cases hP : parseP s with
  | inl a =>
    rw [hP] at hI
    have hI' : e = .returned (.tuple #[.agg #[.slice none 0 0, .slice none 0 0, .slice none 0 0], .int .i64 a.1, .int .i64 a.2]) := hI
    subst hI'
    have ha := parseP_err hP
    obtain ⟨a1, a2⟩ := a
    simp only at ha ⊢
    have ha1 : (a2 == 0) = false := by simpa using ha
    have ha2 : (a2 != 0) = true := by simpa using ha
    clear hI hP ha
    have B2 : Hid (Below w.heap.size w (w1.alloc (.cells #[.slice none 0 0, .slice none 0 0, .slice none 0 0] 26))) := B1.out.alloc B1.out.size _
    go_wp2_with fail
    refine (known08_any _ (HM.out.below B2.out) (HT.out.below B2.out)).mono ?_
    rintro e w9 ⟨rfl, hb9⟩
    have B9 : Hid (Below w.heap.size w w9) := B2.out.trans (hb9.mono B2.out.size)
    clear hb9
    go_wp2_with fail
    go_ret
    exact ⟨rfl, B9.out⟩
  | inr S =>
    rw [hP] at hI
    obtain ⟨vr, vl, ve, vz, vs, B, rfl, hB, hF, hlen, hO⟩ := hI
    obtain ⟨ar, cr, g1, g2, g3, -⟩ := own_rowP (hF.get 0 rfl)
    obtain ⟨al, cl, g4, -, -, -⟩ := own_rowP (hF.get 1 rfl)
    obtain ⟨az, cz, g5, -, -, -⟩ := own_rowP (hF.get 3 rfl)
    simp only at g1 g4 g5
    subst g1 g4 g5
    have nr := hO.rules
    clear g2 g3
    have B2 : Hid (Below w.heap.size w (w1.alloc (.cells #[.slice ar S.rules.length cr, .slice az S.zones.length cz, .slice al S.links.length cl] 26))) := B1.out.alloc B1.out.size _
    have HF : Hid (Fam B (w1.alloc (.cells #[.slice ar S.rules.length cr, .slice az S.zones.length cz, .slice al S.links.length cl] 26)) (rowsP S (.slice ar S.rules.length cr) (.slice al S.links.length cl) ve (.slice az S.zones.length cz) vs)) := hF.below ((Below.refl _ _).alloc (Nat.le_refl _) _)
    obtain ⟨db, hdb⟩ : ∃ db, db = w1.heap.size := ⟨_, rfl⟩
    have XD : Hid (Bx (w1.alloc (.cells #[.slice ar S.rules.length cr, .slice az S.zones.length cz, .slice al S.links.length cl] 26)) db [.slice ar S.rules.length cr, .slice az S.zones.length cz, .slice al S.links.length cl]) := by rw [hdb]; exact Bx.new w1 [.slice ar S.rules.length cr, .slice az S.zones.length cz, .slice al S.links.length cl] _
    clear hF
    by_cases h8 : 8000 < s.size
    · have h8' : (8000 : Int) < (s.size : Int) := by omega
      go_wp2_with fail
      refine (known08_any _ (HM.out.below B2.out) (HT.out.below B2.out)).mono ?_
      rintro e w9 ⟨rfl, hb9⟩
      have B9 : Hid (Below w.heap.size w w9) := B2.out.trans (hb9.mono B2.out.size)
      clear hb9
      go_wp2_with fail
      go_ret
      exact ⟨rfl, B9.out⟩
    · have h8' : ¬ (8000 : Int) < (s.size : Int) := by omega
      by_cases hr : 0 < S.rules.length
      · have hr' : (0 : Int) < (S.rules.length : Int) := by omega
        go_wp2_with fail
        refine (known08_any _ (HM.out.below B2.out) (HT.out.below B2.out)).mono ?_
        rintro e w9 ⟨rfl, hb9⟩
        have B9 : Hid (Below w.heap.size w w9) := B2.out.trans (hb9.mono B2.out.size)
        clear hb9
        go_wp2_with fail
        go_ret
        exact ⟨rfl, B9.out⟩
      · have H9 : Hid (S.rules = []) := List.eq_nil_of_length_eq_zero (by omega)
        have hr1 : ¬ (0 : Int) < (S.rules.length : Int) := by omega
        by_cases hy : y < 1800
        · go_wp2_with fail
          refine (known08_any _ (HM.out.below B2.out) (HT.out.below B2.out)).mono ?_
          rintro e w9 ⟨rfl, hb9⟩
          have B9 : Hid (Below w.heap.size w w9) := B2.out.trans (hb9.mono B2.out.size)
          clear hb9
          go_wp2_with fail
          go_ret
          exact ⟨rfl, B9.out⟩
        · by_cases hy2 : 2100 < y
          · go_wp2_with fail
            refine (known08_any _ (HM.out.below B2.out) (HT.out.below B2.out)).mono ?_
            rintro e w9 ⟨rfl, hb9⟩
            have B9 : Hid (Below w.heap.size w w9) := B2.out.trans (hb9.mono B2.out.size)
            clear hb9
            go_wp2_with fail
            go_ret
            exact ⟨rfl, B9.out⟩
          · go_wp2_with fail
            have hsz : (s ++ moreT).size = s.size + 33 := by rw [ByteArray.size_append]; rfl
            refine (parse_any (s ++ moreT) _ (HM.out.below B2.out) (by omega)).mono ?_
            rintro e w2 ⟨hb, hI⟩
            have B3 : Hid (Below w.heap.size w w2) := B2.out.trans (hb.mono B2.out.size)
            have HF2 : Hid (Fam B w2 (rowsP S (.slice ar S.rules.length cr) (.slice al S.links.length cl) ve (.slice az S.zones.length cz) vs)) := HF.out.below hb
            have XD2 : Hid (Bx w2 db [.slice ar S.rules.length cr, .slice az S.zones.length cz, .slice al S.links.length cl]) := XD.out.below hb
            clear hb HF XD hsz
            rcases more_ok s S hP (by omega) H9.out with ⟨a, hQ⟩ | ⟨S2, r, hQ, hr2, hrn, hz2, hl2⟩
            · rw [hQ] at hI
              have hI' : e = .returned (.tuple #[.agg #[.slice none 0 0, .slice none 0 0, .slice none 0 0], .int .i64 a, .int .i64 3]) := hI
              subst hI'
              clear hI
              have B4 : Hid (Below w.heap.size w (w2.alloc (.cells #[.slice none 0 0, .slice none 0 0, .slice none 0 0] 26))) := B3.out.alloc B3.out.size _
              go_wp2_with fail
              refine (known08_any _ (HM.out.below B4.out) (HT.out.below B4.out)).mono ?_
              rintro e w9 ⟨rfl, hb9⟩
              have B9 : Hid (Below w.heap.size w w9) := B4.out.trans (hb9.mono B4.out.size)
              clear hb9
              go_wp2_with fail
              go_ret
              exact ⟨rfl, B9.out⟩
            · have HR2 : Hid (S2.rules = [r]) := hr2
              have HZ2 : Hid (S2.zones = S.zones) := hz2
              have HL2 : Hid (S2.links = S.links) := hl2
              have HRN : Hid (r.nm = ownT) := hrn
              clear hr2 hz2 hl2 hrn
              rw [hQ] at hI
              obtain ⟨vr2, vl2, ve2, vz2, vs2, Bq, rfl, hBq, hFq, hlenq, hOq⟩ := hI
              obtain ⟨ar2, cr2, g1, -, -, -⟩ := own_rowP (hFq.get 0 rfl)
              obtain ⟨al2, cl2, g4, -, -, -⟩ := own_rowP (hFq.get 1 rfl)
              obtain ⟨az2, cz2, g5, -, -, -⟩ := own_rowP (hFq.get 3 rfl)
              simp only at g1 g4 g5
              subst g1 g4 g5
              have qb : Below w2.heap.size w2 (w2.alloc (.cells #[.slice ar2 S2.rules.length cr2, .slice az2 S2.zones.length cz2, .slice al2 S2.links.length cl2] 26)) := (Below.refl _ _).alloc (Nat.le_refl _) _
              have B4 : Hid (Below w.heap.size w (w2.alloc (.cells #[.slice ar2 S2.rules.length cr2, .slice az2 S2.zones.length cz2, .slice al2 S2.links.length cl2] 26))) := B3.out.trans (qb.mono B3.out.size)
              have hFq2 := hFq.below qb
              go_upto_region 9 with fail
              clear h8' hr1 hy hy2
              go_wp2_with fail
              refine (taken_any S2 _ _ ve2 _ vs2 Bq _ hFq2 hlenq hOq).mono ?_
              rintro e w3 ⟨xr, xl, xz, xs, Bn, rfl, hb3, hBn, hF3, hxl⟩
              rw [HR2.out] at hF3
              obtain ⟨p1, p3, hxr, -, -, hp⟩ := own_rowP (hF3.get 0 rfl)
              obtain ⟨q1, hq, -⟩ := hp (by simp)
              obtain ⟨o1, o2, o3, hxl9⟩ := own_sliceP (hF3.get 1 rfl)
              obtain ⟨m1, m2, m3, hxz9⟩ := own_sliceP (hF3.get 2 rfl)
              simp only [List.length_cons, List.length_nil, Nat.zero_add] at hxr hxl9 hxz9
              subst hq hxr hxl9 hxz9
              have f0 := ((hF3.get 0 rfl).cellAt 0 (by show 0 < 1 * 11; decide)).trans (ruleXs_at [r] 0 0 r (.string r.nm) rfl rfl)
              rw [HRN.out] at f0
              have f1 := World.block_lt_of_cell? _ _ f0
              have e1 : (ownT.toList == [79, 119, 110]) = true := by decide +kernel
              have e2 : (ownT.toList != [79, 119, 110]) = false := by decide +kernel
              have qb3 := qb.trans (hb3.mono qb.size)
              have B5 : Hid (Below w.heap.size w w3) := B3.out.trans (qb3.mono B3.out.size)
              obtain ⟨tb, htb⟩ : ∃ tb, tb = w3.heap.size := ⟨_, rfl⟩
              have qa : Below w3.heap.size w3 (w3.alloc (.cells #[.slice none 0 0, .slice m1 m2 m3, .slice o1 o2 o3] 35)) := (Below.refl _ _).alloc (Nat.le_refl _) _
              have E0 : Hid (Below w.heap.size w (w3.alloc (.cells #[.slice none 0 0, .slice m1 m2 m3, .slice o1 o2 o3] 35)) ∧ Bx (w3.alloc (.cells #[.slice none 0 0, .slice m1 m2 m3, .slice o1 o2 o3] 35)) db [.slice ar S.rules.length cr, .slice az S.zones.length cz, .slice al S.links.length cl] ∧ Bx (w3.alloc (.cells #[.slice none 0 0, .slice m1 m2 m3, .slice o1 o2 o3] 35)) tb [.slice none 0 0, .slice m1 m2 m3, .slice o1 o2 o3] ∧ Fam B (w3.alloc (.cells #[.slice none 0 0, .slice m1 m2 m3, .slice o1 o2 o3] 35)) (rowsP S (.slice ar S.rules.length cr) (.slice al S.links.length cl) ve (.slice az S.zones.length cz) vs) ∧ Fam Bn (w3.alloc (.cells #[.slice none 0 0, .slice m1 m2 m3, .slice o1 o2 o3] 35)) (rowsQ [] S2.zones S2.links (.slice none 0 0) (.slice o1 o2 o3) (.slice m1 m2 m3) xs)) := ⟨B5.out.alloc B5.out.size _, (XD2.out.below qb3).below qa, by rw [htb]; exact Bx.new w3 [.slice none 0 0, .slice m1 m2 m3, .slice o1 o2 o3] _, (HF2.out.below qb3).below qa, (hF3.below qa).struck _ _⟩
              have HXL : Hid (xs.length = S2.zones.length) := hxl
              clear hF3 hFq2 hFq qb qb3 hb3 HF2 XD2 hxl hlenq hOq
              go_upto_region 13 with fail
              refine gen_code (fun V => (Below w.heap.size w V ∧ Bx V db [.slice ar S.rules.length cr, .slice az S.zones.length cz, .slice al S.links.length cl] ∧ Bx V tb [.slice none 0 0, .slice m1 m2 m3, .slice o1 o2 o3] ∧ Fam B V (rowsP S (.slice ar S.rules.length cr) (.slice al S.links.length cl) ve (.slice az S.zones.length cz) vs) ∧ Fam Bn V (rowsQ [] S2.zones S2.links (.slice none 0 0) (.slice o1 o2 o3) (.slice m1 m2 m3) xs))) E0.out ?_
              clear E0 f0 f1 e1 e2
              intro w5 kk
              have KK : Hid (Below w.heap.size w w5 ∧ Bx w5 db [.slice ar S.rules.length cr, .slice az S.zones.length cz, .slice al S.links.length cl] ∧ Bx w5 tb [.slice none 0 0, .slice m1 m2 m3, .slice o1 o2 o3] ∧ Fam B w5 (rowsP S (.slice ar S.rules.length cr) (.slice al S.links.length cl) ve (.slice az S.zones.length cz) vs) ∧ Fam Bn w5 (rowsQ [] S2.zones S2.links (.slice none 0 0) (.slice o1 o2 o3) (.slice m1 m2 m3) xs)) := kk
              clear kk
              rw [← hdb, ← htb]
              clear hdb htb
              go_wp2_with fail
              refine wp_region_held_drew (S := fun V => (Below w.heap.size w V ∧ Bx V db [.slice ar S.rules.length cr, .slice az S.zones.length cz, .slice al S.links.length cl] ∧ Bx V tb [.slice none 0 0, .slice m1 m2 m3, .slice o1 o2 o3] ∧ Fam B V (rowsP S (.slice ar S.rules.length cr) (.slice al S.links.length cl) ve (.slice az S.zones.length cz) vs) ∧ Fam Bn V (rowsQ [] S2.zones S2.links (.slice none 0 0) (.slice o1 o2 o3) (.slice m1 m2 m3) xs))) (by kernel_rfl) (show (Below w.heap.size w (w5.drew) ∧ Bx (w5.drew) db [.slice ar S.rules.length cr, .slice az S.zones.length cz, .slice al S.links.length cl] ∧ Bx (w5.drew) tb [.slice none 0 0, .slice m1 m2 m3, .slice o1 o2 o3] ∧ Fam B (w5.drew) (rowsP S (.slice ar S.rules.length cr) (.slice al S.links.length cl) ve (.slice az S.zones.length cz) vs) ∧ Fam Bn (w5.drew) (rowsQ [] S2.zones S2.links (.slice none 0 0) (.slice o1 o2 o3) (.slice m1 m2 m3) xs)) from ⟨KK.out.1.drew, KK.out.2⟩) (fun hHeld => ?_)
              refine gen_any (fun V => (Below w.heap.size w V ∧ Bx V db [.slice ar S.rules.length cr, .slice az S.zones.length cz, .slice al S.links.length cl] ∧ Bx V tb [.slice none 0 0, .slice m1 m2 m3, .slice o1 o2 o3] ∧ Fam B V (rowsP S (.slice ar S.rules.length cr) (.slice al S.links.length cl) ve (.slice az S.zones.length cz) vs) ∧ Fam Bn V (rowsQ [] S2.zones S2.links (.slice none 0 0) (.slice o1 o2 o3) (.slice m1 m2 m3) xs))) hHeld ?_
              clear hHeld KK
              intro w6 hHeld
              refine wpAnyH_take (i := 0) (v := ?_) (oi := { dst := some 68, op := _, type := _, pos := _, after := _, guard := none }) rfl (by kernel_rfl) (by kernel_rfl) (by kernel_rfl) (fun _ _ _ h => h) (Or.inl ⟨by kernel_rfl, ?_⟩) (by assumption) ?_
              case refine_2 => (intro w9 hSw; obtain ⟨_, z1, z2, _, _⟩ := hSw; have p0 := z1.c 0 rfl; have x0 := z2.c 0 rfl; have p1 := z1.c 1 rfl; have x1 := z2.c 1 rfl; have p2 := z1.c 2 rfl; have x2 := z2.c 2 rfl; have pw := z1.1; have xw := z2.1; clear z1 z2; go_simp; try with_reducible rfl)
              simp only [Act.put, List.setIfInBounds_toArray, List.set_cons_zero, List.set_cons_succ]
              refine wpAnyH_take (i := 1) (v := ?_) (oi := { dst := some 69, op := _, type := _, pos := _, after := _, guard := none }) rfl (by kernel_rfl) (by kernel_rfl) (by kernel_rfl) (fun _ _ _ h => h) (Or.inl ⟨by kernel_rfl, ?_⟩) (by assumption) ?_
              case refine_2 => (intro w9 hSw; obtain ⟨_, z1, z2, _, _⟩ := hSw; have p0 := z1.c 0 rfl; have x0 := z2.c 0 rfl; have p1 := z1.c 1 rfl; have x1 := z2.c 1 rfl; have p2 := z1.c 2 rfl; have x2 := z2.c 2 rfl; have pw := z1.1; have xw := z2.1; clear z1 z2; go_simp; try with_reducible rfl)
              simp only [Act.put, List.setIfInBounds_toArray, List.set_cons_zero, List.set_cons_succ]
              refine wpAnyH_ready (rs := [2]) (by kernel_rfl) (by simp) (AllReadyH.cons (o := { dst := some 70, op := _, type := _, pos := _, after := _, guard := none }) rfl (fun K hK => ?_) AllReadyH.nil)
              go_simp
              refine (taken_any S _ _ ve _ vs B _ hHeld.2.2.2.1 hlen hO).mono ?_
              rintro e v1 ⟨yr, yl, yz, ys, B4, rfl, hb1, -, hF4, hl4⟩
              have hH2 : Hid ((Below w.heap.size w v1 ∧ Bx v1 db [.slice ar S.rules.length cr, .slice az S.zones.length cz, .slice al S.links.length cl] ∧ Bx v1 tb [.slice none 0 0, .slice m1 m2 m3, .slice o1 o2 o3] ∧ Fam B v1 (rowsP S (.slice ar S.rules.length cr) (.slice al S.links.length cl) ve (.slice az S.zones.length cz) vs) ∧ Fam Bn v1 (rowsQ [] S2.zones S2.links (.slice none 0 0) (.slice o1 o2 o3) (.slice m1 m2 m3) xs))) := ⟨hHeld.1.trans (hb1.mono hHeld.1.size), hHeld.2.1.below hb1, hHeld.2.2.1.below hb1, hHeld.2.2.2.1.below hb1, hHeld.2.2.2.2.below hb1⟩
              refine hK.out _ _ hH2.out (fun hHeld => ?_)
              rw [H9.out] at hF4
              have HF4 : Hid (Fam B4 v1 _) := hF4
              clear hK K hb1 hF4 hH2
              refine wpAnyH_ready (rs := [3]) (by kernel_rfl) (by simp) (AllReadyH.cons (o := { dst := some 71, op := _, type := _, pos := _, after := _, guard := none }) rfl (fun K hK => ?_) AllReadyH.nil)
              go_simp
              refine (same_any [] S2.zones S2.links _ _ _ _ _ _ xs ys Bn B4 v1 hHeld.2.2.2.2 (by rw [HZ2.out, HL2.out]; exact HF4.out) HXL.out (by rw [HZ2.out]; exact hl4) (by simp) (by rw [HZ2.out]; have := hO.zones; omega) (by rw [HL2.out]; have := hO.links; omega) (fun z hz => by rw [HZ2.out] at hz; have := hO.ze z hz; omega)).mono ?_
              rintro e v2 ⟨rfl, hb2⟩
              have hH2 : Hid ((Below w.heap.size w v2 ∧ Bx v2 db [.slice ar S.rules.length cr, .slice az S.zones.length cz, .slice al S.links.length cl] ∧ Bx v2 tb [.slice none 0 0, .slice m1 m2 m3, .slice o1 o2 o3] ∧ Fam B v2 (rowsP S (.slice ar S.rules.length cr) (.slice al S.links.length cl) ve (.slice az S.zones.length cz) vs) ∧ Fam Bn v2 (rowsQ [] S2.zones S2.links (.slice none 0 0) (.slice o1 o2 o3) (.slice m1 m2 m3) xs))) := ⟨hHeld.1.trans (hb2.mono hHeld.1.size), hHeld.2.1.below hb2, hHeld.2.2.1.below hb2, hHeld.2.2.2.1.below hb2, hHeld.2.2.2.2.below hb2⟩
              refine hK.out _ _ hH2.out (fun hHeld => ?_)
              clear hK K hb2 hH2 HF4
              refine wpAnyH_take (i := 4) (v := ?_) (oi := { dst := some 72, op := _, type := _, pos := _, after := _, guard := none }) rfl (by kernel_rfl) (by kernel_rfl) (by kernel_rfl) (fun _ _ _ h => h) (Or.inl ⟨by kernel_rfl, ?_⟩) (by assumption) ?_
              case refine_2 => (intro w9 hSw; clear hSw; go_simp; try with_reducible rfl)
              simp only [Act.put, List.setIfInBounds_toArray, List.set_cons_zero, List.set_cons_succ]
              refine wpAnyH_ready (rs := [5]) (by kernel_rfl) (by simp) (AllReadyH.cons (o := { dst := some 73, op := _, type := _, pos := _, after := _, guard := some (4, true) }) rfl (fun K hK => ?_) AllReadyH.nil)
              go_simp
              refine (known08_any _ (HM.out.below hHeld.1) (HT.out.below hHeld.1)).mono ?_
              rintro e v3 ⟨rfl, hb3⟩
              have hH2 : Hid ((Below w.heap.size w v3 ∧ Bx v3 db [.slice ar S.rules.length cr, .slice az S.zones.length cz, .slice al S.links.length cl] ∧ Bx v3 tb [.slice none 0 0, .slice m1 m2 m3, .slice o1 o2 o3] ∧ Fam B v3 (rowsP S (.slice ar S.rules.length cr) (.slice al S.links.length cl) ve (.slice az S.zones.length cz) vs) ∧ Fam Bn v3 (rowsQ [] S2.zones S2.links (.slice none 0 0) (.slice o1 o2 o3) (.slice m1 m2 m3) xs))) := ⟨hHeld.1.trans (hb3.mono hHeld.1.size), hHeld.2.1.below hb3, hHeld.2.2.1.below hb3, hHeld.2.2.2.1.below hb3, hHeld.2.2.2.2.below hb3⟩
              refine hK.out _ _ hH2.out (fun hHeld => ?_)
              clear hK K hb3 hH2
              refine wpAnyH_take (i := 6) (v := ?_) (oi := { dst := some 74, op := _, type := _, pos := _, after := _, guard := none }) rfl (by kernel_rfl) (by kernel_rfl) (by kernel_rfl) (fun _ _ _ h => h) (Or.inl ⟨by kernel_rfl, ?_⟩) (by assumption) ?_
              case refine_2 => (intro w9 hSw; clear hSw; go_simp; try with_reducible rfl)
              simp only [Act.put, List.setIfInBounds_toArray, List.set_cons_zero, List.set_cons_succ]
              refine wpAnyH_take (i := 7) (v := ?_) (oi := { dst := some 4, op := _, type := _, pos := _, after := _, guard := none }) rfl (by kernel_rfl) (by kernel_rfl) (by kernel_rfl) (fun _ _ _ h => h) (Or.inl ⟨by kernel_rfl, ?_⟩) (by assumption) ?_
              case refine_2 => (intro w9 hSw; clear hSw; go_simp; try with_reducible rfl)
              simp only [Act.put, List.setIfInBounds_toArray, List.set_cons_zero, List.set_cons_succ]
              refine wpAnyH_done (by kernel_rfl) ?_ _
              have KB := hHeld.1
              have KB : Hid (Below w.heap.size w _) := KB
              clear hHeld
              go_wp2_with fail
              go_ret
              exact ⟨rfl, KB.out⟩

end Go.Proofs.YthhpdjjfbfkgiaaGreatDoor
