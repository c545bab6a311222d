/- Contract: the reference's Parse of any source: it says what the program's says. -/
import Derived.Test.YtgnfkkcagbbhmaaGreatDoorQpIq
import Derived.Test.YtgnfkkcagbbhmaaGreatDoorLnDq
import Derived.Deep.CutRange
namespace Go.Proofs.YtgnfkkcagbbhmaaGreatDoor
open Go.RowKit Lin
open Sr (gen_any gen_list)
set_option linter.unusedVariables false

/-- what the reference's Parse answers, in memory. -/
def ParseIsN (w : World) (e : Ending) (w' : World) : Sum (Int × Int) PSt → Prop
  | .inl a => e = .returned (.tuple #[.agg #[.slice none 0 0, .slice none 0 0, .slice none 0 0], .int .i64 a.1, .int .i64 a.2])
  | .inr S => ∃ (vr vl vz : Value) (vs : List Value) (B : Nat), e = .returned (.tuple #[.agg #[vr, vz, vl], .int .i64 0, .int .i64 0]) ∧ w.heap.size ≤ B ∧ Fam B w' (rowsQ S.rules S.zones S.links vr vl vz vs) ∧ vs.length = S.zones.length ∧ OkS S 400
theorem PN.first (U : World) : PN U U.heap.size (U.heap.size + 1) pst0 (.slice none 0 0) (.slice none 0 0) (.slice none 0 0) (.slice none 0 0) [] (U.alloc (.cells #[.slice none 0 0, .slice none 0 0, .slice none 0 0, .slice none 0 0, .bool false] 63)) := by
  refine ⟨(Below.refl _ _).alloc (Nat.le_refl _) _, Bx.new U (boxN (.slice none 0 0) (.slice none 0 0) (.slice none 0 0) (.slice none 0 0) false) 63, ?_, rfl, Nat.le_refl _, by omega, by simp⟩
  exact (((((Fam.zero _ _).push 3 1).push 71 11).push 81 2).push 74 2)
theorem Fam.tail {B : Nat} {V : World} {r : PRow} {L : List PRow} (h : Fam B V (r :: L)) : Fam B V L :=
  ⟨fun s hs => h.1 s (List.mem_cons_of_mem _ hs), fun i j a b hi hj hij => h.2 (i + 1) (j + 1) a b (by simpa using hi) (by simpa using hj) (by omega)⟩
theorem lnsF_pos : ∀ (ts : List (List UInt8)) (n : Nat) (acc L : List Lne), lnsF ts n acc = .inr L → (∀ x ∈ acc, 0 < x.1) → ∀ x ∈ L, 0 < x.1
  | [], n, acc, L, e, h => by simp [lnsF] at e; subst e; exact h
  | t :: ts, n, acc, L, e, h => by
    cases ho : oneL t with
    | none => rw [lnsF_none ho] at e; cases e
    | some F =>
      rw [lnsF_some ho] at e
      by_cases h1 : F.length = 0
      · rw [if_pos h1] at e; exact lnsF_pos ts _ _ _ e h
      · rw [if_neg h1] at e
        by_cases h2 : 16 < F.length ∨ acc.length = 400
        · rw [if_pos h2] at e; cases e
        · rw [if_neg h2] at e
          refine lnsF_pos ts _ _ _ e (fun x hx => ?_)
          rcases List.mem_append.1 hx with q | q
          · exact h x q
          · rw [List.mem_singleton.1 q]; show 0 < (n : Int) + 1; omega
theorem lnsS_pos {s : ByteArray} {L : List Lne} (h : lnsS s = .inr L) : ∀ x ∈ L, 0 < x.1 := by
  unfold lnsS at h
  split at h
  · cases h
  · exact lnsF_pos _ _ _ _ h (fun x hx => by cases hx)
theorem flatE_at : ∀ (Z : List (ByteArray × List EraT)) (i j : Nat) (z : ByteArray × List EraT) (e : EraT), Z[i]? = some z → z.2[j]? = some e → (flatE Z)[(flatE (Z.take i)).length + j]? = some e
  | [], i, j, z, e, h, _ => by simp at h
  | y :: Z, 0, j, z, e, h, h2 => by
    simp at h; subst h
    have hj := (List.getElem?_eq_some_iff.1 h2).1
    show (y.2 ++ flatE Z)[0 + j]? = _
    rw [Nat.zero_add, List.getElem?_append_left hj]; exact h2
  | y :: Z, i + 1, j, z, e, h, h2 => by
    have ih := flatE_at Z i j z e (by simpa using h) h2
    show (y.2 ++ flatE Z)[(y.2 ++ flatE (Z.take i)).length + j]? = _
    rw [List.length_append, List.getElem?_append_right (by omega), show y.2.length + (flatE (Z.take i)).length + j - y.2.length = (flatE (Z.take i)).length + j by omega]
    exact ih
theorem flatE_take {Z : List (ByteArray × List EraT)} {i : Nat} {z : ByteArray × List EraT} (h : Z[i]? = some z) : (flatE (Z.take (i + 1))).length = (flatE (Z.take i)).length + z.2.length := by
  rw [List.take_add_one, h]
  unfold flatE
  rw [List.flatMap_append, List.length_append]
  simp

set_option maxRecDepth 100000 in
set_option maxHeartbeats 8000000 in
theorem rparseS_any (s : ByteArray) (w : World) :
    Calls Tryz.prog 7 #[.string s] w fun e w' => Below w.heap.size w w' ∧ ParseIsN w e w' (parseP s) := by
  obtain ⟨X, hX⟩ : ∃ X, parseP s = X := ⟨_, rfl⟩
  rw [hX]
  have HX : Hid (parseP s = X) := hX
  clear hX
  have b1 : Below w.heap.size w (w.alloc (.cells #[.slice none 0 0, .slice none 0 0, .slice none 0 0] 34)) := (Below.refl _ _).alloc (Nat.le_refl _) _
  have B1 : Hid (Below w.heap.size w (w.alloc (.cells #[.slice none 0 0, .slice none 0 0, .slice none 0 0] 34))) := b1
  have X1 : Hid (Bx (w.alloc (.cells #[.slice none 0 0, .slice none 0 0, .slice none 0 0] 34)) w.heap.size zDb) := Bx.new w zDb _
  have hsz1 : ((w.alloc (.cells #[.slice none 0 0, .slice none 0 0, .slice none 0 0] 34))).heap.size = w.heap.size + 1 := by simp
  clear b1
  go_enter Tryz.func7, Tryz.ntmps7
  go_wp2_with fail
  refine (eSplit_any s _).mono ?_
  rintro e U ⟨hb2, hS⟩
  have BU : Hid (Below w.heap.size w U) := B1.out.trans (hb2.mono B1.out.size)
  have XU : Hid (Bx U w.heap.size zDb) := X1.out.below hb2
  have hwU : w.heap.size + 1 ≤ U.heap.size := by rw [← hsz1]; exact hb2.size
  cases hL : lnsS s with
  | inl a =>
    rw [hL] at hS
    have hS' : e = .returned (.tuple #[.slice none 0 0, .int .i64 a.1, .int .i64 a.2]) := hS
    subst hS'
    have ha := lnsS_err hL
    have HXe : Hid (.inl a = X) := by rw [← HX.out]; exact (parseP_none hL).symm
    obtain ⟨a1, a2⟩ := a
    simp only at ha ⊢
    have ha1 : (a2 == 0) = false := by simpa using ha
    have ha2 : (a2 != 0) = true := by simpa using ha
    clear hS hL HX hb2 X1 B1 ha
    go_wp2_with (refine wpList_store_mid rfl 34 _ _ rfl w.heap.size 0 #[.slice none 0 0, .slice none 0 0, .slice none 0 0] rfl rfl XU.out.there (by kernel_rfl) zDb_one ?_; refine gen_list (fun V => Bx V w.heap.size zDb ∧ Below w.heap.size w V) ⟨XU.out.setAll zDb rfl, below_setCells (Nat.le_refl _) zDb _ 0 BU.out⟩ ?_; rintro w4 ⟨X4, B4⟩)
    have y0 := X4.c 0 rfl
    have y1 := X4.c 1 rfl
    have y2 := X4.c 2 rfl
    have HB : Hid (Below w.heap.size w w4) := B4
    clear X4 B4
    refine bodyPost_ret (v := .tuple #[.agg #[.slice none 0 0, .slice none 0 0, .slice none 0 0], .int .i64 a1, .int .i64 a2]) (by simp [results, Tryz.results7, go_sem, y0, y1, y2]) rfl ⟨HB.out, ?_⟩
    show ParseIsN w _ _ X
    rw [← HXe.out]
    exact rfl
  | inr L =>
    rw [hL] at hS
    obtain ⟨v, l, hv, hO, hl⟩ := hS
    subst hv
    have HG : Hid (GoodL L) := lnsS_good hL
    have HPOS : Hid (∀ x ∈ L, 0 < x.1) := lnsS_pos hL
    have HXL : Hid (endP L (runP pst0 (L.drop 0)) = X) := by show _ = _; rw [← HX.out, parseP_lines hL, List.drop_zero]
    have HO : Hid (OwnL U w.heap.size 65 v l) := hO.lower (by rw [hsz1]; omega)
    have hO1 : ∀ k, v.ownBlock = some k → w.heap.size + 1 ≤ k := fun k hk => by have := (hO.1.lt k hk).1; rw [hsz1] at this; exact this
    have hlL : l.length = L.length := by rw [← hl]; simp [saidL]
    have HLl : Hid (saidL l = L) := hl
    obtain ⟨al, cl, hvl, hl1, hl2, hl3⟩ := own_rowP HO.out.1
    subst hvl
    have P0 : Hid (PN U U.heap.size (U.heap.size + 1) pst0 (.slice none 0 0) (.slice none 0 0) (.slice none 0 0) (.slice none 0 0) [] _) := PN.first U
    have hnL : (l.length : Int) ≤ 9223372036854775807 := by unfold maxLen at hl2; omega
    have hL400 : L.length ≤ 400 := HG.out.1
    unfold maxLen at hl2
    clear hO hL HX hb2 X1 B1 hl
    go_upto_region 5 with fail
    go_wp2_with fail
    go_loopw [9] (fun iv W => ∃ (j : Nat) (S : PSt) (vr vl ve vz : Value) (vs : List Value), iv = .int .i64 (j : Int) ∧ j ≤ l.length ∧ Hid (PN U U.heap.size (U.heap.size + 1) S vr vl ve vz vs W) ∧ Hid (OkS S j) ∧ Hid (RefS S) ∧ Hid (CapS S) ∧ Hid (endP L (runP S (L.drop j)) = X)) (fun iv _ => l.length - (intOf iv).toNat)
    case atStart => exact ⟨0, pst0, _, _, _, _, [], rfl, Nat.zero_le _, P0, OkS.zero, RefS.zero, CapS.zero, HXL⟩
    case round =>
      obtain ⟨j, S, vr, vl, ve, vz, vs, rfl, hj, KP, KO, KR, KC, HE⟩ := hrel
      clear P0 HXL
      have hj0 : (0 : Int) ≤ (j : Int) := by omega
      by_cases hjn : j < l.length
      · have hjI : (j : Int) < (l.length : Int) := by omega
        have hjw : IntKind.i64.wrap ((j : Int) + 1) = (j : Int) + 1 := by rw [IntKind.wrap_i64]; omega
        obtain ⟨lr, hlr, hlrB⟩ := hl3 (by omega)
        subst hlr
        obtain ⟨p, hp⟩ : ∃ p, l[j]? = some p := ⟨_, List.getElem?_eq_getElem hjn⟩
        have hpL : L[j]? = some (p.1, p.2.2) := by rw [← HLl.out]; simp [saidL, hp]
        obtain ⟨f, T, hfT, hff, hTF⟩ := good_few HG.out hpL
        have hnpos := HPOS.out _ (List.mem_of_getElem? hpL)
        have HRun := runP_at (S := S) hpL
        obtain ⟨n, vF, F⟩ := p
        simp only at hfT HRun hnpos
        subst hfT
        obtain ⟨q0, q1⟩ := flatL_at2 l j _ hp
        have hown := HO.out.2 _ (List.mem_of_getElem? hp)
        simp only at q0 q1 hown
        obtain ⟨af, c, hvf, hc1, hc2, hc3⟩ := own_rowP hown
        simp only [List.length_cons] at hvf hc1 hc3
        obtain ⟨fb, hfb, hfbB⟩ := hc3 (by omega)
        subst hfb hvf
        have hOW := HO.out.below KP.out.low
        have f0 := (hOW.1.cellAt (j * 2) (by omega)).trans q0
        have f1 := (hOW.1.cellAt (j * 2 + 1) (by omega)).trans q1
        have hbw := World.block_lt_of_cell? _ _ f0
        have hfd : FdAt U fb 0 (f :: T) := fun i x hi => by
          have := hown.cells rfl i (.string x) (by rw [cellsS_get]; simpa using hi)
          rwa [Addr.add_lit] at this
        have hfw := World.block_lt_of_cell? _ _ (hfd 0 f rfl)
        simp only at hbw hfw
        have HFD : Hid (FdAt U fb 0 (f :: T)) := hfd
        have hlr1 : w.heap.size + 1 ≤ lr := hO1 lr rfl
        clear q0 q1 hown hOW hfd hp hpL
        go_wp2_with fail
        refine (rline_any U _ _ S vr vl ve vz vs _ KP.out j KO.out (by omega) KR.out KC.out n fb 0 c f T hTF hfw (by omega) HFD.out hff).mono ?_
        intro e W' q
        cases hT : tkF S n (f :: T) with
        | inl er =>
          rw [hT] at q HRun
          obtain ⟨he, hbq⟩ := q
          subst he
          have he0 := tkF_err hT
          have he1 : (er == 0) = false := by simpa using he0
          have he2 : (er != 0) = true := by simpa using he0
          have HXe : Hid (.inl (n, er) = X) := by have := HE.out; rw [HRun] at this; exact this
          have hUW : Below U.heap.size U W' := KP.out.low.trans (hbq.mono KP.out.low.size)
          have KE : Hid (Below w.heap.size w W' ∧ Bx W' w.heap.size zDb ∧ W'.cell? ⟨lr, j * 2, none⟩ = some (.int .i64 n)) := ⟨BU.out.trans (hUW.mono BU.out.size), XU.out.below hUW, (hbq.cell (p := ⟨lr, j * 2, none⟩) hbw).trans f0⟩
          clear hbq hUW HFD HE HRun hT he0 KP KO KR KC f0 f1 hbw hfw XU BU hnpos
          go_upto_region 10 with fail
          go_wp2_with fail
          refine wp_region_held_drew (S := fun V' => (Below w.heap.size w V' ∧ Bx V' w.heap.size zDb ∧ V'.cell? ⟨lr, j * 2, none⟩ = some (.int .i64 n))) (by kernel_rfl) ⟨KE.out.1.drew, KE.out.2⟩ (fun hHeld => ?_)
          refine gen_any (fun V' => (Below w.heap.size w V' ∧ Bx V' w.heap.size zDb ∧ V'.cell? ⟨lr, j * 2, none⟩ = some (.int .i64 n))) hHeld ?_
          clear hHeld KE
          rintro w9 hHeld
          refine wpAnyH_take (i := 0) (v := ?_) (oi := { dst := some 43, op := _, type := _, pos := _, after := _, guard := none }) rfl (by kernel_rfl) (by kernel_rfl) (by kernel_rfl) (fun _ _ _ h => h) (Or.inl ⟨by kernel_rfl, ?_⟩) (by assumption) ?_
          case refine_2 => (intro w9 hSw; clear hSw; go_simp; try with_reducible rfl)
          simp only [Act.put, List.setIfInBounds_toArray, List.set_cons_zero, List.set_cons_succ]
          refine wpAnyH_take (i := 1) (v := ?_) (oi := { dst := some 44, op := _, type := _, pos := _, after := _, guard := none }) rfl (by kernel_rfl) (by kernel_rfl) (by kernel_rfl) (fun _ _ _ h => h) (Or.inl ⟨by kernel_rfl, ?_⟩) (by assumption) ?_
          case refine_2 => (intro w9 hSw; clear hSw; go_simp; try with_reducible rfl)
          simp only [Act.put, List.setIfInBounds_toArray, List.set_cons_zero, List.set_cons_succ]
          refine wpAnyH_take (i := 2) (v := ?_) (oi := { dst := some 45, op := _, type := _, pos := _, after := _, guard := none }) rfl (by kernel_rfl) (by kernel_rfl) (by kernel_rfl) (fun _ _ _ h => h) (Or.inl ⟨by kernel_rfl, ?_⟩) (by assumption) ?_
          case refine_2 => (intro w9 hSw; clear hSw; go_simp; try with_reducible rfl)
          simp only [Act.put, List.setIfInBounds_toArray, List.set_cons_zero, List.set_cons_succ]
          refine wpAnyH_take (i := 3) (v := ?_) (oi := { dst := some 46, op := _, type := _, pos := _, after := _, guard := none }) rfl (by kernel_rfl) (by kernel_rfl) (by kernel_rfl) (fun _ _ _ h => h) (Or.inl ⟨by kernel_rfl, ?_⟩) (by assumption) ?_
          case refine_2 => (intro w9 hSw; clear hSw; go_simp; try with_reducible rfl)
          simp only [Act.put, List.setIfInBounds_toArray, List.set_cons_zero, List.set_cons_succ]
          refine wpAnyH_take (i := 4) (v := ?_) (oi := { dst := some 47, op := _, type := _, pos := _, after := _, guard := none }) rfl (by kernel_rfl) (by kernel_rfl) (by kernel_rfl) (fun _ _ _ h => h) (Or.inl ⟨by kernel_rfl, ?_⟩) (by assumption) ?_
          case refine_2 => (intro w9 hSw; clear hSw; go_simp; try with_reducible rfl)
          simp only [Act.put, List.setIfInBounds_toArray, List.set_cons_zero, List.set_cons_succ]
          refine wpAnyH_take (i := 5) (v := ?_) (oi := { dst := some 48, op := _, type := _, pos := _, after := _, guard := none }) rfl (by kernel_rfl) (by kernel_rfl) (by kernel_rfl) (fun _ _ _ h => h) (Or.inl ⟨by kernel_rfl, ?_⟩) (by assumption) ?_
          case refine_2 => (intro w9 hSw; obtain ⟨_, _, zl⟩ := hSw; have l0 := zl; have l1 := World.block_lt_of_cell? _ _ l0; clear zl; go_simp; try with_reducible rfl)
          simp only [Act.put, List.setIfInBounds_toArray, List.set_cons_zero, List.set_cons_succ]
          refine wpAnyH_take (i := 6) (v := ?_) (oi := { dst := some 49, op := _, type := _, pos := _, after := _, guard := none }) rfl (by kernel_rfl) (by kernel_rfl) (by kernel_rfl) (fun _ _ _ h => h) (Or.inl ⟨by kernel_rfl, ?_⟩) (by assumption) ?_
          case refine_2 => (intro w9 hSw; clear hSw; go_simp; try with_reducible rfl)
          simp only [Act.put, List.setIfInBounds_toArray, List.set_cons_zero, List.set_cons_succ]
          refine wpAnyH_ready (rs := [7]) (by kernel_rfl) (by simp) (AllReadyH.cons (o := { dst := none, op := _, type := _, pos := _, after := _, guard := none }) rfl (fun K hK => ?_) AllReadyH.nil)
          obtain ⟨hB5, hZ5, hT5⟩ := id hHeld
          have P4 : (Below w.heap.size w (w9.setCells w.heap.size 0 [.slice none 0 0, .slice none 0 0, .slice none 0 0]) ∧ Bx (w9.setCells w.heap.size 0 [.slice none 0 0, .slice none 0 0, .slice none 0 0]) w.heap.size zDb ∧ (w9.setCells w.heap.size 0 [.slice none 0 0, .slice none 0 0, .slice none 0 0]).cell? ⟨lr, j * 2, none⟩ = some (.int .i64 n)) := ⟨below_setCells (Nat.le_refl _) [.slice none 0 0, .slice none 0 0, .slice none 0 0] w9 0 hB5, hZ5.setAll zDb rfl, (setCells_off _ _ _ _ _ (by show lr ≠ _; omega)).trans hT5⟩
          refine (if_pos (by kernel_rfl)).mpr (wp_store_mid 34 _ _ rfl w.heap.size 0 #[.slice none 0 0, .slice none 0 0, .slice none 0 0] rfl rfl hZ5.there (by kernel_rfl) zDb_one ?_)
          refine hK.out _ (w9.setCells w.heap.size 0 [.slice none 0 0, .slice none 0 0, .slice none 0 0]) P4 (fun _ => ?_)
          clear hK K
          refine gen_any (w1 := (w9.setCells w.heap.size 0 [.slice none 0 0, .slice none 0 0, .slice none 0 0])) (fun V' => (Below w.heap.size w V' ∧ Bx V' w.heap.size zDb ∧ V'.cell? ⟨lr, j * 2, none⟩ = some (.int .i64 n))) P4 ?_
          clear hHeld hB5 hZ5 hT5 P4
          rintro w10 hHeld
          refine wpAnyH_take (i := 8) (v := ?_) (oi := { dst := some 3, op := _, type := _, pos := _, after := _, guard := none }) rfl (by kernel_rfl) (by kernel_rfl) (by kernel_rfl) (fun _ _ _ h => h) (Or.inl ⟨by kernel_rfl, ?_⟩) (by assumption) ?_
          case refine_2 => (intro w9 hSw; clear hSw; go_simp; try with_reducible rfl)
          simp only [Act.put, List.setIfInBounds_toArray, List.set_cons_zero, List.set_cons_succ]
          refine wpAnyH_take (i := 9) (v := ?_) (oi := { dst := some 4, op := _, type := _, pos := _, after := _, guard := none }) rfl (by kernel_rfl) (by kernel_rfl) (by kernel_rfl) (fun _ _ _ h => h) (Or.inl ⟨by kernel_rfl, ?_⟩) (by assumption) ?_
          case refine_2 => (intro w9 hSw; clear hSw; go_simp; try with_reducible rfl)
          simp only [Act.put, List.setIfInBounds_toArray, List.set_cons_zero, List.set_cons_succ]
          refine wpAnyH_done (by kernel_rfl) ?_ _
          have y0 := hHeld.2.1.c 0 rfl
          have y1 := hHeld.2.1.c 1 rfl
          have y2 := hHeld.2.1.c 2 rfl
          have HB : Hid (Below w.heap.size w w10) := hHeld.1
          clear hHeld
          go_wp2_with fail
          refine bodyPost_ret (v := .tuple #[.agg #[.slice none 0 0, .slice none 0 0, .slice none 0 0], .int .i64 n, .int .i64 er]) (by simp [results, Tryz.results7, go_sem, y0, y1, y2]) rfl ⟨HB.out, ?_⟩
          show ParseIsN w _ _ X
          rw [← HXe.out]
          exact rfl
        | inr S' =>
          rw [hT] at q HRun
          obtain ⟨he, vr', vl', ve', vz', vs', hP⟩ := q
          subst he
          have KP2 : Hid (PN U U.heap.size (U.heap.size + 1) S' vr' vl' ve' vz' vs' W') := hP
          have KO2 : Hid (OkS S' (j + 1)) := tkF_ok hTF KO.out hT
          have KR2 : Hid (RefS S') := KR.out.tk (by simp only [List.forall_mem_cons]; exact ⟨hff, hTF⟩) KO.out hnpos hT
          have KC2 : Hid (CapS S') := KC.out.tk KO.out hT
          have HE2 : Hid (endP L (runP S' (L.drop (j + 1))) = X) := by have := HE.out; rw [HRun] at this; exact this
          clear hP HE HRun hT KP KO KR KC HFD f0 f1 hbw hfw hnpos
          go_wp2_with fail
          exact ⟨⟨j + 1, S', vr', vl', ve', vz', vs', rfl, by omega, KP2, KO2, KR2, KC2, HE2⟩, by simp only [intOf]; omega⟩
      · have hjI : ¬ (j : Int) < (l.length : Int) := by omega
        have hjL : j = L.length := by omega
        have HE2 : Hid ((if S.op = true then .inl ((L.getLast?.map (·.1)).getD 0, 21) else if 0 < lostF S then .inl (lostF S, 23) else .inr S) = X) := by have := HE.out; rw [hjL, List.drop_length] at this; exact this
        have c5 := KP.out.box.c 4 rfl
        have c9 := KP.out.lt
        have KO4 : Hid (OkS S L.length) := by rw [← hjL]; exact KO.out
        clear HE KO
        by_cases hop : S.op = true
        · rw [hop] at c5
          obtain ⟨zl, zz, hzz⟩ := KO4.out.op hop
          have h1L : 1 ≤ L.length := by have := KO4.out.zones; rw [hzz, List.length_append, List.length_singleton] at this; omega
          obtain ⟨M, hM⟩ : ∃ M, L.length = M + 1 := ⟨L.length - 1, by omega⟩
          obtain ⟨lr, hlr, hlrB⟩ := hl3 (by omega)
          subst hlr
          obtain ⟨p, hp⟩ : ∃ p, l[M]? = some p := ⟨_, List.getElem?_eq_getElem (by omega)⟩
          have hpL : L[M]? = some (p.1, p.2.2) := by rw [← HLl.out]; simp [saidL, hp]
          obtain ⟨nl, vF, F⟩ := p
          have hlast : (L.getLast?.map (·.1)).getD 0 = nl := by rw [List.getLast?_eq_getElem?, show L.length - 1 = M by omega, hpL]; rfl
          have HXe : Hid (.inl (nl, 21) = X) := by have := HE2.out; rw [if_pos hop, hlast] at this; exact this
          obtain ⟨q0, -⟩ := flatL_at2 l M _ hp
          simp only at q0
          have hOW := HO.out.below KP.out.low
          have f0 := (hOW.1.cellAt (M * 2) (by omega)).trans q0
          have hlr1 : w.heap.size + 1 ≤ lr := hO1 lr rfl
          have KE : Hid (Below w.heap.size w wr ∧ Bx wr w.heap.size zDb ∧ wr.cell? ⟨lr, M * 2, none⟩ = some (.int .i64 nl)) := ⟨BU.out.trans (KP.out.low.mono BU.out.size), XU.out.below KP.out.low, f0⟩
          have hwM : IntKind.i64.wrap (M : Int) = (M : Int) := by rw [IntKind.wrap_i64]; omega
          have hwM2 : IntKind.i64.wrap ((l.length : Int) - 1) = (M : Int) := by rw [IntKind.wrap_i64]; omega
          have hM0 : (0 : Int) ≤ (M : Int) := by omega
          have hM1 : (M : Int) < (M : Int) + 1 := by omega
          have hM3 : (M : Int) < (l.length : Int) := by omega
          clear hOW q0 hp hpL hlast HE2 hzz zl zz
          go_upto_region 12 with fail
          clear c5 c9 KP KR KC f0 hop
          go_wp2_with fail
          refine wp_region_held_drew (S := fun V' => (Below w.heap.size w V' ∧ Bx V' w.heap.size zDb ∧ V'.cell? ⟨lr, M * 2, none⟩ = some (.int .i64 nl))) (by kernel_rfl) ⟨KE.out.1.drew, KE.out.2⟩ (fun hHeld => ?_)
          refine gen_any (fun V' => (Below w.heap.size w V' ∧ Bx V' w.heap.size zDb ∧ V'.cell? ⟨lr, M * 2, none⟩ = some (.int .i64 nl))) hHeld ?_
          clear hHeld KE
          rintro w9 hHeld
          refine wpAnyH_take (i := 0) (v := ?_) (oi := { dst := some 54, op := _, type := _, pos := _, after := _, guard := none }) rfl (by kernel_rfl) (by kernel_rfl) (by kernel_rfl) (fun _ _ _ h => h) (Or.inl ⟨by kernel_rfl, ?_⟩) (by assumption) ?_
          case refine_2 => (intro w9 hSw; clear hSw; go_simp; try with_reducible rfl)
          simp only [Act.put, List.setIfInBounds_toArray, List.set_cons_zero, List.set_cons_succ]
          refine wpAnyH_take (i := 1) (v := ?_) (oi := { dst := some 55, op := _, type := _, pos := _, after := _, guard := none }) rfl (by kernel_rfl) (by kernel_rfl) (by kernel_rfl) (fun _ _ _ h => h) (Or.inl ⟨by kernel_rfl, ?_⟩) (by assumption) ?_
          case refine_2 => (intro w9 hSw; clear hSw; go_simp; try with_reducible rfl)
          simp only [Act.put, List.setIfInBounds_toArray, List.set_cons_zero, List.set_cons_succ]
          refine wpAnyH_take (i := 2) (v := ?_) (oi := { dst := some 56, op := _, type := _, pos := _, after := _, guard := none }) rfl (by kernel_rfl) (by kernel_rfl) (by kernel_rfl) (fun _ _ _ h => h) (Or.inl ⟨by kernel_rfl, ?_⟩) (by assumption) ?_
          case refine_2 => (intro w9 hSw; clear hSw; go_simp; try with_reducible rfl)
          simp only [Act.put, List.setIfInBounds_toArray, List.set_cons_zero, List.set_cons_succ]
          refine wpAnyH_take (i := 3) (v := ?_) (oi := { dst := some 57, op := _, type := _, pos := _, after := _, guard := none }) rfl (by kernel_rfl) (by kernel_rfl) (by kernel_rfl) (fun _ _ _ h => h) (Or.inl ⟨by kernel_rfl, ?_⟩) (by assumption) ?_
          case refine_2 => (intro w9 hSw; clear hSw; go_simp; try with_reducible rfl)
          simp only [Act.put, List.setIfInBounds_toArray, List.set_cons_zero, List.set_cons_succ]
          refine wpAnyH_take (i := 4) (v := ?_) (oi := { dst := some 58, op := _, type := _, pos := _, after := _, guard := none }) rfl (by kernel_rfl) (by kernel_rfl) (by kernel_rfl) (fun _ _ _ h => h) (Or.inl ⟨by kernel_rfl, ?_⟩) (by assumption) ?_
          case refine_2 => (intro w9 hSw; clear hSw; go_simp; try with_reducible rfl)
          simp only [Act.put, List.setIfInBounds_toArray, List.set_cons_zero, List.set_cons_succ]
          refine wpAnyH_take (i := 5) (v := ?_) (oi := { dst := some 59, op := _, type := _, pos := _, after := _, guard := none }) rfl (by kernel_rfl) (by kernel_rfl) (by kernel_rfl) (fun _ _ _ h => h) (Or.inl ⟨by kernel_rfl, ?_⟩) (by assumption) ?_
          case refine_2 => (intro w9 hSw; clear hSw; go_simp; try with_reducible rfl)
          simp only [Act.put, List.setIfInBounds_toArray, List.set_cons_zero, List.set_cons_succ]
          refine wpAnyH_take (i := 6) (v := ?_) (oi := { dst := some 60, op := _, type := _, pos := _, after := _, guard := none }) rfl (by kernel_rfl) (by kernel_rfl) (by kernel_rfl) (fun _ _ _ h => h) (Or.inl ⟨by kernel_rfl, ?_⟩) (by assumption) ?_
          case refine_2 => (intro w9 hSw; clear hSw; go_simp; try with_reducible rfl)
          simp only [Act.put, List.setIfInBounds_toArray, List.set_cons_zero, List.set_cons_succ]
          refine wpAnyH_take (i := 7) (v := ?_) (oi := { dst := some 61, op := _, type := _, pos := _, after := _, guard := none }) rfl (by kernel_rfl) (by kernel_rfl) (by kernel_rfl) (fun _ _ _ h => h) (Or.inl ⟨by kernel_rfl, ?_⟩) (by assumption) ?_
          case refine_2 => (intro w9 hSw; obtain ⟨_, _, zl⟩ := hSw; have l0 := zl; have l1 := World.block_lt_of_cell? _ _ l0; clear zl; go_simp; try with_reducible rfl)
          simp only [Act.put, List.setIfInBounds_toArray, List.set_cons_zero, List.set_cons_succ]
          refine wpAnyH_ready (rs := [8]) (by kernel_rfl) (by simp) (AllReadyH.cons (o := { dst := none, op := _, type := _, pos := _, after := _, guard := none }) rfl (fun K hK => ?_) AllReadyH.nil)
          obtain ⟨hB5, hZ5, hT5⟩ := id hHeld
          have P4 : (Below w.heap.size w (w9.setCells w.heap.size 0 [.slice none 0 0, .slice none 0 0, .slice none 0 0]) ∧ Bx (w9.setCells w.heap.size 0 [.slice none 0 0, .slice none 0 0, .slice none 0 0]) w.heap.size zDb ∧ (w9.setCells w.heap.size 0 [.slice none 0 0, .slice none 0 0, .slice none 0 0]).cell? ⟨lr, M * 2, none⟩ = some (.int .i64 nl)) := ⟨below_setCells (Nat.le_refl _) [.slice none 0 0, .slice none 0 0, .slice none 0 0] w9 0 hB5, hZ5.setAll zDb rfl, (setCells_off _ _ _ _ _ (by show lr ≠ _; omega)).trans hT5⟩
          refine (if_pos (by kernel_rfl)).mpr (wp_store_mid 34 _ _ rfl w.heap.size 0 #[.slice none 0 0, .slice none 0 0, .slice none 0 0] rfl rfl hZ5.there (by kernel_rfl) zDb_one ?_)
          refine hK.out _ (w9.setCells w.heap.size 0 [.slice none 0 0, .slice none 0 0, .slice none 0 0]) P4 (fun _ => ?_)
          clear hK K
          refine gen_any (w1 := (w9.setCells w.heap.size 0 [.slice none 0 0, .slice none 0 0, .slice none 0 0])) (fun V' => (Below w.heap.size w V' ∧ Bx V' w.heap.size zDb ∧ V'.cell? ⟨lr, M * 2, none⟩ = some (.int .i64 nl))) P4 ?_
          clear hHeld hB5 hZ5 hT5 P4
          rintro w10 hHeld
          refine wpAnyH_take (i := 9) (v := ?_) (oi := { dst := some 3, op := _, type := _, pos := _, after := _, guard := none }) rfl (by kernel_rfl) (by kernel_rfl) (by kernel_rfl) (fun _ _ _ h => h) (Or.inl ⟨by kernel_rfl, ?_⟩) (by assumption) ?_
          case refine_2 => (intro w9 hSw; clear hSw; go_simp; try with_reducible rfl)
          simp only [Act.put, List.setIfInBounds_toArray, List.set_cons_zero, List.set_cons_succ]
          refine wpAnyH_take (i := 10) (v := ?_) (oi := { dst := some 4, op := _, type := _, pos := _, after := _, guard := none }) rfl (by kernel_rfl) (by kernel_rfl) (by kernel_rfl) (fun _ _ _ h => h) (Or.inl ⟨by kernel_rfl, ?_⟩) (by assumption) ?_
          case refine_2 => (intro w9 hSw; clear hSw; go_simp; try with_reducible rfl)
          simp only [Act.put, List.setIfInBounds_toArray, List.set_cons_zero, List.set_cons_succ]
          refine wpAnyH_done (by kernel_rfl) ?_ _
          have y0 := hHeld.2.1.c 0 rfl
          have y1 := hHeld.2.1.c 1 rfl
          have y2 := hHeld.2.1.c 2 rfl
          have HB : Hid (Below w.heap.size w w10) := hHeld.1
          clear hHeld
          go_wp2_with fail
          refine bodyPost_ret (v := .tuple #[.agg #[.slice none 0 0, .slice none 0 0, .slice none 0 0], .int .i64 nl, .int .i64 21]) (by simp [results, Tryz.results7, go_sem, y0, y1, y2]) rfl ⟨HB.out, ?_⟩
          show ParseIsN w _ _ X
          rw [← HXe.out]
          exact rfl
        · have HE3 : Hid ((if 0 < lostF S then .inl (lostF S, 23) else .inr S) = X) := by have := HE2.out; rw [if_neg hop] at this; exact this
          rw [show S.op = false by simpa using hop] at c5
          clear HE2 hop HO HLl HG HPOS hO1 hl3
          go_upto_region 13 with fail
          clear c5 c9
          obtain ⟨r1, r3, hvr, hr1, hr2, hr3⟩ := own_rowP KP.out.getR
          obtain ⟨k1, k2, k3, hvl9⟩ := own_sliceP KP.out.getL
          obtain ⟨az, cz, hvz, hz1, hz2, hz3⟩ := own_rowP KP.out.getZ
          obtain ⟨aa, ca, hva, ha1, ha2, ha3⟩ := own_rowP KP.out.getE
          subst hvr hvl9 hvz hva
          unfold maxLen at hr2 hz2 ha2
          have hrn : S.rules.length ≤ 1000 := by have := KO4.out.rules; omega
          have hzn : S.zones.length ≤ 1000 := by have := KO4.out.zones; omega
          have hen : S.eras.length ≤ 1000 := by have := KO4.out.eras; omega
          obtain ⟨Wb, hWb⟩ : ∃ Wb, Wb = wr := ⟨_, rfl⟩
          rw [← hWb] at KP
          rw [← hWb]
          clear hWb
          have S0 : Hid (SW Wb [] (.slice none 0 0) Wb) := SW.start Wb
          obtain ⟨i0, hi0, iz0, iz1, iz2⟩ := info_partsP infoSq
          go_wp2_with fail
          go_loopw [10, 11] (fun v10 v11 W => ∃ (i : Nat) (va : Value), v10 = va ∧ v11 = .int .i64 (i : Int) ∧ i ≤ S.rules.length ∧ Hid (SW Wb ((S.rules.take i).map (·.nm)) va W)) (fun _ iv _ => S.rules.length - (intOf iv).toNat)
          case atStart => exact ⟨0, _, rfl, rfl, Nat.zero_le _, S0⟩
          case round =>
            clear S0
            obtain ⟨i, va, rfl, rfl, hi, KS⟩ := hrel
            have hi0' : (0 : Int) ≤ (i : Int) := by omega
            have KW : Hid (PN U U.heap.size (U.heap.size + 1) S (.slice r1 S.rules.length r3) (.slice k1 k2 k3) (.slice aa S.eras.length ca) (.slice az S.zones.length cz) vs wr) := KP.out.below KS.out.low
            have b0 := KW.out.box.c 0 rfl
            have b9 := KW.out.lt
            by_cases hin : i < S.rules.length
            · have hiI : (i : Int) < (S.rules.length : Int) := by omega
              have hiw : IntKind.i64.wrap ((i : Int) + 1) = (i : Int) + 1 := by rw [IntKind.wrap_i64]; omega
              obtain ⟨r, hr⟩ : ∃ r, S.rules[i]? = some r := ⟨_, List.getElem?_eq_getElem hin⟩
              obtain ⟨rb, hrb, -⟩ := hr3 (by omega)
              subst hrb
              have e0 := (KW.out.getR.cellAt (i * 11) (by omega)).trans (ruleXs_at _ i 0 r _ hr rfl)
              have e9 := World.block_lt_of_cell? _ _ e0
              have HT : Hid ((S.rules.take (i + 1)).map (·.nm) = (S.rules.take i).map (·.nm) ++ [r.nm]) := by show _ = _; rw [take_snoc hr, List.map_append]; rfl
              obtain ⟨D, hD⟩ : ∃ D, (S.rules.take i).map (·.nm) = D := ⟨_, rfl⟩
              have hDl : D.length = i := by rw [← hD]; simp; omega
              rw [hD] at KS HT
              obtain ⟨rn, hrn'⟩ : ∃ rn, r.nm = rn := ⟨_, rfl⟩
              rw [hrn'] at e0 HT
              clear hD hr hrn' KW
              have KX : Hid (SW Wb D _ (wr.alloc (.cells #[.string rn] 9))) := KS.out.below ((Below.refl _ wr).alloc (Nat.le_refl _) _)
              have HX : Hid (Bx (wr.alloc (.cells #[.string rn] 9)) wr.heap.size [.string rn]) := Bx.new wr [.string rn] _
              obtain ⟨d1, d2, d3, hdv⟩ := own_sliceP KX.out.own
              subst hdv
              go_wp2_with (at_builtin; refine Hid.out ?_)
              unfold Hid
              refine wpl_append_newP rfl _ _ 52 rfl Wb.heap.size 9 i0 (.string ByteArray.empty) 1 16 Tryz.underlying52 hi0 iz0 iz1 iz2 rfl (by decide) _ D.length (stQ D) rfl KX.out.own ⟨wr.heap.size, 0, none⟩ 1 [.string rn] rfl rfl (fun j u hj => by rw [show (⟨wr.heap.size, 0, none⟩ : Addr).add j = ⟨wr.heap.size, j, none⟩ from by rw [Addr.add_lit]; simp]; exact (HX.out.2 j u hj).1) (by intro u hu; simp at hu; subst hu; rfl) (by unfold maxLen; omega) (by omega) KX.out.low.size ?_
              intro v' w4 hown' hgrow hnew
              have KN : Hid (SW Wb (D ++ [rn]) v' w4) := KX.out.more hgrow hown'
              clear hown' hgrow hnew KX HX KS e0 e9 b0 b9
              obtain ⟨s1, s2, s3, hv'⟩ := own_sliceP KN.out.own
              subst hv'
              go_wp2_with fail
              exact ⟨⟨i + 1, _, rfl, rfl, hin, by rw [HT.out]; exact KN⟩, by simp only [intOf]; omega⟩
            · have hiI : ¬ (i : Int) < (S.rules.length : Int) := by omega
              have hiL : i = S.rules.length := by omega
              rw [hiL, List.take_length] at KS
              obtain ⟨D, hD⟩ : ∃ D, S.rules.map (·.nm) = D := ⟨_, rfl⟩
              rw [hD] at KS
              have HDM : Hid (S.rules.map (·.nm) = D) := hD
              obtain ⟨dq, dc, hdv, hd1, hd2, hd3⟩ := own_rowP KS.out.own
              subst hdv
              clear hD hi hi0' hiL
              go_upto_region 18 with fail
              clear b0 b9 hiI
              obtain ⟨Wn, hWn⟩ : ∃ Wn, Wn = wr := ⟨_, rfl⟩
              rw [← hWn] at KS KW
              rw [← hWn]
              clear hWn
              have AM : Hid (∀ (W : World) (rn : ByteArray), Below Wn.heap.size Wn W → Calls Tryz.prog 22 #[.string rn, .slice dq D.length dc] W fun e w' => e = .returned (.bool (amB rn D)) ∧ Below W.heap.size W w') := fun W rn hb => by
                refine qamong_any rn D dq dc W hd1 hd2 (fun hne => ?_)
                have hpos : 0 < D.length := List.length_pos_iff.2 hne
                obtain ⟨b, hb2, -⟩ := hd3 hpos
                subst hb2
                refine ⟨b, rfl, fun k x hx => ?_⟩
                exact ((KS.out.below hb).get rfl hx).1
              have HLO : Hid (lostL S.cnt (S.eras.drop 0) = lostF S) := by show _ = _; rw [List.drop_zero, lost_eq]
              have KB : Hid (Below Wn.heap.size Wn Wn) := Below.refl _ _
              clear KS hd3 KP
              go_wp2_with fail
              go_loopw [12, 13] (fun kv iv W => ∃ (i : Nat), kv = .int .i64 ((flatE (S.zones.take i)).length : Int) ∧ iv = .int .i64 (i : Int) ∧ i ≤ S.zones.length ∧ Hid (lostL S.cnt (S.eras.drop (flatE (S.zones.take i)).length) = lostF S) ∧ Hid (Below Wn.heap.size Wn W)) (fun _ iv _ => S.zones.length - (intOf iv).toNat)
              case atStart => exact ⟨0, rfl, rfl, Nat.zero_le _, HLO, KB⟩
              case round =>
                clear HLO KB
                obtain ⟨i, rfl, rfl, hi, HLO, KB⟩ := hrel
                have hi0' : (0 : Int) ≤ (i : Int) := by omega
                have hbx := (KW.out.below KB.out).box
                have b1 := hbx.c 1 rfl
                have b9 := hbx.1
                clear hbx
                by_cases hin : i < S.zones.length
                · have hiI : (i : Int) < (S.zones.length : Int) := by omega
                  have hiw : IntKind.i64.wrap ((i : Int) + 1) = (i : Int) + 1 := by rw [IntKind.wrap_i64]; omega
                  obtain ⟨z, hz⟩ : ∃ z, S.zones[i]? = some z := ⟨_, List.getElem?_eq_getElem hin⟩
                  obtain ⟨zb, hzb, -⟩ := hz3 (by omega)
                  subst hzb
                  obtain ⟨v, y0, y1, y2⟩ := zoneXs_at _ _ i z KW.out.len hz
                  obtain ⟨ea, ec, hve, he1, he2, he3⟩ := own_rowP (KW.out.eraAt hz y2).1
                  subst hve
                  unfold maxLen at he2
                  have HKN := flatE_take hz
                  have hzm : z ∈ S.zones := List.mem_of_getElem? hz
                  have hz12 := KC.out.e12 z hzm
                  obtain ⟨kn, hkn⟩ : ∃ kn, (flatE (S.zones.take i)).length = kn := ⟨_, rfl⟩
                  have HK0 : Hid (∀ (j : Nat) (e : EraT), z.2[j]? = some e → ∃ ln : Int, S.eras[kn + j]? = some (ln, e.rl) ∧ 0 < ln) := fun j e he => by
                    have h1 := flatE_at S.zones i j z e hz he
                    rw [hkn] at h1
                    have h2 : (S.eras.map (·.2))[kn + j]? = some e.rl := by rw [KR.out.er, List.getElem?_map, h1]; rfl
                    rw [List.getElem?_map] at h2
                    cases h3 : S.eras[kn + j]? with
                    | none => rw [h3] at h2; cases h2
                    | some x =>
                      rw [h3] at h2
                      have h4 : x.2 = e.rl := by simpa using h2
                      exact ⟨x.1, by rw [← h4], KR.out.pos x (List.mem_of_getElem? h3)⟩
                  rw [hkn] at HLO HKN ⊢
                  have HKN2 : Hid ((flatE (S.zones.take (i + 1))).length = kn + z.2.length) := HKN
                  clear HKN hkn hzm
                  have HLO2 : Hid (lostL S.cnt (S.eras.drop (kn + 0)) = lostF S) := HLO
                  clear HLO
                  go_wp2_with fail
                  go_loopw [12, 14] (fun kv jv W => ∃ (j : Nat), kv = .int .i64 ((kn + j : Nat) : Int) ∧ jv = .int .i64 (j : Int) ∧ j ≤ z.2.length ∧ Hid (lostL S.cnt (S.eras.drop (kn + j)) = lostF S) ∧ Hid (Below Wn.heap.size Wn W)) (fun _ jv _ => z.2.length - (intOf jv).toNat)
                  case atStart => exact ⟨0, rfl, rfl, Nat.zero_le _, HLO2, KB⟩
                  case round =>
                    clear HLO2 KB b1 b9
                    obtain ⟨j, rfl, rfl, hj', HLO, KB⟩ := hrel
                    have hj0' : (0 : Int) ≤ (j : Int) := by omega
                    have KV : Hid (PN U U.heap.size (U.heap.size + 1) S (.slice r1 S.rules.length r3) (.slice k1 k2 k3) (.slice aa S.eras.length ca) (.slice (some ⟨zb, 0, none⟩) S.zones.length cz) vs wr) := KW.out.below KB.out
                    have b1 := KV.out.box.c 1 rfl
                    have b9 := KV.out.lt
                    have f1 := KV.out.fam.cell 3 rfl rfl y1
                    have f9 := World.block_lt_of_cell? _ _ f1
                    by_cases hjn' : j < z.2.length
                    · have hjI' : (j : Int) < (z.2.length : Int) := by omega
                      have hjw' : IntKind.i64.wrap ((j : Int) + 1) = (j : Int) + 1 := by rw [IntKind.wrap_i64]; omega
                      obtain ⟨e, he⟩ : ∃ e, z.2[j]? = some e := ⟨_, List.getElem?_eq_getElem hjn'⟩
                      obtain ⟨eb, heb, -⟩ := he3 (by omega)
                      subst heb
                      have e0 := ((KV.out.eraAt hz y2).1.cellAt (j * 11 + 1) (by omega)).trans (eraXs_at _ j 1 e _ he rfl)
                      have e9 := World.block_lt_of_cell? _ _ e0
                      obtain ⟨ln, hln, hlpos⟩ := HK0.out j e he
                      have HA := lost_at KR.out hln
                      rw [HDM.out] at HA
                      obtain ⟨rl, hrl⟩ : ∃ rl, e.rl = rl := ⟨_, rfl⟩
                      rw [hrl] at e0 HA
                      simp only at HA
                      obtain ⟨kk, hkk⟩ : ∃ kk, kn + j = kk := ⟨_, rfl⟩
                      rw [hkk] at hln HLO HA ⊢
                      have hk1 : kn + (j + 1) = kk + 1 := by omega
                      have hkn' : kk < S.eras.length := (List.getElem?_eq_some_iff.1 hln).1
                      have hkI : (kk : Int) < (S.eras.length : Int) := by omega
                      have hk0 : (0 : Int) ≤ (kk : Int) := by omega
                      have hkw : IntKind.i64.wrap ((kk : Int) + 1) = (kk : Int) + 1 := by rw [IntKind.wrap_i64]; omega
                      have hkc : ((kk + 1 : Nat) : Int) = (kk : Int) + 1 := by omega
                      have HAH : Hid (lostL S.cnt (S.eras.drop kk) = _) := HA
                      clear HA hrl he hkk
                      cases hq : (rl.toList == []) with
                      | true =>
                        have hs2 : (rl.toList != []) = false := by rw [bne, hq]; rfl
                        have HL2 : Hid (lostL S.cnt (S.eras.drop (kk + 1)) = lostF S) := by have := HLO.out; rw [HAH.out, hq, if_pos rfl] at this; exact this
                        clear HLO HAH hln
                        go_wp2_with fail
                        exact ⟨⟨j + 1, by rw [hk1, hkc], rfl, by omega, by rw [hk1]; exact HL2, KB⟩, by simp only [intOf]; omega⟩
                      | false =>
                        have hs2 : (rl.toList != []) = true := by rw [bne, hq]; rfl
                        have hs3 : rl.toList.isEmpty = false := by cases hz9 : rl.toList with | nil => rw [hz9] at hq; cases hq | cons a b => rfl
                        go_wp2_with fail
                        refine (AM.out _ rl KB.out).mono ?_
                        rintro e W9 ⟨rfl, hb⟩
                        have KB2 : Hid (Below Wn.heap.size Wn W9) := KB.out.trans (hb.mono KB.out.size)
                        clear hb KB KV b1 b9 f1 f9 e0 e9
                        cases ham : amB rl D with
                        | true =>
                          have HL2 : Hid (lostL S.cnt (S.eras.drop (kk + 1)) = lostF S) := by have := HLO.out; rw [HAH.out, hq, if_neg Bool.false_ne_true, ham, if_pos rfl] at this; exact this
                          clear HLO HAH hln
                          go_wp2_with fail
                          exact ⟨⟨j + 1, by rw [hk1, hkc], rfl, by omega, by rw [hk1]; exact HL2, KB2⟩, by simp only [intOf]; omega⟩
                        | false =>
                          have HLN : Hid (ln = lostF S) := by have := HLO.out; rw [HAH.out, hq, if_neg Bool.false_ne_true, ham, if_neg Bool.false_ne_true] at this; exact this
                          have HXe : Hid (.inl (ln, 23) = X) := by have := HE3.out; rw [← HLN.out, if_pos hlpos] at this; exact this
                          obtain ⟨ab, hab, habB⟩ := ha3 (by omega)
                          subst hab
                          have K9 := KW.out.below KB2.out
                          have g3 := K9.box.c 3 rfl
                          have g0 := (K9.getE.cellAt kk (by omega)).trans (atXs_at _ kk _ hln)
                          have hwab : w.heap.size < ab := by omega
                          have KE : Hid (Below w.heap.size w W9 ∧ Bx W9 w.heap.size zDb ∧ W9.cell? ⟨ab, kk, none⟩ = some (.int .i64 ln) ∧ W9.cell? ⟨U.heap.size, 3, none⟩ = some (.slice (some ⟨ab, 0, none⟩) S.eras.length ca)) := ⟨BU.out.trans (K9.low.mono BU.out.size), XU.out.below K9.low, g0, g3⟩
                          clear K9 g3 g0 HLO HAH hln HLN KB2 KW
                          go_upto_region 27 with fail
                          go_wp2_with fail
                          refine wp_region_held_drew (S := fun V' => (Below w.heap.size w V' ∧ Bx V' w.heap.size zDb ∧ V'.cell? ⟨ab, kk, none⟩ = some (.int .i64 ln) ∧ V'.cell? ⟨U.heap.size, 3, none⟩ = some (.slice (some ⟨ab, 0, none⟩) S.eras.length ca))) (by kernel_rfl) ⟨KE.out.1.drew, KE.out.2⟩ (fun hHeld => ?_)
                          refine gen_any (fun V' => (Below w.heap.size w V' ∧ Bx V' w.heap.size zDb ∧ V'.cell? ⟨ab, kk, none⟩ = some (.int .i64 ln) ∧ V'.cell? ⟨U.heap.size, 3, none⟩ = some (.slice (some ⟨ab, 0, none⟩) S.eras.length ca))) hHeld ?_
                          clear hHeld KE
                          rintro w9 hHeld
                          refine wpAnyH_take (i := 0) (v := ?_) (oi := { dst := some 129, op := _, type := _, pos := _, after := _, guard := none }) rfl (by kernel_rfl) (by kernel_rfl) (by kernel_rfl) (fun _ _ _ h => h) (Or.inl ⟨by kernel_rfl, ?_⟩) (by assumption) ?_
                          case refine_2 => (intro w9 hSw; clear hSw; go_simp; try with_reducible rfl)
                          simp only [Act.put, List.setIfInBounds_toArray, List.set_cons_zero, List.set_cons_succ]
                          refine wpAnyH_take (i := 1) (v := ?_) (oi := { dst := some 130, op := _, type := _, pos := _, after := _, guard := none }) rfl (by kernel_rfl) (by kernel_rfl) (by kernel_rfl) (fun _ _ _ h => h) (Or.inl ⟨by kernel_rfl, ?_⟩) (by assumption) ?_
                          case refine_2 => (intro w9 hSw; clear hSw; go_simp; try with_reducible rfl)
                          simp only [Act.put, List.setIfInBounds_toArray, List.set_cons_zero, List.set_cons_succ]
                          refine wpAnyH_take (i := 2) (v := ?_) (oi := { dst := some 131, op := _, type := _, pos := _, after := _, guard := none }) rfl (by kernel_rfl) (by kernel_rfl) (by kernel_rfl) (fun _ _ _ h => h) (Or.inl ⟨by kernel_rfl, ?_⟩) (by assumption) ?_
                          case refine_2 => (intro w9 hSw; clear hSw; go_simp; try with_reducible rfl)
                          simp only [Act.put, List.setIfInBounds_toArray, List.set_cons_zero, List.set_cons_succ]
                          refine wpAnyH_take (i := 3) (v := ?_) (oi := { dst := some 132, op := _, type := _, pos := _, after := _, guard := none }) rfl (by kernel_rfl) (by kernel_rfl) (by kernel_rfl) (fun _ _ _ h => h) (Or.inl ⟨by kernel_rfl, ?_⟩) (by assumption) ?_
                          case refine_2 => (intro w9 hSw; clear hSw; go_simp; try with_reducible rfl)
                          simp only [Act.put, List.setIfInBounds_toArray, List.set_cons_zero, List.set_cons_succ]
                          refine wpAnyH_take (i := 4) (v := ?_) (oi := { dst := some 133, op := _, type := _, pos := _, after := _, guard := none }) rfl (by kernel_rfl) (by kernel_rfl) (by kernel_rfl) (fun _ _ _ h => h) (Or.inl ⟨by kernel_rfl, ?_⟩) (by assumption) ?_
                          case refine_2 => (intro w9 hSw; obtain ⟨_, _, zl, zm⟩ := hSw; have l0 := zl; have l1 := World.block_lt_of_cell? _ _ l0; have l2 := zm; have l3 := World.block_lt_of_cell? _ _ l2; clear zl zm; go_simp; try with_reducible rfl)
                          simp only [Act.put, List.setIfInBounds_toArray, List.set_cons_zero, List.set_cons_succ]
                          refine wpAnyH_take (i := 5) (v := ?_) (oi := { dst := some 134, op := _, type := _, pos := _, after := _, guard := none }) rfl (by kernel_rfl) (by kernel_rfl) (by kernel_rfl) (fun _ _ _ h => h) (Or.inl ⟨by kernel_rfl, ?_⟩) (by assumption) ?_
                          case refine_2 => (intro w9 hSw; clear hSw; go_simp; try with_reducible rfl)
                          simp only [Act.put, List.setIfInBounds_toArray, List.set_cons_zero, List.set_cons_succ]
                          refine wpAnyH_take (i := 6) (v := ?_) (oi := { dst := some 135, op := _, type := _, pos := _, after := _, guard := none }) rfl (by kernel_rfl) (by kernel_rfl) (by kernel_rfl) (fun _ _ _ h => h) (Or.inl ⟨by kernel_rfl, ?_⟩) (by assumption) ?_
                          case refine_2 => (intro w9 hSw; clear hSw; go_simp; try with_reducible rfl)
                          simp only [Act.put, List.setIfInBounds_toArray, List.set_cons_zero, List.set_cons_succ]
                          refine wpAnyH_take (i := 7) (v := ?_) (oi := { dst := some 136, op := _, type := _, pos := _, after := _, guard := none }) rfl (by kernel_rfl) (by kernel_rfl) (by kernel_rfl) (fun _ _ _ h => h) (Or.inl ⟨by kernel_rfl, ?_⟩) (by assumption) ?_
                          case refine_2 => (intro w9 hSw; obtain ⟨_, _, zl, zm⟩ := hSw; have l0 := zl; have l1 := World.block_lt_of_cell? _ _ l0; have l2 := zm; have l3 := World.block_lt_of_cell? _ _ l2; clear zl zm; go_simp; try with_reducible rfl)
                          simp only [Act.put, List.setIfInBounds_toArray, List.set_cons_zero, List.set_cons_succ]
                          refine wpAnyH_ready (rs := [8]) (by kernel_rfl) (by simp) (AllReadyH.cons (o := { dst := none, op := _, type := _, pos := _, after := _, guard := none }) rfl (fun K hK => ?_) AllReadyH.nil)
                          obtain ⟨hB5, hZ5, hT5⟩ := id hHeld
                          have P4 : (Below w.heap.size w (w9.setCells w.heap.size 0 [.slice none 0 0, .slice none 0 0, .slice none 0 0]) ∧ Bx (w9.setCells w.heap.size 0 [.slice none 0 0, .slice none 0 0, .slice none 0 0]) w.heap.size zDb ∧ (w9.setCells w.heap.size 0 [.slice none 0 0, .slice none 0 0, .slice none 0 0]).cell? ⟨ab, kk, none⟩ = some (.int .i64 ln) ∧ (w9.setCells w.heap.size 0 [.slice none 0 0, .slice none 0 0, .slice none 0 0]).cell? ⟨U.heap.size, 3, none⟩ = some (.slice (some ⟨ab, 0, none⟩) S.eras.length ca)) := ⟨below_setCells (Nat.le_refl _) [.slice none 0 0, .slice none 0 0, .slice none 0 0] w9 0 hB5, hZ5.setAll zDb rfl, (setCells_off _ _ _ _ _ (by show ab ≠ _; omega)).trans hT5.1, (setCells_off _ _ _ _ _ (by show U.heap.size ≠ _; omega)).trans hT5.2⟩
                          refine (if_pos (by kernel_rfl)).mpr (wp_store_mid 34 _ _ rfl w.heap.size 0 #[.slice none 0 0, .slice none 0 0, .slice none 0 0] rfl rfl hZ5.there (by kernel_rfl) zDb_one ?_)
                          refine hK.out _ (w9.setCells w.heap.size 0 [.slice none 0 0, .slice none 0 0, .slice none 0 0]) P4 (fun _ => ?_)
                          clear hK K
                          refine gen_any (w1 := (w9.setCells w.heap.size 0 [.slice none 0 0, .slice none 0 0, .slice none 0 0])) (fun V' => (Below w.heap.size w V' ∧ Bx V' w.heap.size zDb ∧ V'.cell? ⟨ab, kk, none⟩ = some (.int .i64 ln) ∧ V'.cell? ⟨U.heap.size, 3, none⟩ = some (.slice (some ⟨ab, 0, none⟩) S.eras.length ca))) P4 ?_
                          clear hHeld hB5 hZ5 hT5 P4
                          rintro w10 hHeld
                          refine wpAnyH_take (i := 9) (v := ?_) (oi := { dst := some 3, op := _, type := _, pos := _, after := _, guard := none }) rfl (by kernel_rfl) (by kernel_rfl) (by kernel_rfl) (fun _ _ _ h => h) (Or.inl ⟨by kernel_rfl, ?_⟩) (by assumption) ?_
                          case refine_2 => (intro w9 hSw; clear hSw; go_simp; try with_reducible rfl)
                          simp only [Act.put, List.setIfInBounds_toArray, List.set_cons_zero, List.set_cons_succ]
                          refine wpAnyH_take (i := 10) (v := ?_) (oi := { dst := some 4, op := _, type := _, pos := _, after := _, guard := none }) rfl (by kernel_rfl) (by kernel_rfl) (by kernel_rfl) (fun _ _ _ h => h) (Or.inl ⟨by kernel_rfl, ?_⟩) (by assumption) ?_
                          case refine_2 => (intro w9 hSw; clear hSw; go_simp; try with_reducible rfl)
                          simp only [Act.put, List.setIfInBounds_toArray, List.set_cons_zero, List.set_cons_succ]
                          refine wpAnyH_done (by kernel_rfl) ?_ _
                          have y0 := hHeld.2.1.c 0 rfl
                          have y1 := hHeld.2.1.c 1 rfl
                          have y2 := hHeld.2.1.c 2 rfl
                          have HB : Hid (Below w.heap.size w w10) := hHeld.1
                          clear hHeld
                          go_wp2_with fail
                          refine bodyPost_ret (v := .tuple #[.agg #[.slice none 0 0, .slice none 0 0, .slice none 0 0], .int .i64 ln, .int .i64 23]) (by simp [results, Tryz.results7, go_sem, y0, y1, y2]) rfl ⟨HB.out, ?_⟩
                          show ParseIsN w _ _ X
                          rw [← HXe.out]
                          exact rfl
                    · have hjI' : ¬ (j : Int) < (z.2.length : Int) := by omega
                      have hjL' : j = z.2.length := by omega
                      rw [hjL', ← HKN2.out] at HLO
                      have hkv : ((kn + j : Nat) : Int) = ((flatE (S.zones.take (i + 1))).length : Int) := by rw [HKN2.out, hjL']
                      go_wp2_with fail
                      exact ⟨⟨i + 1, by rw [hkv], rfl, by omega, HLO, KB⟩, by simp only [intOf]; omega⟩
                · have hiI : ¬ (i : Int) < (S.zones.length : Int) := by omega
                  have hiL : i = S.zones.length := by omega
                  rw [hiL, List.take_length] at HLO
                  have hfe : (flatE S.zones).length = S.eras.length := by have := congrArg List.length KR.out.er; simpa using this.symm
                  rw [hfe, List.drop_length] at HLO
                  have hl0 : ¬ 0 < lostF S := by rw [← HLO.out]; show ¬ (0 : Int) < 0; omega
                  have HXe : Hid (.inr S = X) := by have := HE3.out; rw [if_neg hl0] at this; exact this
                  clear HLO HE3 hl0 hfe
                  have K2 : Hid (PN U U.heap.size (U.heap.size + 1) S (.slice r1 S.rules.length r3) (.slice k1 k2 k3) (.slice aa S.eras.length ca) (.slice az S.zones.length cz) vs wr) := KW.out.below KB.out
                  have XW : Hid (Bx wr w.heap.size zDb) := XU.out.below K2.out.low
                  have BW : Hid (Below w.heap.size w wr) := BU.out.trans (K2.out.low.mono BU.out.size)
                  have g0 := K2.out.box.c 0 rfl
                  have g2 := K2.out.box.c 2 rfl
                  go_wp2_with (refine wpList_store_mid rfl 34 _ _ rfl w.heap.size 0 #[.slice r1 S.rules.length r3, .slice az S.zones.length cz, .slice k1 k2 k3] rfl rfl XW.out.there (by kernel_rfl) (all_oneCell_toArray (cs := [.slice r1 S.rules.length r3, .slice az S.zones.length cz, .slice k1 k2 k3]) (by simp only [List.forall_mem_cons]; exact ⟨rfl, rfl, rfl, fun _ h => nomatch h⟩)) ?_; refine gen_list (fun V => Bx V w.heap.size [.slice r1 S.rules.length r3, .slice az S.zones.length cz, .slice k1 k2 k3] ∧ Below w.heap.size w V ∧ Fam (U.heap.size + 1) V (rowsQ S.rules S.zones S.links (.slice r1 S.rules.length r3) (.slice k1 k2 k3) (.slice az S.zones.length cz) vs)) ⟨XW.out.setAll _ rfl, below_setCells (Nat.le_refl _) _ _ 0 BW.out, K2.out.fam.tail.keep fun c h1 _ _ => setCells_heap w.heap.size _ _ 0 c (by omega)⟩ ?_; rintro w4 ⟨X4, B4, F4⟩)
                  have y0 := X4.c 0 rfl
                  have y1 := X4.c 1 rfl
                  have y2 := X4.c 2 rfl
                  have HB : Hid (Below w.heap.size w w4 ∧ Fam (U.heap.size + 1) w4 (rowsQ S.rules S.zones S.links (.slice r1 S.rules.length r3) (.slice k1 k2 k3) (.slice az S.zones.length cz) vs)) := ⟨B4, F4⟩
                  have hlen := K2.out.len
                  clear X4 B4 F4
                  refine bodyPost_ret (v := .tuple #[.agg #[.slice r1 S.rules.length r3, .slice az S.zones.length cz, .slice k1 k2 k3], .int .i64 0, .int .i64 0]) (by simp [results, Tryz.results7, go_sem, y0, y1, y2]) rfl ⟨HB.out.1, ?_⟩
                  show ParseIsN w _ _ X
                  rw [← HXe.out]
                  exact ⟨_, _, _, _, _, rfl, by omega, HB.out.2, hlen, KO4.out.mono hL400⟩

end Go.Proofs.YtgnfkkcagbbhmaaGreatDoor
