/- Contract: src.Parse of any source. -/
import Derived.Test.YtgnfkkcagbbhmaaGreatDoorPmOq
import Derived.Carry
namespace Go.Proofs.YtgnfkkcagbbhmaaGreatDoor
open Go.RowKit Lin
open Sr (gen_any gen_list)
set_option linter.unusedVariables false

/-- what Parse answers, in memory. -/
def ParseIs (w : World) (e : Ending) (w' : World) : Sum (Int × Int) PSt → Prop
  | .inl a => e = .returned (.tuple #[.agg #[.slice none 0 0, .slice none 0 0, .slice none 0 0], .int .i64 a.1, .int .i64 a.2])
  | .inr S => ∃ (vr vl ve vz : Value) (vs : List Value) (B : Nat), e = .returned (.tuple #[.agg #[vr, vz, vl], .int .i64 0, .int .i64 0]) ∧ w.heap.size ≤ B ∧ Fam B w' (rowsP S vr vl ve vz vs) ∧ vs.length = S.zones.length ∧ OkS S 400
def zDb : List Value := [.slice none 0 0, .slice none 0 0, .slice none 0 0]
theorem zDb_one : (#[.slice none 0 0, .slice none 0 0, .slice none 0 0] : Array Value).all (·.oneCell') = true := all_oneCell_toArray (cs := zDb) (by unfold zDb; simp only [List.forall_mem_cons]; exact ⟨rfl, rfl, rfl, fun _ h => nomatch h⟩)
theorem lnsF_err : ∀ (ts : List (List UInt8)) (n : Nat) (acc : List Lne) (a : Int × Int), lnsF ts n acc = .inl a → a.2 ≠ 0
  | [], n, acc, a, e => by simp [lnsF] at e
  | t :: ts, n, acc, a, e => by
    cases ho : oneL t with
    | none => rw [lnsF_none ho] at e; cases e; show (21 : Int) ≠ 0; omega
    | some F =>
      rw [lnsF_some ho] at e
      by_cases h1 : F.length = 0
      · rw [if_pos h1] at e; exact lnsF_err ts _ _ _ e
      · rw [if_neg h1] at e
        by_cases h2 : 16 < F.length ∨ acc.length = 400
        · rw [if_pos h2] at e; cases e; show (3 : Int) ≠ 0; omega
        · rw [if_neg h2] at e; exact lnsF_err ts _ _ _ e
theorem lnsS_err {s : ByteArray} {a : Int × Int} (h : lnsS s = .inl a) : a.2 ≠ 0 := by
  unfold lnsS at h
  split at h
  · cases h; show (3 : Int) ≠ 0; omega
  · exact lnsF_err _ _ _ _ h
theorem tkF_err {S : PSt} {n : Int} {F : List ByteArray} {e : Int} (h : tkF S n F = .inl e) : e ≠ 0 := by
  have k1 : (21 : Int) ≠ 0 := by omega
  have k2 : (3 : Int) ≠ 0 := by omega
  have k3 : (23 : Int) ≠ 0 := by omega
  unfold tkF tkOn tkRule tkZone tkLink at h
  repeat' split at h
  all_goals first | (cases h; assumption) | cases h
theorem PM.first (U : World) : PM U (U.heap.size + 1) U.heap.size (U.heap.size + 2) pst0 (.slice none 0 0) (.slice none 0 0) (.slice none 0 0) (.slice none 0 0) [] ((U.alloc (.map #[] 0)).alloc (.cells #[.slice none 0 0, .slice none 0 0, .slice none 0 0, .map (some U.heap.size), .slice none 0 0, .bool false] 51)) := by
  refine ⟨((Below.refl _ _).alloc (Nat.le_refl _) _).alloc (by simp) _, ?_, ?_, ?_, rfl, by omega, Nat.le_refl _, by omega, by omega, by omega, by simp⟩
  · have := Bx.new (U.alloc (.map #[] 0)) (boxP U.heap.size (.slice none 0 0) (.slice none 0 0) (.slice none 0 0) (.slice none 0 0) false) 51
    have e : (U.alloc (.map #[] 0)).heap.size = U.heap.size + 1 := by simp
    rw [e] at this
    exact this
  · exact (MapS.made U).same (Below.heap_alloc _ _ _ (by simp))
  · exact (((((Fam.zero _ _).push 85 11).push 95 2).push 118 2).push 90 2)
theorem OkS.mono {S : PSt} {N M : Nat} (h : OkS S N) (hm : N ≤ M) : OkS S M := ⟨Nat.le_trans h.rules hm, Nat.le_trans h.zones hm, Nat.le_trans h.links hm, Nat.le_trans h.eras hm, h.cnt, h.zn, fun z hz => Nat.le_trans (h.ze z hz) hm, h.ln, h.op⟩
theorem setCells_heap (b : Nat) : ∀ (vs : List Value) (W : World) (i c : Nat), c ≠ b → (W.setCells b i vs).heap[c]? = W.heap[c]?
  | [], _, _, _, _ => rfl
  | v :: vs, W, i, c, h => (setCells_heap b vs _ _ c h).trans (heap_setCell_other W ⟨b, i, none⟩ c v h)
theorem flatL_at2 : ∀ (l : List LnV) (k : Nat) (r : LnV), l[k]? = some r → (flatL l)[k * 2]? = some (.int .i64 r.1) ∧ (flatL l)[k * 2 + 1]? = some r.2.1
  | [], k, r, h => by simp at h
  | x :: l, 0, r, h => by simp at h; subst h; exact ⟨rfl, rfl⟩
  | x :: l, k + 1, r, h => by
    obtain ⟨a, b⟩ := flatL_at2 l k r (by simpa using h)
    constructor
    · rw [show (k + 1) * 2 = k * 2 + 1 + 1 by omega]; simpa [flatL] using a
    · rw [show (k + 1) * 2 + 1 = k * 2 + 1 + 1 + 1 by omega]; simpa [flatL] using b

set_option maxRecDepth 100000 in
set_option maxHeartbeats 1000000 in
theorem parse_any (s : ByteArray) (w : World) (hM : Mx w) (hs9 : s.size ≤ 140737488351232) :
    Calls Tryz.prog 6 #[.string s] w fun e w' => Below w.heap.size w w' ∧ ParseIs w e w' (parseP s) := by
  obtain ⟨X, hX⟩ : ∃ X, parseP s = X := ⟨_, rfl⟩
  rw [hX]
  have HX : Hid (parseP s = X) := hX
  clear hX
  have b1 : Below w.heap.size w (w.alloc (.cells #[.slice none 0 0, .slice none 0 0, .slice none 0 0] 26)) := (Below.refl _ _).alloc (Nat.le_refl _) _
  have B1 : Hid (Below w.heap.size w (w.alloc (.cells #[.slice none 0 0, .slice none 0 0, .slice none 0 0] 26))) := b1
  have X1 : Hid (Bx (w.alloc (.cells #[.slice none 0 0, .slice none 0 0, .slice none 0 0] 26)) w.heap.size zDb) := Bx.new w zDb _
  have M1 : Mx (w.alloc (.cells #[.slice none 0 0, .slice none 0 0, .slice none 0 0] 26)) := hM.below b1
  have hsz1 : ((w.alloc (.cells #[.slice none 0 0, .slice none 0 0, .slice none 0 0] 26))).heap.size = w.heap.size + 1 := by simp
  clear b1
  go_enter Tryz.func6, Tryz.ntmps6
  go_wp2_with fail
  refine (lSplit_any s _ M1 hs9).mono ?_
  rintro e U ⟨hb2, hS⟩
  have BU : Hid (Below w.heap.size w U) := B1.out.trans (hb2.mono B1.out.size)
  have XU : Hid (Bx U w.heap.size zDb) := X1.out.below hb2
  have hwU : w.heap.size + 1 ≤ U.heap.size := by rw [← hsz1]; exact hb2.size
  cases hL : lnsS s with
  | inl a =>
    rw [hL] at hS
    have hS' : e = .returned (.tuple #[.slice none 0 0, .int .i64 a.1, .int .i64 a.2]) := hS
    subst hS'
    have ha := lnsS_err hL
    have HXe : Hid (.inl a = X) := by rw [← HX.out]; exact (parseP_none hL).symm
    obtain ⟨a1, a2⟩ := a
    simp only at ha ⊢
    have ha1 : (a2 == 0) = false := by simpa using ha
    have ha2 : (a2 != 0) = true := by simpa using ha
    clear hS hL HX hb2 X1 B1 M1 hM ha
    go_wp2_with (refine wpList_store_mid rfl 26 _ _ rfl w.heap.size 0 #[.slice none 0 0, .slice none 0 0, .slice none 0 0] rfl rfl XU.out.there (by kernel_rfl) zDb_one ?_; refine gen_list (fun V => Bx V w.heap.size zDb ∧ Below w.heap.size w V) ⟨XU.out.setAll zDb rfl, below_setCells (Nat.le_refl _) zDb _ 0 BU.out⟩ ?_; rintro w4 ⟨X4, B4⟩)
    have y0 := X4.c 0 rfl
    have y1 := X4.c 1 rfl
    have y2 := X4.c 2 rfl
    have HB : Hid (Below w.heap.size w w4) := B4
    clear X4 B4
    refine bodyPost_ret (v := .tuple #[.agg #[.slice none 0 0, .slice none 0 0, .slice none 0 0], .int .i64 a1, .int .i64 a2]) (by simp [results, Tryz.results6, go_sem, y0, y1, y2]) rfl ⟨HB.out, ?_⟩
    show ParseIs w _ _ X
    rw [← HXe.out]
    exact rfl
  | inr L =>
    rw [hL] at hS
    obtain ⟨v, l, hv, hO, hl⟩ := hS
    subst hv
    have HG : Hid (GoodL L) := lnsS_good hL
    have HXL : Hid (endP L (runP pst0 (L.drop 0)) = X) := by show _ = _; rw [← HX.out, parseP_lines hL, List.drop_zero]
    have HO : Hid (OwnL U w.heap.size 54 v l) := hO.lower (by rw [hsz1]; omega)
    have hO1 : ∀ k, v.ownBlock = some k → w.heap.size + 1 ≤ k := fun k hk => by have := (hO.1.lt k hk).1; rw [hsz1] at this; exact this
    have hlL : l.length = L.length := by rw [← hl]; simp [saidL]
    have HLl : Hid (saidL l = L) := hl
    obtain ⟨al, cl, hvl, hl1, hl2, hl3⟩ := own_rowP HO.out.1
    subst hvl
    have P0 : Hid (PM U (U.heap.size + 1) U.heap.size (U.heap.size + 2) pst0 (.slice none 0 0) (.slice none 0 0) (.slice none 0 0) (.slice none 0 0) [] _) := PM.first U
    have hnL : (l.length : Int) ≤ 9223372036854775807 := by unfold maxLen at hl2; omega
    have hL400 : L.length ≤ 400 := HG.out.1
    unfold maxLen at hl2
    clear hO hL HX hb2 X1 B1 M1 hM hl
    have hmm := @run_makeMap Tryz.prog
    go_upto_region 5 with fail
    clear hmm
    go_wp2_with fail
    go_loopw [28] (fun iv W => ∃ (j : Nat) (S : PSt) (vr vl ve vz : Value) (vs : List Value), iv = .int .i64 (j : Int) ∧ j ≤ l.length ∧ Hid (PM U (U.heap.size + 1) U.heap.size (U.heap.size + 2) S vr vl ve vz vs W) ∧ Hid (OkS S j) ∧ Hid (endP L (runP S (L.drop j)) = X)) (fun iv _ => l.length - (intOf iv).toNat)
    case atStart => exact ⟨0, pst0, _, _, _, _, [], rfl, Nat.zero_le _, P0, OkS.zero, HXL⟩
    case round =>
      obtain ⟨j, S, vr, vl, ve, vz, vs, rfl, hj, KP, KO, HE⟩ := hrel
      clear P0 HXL
      have hj0 : (0 : Int) ≤ (j : Int) := by omega
      by_cases hjn : j < l.length
      · have hjI : (j : Int) < (l.length : Int) := by omega
        have hjw : IntKind.i64.wrap ((j : Int) + 1) = (j : Int) + 1 := by rw [IntKind.wrap_i64]; omega
        obtain ⟨lr, hlr, hlrB⟩ := hl3 (by omega)
        subst hlr
        obtain ⟨p, hp⟩ : ∃ p, l[j]? = some p := ⟨_, List.getElem?_eq_getElem hjn⟩
        have hpL : L[j]? = some (p.1, p.2.2) := by rw [← HLl.out]; simp [saidL, hp]
        obtain ⟨f, T, hfT, hff, hTF⟩ := good_few HG.out hpL
        have HRun := runP_at (S := S) hpL
        obtain ⟨n, vF, F⟩ := p
        simp only at hfT HRun
        subst hfT
        have hOW := HO.out.below KP.out.low
        obtain ⟨q0, q1⟩ := flatL_at2 l j _ hp
        have hown := hOW.2 _ (List.mem_of_getElem? hp)
        simp only at q0 q1 hown
        obtain ⟨af, c, hvf, hc1, hc2, hc3⟩ := own_rowP hown
        simp only [List.length_cons] at hvf hc1 hc3
        obtain ⟨fb, hfb, hfbB⟩ := hc3 (by omega)
        subst hfb hvf
        have f0 := (hOW.1.cellAt (j * 2) (by omega)).trans q0
        have f1 := (hOW.1.cellAt (j * 2 + 1) (by omega)).trans q1
        have hbw := World.block_lt_of_cell? _ _ f0
        have hfd : FdAt wr fb 0 (f :: T) := fun i x hi => by
          have := hown.cells rfl i (.string x) (by rw [cellsS_get]; simpa using hi)
          rwa [Addr.add_lit] at this
        have hfw := World.block_lt_of_cell? _ _ (hfd 0 f rfl)
        simp only at hbw hfw
        obtain ⟨lb, hlb⟩ : ∃ lb, lb = wr.heap.size := ⟨_, rfl⟩
        have HbA : Hid (Below wr.heap.size wr (wr.alloc (.cells #[.int .i64 n, .slice (some ⟨fb, 0, none⟩) (T.length + 1) c] 54))) := (Below.refl _ _).alloc (Nat.le_refl _) _
        have XL : Hid (Bx (wr.alloc (.cells #[.int .i64 n, .slice (some ⟨fb, 0, none⟩) (T.length + 1) c] 54)) lb [.int .i64 n, .slice (some ⟨fb, 0, none⟩) (T.length + 1) c]) := by rw [hlb]; exact Bx.new wr [.int .i64 n, .slice (some ⟨fb, 0, none⟩) (T.length + 1) c] _
        have HFD : Hid (FdAt wr fb 0 (f :: T)) := hfd
        have l0 := XL.out.c 0 rfl
        have l1 := XL.out.c 1 rfl
        have l2 := XL.out.1
        clear q0 q1 hown hOW hfd hp hpL
        have hlbU : U.heap.size ≤ lb := by have := KP.out.low.size; omega
        go_upto_region 8 with fail
        rw [← hlb]
        clear hlb
        go_wp2_with fail
        refine (ptake_any U _ _ _ S vr vl ve vz vs _ (KP.out.below HbA.out) j KO.out (by omega) n fb 0 c f T hTF (Nat.lt_of_lt_of_le hfw HbA.out.size) (by omega) (HFD.out.below hfw HbA.out) hff).mono ?_
        intro e W' q
        cases hT : tkF S n (f :: T) with
        | inl er =>
          rw [hT] at q HRun
          obtain ⟨he, hbq⟩ := q
          subst he
          have he0 := tkF_err hT
          have he1 : (er == 0) = false := by simpa using he0
          have he2 : (er != 0) = true := by simpa using he0
          have HXe : Hid (.inl (n, er) = X) := by have := HE.out; rw [HRun] at this; exact this
          have hUW : Below U.heap.size U W' := (KP.out.low.trans (HbA.out.mono KP.out.low.size)).trans (hbq.mono (Nat.le_trans KP.out.low.size HbA.out.size))
          have KE : Hid (Below w.heap.size w W' ∧ Bx W' w.heap.size zDb ∧ Bx W' lb [.int .i64 n, .slice (some ⟨fb, 0, none⟩) (T.length + 1) c]) := ⟨BU.out.trans (hUW.mono BU.out.size), XU.out.below hUW, XL.out.below hbq⟩
          clear hbq hUW XL HbA HFD HE HRun hT he0 KP KO l0 l1 l2 f0 f1 hbw hfw XU BU
          go_upto_region 10 with fail
          go_wp2_with fail
          refine wp_region_held_drew (S := fun V' => (Below w.heap.size w V' ∧ Bx V' w.heap.size zDb ∧ Bx V' lb [.int .i64 n, .slice (some ⟨fb, 0, none⟩) (T.length + 1) c])) (by kernel_rfl) ⟨KE.out.1.drew, KE.out.2⟩ (fun hHeld => ?_)
          refine gen_any (fun V' => (Below w.heap.size w V' ∧ Bx V' w.heap.size zDb ∧ Bx V' lb [.int .i64 n, .slice (some ⟨fb, 0, none⟩) (T.length + 1) c])) hHeld ?_
          clear hHeld KE
          rintro w9 hHeld
          refine wpAnyH_take (i := 0) (v := ?_) (oi := { dst := some 36, op := _, type := _, pos := _, after := _, guard := none }) rfl (by kernel_rfl) (by kernel_rfl) (by kernel_rfl) (fun _ _ _ h => h) (Or.inl ⟨by kernel_rfl, ?_⟩) (by assumption) ?_
          case refine_2 => (intro w9 hSw; clear hSw; go_simp; try with_reducible rfl)
          simp only [Act.put, List.setIfInBounds_toArray, List.set_cons_zero, List.set_cons_succ]
          refine wpAnyH_take (i := 1) (v := ?_) (oi := { dst := some 37, op := _, type := _, pos := _, after := _, guard := none }) rfl (by kernel_rfl) (by kernel_rfl) (by kernel_rfl) (fun _ _ _ h => h) (Or.inl ⟨by kernel_rfl, ?_⟩) (by assumption) ?_
          case refine_2 => (intro w9 hSw; clear hSw; go_simp; try with_reducible rfl)
          simp only [Act.put, List.setIfInBounds_toArray, List.set_cons_zero, List.set_cons_succ]
          refine wpAnyH_take (i := 2) (v := ?_) (oi := { dst := some 38, op := _, type := _, pos := _, after := _, guard := none }) rfl (by kernel_rfl) (by kernel_rfl) (by kernel_rfl) (fun _ _ _ h => h) (Or.inl ⟨by kernel_rfl, ?_⟩) (by assumption) ?_
          case refine_2 => (intro w9 hSw; obtain ⟨_, _, zl⟩ := hSw; have l0 := zl.c 0 rfl; clear zl; go_simp; try with_reducible rfl)
          simp only [Act.put, List.setIfInBounds_toArray, List.set_cons_zero, List.set_cons_succ]
          refine wpAnyH_take (i := 3) (v := ?_) (oi := { dst := some 39, op := _, type := _, pos := _, after := _, guard := none }) rfl (by kernel_rfl) (by kernel_rfl) (by kernel_rfl) (fun _ _ _ h => h) (Or.inl ⟨by kernel_rfl, ?_⟩) (by assumption) ?_
          case refine_2 => (intro w9 hSw; clear hSw; go_simp; try with_reducible rfl)
          simp only [Act.put, List.setIfInBounds_toArray, List.set_cons_zero, List.set_cons_succ]
          refine wpAnyH_ready (rs := [4]) (by kernel_rfl) (by simp) (AllReadyH.cons (o := { dst := none, op := _, type := _, pos := _, after := _, guard := none }) rfl (fun K hK => ?_) AllReadyH.nil)
          obtain ⟨hB5, hZ5, hT5⟩ := id hHeld
          have P4 : (Below w.heap.size w (w9.setCells w.heap.size 0 [.slice none 0 0, .slice none 0 0, .slice none 0 0]) ∧ Bx (w9.setCells w.heap.size 0 [.slice none 0 0, .slice none 0 0, .slice none 0 0]) w.heap.size zDb ∧ Bx (w9.setCells w.heap.size 0 [.slice none 0 0, .slice none 0 0, .slice none 0 0]) lb [.int .i64 n, .slice (some ⟨fb, 0, none⟩) (T.length + 1) c]) := ⟨below_setCells (Nat.le_refl _) [.slice none 0 0, .slice none 0 0, .slice none 0 0] w9 0 hB5, hZ5.setAll zDb rfl, hT5.setOther (by omega) _⟩
          refine (if_pos (by kernel_rfl)).mpr (wp_store_mid 26 _ _ rfl w.heap.size 0 #[.slice none 0 0, .slice none 0 0, .slice none 0 0] rfl rfl hZ5.there (by kernel_rfl) zDb_one ?_)
          refine hK.out _ (w9.setCells w.heap.size 0 [.slice none 0 0, .slice none 0 0, .slice none 0 0]) P4 (fun _ => ?_)
          clear hK K
          refine gen_any (w1 := (w9.setCells w.heap.size 0 [.slice none 0 0, .slice none 0 0, .slice none 0 0])) (fun V' => (Below w.heap.size w V' ∧ Bx V' w.heap.size zDb ∧ Bx V' lb [.int .i64 n, .slice (some ⟨fb, 0, none⟩) (T.length + 1) c])) P4 ?_
          clear hHeld hB5 hZ5 hT5 P4
          rintro w10 hHeld
          refine wpAnyH_take (i := 5) (v := ?_) (oi := { dst := some 3, op := _, type := _, pos := _, after := _, guard := none }) rfl (by kernel_rfl) (by kernel_rfl) (by kernel_rfl) (fun _ _ _ h => h) (Or.inl ⟨by kernel_rfl, ?_⟩) (by assumption) ?_
          case refine_2 => (intro w9 hSw; clear hSw; go_simp; try with_reducible rfl)
          simp only [Act.put, List.setIfInBounds_toArray, List.set_cons_zero, List.set_cons_succ]
          refine wpAnyH_take (i := 6) (v := ?_) (oi := { dst := some 4, op := _, type := _, pos := _, after := _, guard := none }) rfl (by kernel_rfl) (by kernel_rfl) (by kernel_rfl) (fun _ _ _ h => h) (Or.inl ⟨by kernel_rfl, ?_⟩) (by assumption) ?_
          case refine_2 => (intro w9 hSw; clear hSw; go_simp; try with_reducible rfl)
          simp only [Act.put, List.setIfInBounds_toArray, List.set_cons_zero, List.set_cons_succ]
          refine wpAnyH_done (by kernel_rfl) ?_ _
          have y0 := hHeld.2.1.c 0 rfl
          have y1 := hHeld.2.1.c 1 rfl
          have y2 := hHeld.2.1.c 2 rfl
          have HB : Hid (Below w.heap.size w w10) := hHeld.1
          clear hHeld
          go_wp2_with fail
          refine bodyPost_ret (v := .tuple #[.agg #[.slice none 0 0, .slice none 0 0, .slice none 0 0], .int .i64 n, .int .i64 er]) (by simp [results, Tryz.results6, go_sem, y0, y1, y2]) rfl ⟨HB.out, ?_⟩
          show ParseIs w _ _ X
          rw [← HXe.out]
          exact rfl
        | inr S' =>
          rw [hT] at q HRun
          obtain ⟨he, vr', vl', ve', vz', vs', hP⟩ := q
          subst he
          have KP2 : Hid (PM U (U.heap.size + 1) U.heap.size (U.heap.size + 2) S' vr' vl' ve' vz' vs' W') := hP
          have KO2 : Hid (OkS S' (j + 1)) := tkF_ok hTF KO.out hT
          have HE2 : Hid (endP L (runP S' (L.drop (j + 1))) = X) := by have := HE.out; rw [HRun] at this; exact this
          clear hP HE HRun hT KP KO XL HbA HFD l0 l1 l2 f0 f1 hbw hfw
          go_wp2_with fail
          exact ⟨⟨j + 1, S', vr', vl', ve', vz', vs', rfl, by omega, KP2, KO2, HE2⟩, by simp only [intOf]; omega⟩
      · have hjI : ¬ (j : Int) < (l.length : Int) := by omega
        have hjL : j = L.length := by omega
        have HE2 : Hid ((if S.op = true then .inl ((L.getLast?.map (·.1)).getD 0, 21) else if 0 < lostF S then .inl (lostF S, 23) else .inr S) = X) := by have := HE.out; rw [hjL, List.drop_length] at this; exact this
        have c5 := KP.out.box.c 5 rfl
        have KO4 : Hid (OkS S L.length) := by rw [← hjL]; exact KO.out
        clear HE KO
        by_cases hop : S.op = true
        · rw [hop] at c5
          obtain ⟨zl, zz, hzz⟩ := KO4.out.op hop
          have h1L : 1 ≤ L.length := by have := KO4.out.zones; rw [hzz, List.length_append, List.length_singleton] at this; omega
          obtain ⟨M, hM⟩ : ∃ M, L.length = M + 1 := ⟨L.length - 1, by omega⟩
          obtain ⟨lr, hlr, hlrB⟩ := hl3 (by omega)
          subst hlr
          obtain ⟨p, hp⟩ : ∃ p, l[M]? = some p := ⟨_, List.getElem?_eq_getElem (by omega)⟩
          have hpL : L[M]? = some (p.1, p.2.2) := by rw [← HLl.out]; simp [saidL, hp]
          obtain ⟨nl, vF, F⟩ := p
          have hlast : (L.getLast?.map (·.1)).getD 0 = nl := by rw [List.getLast?_eq_getElem?, show L.length - 1 = M by omega, hpL]; rfl
          have HXe : Hid (.inl (nl, 21) = X) := by have := HE2.out; rw [if_pos hop, hlast] at this; exact this
          obtain ⟨q0, -⟩ := flatL_at2 l M _ hp
          simp only at q0
          have hOW := HO.out.below KP.out.low
          have f0 := (hOW.1.cellAt (M * 2) (by omega)).trans q0
          have hlr1 : w.heap.size + 1 ≤ lr := hO1 lr rfl
          have KE : Hid (Below w.heap.size w wr ∧ Bx wr w.heap.size zDb ∧ wr.cell? ⟨lr, M * 2, none⟩ = some (.int .i64 nl)) := ⟨BU.out.trans (KP.out.low.mono BU.out.size), XU.out.below KP.out.low, f0⟩
          have hwM : IntKind.i64.wrap (M : Int) = (M : Int) := by rw [IntKind.wrap_i64]; omega
          have hwM2 : IntKind.i64.wrap ((L.length : Int) - 1) = (M : Int) := by rw [IntKind.wrap_i64]; omega
          have hM0 : (0 : Int) ≤ (M : Int) := by omega
          have hM1 : (M : Int) < (M : Int) + 1 := by omega
          have hM3 : (M : Int) < (L.length : Int) := by omega
          clear hOW q0 hp hpL hlast HE2 hzz zl zz
          go_upto_region 13 with fail
          clear c5 KP f0 hop
          go_wp2_with fail
          refine wp_region_held_drew (S := fun V' => (Below w.heap.size w V' ∧ Bx V' w.heap.size zDb ∧ V'.cell? ⟨lr, M * 2, none⟩ = some (.int .i64 nl))) (by kernel_rfl) ⟨KE.out.1.drew, KE.out.2⟩ (fun hHeld => ?_)
          refine gen_any (fun V' => (Below w.heap.size w V' ∧ Bx V' w.heap.size zDb ∧ V'.cell? ⟨lr, M * 2, none⟩ = some (.int .i64 nl))) hHeld ?_
          clear hHeld KE
          rintro w9 hHeld
          refine wpAnyH_take (i := 0) (v := ?_) (oi := { dst := some 43, op := _, type := _, pos := _, after := _, guard := none }) rfl (by kernel_rfl) (by kernel_rfl) (by kernel_rfl) (fun _ _ _ h => h) (Or.inl ⟨by kernel_rfl, ?_⟩) (by assumption) ?_
          case refine_2 => (intro w9 hSw; clear hSw; go_simp; try with_reducible rfl)
          simp only [Act.put, List.setIfInBounds_toArray, List.set_cons_zero, List.set_cons_succ]
          refine wpAnyH_take (i := 1) (v := ?_) (oi := { dst := some 44, op := _, type := _, pos := _, after := _, guard := none }) rfl (by kernel_rfl) (by kernel_rfl) (by kernel_rfl) (fun _ _ _ h => h) (Or.inl ⟨by kernel_rfl, ?_⟩) (by assumption) ?_
          case refine_2 => (intro w9 hSw; clear hSw; go_simp; try with_reducible rfl)
          simp only [Act.put, List.setIfInBounds_toArray, List.set_cons_zero, List.set_cons_succ]
          refine wpAnyH_take (i := 2) (v := ?_) (oi := { dst := some 45, op := _, type := _, pos := _, after := _, guard := none }) rfl (by kernel_rfl) (by kernel_rfl) (by kernel_rfl) (fun _ _ _ h => h) (Or.inl ⟨by kernel_rfl, ?_⟩) (by assumption) ?_
          case refine_2 => (intro w9 hSw; clear hSw; go_simp; try with_reducible rfl)
          simp only [Act.put, List.setIfInBounds_toArray, List.set_cons_zero, List.set_cons_succ]
          refine wpAnyH_take (i := 3) (v := ?_) (oi := { dst := some 46, op := _, type := _, pos := _, after := _, guard := none }) rfl (by kernel_rfl) (by kernel_rfl) (by kernel_rfl) (fun _ _ _ h => h) (Or.inl ⟨by kernel_rfl, ?_⟩) (by assumption) ?_
          case refine_2 => (intro w9 hSw; clear hSw; go_simp; try with_reducible rfl)
          simp only [Act.put, List.setIfInBounds_toArray, List.set_cons_zero, List.set_cons_succ]
          refine wpAnyH_take (i := 4) (v := ?_) (oi := { dst := some 47, op := _, type := _, pos := _, after := _, guard := none }) rfl (by kernel_rfl) (by kernel_rfl) (by kernel_rfl) (fun _ _ _ h => h) (Or.inl ⟨by kernel_rfl, ?_⟩) (by assumption) ?_
          case refine_2 => (intro w9 hSw; clear hSw; go_simp; try with_reducible rfl)
          simp only [Act.put, List.setIfInBounds_toArray, List.set_cons_zero, List.set_cons_succ]
          refine wpAnyH_take (i := 5) (v := ?_) (oi := { dst := some 48, op := _, type := _, pos := _, after := _, guard := none }) rfl (by kernel_rfl) (by kernel_rfl) (by kernel_rfl) (fun _ _ _ h => h) (Or.inl ⟨by kernel_rfl, ?_⟩) (by assumption) ?_
          case refine_2 => (intro w9 hSw; clear hSw; go_simp; try with_reducible rfl)
          simp only [Act.put, List.setIfInBounds_toArray, List.set_cons_zero, List.set_cons_succ]
          refine wpAnyH_take (i := 6) (v := ?_) (oi := { dst := some 49, op := _, type := _, pos := _, after := _, guard := none }) rfl (by kernel_rfl) (by kernel_rfl) (by kernel_rfl) (fun _ _ _ h => h) (Or.inl ⟨by kernel_rfl, ?_⟩) (by assumption) ?_
          case refine_2 => (intro w9 hSw; clear hSw; go_simp; try with_reducible rfl)
          simp only [Act.put, List.setIfInBounds_toArray, List.set_cons_zero, List.set_cons_succ]
          refine wpAnyH_take (i := 7) (v := ?_) (oi := { dst := some 50, op := _, type := _, pos := _, after := _, guard := none }) rfl (by kernel_rfl) (by kernel_rfl) (by kernel_rfl) (fun _ _ _ h => h) (Or.inl ⟨by kernel_rfl, ?_⟩) (by assumption) ?_
          case refine_2 => (intro w9 hSw; obtain ⟨_, _, zl⟩ := hSw; have l0 := zl; have l1 := World.block_lt_of_cell? _ _ l0; clear zl; go_simp; try with_reducible rfl)
          simp only [Act.put, List.setIfInBounds_toArray, List.set_cons_zero, List.set_cons_succ]
          refine wpAnyH_ready (rs := [8]) (by kernel_rfl) (by simp) (AllReadyH.cons (o := { dst := none, op := _, type := _, pos := _, after := _, guard := none }) rfl (fun K hK => ?_) AllReadyH.nil)
          obtain ⟨hB5, hZ5, hT5⟩ := id hHeld
          have P4 : (Below w.heap.size w (w9.setCells w.heap.size 0 [.slice none 0 0, .slice none 0 0, .slice none 0 0]) ∧ Bx (w9.setCells w.heap.size 0 [.slice none 0 0, .slice none 0 0, .slice none 0 0]) w.heap.size zDb ∧ (w9.setCells w.heap.size 0 [.slice none 0 0, .slice none 0 0, .slice none 0 0]).cell? ⟨lr, M * 2, none⟩ = some (.int .i64 nl)) := ⟨below_setCells (Nat.le_refl _) [.slice none 0 0, .slice none 0 0, .slice none 0 0] w9 0 hB5, hZ5.setAll zDb rfl, (setCells_off _ _ _ _ _ (by show lr ≠ _; omega)).trans hT5⟩
          refine (if_pos (by kernel_rfl)).mpr (wp_store_mid 26 _ _ rfl w.heap.size 0 #[.slice none 0 0, .slice none 0 0, .slice none 0 0] rfl rfl hZ5.there (by kernel_rfl) zDb_one ?_)
          refine hK.out _ (w9.setCells w.heap.size 0 [.slice none 0 0, .slice none 0 0, .slice none 0 0]) P4 (fun _ => ?_)
          clear hK K
          refine gen_any (w1 := (w9.setCells w.heap.size 0 [.slice none 0 0, .slice none 0 0, .slice none 0 0])) (fun V' => (Below w.heap.size w V' ∧ Bx V' w.heap.size zDb ∧ V'.cell? ⟨lr, M * 2, none⟩ = some (.int .i64 nl))) P4 ?_
          clear hHeld hB5 hZ5 hT5 P4
          rintro w10 hHeld
          refine wpAnyH_take (i := 9) (v := ?_) (oi := { dst := some 3, op := _, type := _, pos := _, after := _, guard := none }) rfl (by kernel_rfl) (by kernel_rfl) (by kernel_rfl) (fun _ _ _ h => h) (Or.inl ⟨by kernel_rfl, ?_⟩) (by assumption) ?_
          case refine_2 => (intro w9 hSw; clear hSw; go_simp; try with_reducible rfl)
          simp only [Act.put, List.setIfInBounds_toArray, List.set_cons_zero, List.set_cons_succ]
          refine wpAnyH_take (i := 10) (v := ?_) (oi := { dst := some 4, op := _, type := _, pos := _, after := _, guard := none }) rfl (by kernel_rfl) (by kernel_rfl) (by kernel_rfl) (fun _ _ _ h => h) (Or.inl ⟨by kernel_rfl, ?_⟩) (by assumption) ?_
          case refine_2 => (intro w9 hSw; clear hSw; go_simp; try with_reducible rfl)
          simp only [Act.put, List.setIfInBounds_toArray, List.set_cons_zero, List.set_cons_succ]
          refine wpAnyH_done (by kernel_rfl) ?_ _
          have y0 := hHeld.2.1.c 0 rfl
          have y1 := hHeld.2.1.c 1 rfl
          have y2 := hHeld.2.1.c 2 rfl
          have HB : Hid (Below w.heap.size w w10) := hHeld.1
          clear hHeld
          go_wp2_with fail
          refine bodyPost_ret (v := .tuple #[.agg #[.slice none 0 0, .slice none 0 0, .slice none 0 0], .int .i64 nl, .int .i64 21]) (by simp [results, Tryz.results6, go_sem, y0, y1, y2]) rfl ⟨HB.out, ?_⟩
          show ParseIs w _ _ X
          rw [← HXe.out]
          exact rfl
        · have HE3 : Hid ((if 0 < lostF S then .inl (lostF S, 23) else .inr S) = X) := by have := HE2.out; rw [if_neg hop] at this; exact this
          rw [show S.op = false by simpa using hop] at c5
          clear HE2 hop
          go_upto_region 14 with fail
          clear c5
          go_wp2_with fail
          refine (plost_any U _ _ _ S vr vl ve vz vs _ KP.out).mono ?_
          rintro e W2 ⟨rfl, hb⟩
          have K2 : Hid (PM U (U.heap.size + 1) U.heap.size (U.heap.size + 2) S vr vl ve vz vs W2) := KP.out.below hb
          have BW : Hid (Below w.heap.size w W2) := BU.out.trans (K2.out.low.mono BU.out.size)
          have XW : Hid (Bx W2 w.heap.size zDb) := XU.out.below K2.out.low
          clear KP hb BU XU
          by_cases hlo : 0 < lostF S
          · have HXe : Hid (.inl (lostF S, 23) = X) := by have := HE3.out; rw [if_pos hlo] at this; exact this
            clear HE3
            go_wp2_with (refine wpList_store_mid rfl 26 _ _ rfl w.heap.size 0 #[.slice none 0 0, .slice none 0 0, .slice none 0 0] rfl rfl XW.out.there (by kernel_rfl) zDb_one ?_; refine gen_list (fun V => Bx V w.heap.size zDb ∧ Below w.heap.size w V) ⟨XW.out.setAll zDb rfl, below_setCells (Nat.le_refl _) zDb _ 0 BW.out⟩ ?_; rintro w4 ⟨X4, B4⟩)
            have y0 := X4.c 0 rfl
            have y1 := X4.c 1 rfl
            have y2 := X4.c 2 rfl
            have HB : Hid (Below w.heap.size w w4) := B4
            clear X4 B4
            refine bodyPost_ret (v := .tuple #[.agg #[.slice none 0 0, .slice none 0 0, .slice none 0 0], .int .i64 (lostF S), .int .i64 23]) (by simp [results, Tryz.results6, go_sem, y0, y1, y2]) rfl ⟨HB.out, ?_⟩
            show ParseIs w _ _ X
            rw [← HXe.out]
            exact rfl
          · have HXe : Hid (.inr S = X) := by have := HE3.out; rw [if_neg hlo] at this; exact this
            clear HE3
            obtain ⟨r1, r2, r3, hvr⟩ := own_sliceP (K2.out.fam.get 0 rfl)
            obtain ⟨k1, k2, k3, hvl9⟩ := own_sliceP (K2.out.fam.get 1 rfl)
            obtain ⟨z1, z2, z3, hvz⟩ := own_sliceP (K2.out.fam.get 3 rfl)
            simp only at hvr hvl9 hvz
            subst hvr hvl9 hvz
            have g0 := K2.out.box.c 0 rfl
            have g1 := K2.out.box.c 1 rfl
            have g2 := K2.out.box.c 2 rfl
            have g3 := K2.out.lt
            go_wp2_with (refine wpList_store_mid rfl 26 _ _ rfl w.heap.size 0 #[.slice r1 r2 r3, .slice z1 z2 z3, .slice k1 k2 k3] rfl rfl XW.out.there (by kernel_rfl) (all_oneCell_toArray (cs := [.slice r1 r2 r3, .slice z1 z2 z3, .slice k1 k2 k3]) (by simp only [List.forall_mem_cons]; exact ⟨rfl, rfl, rfl, fun _ h => nomatch h⟩)) ?_; refine gen_list (fun V => Bx V w.heap.size [.slice r1 r2 r3, .slice z1 z2 z3, .slice k1 k2 k3] ∧ Below w.heap.size w V ∧ Fam (U.heap.size + 2) V (rowsP S (.slice r1 r2 r3) (.slice k1 k2 k3) ve (.slice z1 z2 z3) vs)) ⟨XW.out.setAll [.slice r1 r2 r3, .slice z1 z2 z3, .slice k1 k2 k3] rfl, below_setCells (Nat.le_refl _) _ _ 0 BW.out, K2.out.fam.keep fun c h1 h2 _ => setCells_heap _ _ _ _ _ (by omega)⟩ ?_; rintro w4 ⟨X4, B4, F4⟩)
            have y0 := X4.c 0 rfl
            have y1 := X4.c 1 rfl
            have y2 := X4.c 2 rfl
            have HB : Hid (Below w.heap.size w w4 ∧ Fam (U.heap.size + 2) w4 (rowsP S (.slice r1 r2 r3) (.slice k1 k2 k3) ve (.slice z1 z2 z3) vs)) := ⟨B4, F4⟩
            have hlen := K2.out.len
            clear X4 B4 F4
            refine bodyPost_ret (v := .tuple #[.agg #[.slice r1 r2 r3, .slice z1 z2 z3, .slice k1 k2 k3], .int .i64 0, .int .i64 0]) (by simp [results, Tryz.results6, go_sem, y0, y1, y2]) rfl ⟨HB.out.1, ?_⟩
            show ParseIs w _ _ X
            rw [← HXe.out]
            exact ⟨_, _, _, _, _, _, rfl, by omega, HB.out.2, hlen, KO4.out.mono hL400⟩

end Go.Proofs.YtgnfkkcagbbhmaaGreatDoor
