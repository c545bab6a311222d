import Derived.Test.YtcgcljfdfimfgaaDoorR27
import Derived.Test.YtcgcljfdfimfgaaDoorR18
import Derived.Laws.AppendOwnNone
import Derived.Deep.Cut
import Derived.Deep.CutRange
import Derived.Deep.DeepCutAuto
import Derived.Deep.RegionHeld3
import Derived.Deep.MidRow
/- law14's given: the changes copied. -/
namespace Go.Proofs.YtcgcljfdfimfgaaDoor
open Go.RowKit Sr
set_option linter.unusedVariables false

theorem one_tb (nm : ByteArray) (f : TrR) (ao : Option Addr) (n c : Nat) : (tbF nm f (.slice ao n c) zeF).toArray.all (·.oneCell') = true := by
  simp [tbF, trC, zeF, Value.oneCell']

theorem bx_tail {W : World} {b : Nat} {p cs : List Value} (h : Bx W b (p ++ cs)) (vs : List Value) (hl : cs.length = vs.length) : W.there b p.length cs.length ∧ Bx (W.setCells b p.length vs) b (p ++ vs) := by
  have ht : W.there b p.length cs.length := fun j hj => by
    have hj2 : (p ++ cs)[p.length + j]? = some cs[j] := by rw [List.getElem?_append_right (by omega), show p.length + j - p.length = j by omega, List.getElem?_eq_getElem hj]
    have := h.2 (p.length + j) _ hj2
    exact ⟨by rw [this.1]; rfl, this.2⟩
  refine ⟨ht, by rw [setCells_size]; exact h.1, fun i v e => ?_⟩
  have hi := (List.getElem?_eq_some_iff.1 e).1
  rw [List.length_append] at hi
  have hf : W.frozen? ⟨b, i, none⟩ = false := (h.2 i _ (List.getElem?_eq_getElem (by rw [List.length_append]; omega))).2
  refine ⟨?_, by rw [World.frozen?_setCells]; exact hf⟩
  by_cases hip : i < p.length
  · rw [List.getElem?_append_left hip] at e
    refine (World.cell?_setCells_out b vs p.length W ⟨b, i, none⟩ (fun _ _ => .inl hip)).trans ?_
    exact (h.2 i v (by rw [List.getElem?_append_left hip]; exact e)).1
  · rw [List.getElem?_append_right (by omega)] at e
    have := World.rangeAt_setCells_same W b p.length vs (hl ▸ ht) (i - p.length) v e
    rwa [show p.length + (i - p.length) = i by omega] at this
/-- a slice is no longer than it may be. -/
def Cap (sv : Value) : Prop := ∀ ao n c, sv = .slice ao n c → n ≤ c
theorem cap_own {W : World} {base : Nat} {e : TypeId} {size : Nat} {v : Value} {n : Nat} {xs : List Value} (h : W.ownsRow base e size v n xs) : Cap v := fun ao m c hv => by
  rcases h.2 with ⟨e, z⟩ | ⟨g, cap, cur, e, _, _, h5, _⟩
  · rw [e] at hv; cases hv; exact Nat.le_refl _
  · rw [e] at hv; cases hv; exact h5
/-- what given holds. -/
def GT (w : World) (T T1 T2 : List Value) (b2 : Nat) (sv : Value) (L : List TrR) (W : World) : Prop := Below w.heap.size w W ∧ Bx W w.heap.size T ∧ Bx W (w.heap.size + 1) zeT ∧ TrO W sv L ∧ (Bx W b2 T1 ∨ Bx W b2 T2)
section
variable {w W V : World} {T T1 T2 : List Value} {b2 : Nat} {sv : Value} {L : List TrR}
theorem GT.below (h : GT w T T1 T2 b2 sv L W) (hb : Below W.heap.size W V) : GT w T T1 T2 b2 sv L V := ⟨h.1.trans (hb.mono h.1.size), h.2.1.below hb, h.2.2.1.below hb, h.2.2.2.1.mv hb, h.2.2.2.2.imp (·.below hb) (·.below hb)⟩
theorem GT.tail (h : GT w T T1 T2 b2 sv L W) {p c1 vs : List Value} (e1 : T1 = p ++ c1) (e2 : T2 = p ++ vs) (hl : c1.length = vs.length) : W.there b2 p.length vs.length ∧ Bx (W.setCells b2 p.length vs) b2 T2 := by
  subst e1 e2
  rcases h.2.2.2.2 with q | q
  · have := bx_tail q vs hl; rw [hl] at this; exact this
  · exact bx_tail q vs rfl
theorem GT.put (h : GT w T T1 T2 b2 sv L W) {p c1 vs : List Value} (e1 : T1 = p ++ c1) (e2 : T2 = p ++ vs) (hl : c1.length = vs.length) (hg : ∀ (a : Addr) (m k : Nat), sv = .slice (some a) m k → a.block ≠ b2) (h2 : w.heap.size + 1 < b2) : GT w T T1 T2 b2 sv L (W.setCells b2 p.length vs) :=
  ⟨below_setCells (by omega) _ _ _ h.1, h.2.1.setOther (by omega) _ _, h.2.2.1.setOther (by omega) _ _, tro_setCells h.2.2.2.1 hg, .inr (h.tail e1 e2 hl).2⟩
end
theorem one_tf (nm : ByteArray) (f : TrR) (ao : Option Addr) (n c : Nat) (ft : Fn.Ft) : (tbF nm f (.slice ao n c) (Fn.fL ft)).toArray.all (·.oneCell') = true := by
  simp [tbF, trC, Fn.fL, Value.oneCell']

set_option maxRecDepth 100000 in
set_option maxHeartbeats 8000000 in
theorem given14 (nm : ByteArray) (f : TrR) (L : List TrR) (ft : Fn.Ft) (g o n c : Nat) (hn : L.length = n) (w : World) (hg : g < w.heap.size) (hcs : Hid (∀ j u, (trCs L)[j]? = some u → w.cell? ⟨g, o + j, none⟩ = some u)) (h40 : n * 40 ≤ 140737488355328) (hm : n ≤ maxLen) (T : List Value) (hT : T = tbF nm f (.slice (some ⟨g, o, none⟩) n c) (Fn.fL ft)) :
    Calls Tryd.prog 5 #[.agg T.toArray] w fun e w' => ∃ sv', e = .returned (.agg (tbF nm f sv' (Fn.fL ft)).toArray) ∧ TrO w' sv' L ∧ Below w.heap.size w w' ∧ Cap sv' := by
  have X0 : Hid (Bx ((w.alloc (.cells T.toArray 34)).alloc (.cells zeT.toArray 46)) w.heap.size T) := (Bx.new w T _).alloc _
  have X1 : Hid (Bx ((w.alloc (.cells T.toArray 34)).alloc (.cells zeT.toArray 46)) (w.heap.size + 1) zeT) := Bx.newAt _ zeT _ _ (by simp)
  have B1 : Hid (Below w.heap.size w ((w.alloc (.cells T.toArray 34)).alloc (.cells zeT.toArray 46))) := ((Below.refl _ _).alloc (Nat.le_refl _) _).alloc (by simp) _
  go_enter Tryd.func5, Tryd.ntmps5
  generalize hUA : T.toArray = UA at *
  go_upto_region 1 with fail
  refine gen_code (fun V => Bx V w.heap.size T ∧ Bx V (w.heap.size + 1) zeT ∧ Below w.heap.size w V) ⟨X0.out, X1.out, B1.out⟩ ?_
  clear X0 X1 B1
  rintro V ⟨X0', X1', B1'⟩
  have X0 : Hid (Bx V w.heap.size T) := X0'
  have X1 : Hid (Bx V (w.heap.size + 1) zeT) := X1'
  have B1 : Hid (Below w.heap.size w V) := B1'
  clear X0' X1' B1'
  have d0 : V.cell? ⟨w.heap.size, 0, none⟩ = some (.string nm) := X0.out.c 0 (by rw [hT]; rfl)
  have d1 : V.cell? ⟨w.heap.size, 1, none⟩ = some (.int .i64 f.at_) := X0.out.c 1 (by rw [hT]; rfl)
  have d2 : V.cell? ⟨w.heap.size, 2, none⟩ = some (.int .i64 f.off) := X0.out.c 2 (by rw [hT]; rfl)
  have d3 : V.cell? ⟨w.heap.size, 3, none⟩ = some (.bool f.dst) := X0.out.c 3 (by rw [hT]; rfl)
  have d4 : V.cell? ⟨w.heap.size, 4, none⟩ = some (.string f.ab) := X0.out.c 4 (by rw [hT]; rfl)
  have Y2 : Hid (Bx (V.alloc (.cells zeT.toArray 46)) V.heap.size zeT) := Bx.new V zeT _
  have Y0 : Hid (Bx (V.alloc (.cells zeT.toArray 46)) w.heap.size T) := X0.out.alloc _
  have Y1 : Hid (Bx (V.alloc (.cells zeT.toArray 46)) (w.heap.size + 1) zeT) := X1.out.alloc _
  have YB : Hid (Below w.heap.size w (V.alloc (.cells zeT.toArray 46))) := B1.out.alloc (B1.out.size) _
  have hV1 := X1.out.1
  go_upto_region 2 with (refine wpList_store_mid rfl 46 _ _ rfl V.heap.size 0 (tbF nm f (.slice none 0 0) zeF).toArray rfl rfl Y2.out.there (by kernel_rfl) (one_tb _ _ _ _ _) ?_; refine gen_list (fun U => Bx U w.heap.size T ∧ Bx U (w.heap.size + 1) zeT ∧ Bx U V.heap.size (tbF nm f (.slice none 0 0) zeF) ∧ Below w.heap.size w U) ⟨Y0.out.setOther (by omega) _, Y1.out.setOther (by omega) _, Y2.out.setAll _ rfl, below_setCells (by omega) _ _ _ YB.out⟩ ?_; clear X0 X1 B1 Y0 Y1 Y2 YB d0 d1 d2 d3 d4; rintro U ⟨X0', X1', X2', B1'⟩; have X0 : Hid (Bx U w.heap.size T) := X0'; have X1 : Hid (Bx U (w.heap.size + 1) zeT) := X1'; have X2 : Hid (Bx U V.heap.size (tbF nm f (.slice none 0 0) zeF)) := X2'; have B1 : Hid (Below w.heap.size w U) := B1'; clear X0' X1' X2' B1')
  obtain ⟨b2, hb2⟩ : ∃ b2, V.heap.size = b2 := ⟨_, rfl⟩
  rw [hb2] at X2 hV1 ⊢
  clear hb2 V
  obtain ⟨i1, hi1, hy0, hy1, hy2⟩ := info_parts infoT9
  have c5 : U.cell? ⟨b2, 5, none⟩ = some (.slice none 0 0) := X2.out.c 5 rfl
  have d5 : U.cell? ⟨w.heap.size, 5, none⟩ = some (.slice (some ⟨g, o, none⟩) n c) := X0.out.c 5 (by rw [hT]; rfl)
  have hN : Hid (∀ j u, (trCs L)[j]? = some u → U.cell? ((⟨g, o, none⟩ : Addr).add j) = some u) := fun j u hu => by
    have h1 := (B1.out.cell (p := ⟨g, o + j, none⟩) hg).trans (hcs.out j u hu)
    unfold Addr.add
    split
    · rename_i h; subst h; simpa using h1
    · exact h1
  have hbs := B1.out.size
  have hu2 := X2.out.1
  go_upto_region 3 with (at_builtin; refine wpList_append_own _ rfl _ _ 24 rfl U.heap.size 23 i1 (.agg #[.int .i64 0, .int .i64 0, .bool false, .string ⟨#[]⟩]) 4 40 Tryd.underlying24 hi1 hy0 hy1 hy2 rfl (by decide) (.slice none 0 0) 0 [] rfl (World.ownsRow_nil _ _ _ _) ⟨g, o, none⟩ n c (trCs L) rfl (by rw [trCs_len, hn]) hN.out (trCs_one L) (by omega) (by omega) (Nat.le_refl _) ?_; intro v' w9 hown' hgrow' _; rw [Nat.zero_add] at hown'; obtain ⟨ao', c', hv'⟩ := tr_len hown'; subst hv'; have hb9 : Below U.heap.size U w9 := ⟨hgrow'.os, hgrow'.tape, hgrow'.output, hgrow'.size, fun k hk => hgrow'.block k hk (by simp [Value.ownBlock])⟩; have X9 := X2.out.below hb9; have c9 := X9.c 5 rfl; have z9 := X9.f 5 (v := .slice none 0 0) rfl)
  rw [List.nil_append] at hown'
  have HCAP : Hid (Cap (.slice ao' n c')) := cap_own hown'
  have HTR : TrO w9 (.slice ao' n c') L := TrO.of (L := L) (by rw [hn]; exact hown')
  have hne : ∀ (a : Addr) (m k : Nat), Value.slice ao' n c' = .slice (some a) m k → a.block ≠ b2 := by
    rcases hown'.2 with ⟨e, _⟩ | ⟨g', cap', cur, e, hb, _⟩
    · intro a m k h; rw [e] at h; cases h
    · intro a m k h; rw [e] at h; cases h; simp; omega
  have hne1 : ∀ (a : Addr) (m k : Nat), Value.slice ao' n c' = .slice (some a) m k → a.block ≠ w.heap.size + 1 := by
    rcases hown'.2 with ⟨e, _⟩ | ⟨g', cap', cur, e, hb, _⟩
    · intro a m k h; rw [e] at h; cases h
    · intro a m k h; rw [e] at h; cases h; simp; omega
  refine gen_code (fun Z => Bx Z w.heap.size T ∧ Bx Z (w.heap.size + 1) zeT ∧ Bx Z b2 (tbF nm f (.slice ao' n c') zeF) ∧ TrO Z (.slice ao' n c') L ∧ Below w.heap.size w Z) ⟨bx_turns (X0.out.below hb9) (Turns.setCell (M := [b2]) _ _ _ (by simp)) (by simp; omega), bx_turns (X1.out.below hb9) (Turns.setCell (M := [b2]) _ _ _ (by simp)) (by simp; omega), bx_set1 X9 5 (.slice ao' n c') (by rw [tbF_len rfl]; decide), HTR.setC hne, (B1.out.trans (hb9.mono hbs)).setCell (p := ⟨b2, 5, none⟩) (by simp; omega) _⟩ ?_
  clear HTR X9 c9 z9 hb9 hgrow' hown' c5 d5 hN X0 X1 X2 B1 hu2 hbs
  rintro Z ⟨X0', X1', X2', HT', B1'⟩
  have CA : Hid (∀ w : World, Calls Tryd.prog 16 #[.agg #[.int .i64 ft.A.m, .int .i64 ft.A.k, .int .i64 ft.A.d, .int .i64 ft.A.n, .int .i64 ft.A.s, .int .u8 ft.A.z, .int .i64 ft.A.v, .string ft.A.t]] w fun e w' => e = .returned (.agg #[.int .i64 ft.A.m, .int .i64 ft.A.k, .int .i64 ft.A.d, .int .i64 ft.A.n, .int .i64 ft.A.s, .int .u8 ft.A.z, .int .i64 ft.A.v, .string ft.A.t]) ∧ Below w.heap.size w w') := fun w => Fn.h14_any ft.A w
  have CB : Hid (∀ w : World, Calls Tryd.prog 16 #[.agg #[.int .i64 ft.B.m, .int .i64 ft.B.k, .int .i64 ft.B.d, .int .i64 ft.B.n, .int .i64 ft.B.s, .int .u8 ft.B.z, .int .i64 ft.B.v, .string ft.B.t]] w fun e w' => e = .returned (.agg #[.int .i64 ft.B.m, .int .i64 ft.B.k, .int .i64 ft.B.d, .int .i64 ft.B.n, .int .i64 ft.B.s, .int .u8 ft.B.z, .int .i64 ft.B.v, .string ft.B.t]) ∧ Below w.heap.size w w') := fun w => Fn.h14_any ft.B w
  go_wp2_with fail
  refine wp_region_held_drew (S := GT w T (tbF nm f (.slice ao' n c') zeF) (tbF nm f (.slice ao' n c') (Fn.fL ft)) b2 (.slice ao' n c') L) (by kernel_rfl) (show GT w T _ _ b2 _ L Z.drew from ⟨B1'.drew, X0', X1', HT', .inl X2'⟩) (fun hHeld => ?_)
  refine wpAnyH_take (i := 0) (v := ?_) (oi := { dst := some 15, op := _, type := _, pos := _, after := _, guard := none }) rfl (by kernel_rfl) (by kernel_rfl) (by kernel_rfl) (fun _ _ _ h => h) (Or.inl ⟨by kernel_rfl, ?_⟩) (by assumption) ?_
  case refine_2 => (intro w9 hSw; clear hSw; go_simp; try with_reducible rfl)
  simp only [Act.put, List.setIfInBounds_toArray, List.set_cons_zero, List.set_cons_succ]
  refine wpAnyH_take (i := 1) (v := ?_) (oi := { dst := some 16, op := _, type := _, pos := _, after := _, guard := none }) rfl (by kernel_rfl) (by kernel_rfl) (by kernel_rfl) (fun _ _ _ h => h) (Or.inl ⟨by kernel_rfl, ?_⟩) (by assumption) ?_
  case refine_2 => (intro w9 hSw; clear hSw; go_simp; try with_reducible rfl)
  simp only [Act.put, List.setIfInBounds_toArray, List.set_cons_zero, List.set_cons_succ]
  refine wpAnyH_take (i := 2) (v := ?_) (oi := { dst := some 17, op := _, type := _, pos := _, after := _, guard := none }) rfl (by kernel_rfl) (by kernel_rfl) (by kernel_rfl) (fun _ _ _ h => h) (Or.inl ⟨by kernel_rfl, ?_⟩) (by assumption) ?_
  case refine_2 => (intro w9 hSw; have g6 : w9.cell? ⟨w.heap.size, 6, none⟩ = some (.bool ft.h) := hSw.2.1.c 6 (by rw [hT]; rfl); have g7 : w9.cell? ⟨w.heap.size, 7, none⟩ = some (.int .i64 ft.fr) := hSw.2.1.c 7 (by rw [hT]; rfl); have g8 : w9.cell? ⟨w.heap.size, 8, none⟩ = some (.int .i64 ft.off) := hSw.2.1.c 8 (by rw [hT]; rfl); clear hSw; go_simp; try with_reducible rfl)
  simp only [Act.put, List.setIfInBounds_toArray, List.set_cons_zero, List.set_cons_succ]
  refine wpAnyH_take (i := 3) (v := ?_) (oi := { dst := some 18, op := _, type := _, pos := _, after := _, guard := none }) rfl (by kernel_rfl) (by kernel_rfl) (by kernel_rfl) (fun _ _ _ h => h) (Or.inl ⟨by kernel_rfl, ?_⟩) (by assumption) ?_
  case refine_2 => (intro w9 hSw; clear hSw; go_simp; try with_reducible rfl)
  simp only [Act.put, List.setIfInBounds_toArray, List.set_cons_zero, List.set_cons_succ]
  refine wpAnyH_take (i := 4) (v := ?_) (oi := { dst := some 19, op := _, type := _, pos := _, after := _, guard := none }) rfl (by kernel_rfl) (by kernel_rfl) (by kernel_rfl) (fun _ _ _ h => h) (Or.inl ⟨by kernel_rfl, ?_⟩) (by assumption) ?_
  case refine_2 => (intro w9 hSw; clear hSw; go_simp; try with_reducible rfl)
  simp only [Act.put, List.setIfInBounds_toArray, List.set_cons_zero, List.set_cons_succ]
  refine wpAnyH_take (i := 5) (v := ?_) (oi := { dst := some 20, op := _, type := _, pos := _, after := _, guard := none }) rfl (by kernel_rfl) (by kernel_rfl) (by kernel_rfl) (fun _ _ _ h => h) (Or.inl ⟨by kernel_rfl, ?_⟩) (by assumption) ?_
  case refine_2 => (intro w9 hSw; have g6 : w9.cell? ⟨w.heap.size, 6, none⟩ = some (.bool ft.h) := hSw.2.1.c 6 (by rw [hT]; rfl); have g7 : w9.cell? ⟨w.heap.size, 7, none⟩ = some (.int .i64 ft.fr) := hSw.2.1.c 7 (by rw [hT]; rfl); have g8 : w9.cell? ⟨w.heap.size, 8, none⟩ = some (.int .i64 ft.off) := hSw.2.1.c 8 (by rw [hT]; rfl); clear hSw; go_simp; try with_reducible rfl)
  simp only [Act.put, List.setIfInBounds_toArray, List.set_cons_zero, List.set_cons_succ]
  refine wpAnyH_take (i := 6) (v := ?_) (oi := { dst := some 21, op := _, type := _, pos := _, after := _, guard := none }) rfl (by kernel_rfl) (by kernel_rfl) (by kernel_rfl) (fun _ _ _ h => h) (Or.inl ⟨by kernel_rfl, ?_⟩) (by assumption) ?_
  case refine_2 => (intro w9 hSw; clear hSw; go_simp; try with_reducible rfl)
  simp only [Act.put, List.setIfInBounds_toArray, List.set_cons_zero, List.set_cons_succ]
  refine wpAnyH_take (i := 7) (v := ?_) (oi := { dst := some 22, op := _, type := _, pos := _, after := _, guard := none }) rfl (by kernel_rfl) (by kernel_rfl) (by kernel_rfl) (fun _ _ _ h => h) (Or.inl ⟨by kernel_rfl, ?_⟩) (by assumption) ?_
  case refine_2 => (intro w9 hSw; clear hSw; go_simp; try with_reducible rfl)
  simp only [Act.put, List.setIfInBounds_toArray, List.set_cons_zero, List.set_cons_succ]
  refine wpAnyH_take (i := 8) (v := ?_) (oi := { dst := some 23, op := _, type := _, pos := _, after := _, guard := none }) rfl (by kernel_rfl) (by kernel_rfl) (by kernel_rfl) (fun _ _ _ h => h) (Or.inl ⟨by kernel_rfl, ?_⟩) (by assumption) ?_
  case refine_2 => (intro w9 hSw; have g6 : w9.cell? ⟨w.heap.size, 6, none⟩ = some (.bool ft.h) := hSw.2.1.c 6 (by rw [hT]; rfl); have g7 : w9.cell? ⟨w.heap.size, 7, none⟩ = some (.int .i64 ft.fr) := hSw.2.1.c 7 (by rw [hT]; rfl); have g8 : w9.cell? ⟨w.heap.size, 8, none⟩ = some (.int .i64 ft.off) := hSw.2.1.c 8 (by rw [hT]; rfl); clear hSw; go_simp; try with_reducible rfl)
  simp only [Act.put, List.setIfInBounds_toArray, List.set_cons_zero, List.set_cons_succ]
  refine wpAnyH_take (i := 9) (v := ?_) (oi := { dst := some 24, op := _, type := _, pos := _, after := _, guard := none }) rfl (by kernel_rfl) (by kernel_rfl) (by kernel_rfl) (fun _ _ _ h => h) (Or.inl ⟨by kernel_rfl, ?_⟩) (by assumption) ?_
  case refine_2 => (intro w9 hSw; clear hSw; go_simp; try with_reducible rfl)
  simp only [Act.put, List.setIfInBounds_toArray, List.set_cons_zero, List.set_cons_succ]
  refine wpAnyH_take (i := 10) (v := ?_) (oi := { dst := some 25, op := _, type := _, pos := _, after := _, guard := none }) rfl (by kernel_rfl) (by kernel_rfl) (by kernel_rfl) (fun _ _ _ h => h) (Or.inl ⟨by kernel_rfl, ?_⟩) (by assumption) ?_
  case refine_2 => (intro w9 hSw; clear hSw; go_simp; try with_reducible rfl)
  simp only [Act.put, List.setIfInBounds_toArray, List.set_cons_zero, List.set_cons_succ]
  refine wpAnyH_take (i := 11) (v := .agg #[.int .i64 ft.A.m, .int .i64 ft.A.k, .int .i64 ft.A.d, .int .i64 ft.A.n, .int .i64 ft.A.s, .int .u8 ft.A.z, .int .i64 ft.A.v, .string ft.A.t]) (oi := { dst := some 26, op := _, type := _, pos := _, after := _, guard := none }) rfl (by kernel_rfl) (by kernel_rfl) (by kernel_rfl) (fun _ _ _ h => h) (Or.inl ⟨by kernel_rfl, ?_⟩) (by assumption) ?_
  case refine_1 => (intro w9 hSw; exact exec_row (off := 9) rfl rfl (hSw.2.1.rng [.string nm, .int .i64 f.at_, .int .i64 f.off, .bool f.dst, .string f.ab, (.slice (some ⟨g, o, none⟩) n c), .bool ft.h, .int .i64 ft.fr, .int .i64 ft.off] [.int .i64 ft.A.m, .int .i64 ft.A.k, .int .i64 ft.A.d, .int .i64 ft.A.n, .int .i64 ft.A.s, .int .u8 ft.A.z, .int .i64 ft.A.v, .string ft.A.t] [.int .i64 ft.B.m, .int .i64 ft.B.k, .int .i64 ft.B.d, .int .i64 ft.B.n, .int .i64 ft.B.s, .int .u8 ft.B.z, .int .i64 ft.B.v, .string ft.B.t] (by rw [hT]; rfl)) Tryd.underlying30 rfl (by kernel_rfl))
  simp only [Act.put, List.setIfInBounds_toArray, List.set_cons_zero, List.set_cons_succ]
  refine wpAnyH_take (i := 13) (v := ?_) (oi := { dst := some 28, op := _, type := _, pos := _, after := _, guard := none }) rfl (by kernel_rfl) (by kernel_rfl) (by kernel_rfl) (fun _ _ _ h => h) (Or.inl ⟨by kernel_rfl, ?_⟩) (by assumption) ?_
  case refine_2 => (intro w9 hSw; clear hSw; go_simp; try with_reducible rfl)
  simp only [Act.put, List.setIfInBounds_toArray, List.set_cons_zero, List.set_cons_succ]
  refine wpAnyH_take (i := 14) (v := ?_) (oi := { dst := some 29, op := _, type := _, pos := _, after := _, guard := none }) rfl (by kernel_rfl) (by kernel_rfl) (by kernel_rfl) (fun _ _ _ h => h) (Or.inl ⟨by kernel_rfl, ?_⟩) (by assumption) ?_
  case refine_2 => (intro w9 hSw; clear hSw; go_simp; try with_reducible rfl)
  simp only [Act.put, List.setIfInBounds_toArray, List.set_cons_zero, List.set_cons_succ]
  refine wpAnyH_take (i := 15) (v := .agg #[.int .i64 ft.B.m, .int .i64 ft.B.k, .int .i64 ft.B.d, .int .i64 ft.B.n, .int .i64 ft.B.s, .int .u8 ft.B.z, .int .i64 ft.B.v, .string ft.B.t]) (oi := { dst := some 30, op := _, type := _, pos := _, after := _, guard := none }) rfl (by kernel_rfl) (by kernel_rfl) (by kernel_rfl) (fun _ _ _ h => h) (Or.inl ⟨by kernel_rfl, ?_⟩) (by assumption) ?_
  case refine_1 => (intro w9 hSw; exact exec_row (off := 17) rfl rfl (hSw.2.1.rng [.string nm, .int .i64 f.at_, .int .i64 f.off, .bool f.dst, .string f.ab, (.slice (some ⟨g, o, none⟩) n c), .bool ft.h, .int .i64 ft.fr, .int .i64 ft.off, .int .i64 ft.A.m, .int .i64 ft.A.k, .int .i64 ft.A.d, .int .i64 ft.A.n, .int .i64 ft.A.s, .int .u8 ft.A.z, .int .i64 ft.A.v, .string ft.A.t] [.int .i64 ft.B.m, .int .i64 ft.B.k, .int .i64 ft.B.d, .int .i64 ft.B.n, .int .i64 ft.B.s, .int .u8 ft.B.z, .int .i64 ft.B.v, .string ft.B.t] [] (by rw [hT]; rfl)) Tryd.underlying30 rfl (by kernel_rfl))
  simp only [Act.put, List.setIfInBounds_toArray, List.set_cons_zero, List.set_cons_succ]
  refine wpAnyH_ready (rs := [12]) (by kernel_rfl) (by simp) (AllReadyH.cons (o := { dst := some 27, op := _, type := _, pos := _, after := _, guard := none }) rfl (fun K hK => ?_) AllReadyH.nil)
  go_simp
  refine (CA.out _).mono ?_
  rintro e v1 ⟨rfl, hb1⟩
  refine hK.out _ _ (hHeld.below hb1) (fun hHeld => ?_)
  clear hK K hb1
  refine wpAnyH_ready (rs := [16]) (by kernel_rfl) (by simp) (AllReadyH.cons (o := { dst := some 31, op := _, type := _, pos := _, after := _, guard := none }) rfl (fun K hK => ?_) AllReadyH.nil)
  go_simp
  refine (CB.out _).mono ?_
  rintro e v2 ⟨rfl, hb2⟩
  refine hK.out _ _ (hHeld.below hb2) (fun hHeld => ?_)
  clear hK K hb2
  refine wpAnyH_take (i := 17) (v := ?_) (oi := { dst := some 32, op := _, type := _, pos := _, after := _, guard := none }) rfl (by kernel_rfl) (by kernel_rfl) (by kernel_rfl) (fun _ _ _ h => h) (Or.inl ⟨by kernel_rfl, ?_⟩) (by assumption) ?_
  case refine_2 => (intro w9 hSw; clear hSw; go_simp; try with_reducible rfl)
  simp only [Act.put, List.setIfInBounds_toArray, List.set_cons_zero, List.set_cons_succ]
  refine wpAnyH_take (i := 18) (v := ?_) (oi := { dst := some 33, op := _, type := _, pos := _, after := _, guard := none }) rfl (by kernel_rfl) (by kernel_rfl) (by kernel_rfl) (fun _ _ _ h => h) (Or.inl ⟨by kernel_rfl, ?_⟩) (by assumption) ?_
  case refine_2 => (intro w9 hSw; clear hSw; go_simp; try with_reducible rfl)
  simp only [Act.put, List.setIfInBounds_toArray, List.set_cons_zero, List.set_cons_succ]
  refine wpAnyH_ready (rs := [19]) (by kernel_rfl) (by simp) (AllReadyH.cons (o := { dst := none, op := _, type := _, pos := _, after := _, guard := none }) rfl (fun K hK => ?_) AllReadyH.nil)
  refine (if_pos (by kernel_rfl)).mpr (wp_store_mid 44 _ _ rfl b2 6 #[.bool ft.h, .int .i64 ft.fr, .int .i64 ft.off, .int .i64 ft.A.m, .int .i64 ft.A.k, .int .i64 ft.A.d, .int .i64 ft.A.n, .int .i64 ft.A.s, .int .u8 ft.A.z, .int .i64 ft.A.v, .string ft.A.t, .int .i64 ft.B.m, .int .i64 ft.B.k, .int .i64 ft.B.d, .int .i64 ft.B.n, .int .i64 ft.B.s, .int .u8 ft.B.z, .int .i64 ft.B.v, .string ft.B.t] rfl rfl ((hHeld.tail (p := [.string nm, .int .i64 f.at_, .int .i64 f.off, .bool f.dst, .string f.ab, .slice ao' n c']) (c1 := zeF) (vs := Fn.fL ft) rfl rfl rfl).1) (by kernel_rfl) (Fn.fL_one ft) ?_)
  have hD := (hHeld.tail (p := [.string nm, .int .i64 f.at_, .int .i64 f.off, .bool f.dst, .string f.ab, .slice ao' n c']) (c1 := zeF) (vs := Fn.fL ft) rfl rfl rfl).2
  have hP := hHeld.put (p := [.string nm, .int .i64 f.at_, .int .i64 f.off, .bool f.dst, .string f.ab, .slice ao' n c']) (c1 := zeF) (vs := Fn.fL ft) rfl rfl rfl hne hV1
  refine hK.out _ _ hP (fun hHeld2 => ?_)
  refine gen_any (fun Z => Bx Z (w.heap.size + 1) zeT ∧ Bx Z b2 (tbF nm f (.slice ao' n c') (Fn.fL ft)) ∧ TrO Z (.slice ao' n c') L ∧ Below w.heap.size w Z) ⟨hP.2.2.1, hD, hP.2.2.2.1, hP.1⟩ ?_
  clear hK K hHeld hP hHeld2 hD
  rintro Z9 ⟨X1', X2', HT', B1'⟩
  refine wpAnyH_done (by kernel_rfl) ?_ _
  have X1 : Hid (Bx Z9 (w.heap.size + 1) zeT) := X1'
  have X2 : Hid (Bx Z9 b2 (tbF nm f (.slice ao' n c') (Fn.fL ft))) := X2'
  have B1 : Hid (Below w.heap.size w Z9 ∧ TrO Z9 (.slice ao' n c') L) := ⟨B1', HT'⟩
  clear X1' X2' HT' B1'
  obtain ⟨T2, hT2⟩ : ∃ T2, tbF nm f (.slice ao' n c') (Fn.fL ft) = T2 := ⟨_, rfl⟩
  have hl2 : T2.length = 25 := by rw [← hT2]; rfl
  have h12 : T2.toArray.all (·.oneCell') = true := by rw [← hT2]; exact one_tf nm f ao' n c' ft
  rw [hT2] at X2
  have hs9 : T2.toArray.size = 25 := by rw [List.size_toArray, hl2]
  have ht9 : Z9.there (w.heap.size + 1) 0 T2.toArray.size := by rw [hs9]; exact X1.out.there
  have hi9 : (Tryd.prog.info? 46).map (·.size) = some T2.toArray.size := by rw [hs9]; kernel_rfl
  have hg9 : Bx (Z9.setCells (w.heap.size + 1) 0 T2.toArray.toList) (w.heap.size + 1) T2 ∧ TrO (Z9.setCells (w.heap.size + 1) 0 T2.toArray.toList) (.slice ao' n c') L ∧ Below w.heap.size w (Z9.setCells (w.heap.size + 1) 0 T2.toArray.toList) := ⟨X1.out.setAll T2 (by rw [hl2]; rfl), tro_setCells B1.out.2 hne1, below_setCells (by omega) _ _ _ B1.out.1⟩
  go_wp2_with (first | (refine wpList_load_mid rfl 46 _ rfl b2 0 rfl T2 _ X2.out.all Tryd.underlying46 rfl (by rw [hl2]; kernel_rfl) ?_) | (refine wpList_store_mid rfl 46 _ _ rfl (w.heap.size + 1) 0 T2.toArray rfl rfl ht9 hi9 h12 ?_; refine gen_list (fun V => Bx V (w.heap.size + 1) T2 ∧ TrO V (.slice ao' n c') L ∧ Below w.heap.size w V) hg9 ?_; clear X1 X2 B1 ht9 hg9 hs9; rintro V ⟨XV, TV, BV⟩) | fail)
  exact bodyPost_ret (v := .agg T2.toArray) (results_c1 rfl _ _ _ _ rfl (run_loadVar_mid _ _ _ _ _ _ XV.all Tryd.underlying46 rfl (by rw [hl2]; kernel_rfl))) rfl ⟨_, by rw [hT2], TV, BV, HCAP.out⟩

set_option maxRecDepth 100000 in
set_option maxHeartbeats 8000000 in
theorem given14n (nm : ByteArray) (f : TrR) (ft : Fn.Ft) (w : World) (T : List Value) (hT : T = tbF nm f (.slice none 0 0) (Fn.fL ft)) :
    Calls Tryd.prog 5 #[.agg T.toArray] w fun e w' => ∃ sv', e = .returned (.agg (tbF nm f sv' (Fn.fL ft)).toArray) ∧ TrO w' sv' [] ∧ Below w.heap.size w w' ∧ Cap sv' := by
  have X0 : Hid (Bx ((w.alloc (.cells T.toArray 34)).alloc (.cells zeT.toArray 46)) w.heap.size T) := (Bx.new w T _).alloc _
  have X1 : Hid (Bx ((w.alloc (.cells T.toArray 34)).alloc (.cells zeT.toArray 46)) (w.heap.size + 1) zeT) := Bx.newAt _ zeT _ _ (by simp)
  have B1 : Hid (Below w.heap.size w ((w.alloc (.cells T.toArray 34)).alloc (.cells zeT.toArray 46))) := ((Below.refl _ _).alloc (Nat.le_refl _) _).alloc (by simp) _
  go_enter Tryd.func5, Tryd.ntmps5
  generalize hUA : T.toArray = UA at *
  go_upto_region 1 with fail
  refine gen_code (fun V => Bx V w.heap.size T ∧ Bx V (w.heap.size + 1) zeT ∧ Below w.heap.size w V) ⟨X0.out, X1.out, B1.out⟩ ?_
  clear X0 X1 B1
  rintro V ⟨X0', X1', B1'⟩
  have X0 : Hid (Bx V w.heap.size T) := X0'
  have X1 : Hid (Bx V (w.heap.size + 1) zeT) := X1'
  have B1 : Hid (Below w.heap.size w V) := B1'
  clear X0' X1' B1'
  have d0 : V.cell? ⟨w.heap.size, 0, none⟩ = some (.string nm) := X0.out.c 0 (by rw [hT]; rfl)
  have d1 : V.cell? ⟨w.heap.size, 1, none⟩ = some (.int .i64 f.at_) := X0.out.c 1 (by rw [hT]; rfl)
  have d2 : V.cell? ⟨w.heap.size, 2, none⟩ = some (.int .i64 f.off) := X0.out.c 2 (by rw [hT]; rfl)
  have d3 : V.cell? ⟨w.heap.size, 3, none⟩ = some (.bool f.dst) := X0.out.c 3 (by rw [hT]; rfl)
  have d4 : V.cell? ⟨w.heap.size, 4, none⟩ = some (.string f.ab) := X0.out.c 4 (by rw [hT]; rfl)
  have Y2 : Hid (Bx (V.alloc (.cells zeT.toArray 46)) V.heap.size zeT) := Bx.new V zeT _
  have Y0 : Hid (Bx (V.alloc (.cells zeT.toArray 46)) w.heap.size T) := X0.out.alloc _
  have Y1 : Hid (Bx (V.alloc (.cells zeT.toArray 46)) (w.heap.size + 1) zeT) := X1.out.alloc _
  have YB : Hid (Below w.heap.size w (V.alloc (.cells zeT.toArray 46))) := B1.out.alloc (B1.out.size) _
  have hV1 := X1.out.1
  go_upto_region 2 with (refine wpList_store_mid rfl 46 _ _ rfl V.heap.size 0 (tbF nm f (.slice none 0 0) zeF).toArray rfl rfl Y2.out.there (by kernel_rfl) (one_tb _ _ _ _ _) ?_; refine gen_list (fun U => Bx U w.heap.size T ∧ Bx U (w.heap.size + 1) zeT ∧ Bx U V.heap.size (tbF nm f (.slice none 0 0) zeF) ∧ Below w.heap.size w U) ⟨Y0.out.setOther (by omega) _, Y1.out.setOther (by omega) _, Y2.out.setAll _ rfl, below_setCells (by omega) _ _ _ YB.out⟩ ?_; clear X0 X1 B1 Y0 Y1 Y2 YB d0 d1 d2 d3 d4; rintro U ⟨X0', X1', X2', B1'⟩; have X0 : Hid (Bx U w.heap.size T) := X0'; have X1 : Hid (Bx U (w.heap.size + 1) zeT) := X1'; have X2 : Hid (Bx U V.heap.size (tbF nm f (.slice none 0 0) zeF)) := X2'; have B1 : Hid (Below w.heap.size w U) := B1'; clear X0' X1' X2' B1')
  obtain ⟨b2, hb2⟩ : ∃ b2, V.heap.size = b2 := ⟨_, rfl⟩
  rw [hb2] at X2 hV1 ⊢
  clear hb2 V
  obtain ⟨i1, hi1, hy0, hy1, hy2⟩ := info_parts infoT9
  have c5 : U.cell? ⟨b2, 5, none⟩ = some (.slice none 0 0) := X2.out.c 5 rfl
  have d5 : U.cell? ⟨w.heap.size, 5, none⟩ = some (.slice none 0 0) := X0.out.c 5 (by rw [hT]; rfl)
  have hbs := B1.out.size
  have hu2 := X2.out.1
  have z5 : U.frozen? ⟨b2, 5, none⟩ = false := X2.out.f 5 (v := .slice none 0 0) rfl
  go_upto_region 3 with (at_builtin; refine wpList_append_own_none rfl _ _ 24 rfl U.heap.size 23 i1 4 Tryd.underlying24 hi1 (.slice none 0 0) 0 [] rfl (World.ownsRow_nil _ _ _ _) rfl ?_)
  have HCAP : Hid (Cap (.slice none 0 0)) := fun ao n c h => by cases h; exact Nat.le_refl _
  have HTR : TrO U (.slice none 0 0) ([] : List TrR) := World.ownsRow_nil _ _ _ _
  have hne : ∀ (a : Addr) (m k : Nat), Value.slice none 0 0 = .slice (some a) m k → a.block ≠ b2 := fun a m k h => by cases h
  have hne1 : ∀ (a : Addr) (m k : Nat), Value.slice none 0 0 = .slice (some a) m k → a.block ≠ w.heap.size + 1 := fun a m k h => by cases h
  refine gen_code (fun Z => Bx Z w.heap.size T ∧ Bx Z (w.heap.size + 1) zeT ∧ Bx Z b2 (tbF nm f (.slice none 0 0) zeF) ∧ TrO Z (.slice none 0 0) [] ∧ Below w.heap.size w Z) ⟨bx_turns X0.out (Turns.setCell (M := [b2]) _ _ _ (by simp)) (by simp; omega), bx_turns X1.out (Turns.setCell (M := [b2]) _ _ _ (by simp)) (by simp; omega), bx_set1 X2.out 5 (.slice none 0 0) (by rw [tbF_len rfl]; decide), HTR.setC hne, B1.out.setCell (p := ⟨b2, 5, none⟩) (by simp; omega) _⟩ ?_
  clear HTR z5 c5 d5 X0 X1 X2 B1 hu2 hbs
  rintro Z ⟨X0', X1', X2', HT', B1'⟩
  have CA : Hid (∀ w : World, Calls Tryd.prog 16 #[.agg #[.int .i64 ft.A.m, .int .i64 ft.A.k, .int .i64 ft.A.d, .int .i64 ft.A.n, .int .i64 ft.A.s, .int .u8 ft.A.z, .int .i64 ft.A.v, .string ft.A.t]] w fun e w' => e = .returned (.agg #[.int .i64 ft.A.m, .int .i64 ft.A.k, .int .i64 ft.A.d, .int .i64 ft.A.n, .int .i64 ft.A.s, .int .u8 ft.A.z, .int .i64 ft.A.v, .string ft.A.t]) ∧ Below w.heap.size w w') := fun w => Fn.h14_any ft.A w
  have CB : Hid (∀ w : World, Calls Tryd.prog 16 #[.agg #[.int .i64 ft.B.m, .int .i64 ft.B.k, .int .i64 ft.B.d, .int .i64 ft.B.n, .int .i64 ft.B.s, .int .u8 ft.B.z, .int .i64 ft.B.v, .string ft.B.t]] w fun e w' => e = .returned (.agg #[.int .i64 ft.B.m, .int .i64 ft.B.k, .int .i64 ft.B.d, .int .i64 ft.B.n, .int .i64 ft.B.s, .int .u8 ft.B.z, .int .i64 ft.B.v, .string ft.B.t]) ∧ Below w.heap.size w w') := fun w => Fn.h14_any ft.B w
  go_wp2_with fail
  refine wp_region_held_drew (S := GT w T (tbF nm f (.slice none 0 0) zeF) (tbF nm f (.slice none 0 0) (Fn.fL ft)) b2 (.slice none 0 0) []) (by kernel_rfl) (show GT w T _ _ b2 _ [] Z.drew from ⟨B1'.drew, X0', X1', HT', .inl X2'⟩) (fun hHeld => ?_)
  refine wpAnyH_take (i := 0) (v := ?_) (oi := { dst := some 15, op := _, type := _, pos := _, after := _, guard := none }) rfl (by kernel_rfl) (by kernel_rfl) (by kernel_rfl) (fun _ _ _ h => h) (Or.inl ⟨by kernel_rfl, ?_⟩) (by assumption) ?_
  case refine_2 => (intro w9 hSw; clear hSw; go_simp; try with_reducible rfl)
  simp only [Act.put, List.setIfInBounds_toArray, List.set_cons_zero, List.set_cons_succ]
  refine wpAnyH_take (i := 1) (v := ?_) (oi := { dst := some 16, op := _, type := _, pos := _, after := _, guard := none }) rfl (by kernel_rfl) (by kernel_rfl) (by kernel_rfl) (fun _ _ _ h => h) (Or.inl ⟨by kernel_rfl, ?_⟩) (by assumption) ?_
  case refine_2 => (intro w9 hSw; clear hSw; go_simp; try with_reducible rfl)
  simp only [Act.put, List.setIfInBounds_toArray, List.set_cons_zero, List.set_cons_succ]
  refine wpAnyH_take (i := 2) (v := ?_) (oi := { dst := some 17, op := _, type := _, pos := _, after := _, guard := none }) rfl (by kernel_rfl) (by kernel_rfl) (by kernel_rfl) (fun _ _ _ h => h) (Or.inl ⟨by kernel_rfl, ?_⟩) (by assumption) ?_
  case refine_2 => (intro w9 hSw; have g6 : w9.cell? ⟨w.heap.size, 6, none⟩ = some (.bool ft.h) := hSw.2.1.c 6 (by rw [hT]; rfl); have g7 : w9.cell? ⟨w.heap.size, 7, none⟩ = some (.int .i64 ft.fr) := hSw.2.1.c 7 (by rw [hT]; rfl); have g8 : w9.cell? ⟨w.heap.size, 8, none⟩ = some (.int .i64 ft.off) := hSw.2.1.c 8 (by rw [hT]; rfl); clear hSw; go_simp; try with_reducible rfl)
  simp only [Act.put, List.setIfInBounds_toArray, List.set_cons_zero, List.set_cons_succ]
  refine wpAnyH_take (i := 3) (v := ?_) (oi := { dst := some 18, op := _, type := _, pos := _, after := _, guard := none }) rfl (by kernel_rfl) (by kernel_rfl) (by kernel_rfl) (fun _ _ _ h => h) (Or.inl ⟨by kernel_rfl, ?_⟩) (by assumption) ?_
  case refine_2 => (intro w9 hSw; clear hSw; go_simp; try with_reducible rfl)
  simp only [Act.put, List.setIfInBounds_toArray, List.set_cons_zero, List.set_cons_succ]
  refine wpAnyH_take (i := 4) (v := ?_) (oi := { dst := some 19, op := _, type := _, pos := _, after := _, guard := none }) rfl (by kernel_rfl) (by kernel_rfl) (by kernel_rfl) (fun _ _ _ h => h) (Or.inl ⟨by kernel_rfl, ?_⟩) (by assumption) ?_
  case refine_2 => (intro w9 hSw; clear hSw; go_simp; try with_reducible rfl)
  simp only [Act.put, List.setIfInBounds_toArray, List.set_cons_zero, List.set_cons_succ]
  refine wpAnyH_take (i := 5) (v := ?_) (oi := { dst := some 20, op := _, type := _, pos := _, after := _, guard := none }) rfl (by kernel_rfl) (by kernel_rfl) (by kernel_rfl) (fun _ _ _ h => h) (Or.inl ⟨by kernel_rfl, ?_⟩) (by assumption) ?_
  case refine_2 => (intro w9 hSw; have g6 : w9.cell? ⟨w.heap.size, 6, none⟩ = some (.bool ft.h) := hSw.2.1.c 6 (by rw [hT]; rfl); have g7 : w9.cell? ⟨w.heap.size, 7, none⟩ = some (.int .i64 ft.fr) := hSw.2.1.c 7 (by rw [hT]; rfl); have g8 : w9.cell? ⟨w.heap.size, 8, none⟩ = some (.int .i64 ft.off) := hSw.2.1.c 8 (by rw [hT]; rfl); clear hSw; go_simp; try with_reducible rfl)
  simp only [Act.put, List.setIfInBounds_toArray, List.set_cons_zero, List.set_cons_succ]
  refine wpAnyH_take (i := 6) (v := ?_) (oi := { dst := some 21, op := _, type := _, pos := _, after := _, guard := none }) rfl (by kernel_rfl) (by kernel_rfl) (by kernel_rfl) (fun _ _ _ h => h) (Or.inl ⟨by kernel_rfl, ?_⟩) (by assumption) ?_
  case refine_2 => (intro w9 hSw; clear hSw; go_simp; try with_reducible rfl)
  simp only [Act.put, List.setIfInBounds_toArray, List.set_cons_zero, List.set_cons_succ]
  refine wpAnyH_take (i := 7) (v := ?_) (oi := { dst := some 22, op := _, type := _, pos := _, after := _, guard := none }) rfl (by kernel_rfl) (by kernel_rfl) (by kernel_rfl) (fun _ _ _ h => h) (Or.inl ⟨by kernel_rfl, ?_⟩) (by assumption) ?_
  case refine_2 => (intro w9 hSw; clear hSw; go_simp; try with_reducible rfl)
  simp only [Act.put, List.setIfInBounds_toArray, List.set_cons_zero, List.set_cons_succ]
  refine wpAnyH_take (i := 8) (v := ?_) (oi := { dst := some 23, op := _, type := _, pos := _, after := _, guard := none }) rfl (by kernel_rfl) (by kernel_rfl) (by kernel_rfl) (fun _ _ _ h => h) (Or.inl ⟨by kernel_rfl, ?_⟩) (by assumption) ?_
  case refine_2 => (intro w9 hSw; have g6 : w9.cell? ⟨w.heap.size, 6, none⟩ = some (.bool ft.h) := hSw.2.1.c 6 (by rw [hT]; rfl); have g7 : w9.cell? ⟨w.heap.size, 7, none⟩ = some (.int .i64 ft.fr) := hSw.2.1.c 7 (by rw [hT]; rfl); have g8 : w9.cell? ⟨w.heap.size, 8, none⟩ = some (.int .i64 ft.off) := hSw.2.1.c 8 (by rw [hT]; rfl); clear hSw; go_simp; try with_reducible rfl)
  simp only [Act.put, List.setIfInBounds_toArray, List.set_cons_zero, List.set_cons_succ]
  refine wpAnyH_take (i := 9) (v := ?_) (oi := { dst := some 24, op := _, type := _, pos := _, after := _, guard := none }) rfl (by kernel_rfl) (by kernel_rfl) (by kernel_rfl) (fun _ _ _ h => h) (Or.inl ⟨by kernel_rfl, ?_⟩) (by assumption) ?_
  case refine_2 => (intro w9 hSw; clear hSw; go_simp; try with_reducible rfl)
  simp only [Act.put, List.setIfInBounds_toArray, List.set_cons_zero, List.set_cons_succ]
  refine wpAnyH_take (i := 10) (v := ?_) (oi := { dst := some 25, op := _, type := _, pos := _, after := _, guard := none }) rfl (by kernel_rfl) (by kernel_rfl) (by kernel_rfl) (fun _ _ _ h => h) (Or.inl ⟨by kernel_rfl, ?_⟩) (by assumption) ?_
  case refine_2 => (intro w9 hSw; clear hSw; go_simp; try with_reducible rfl)
  simp only [Act.put, List.setIfInBounds_toArray, List.set_cons_zero, List.set_cons_succ]
  refine wpAnyH_take (i := 11) (v := .agg #[.int .i64 ft.A.m, .int .i64 ft.A.k, .int .i64 ft.A.d, .int .i64 ft.A.n, .int .i64 ft.A.s, .int .u8 ft.A.z, .int .i64 ft.A.v, .string ft.A.t]) (oi := { dst := some 26, op := _, type := _, pos := _, after := _, guard := none }) rfl (by kernel_rfl) (by kernel_rfl) (by kernel_rfl) (fun _ _ _ h => h) (Or.inl ⟨by kernel_rfl, ?_⟩) (by assumption) ?_
  case refine_1 => (intro w9 hSw; exact exec_row (off := 9) rfl rfl (hSw.2.1.rng [.string nm, .int .i64 f.at_, .int .i64 f.off, .bool f.dst, .string f.ab, (.slice none 0 0), .bool ft.h, .int .i64 ft.fr, .int .i64 ft.off] [.int .i64 ft.A.m, .int .i64 ft.A.k, .int .i64 ft.A.d, .int .i64 ft.A.n, .int .i64 ft.A.s, .int .u8 ft.A.z, .int .i64 ft.A.v, .string ft.A.t] [.int .i64 ft.B.m, .int .i64 ft.B.k, .int .i64 ft.B.d, .int .i64 ft.B.n, .int .i64 ft.B.s, .int .u8 ft.B.z, .int .i64 ft.B.v, .string ft.B.t] (by rw [hT]; rfl)) Tryd.underlying30 rfl (by kernel_rfl))
  simp only [Act.put, List.setIfInBounds_toArray, List.set_cons_zero, List.set_cons_succ]
  refine wpAnyH_take (i := 13) (v := ?_) (oi := { dst := some 28, op := _, type := _, pos := _, after := _, guard := none }) rfl (by kernel_rfl) (by kernel_rfl) (by kernel_rfl) (fun _ _ _ h => h) (Or.inl ⟨by kernel_rfl, ?_⟩) (by assumption) ?_
  case refine_2 => (intro w9 hSw; clear hSw; go_simp; try with_reducible rfl)
  simp only [Act.put, List.setIfInBounds_toArray, List.set_cons_zero, List.set_cons_succ]
  refine wpAnyH_take (i := 14) (v := ?_) (oi := { dst := some 29, op := _, type := _, pos := _, after := _, guard := none }) rfl (by kernel_rfl) (by kernel_rfl) (by kernel_rfl) (fun _ _ _ h => h) (Or.inl ⟨by kernel_rfl, ?_⟩) (by assumption) ?_
  case refine_2 => (intro w9 hSw; clear hSw; go_simp; try with_reducible rfl)
  simp only [Act.put, List.setIfInBounds_toArray, List.set_cons_zero, List.set_cons_succ]
  refine wpAnyH_take (i := 15) (v := .agg #[.int .i64 ft.B.m, .int .i64 ft.B.k, .int .i64 ft.B.d, .int .i64 ft.B.n, .int .i64 ft.B.s, .int .u8 ft.B.z, .int .i64 ft.B.v, .string ft.B.t]) (oi := { dst := some 30, op := _, type := _, pos := _, after := _, guard := none }) rfl (by kernel_rfl) (by kernel_rfl) (by kernel_rfl) (fun _ _ _ h => h) (Or.inl ⟨by kernel_rfl, ?_⟩) (by assumption) ?_
  case refine_1 => (intro w9 hSw; exact exec_row (off := 17) rfl rfl (hSw.2.1.rng [.string nm, .int .i64 f.at_, .int .i64 f.off, .bool f.dst, .string f.ab, (.slice none 0 0), .bool ft.h, .int .i64 ft.fr, .int .i64 ft.off, .int .i64 ft.A.m, .int .i64 ft.A.k, .int .i64 ft.A.d, .int .i64 ft.A.n, .int .i64 ft.A.s, .int .u8 ft.A.z, .int .i64 ft.A.v, .string ft.A.t] [.int .i64 ft.B.m, .int .i64 ft.B.k, .int .i64 ft.B.d, .int .i64 ft.B.n, .int .i64 ft.B.s, .int .u8 ft.B.z, .int .i64 ft.B.v, .string ft.B.t] [] (by rw [hT]; rfl)) Tryd.underlying30 rfl (by kernel_rfl))
  simp only [Act.put, List.setIfInBounds_toArray, List.set_cons_zero, List.set_cons_succ]
  refine wpAnyH_ready (rs := [12]) (by kernel_rfl) (by simp) (AllReadyH.cons (o := { dst := some 27, op := _, type := _, pos := _, after := _, guard := none }) rfl (fun K hK => ?_) AllReadyH.nil)
  go_simp
  refine (CA.out _).mono ?_
  rintro e v1 ⟨rfl, hb1⟩
  refine hK.out _ _ (hHeld.below hb1) (fun hHeld => ?_)
  clear hK K hb1
  refine wpAnyH_ready (rs := [16]) (by kernel_rfl) (by simp) (AllReadyH.cons (o := { dst := some 31, op := _, type := _, pos := _, after := _, guard := none }) rfl (fun K hK => ?_) AllReadyH.nil)
  go_simp
  refine (CB.out _).mono ?_
  rintro e v2 ⟨rfl, hb2⟩
  refine hK.out _ _ (hHeld.below hb2) (fun hHeld => ?_)
  clear hK K hb2
  refine wpAnyH_take (i := 17) (v := ?_) (oi := { dst := some 32, op := _, type := _, pos := _, after := _, guard := none }) rfl (by kernel_rfl) (by kernel_rfl) (by kernel_rfl) (fun _ _ _ h => h) (Or.inl ⟨by kernel_rfl, ?_⟩) (by assumption) ?_
  case refine_2 => (intro w9 hSw; clear hSw; go_simp; try with_reducible rfl)
  simp only [Act.put, List.setIfInBounds_toArray, List.set_cons_zero, List.set_cons_succ]
  refine wpAnyH_take (i := 18) (v := ?_) (oi := { dst := some 33, op := _, type := _, pos := _, after := _, guard := none }) rfl (by kernel_rfl) (by kernel_rfl) (by kernel_rfl) (fun _ _ _ h => h) (Or.inl ⟨by kernel_rfl, ?_⟩) (by assumption) ?_
  case refine_2 => (intro w9 hSw; clear hSw; go_simp; try with_reducible rfl)
  simp only [Act.put, List.setIfInBounds_toArray, List.set_cons_zero, List.set_cons_succ]
  refine wpAnyH_ready (rs := [19]) (by kernel_rfl) (by simp) (AllReadyH.cons (o := { dst := none, op := _, type := _, pos := _, after := _, guard := none }) rfl (fun K hK => ?_) AllReadyH.nil)
  refine (if_pos (by kernel_rfl)).mpr (wp_store_mid 44 _ _ rfl b2 6 #[.bool ft.h, .int .i64 ft.fr, .int .i64 ft.off, .int .i64 ft.A.m, .int .i64 ft.A.k, .int .i64 ft.A.d, .int .i64 ft.A.n, .int .i64 ft.A.s, .int .u8 ft.A.z, .int .i64 ft.A.v, .string ft.A.t, .int .i64 ft.B.m, .int .i64 ft.B.k, .int .i64 ft.B.d, .int .i64 ft.B.n, .int .i64 ft.B.s, .int .u8 ft.B.z, .int .i64 ft.B.v, .string ft.B.t] rfl rfl ((hHeld.tail (p := [.string nm, .int .i64 f.at_, .int .i64 f.off, .bool f.dst, .string f.ab, .slice none 0 0]) (c1 := zeF) (vs := Fn.fL ft) rfl rfl rfl).1) (by kernel_rfl) (Fn.fL_one ft) ?_)
  have hD := (hHeld.tail (p := [.string nm, .int .i64 f.at_, .int .i64 f.off, .bool f.dst, .string f.ab, .slice none 0 0]) (c1 := zeF) (vs := Fn.fL ft) rfl rfl rfl).2
  have hP := hHeld.put (p := [.string nm, .int .i64 f.at_, .int .i64 f.off, .bool f.dst, .string f.ab, .slice none 0 0]) (c1 := zeF) (vs := Fn.fL ft) rfl rfl rfl hne hV1
  refine hK.out _ _ hP (fun hHeld2 => ?_)
  refine gen_any (fun Z => Bx Z (w.heap.size + 1) zeT ∧ Bx Z b2 (tbF nm f (.slice none 0 0) (Fn.fL ft)) ∧ TrO Z (.slice none 0 0) [] ∧ Below w.heap.size w Z) ⟨hP.2.2.1, hD, hP.2.2.2.1, hP.1⟩ ?_
  clear hK K hHeld hP hHeld2 hD
  rintro Z9 ⟨X1', X2', HT', B1'⟩
  refine wpAnyH_done (by kernel_rfl) ?_ _
  have X1 : Hid (Bx Z9 (w.heap.size + 1) zeT) := X1'
  have X2 : Hid (Bx Z9 b2 (tbF nm f (.slice none 0 0) (Fn.fL ft))) := X2'
  have B1 : Hid (Below w.heap.size w Z9 ∧ TrO Z9 (.slice none 0 0) []) := ⟨B1', HT'⟩
  clear X1' X2' HT' B1'
  obtain ⟨T2, hT2⟩ : ∃ T2, tbF nm f (.slice none 0 0) (Fn.fL ft) = T2 := ⟨_, rfl⟩
  have hl2 : T2.length = 25 := by rw [← hT2]; rfl
  have h12 : T2.toArray.all (·.oneCell') = true := by rw [← hT2]; exact one_tf nm f none 0 0 ft
  rw [hT2] at X2
  have hs9 : T2.toArray.size = 25 := by rw [List.size_toArray, hl2]
  have ht9 : Z9.there (w.heap.size + 1) 0 T2.toArray.size := by rw [hs9]; exact X1.out.there
  have hi9 : (Tryd.prog.info? 46).map (·.size) = some T2.toArray.size := by rw [hs9]; kernel_rfl
  have hg9 : Bx (Z9.setCells (w.heap.size + 1) 0 T2.toArray.toList) (w.heap.size + 1) T2 ∧ TrO (Z9.setCells (w.heap.size + 1) 0 T2.toArray.toList) (.slice none 0 0) [] ∧ Below w.heap.size w (Z9.setCells (w.heap.size + 1) 0 T2.toArray.toList) := ⟨X1.out.setAll T2 (by rw [hl2]; rfl), tro_setCells B1.out.2 hne1, below_setCells (by omega) _ _ _ B1.out.1⟩
  go_wp2_with (first | (refine wpList_load_mid rfl 46 _ rfl b2 0 rfl T2 _ X2.out.all Tryd.underlying46 rfl (by rw [hl2]; kernel_rfl) ?_) | (refine wpList_store_mid rfl 46 _ _ rfl (w.heap.size + 1) 0 T2.toArray rfl rfl ht9 hi9 h12 ?_; refine gen_list (fun V => Bx V (w.heap.size + 1) T2 ∧ TrO V (.slice none 0 0) [] ∧ Below w.heap.size w V) hg9 ?_; clear X1 X2 B1 ht9 hg9 hs9; rintro V ⟨XV, TV, BV⟩) | fail)
  exact bodyPost_ret (v := .agg T2.toArray) (results_c1 rfl _ _ _ _ rfl (run_loadVar_mid _ _ _ _ _ _ XV.all Tryd.underlying46 rfl (by rw [hl2]; kernel_rfl))) rfl ⟨_, by rw [hT2], TV, BV, HCAP.out⟩

/-- given of any table. -/
theorem given_any14 (t : TbR) (sv : Value) (w : World) (HT : TransA w sv t.trs) (h40 : t.trs.length * 40 ≤ 140737488355328) (hg : ∀ a n c, sv = .slice (some a) n c → a.block < w.heap.size ∧ a.spot = none) :
    Calls Tryd.prog 5 #[.agg (tbL t sv).toArray] w fun e w' => ∃ sv', e = .returned (.agg (tbL t sv').toArray) ∧ TrO w' sv' t.trs ∧ Below w.heap.size w w' ∧ Cap sv' := by
  rcases HT with ⟨rfl, hL⟩ | ⟨a, cap, rfl, h1, h2, hc⟩
  · rw [hL]
    exact given14n t.nm t.first t.foot w _ rfl
  · obtain ⟨h3, h4⟩ := hg _ _ _ rfl
    obtain ⟨g, o, s⟩ := a
    simp only at h3 h4
    subst h4
    have hcs : ∀ j u, (trCs t.trs)[j]? = some u → w.cell? ⟨g, o + j, none⟩ = some u := fun j u hu => by
      have := hc j u hu
      unfold Addr.add at this
      split at this
      · rename_i h; subst h; simpa using this
      · exact this
    have hm : t.trs.length ≤ maxLen := by omega
    exact given14 t.nm t.first t.trs t.foot g o t.trs.length cap rfl w h3 hcs h40 hm _ rfl

end Go.Proofs.YtcgcljfdfimfgaaDoor
