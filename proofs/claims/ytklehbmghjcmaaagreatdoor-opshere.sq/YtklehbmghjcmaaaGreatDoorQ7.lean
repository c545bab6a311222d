import Derived.Test.YtklehbmghjcmaaaGreatDoorQz
import Derived.Test.YtklehbmghjcmaaaGreatDoorQ4
import Derived.Test.YtklehbmghjcmaaaGreatDoorQ6
import Derived.Laws.AppendOwnNone
import Derived.Test.YtklehbmghjcmaaaGreatDoorQ0
import Derived.Laws.StructEq
import Derived.Deep.Cut
import Derived.Deep.QuietTactic
import Derived.BigQuiet
open Go.Value renaming int → vi
open Go.IntKind renaming i64 → ki
open List renaming setIfInBounds_toArray → zb, set_cons_zero → zc, set_cons_succ → zd
open Go.Act renaming put → za
open Go.Ending renaming returned → zr
set_option maxRecDepth 100000
set_option maxHeartbeats 16000000
set_option linter.unusedVariables false
namespace Go.Proofs.YtklehbmghjcmaaaGreatDoor
open Go.RowKit Sr
theorem one_tb (nm : ByteArray) (f : TrR) (ao : Option Addr) (n c : Nat) : (tbF nm f (.slice ao n c) zeF).toArray.all (·.oneCell') = true := by
 simp [tbF, trC, zeF, Value.oneCell']
theorem TrAt.setC {W : World} {b i : Nat} {v sv : Value} {L : List TrR} (h : TrAt W sv L) (hg : ∀ a n c, sv = .slice (some a) n c → a.block ≠ b) : TrAt (W.setCell ⟨b, i, none⟩ v) sv L := by
 obtain ⟨h1, h2, h3⟩ := h
 refine ⟨h1, h2, h3.imp_right ?_⟩
 rintro ⟨g', o', c', e, hg', hc⟩
 have hne := hg _ _ _ e
 exact ⟨_, _, _, e, by simpa using hg', fun j u hj => (World.cell?_setCell_other _ _ _ _ (fun q => hne (by cases q; rfl))).trans (hc j u hj)⟩
theorem trat_setCells {W : World} {b i : Nat} {vs : List Value} {sv : Value} {L : List TrR} (h : TrAt W sv L) (hg : ∀ (a : Addr) (m k : Nat), sv = .slice (some a) m k → a.block ≠ b) : TrAt (W.setCells b i vs) sv L := by
 obtain ⟨h1, h2, h3⟩ := h
 refine ⟨h1, h2, h3.imp_right ?_⟩
 rintro ⟨g', o', c', e, hg', hc⟩
 have hne := hg _ _ _ e
 exact ⟨_, _, _, e, by rw [setCells_size]; exact hg', fun j u hj => (setCells_off b vs W i ⟨g', o' + j, none⟩ hne).trans (hc j u hj)⟩
theorem bx_tail {W : World} {b : Nat} {p cs : List Value} (h : Bx W b (p ++ cs)) (vs : List Value) (hl : cs.length = vs.length) : W.there b p.length cs.length ∧ Bx (W.setCells b p.length vs) b (p ++ vs) := by
 have ht : W.there b p.length cs.length := fun j hj => by
  have hj2 : (p ++ cs)[p.length + j]? = some cs[j] := by rw [List.getElem?_append_right (by omega), show p.length + j - p.length = j by omega, List.getElem?_eq_getElem hj]
  have := h.2 (p.length + j) _ hj2
  exact ⟨by rw [this.1]; rfl, this.2⟩
 refine ⟨ht, by rw [setCells_size]; exact h.1, fun i v e => ?_⟩
 have hi := (List.getElem?_eq_some_iff.1 e).1
 rw [List.length_append] at hi
 have hf : W.frozen? ⟨b, i, none⟩ = false := (h.2 i _ (List.getElem?_eq_getElem (by rw [List.length_append]; omega))).2
 refine ⟨?_, by rw [World.frozen?_setCells]; exact hf⟩
 by_cases hip : i < p.length
 ·rw [List.getElem?_append_left hip] at e
  refine (World.cell?_setCells_out b vs p.length W ⟨b, i, none⟩ (fun _ _ => .inl hip)).trans ?_
  exact (h.2 i v (by rw [List.getElem?_append_left hip]; exact e)).1
 ·rw [List.getElem?_append_right (by omega)] at e
  have := World.rangeAt_setCells_same W b p.length vs (hl ▸ ht) (i - p.length) v e
  rwa [show p.length + (i - p.length) = i by omega] at this
def Cap (sv : Value) : Prop := ∀ ao n c, sv = .slice ao n c → n ≤ c
theorem cap_own {W : World} {base : Nat} {e : TypeId} {size : Nat} {v : Value} {n : Nat} {xs : List Value} (h : W.ownsRow base e size v n xs) : Cap v := fun ao m c hv => by
 rcases h.2 with ⟨e, z⟩ | ⟨g, cap, cur, e, _, _, h5, _⟩
 ·rw [e] at hv; cases hv; exact Nat.le_refl _
 ·rw [e] at hv; cases hv; exact h5
def GT (w : World) (T T1 T2 : List Value) (b2 : Nat) (sv : Value) (L : List TrR) (W : World) : Prop := Below w.heap.size w W ∧ Bx W w.heap.size T ∧ Bx W (w.heap.size + 1) zeT ∧ TrAt W sv L ∧ (Bx W b2 T1 ∨ Bx W b2 T2)
section
variable {w W V : World} {T T1 T2 : List Value} {b2 : Nat} {sv : Value} {L : List TrR}
theorem GT.below (h : GT w T T1 T2 b2 sv L W) (hb : Below W.heap.size W V) : GT w T T1 T2 b2 sv L V := ⟨h.1.trans (hb.mono h.1.size), h.2.1.below hb, h.2.2.1.below hb, h.2.2.2.1.mv hb, h.2.2.2.2.imp (·.below hb) (·.below hb)⟩
theorem GT.tail (h : GT w T T1 T2 b2 sv L W) {p c1 vs : List Value} (e1 : T1 = p ++ c1) (e2 : T2 = p ++ vs) (hl : c1.length = vs.length) : W.there b2 p.length vs.length ∧ Bx (W.setCells b2 p.length vs) b2 T2 := by
 subst e1 e2
 rcases h.2.2.2.2 with q | q
 ·have := bx_tail q vs hl; rw [hl] at this; exact this
 ·exact bx_tail q vs rfl
theorem GT.put (h : GT w T T1 T2 b2 sv L W) {p c1 vs : List Value} (e1 : T1 = p ++ c1) (e2 : T2 = p ++ vs) (hl : c1.length = vs.length) (hg : ∀ (a : Addr) (m k : Nat), sv = .slice (some a) m k → a.block ≠ b2) (h2 : w.heap.size + 1 < b2) : GT w T T1 T2 b2 sv L (W.setCells b2 p.length vs) :=
 ⟨below_setCells (by omega) _ _ _ h.1, h.2.1.setOther (by omega) _ _, h.2.2.1.setOther (by omega) _ _, trat_setCells h.2.2.2.1 hg, .inr (h.tail e1 e2 hl).2⟩
end
theorem one_tf (nm : ByteArray) (f : TrR) (ao : Option Addr) (n c : Nat) (ft : Fn.Ft) : (tbF nm f (.slice ao n c) (Fn.fL ft)).toArray.all (·.oneCell') = true := by
 simp [tbF, trC, Fn.fL, Value.oneCell']
theorem given20 (nm : ByteArray) (f : TrR) (L : List TrR) (ft : Fn.Ft) (g o n c : Nat) (hn : L.length = n) (w : World) (HT : Hid (TrAt w (.slice (some ⟨g, o, none⟩) n c) L)) (hg : g < w.heap.size) (hcs : Hid (∀ j u, (trCs L)[j]? = some u → w.cell? ⟨g, o + j, none⟩ = some u)) (h40 : n * 40 ≤ 140737488355328) (hm : n ≤ maxLen) (T : List Value) (hT : T = tbF nm f (.slice (some ⟨g, o, none⟩) n c) (Fn.fL ft)) :
  Calls Tryz.prog 27 #[.agg T.toArray] w fun e w' => ∃ sv', e = zr (.agg (tbF nm f sv' (Fn.fL ft)).toArray) ∧ TrAt w' sv' L ∧ Below w.heap.size w w' ∧ Cap sv' := by
 have X0 : Hid (Bx ((w.alloc (.cells T.toArray 34)).alloc (.cells zeT.toArray 44)) w.heap.size T) := (Bx.new w T _).alloc _
 have X1 : Hid (Bx ((w.alloc (.cells T.toArray 34)).alloc (.cells zeT.toArray 44)) (w.heap.size + 1) zeT) := Bx.newAt _ zeT _ _ (by simp)
 have B1 : Hid (Below w.heap.size w ((w.alloc (.cells T.toArray 34)).alloc (.cells zeT.toArray 44))) := ((Below.refl _ _).alloc (Nat.le_refl _) _).alloc (by simp) _
 go_enter Tryz.func27, Tryz.ntmps27
 generalize hUA : T.toArray = UA at *
 go_upto_region 1 with fail
 refine gen_code (fun V => Bx V w.heap.size T ∧ Bx V (w.heap.size + 1) zeT ∧ Below w.heap.size w V) ⟨X0.out, X1.out, B1.out⟩ ?_
 clear X0 X1 B1
 rintro V ⟨X0', X1', B1'⟩
 have X0 : Hid (Bx V w.heap.size T) := X0'
 have X1 : Hid (Bx V (w.heap.size + 1) zeT) := X1'
 have B1 : Hid (Below w.heap.size w V) := B1'
 clear X0' X1' B1'
 have d0 : V.cell? ⟨w.heap.size, 0, none⟩ = some (.string nm) := X0.out.c 0 (by rw [hT]; rfl)
 have d1 : V.cell? ⟨w.heap.size, 1, none⟩ = some (vi ki f.at_) := X0.out.c 1 (by rw [hT]; rfl)
 have d2 : V.cell? ⟨w.heap.size, 2, none⟩ = some (vi ki f.off) := X0.out.c 2 (by rw [hT]; rfl)
 have d3 : V.cell? ⟨w.heap.size, 3, none⟩ = some (.bool f.dst) := X0.out.c 3 (by rw [hT]; rfl)
 have d4 : V.cell? ⟨w.heap.size, 4, none⟩ = some (.string f.ab) := X0.out.c 4 (by rw [hT]; rfl)
 have Y2 : Hid (Bx (V.alloc (.cells zeT.toArray 44)) V.heap.size zeT) := Bx.new V zeT _
 have Y0 : Hid (Bx (V.alloc (.cells zeT.toArray 44)) w.heap.size T) := X0.out.alloc _
 have Y1 : Hid (Bx (V.alloc (.cells zeT.toArray 44)) (w.heap.size + 1) zeT) := X1.out.alloc _
 have YB : Hid (Below w.heap.size w (V.alloc (.cells zeT.toArray 44))) := B1.out.alloc (B1.out.size) _
 have hV1 := X1.out.1
 go_upto_region 2 with (refine wpList_store_mid rfl 44 _ _ rfl V.heap.size 0 (tbF nm f (.slice none 0 0) zeF).toArray rfl rfl Y2.out.there (by kernel_rfl) (one_tb _ _ _ _ _) ?_; refine gen_list (fun U => Bx U w.heap.size T ∧ Bx U (w.heap.size + 1) zeT ∧ Bx U V.heap.size (tbF nm f (.slice none 0 0) zeF) ∧ Below w.heap.size w U) ⟨Y0.out.setOther (by omega) _, Y1.out.setOther (by omega) _, Y2.out.setAll _ rfl, below_setCells (by omega) _ _ _ YB.out⟩ ?_; clear X0 X1 B1 Y0 Y1 Y2 YB d0 d1 d2 d3 d4; rintro U ⟨X0', X1', X2', B1'⟩; have X0 : Hid (Bx U w.heap.size T) := X0'; have X1 : Hid (Bx U (w.heap.size + 1) zeT) := X1'; have X2 : Hid (Bx U V.heap.size (tbF nm f (.slice none 0 0) zeF)) := X2'; have B1 : Hid (Below w.heap.size w U) := B1'; clear X0' X1' X2' B1')
 obtain ⟨b2, hb2⟩ : ∃ b2, V.heap.size = b2 := ⟨_, rfl⟩
 rw [hb2] at X2 hV1 ⊢
 clear hb2 V
 obtain ⟨i1, hi1, hy0, hy1, hy2⟩ := info_parts infoT9
 have c5 : U.cell? ⟨b2, 5, none⟩ = some (.slice none 0 0) := X2.out.c 5 rfl
 have d5 : U.cell? ⟨w.heap.size, 5, none⟩ = some (.slice (some ⟨g, o, none⟩) n c) := X0.out.c 5 (by rw [hT]; rfl)
 have hN : Hid (∀ j u, (trCs L)[j]? = some u → U.cell? ((⟨g, o, none⟩ : Addr).add j) = some u) := fun j u hu => by
  have h1 := (B1.out.cell (p := ⟨g, o + j, none⟩) hg).trans (hcs.out j u hu)
  unfold Addr.add
  split
  ·rename_i h; subst h; simpa using h1
  ·exact h1
 have hbs := B1.out.size
 have hu2 := X2.out.1
 go_upto_region 3 with (at_builtin; refine wpList_append_own _ rfl _ _ 24 rfl U.heap.size 23 i1 (.agg #[vi ki 0, vi ki 0, .bool false, .string ⟨#[]⟩]) 4 40 Tryz.underlying24 hi1 hy0 hy1 hy2 rfl (by decide) (.slice none 0 0) 0 [] rfl (World.ownsRow_nil _ _ _ _) ⟨g, o, none⟩ n c (trCs L) rfl (by rw [trCs_len, hn]) hN.out (trCs_one L) (by omega) (by omega) (Nat.le_refl _) ?_; intro v' w9 hown' hgrow' _; rw [Nat.zero_add] at hown'; obtain ⟨ao', c', hv'⟩ := tr_len hown'; subst hv'; have hb9 : Below U.heap.size U w9 := ⟨hgrow'.os, hgrow'.tape, hgrow'.output, hgrow'.size, fun k hk => hgrow'.block k hk (by simp [Value.ownBlock])⟩; have X9 := X2.out.below hb9; have c9 := X9.c 5 rfl; have z9 := X9.f 5 (v := .slice none 0 0) rfl)
 rw [List.nil_append] at hown'
 have HCAP : Hid (Cap (.slice ao' n c')) := cap_own hown'
 have HTR : TrAt w9 (.slice ao' n c') L := TrAt.of_own (L := L) (by rw [hn]; exact hown')
 have hne : ∀ (a : Addr) (m k : Nat), Value.slice ao' n c' = .slice (some a) m k → a.block ≠ b2 := by
  rcases hown'.2 with ⟨e, _⟩ | ⟨g', cap', cur, e, hb, _⟩
  ·intro a m k h; rw [e] at h; cases h
  ·intro a m k h; rw [e] at h; cases h; simp; omega
 have hne1 : ∀ (a : Addr) (m k : Nat), Value.slice ao' n c' = .slice (some a) m k → a.block ≠ w.heap.size + 1 := by
  rcases hown'.2 with ⟨e, _⟩ | ⟨g', cap', cur, e, hb, _⟩
  ·intro a m k h; rw [e] at h; cases h
  ·intro a m k h; rw [e] at h; cases h; simp; omega
 refine gen_code (fun Z => Bx Z w.heap.size T ∧ Bx Z (w.heap.size + 1) zeT ∧ Bx Z b2 (tbF nm f (.slice ao' n c') zeF) ∧ TrAt Z (.slice ao' n c') L ∧ Below w.heap.size w Z) ⟨bx_turns (X0.out.below hb9) (Turns.setCell (M := [b2]) _ _ _ (by simp)) (by simp; omega), bx_turns (X1.out.below hb9) (Turns.setCell (M := [b2]) _ _ _ (by simp)) (by simp; omega), bx_set1 X9 5 (.slice ao' n c') (by rw [tbF_len rfl]; decide), HTR.setC hne, (B1.out.trans (hb9.mono hbs)).setCell (p := ⟨b2, 5, none⟩) (by simp; omega) _⟩ ?_
 clear HTR X9 c9 z9 hb9 hgrow' hown' c5 d5 hN X0 X1 X2 B1 hu2 hbs
 rintro Z ⟨X0', X1', X2', HT', B1'⟩
 have CA : Hid (∀ w : World, Calls Tryz.prog 70 #[.agg #[vi ki ft.A.m, vi ki ft.A.k, vi ki ft.A.d, vi ki ft.A.n, vi ki ft.A.s, .int .u8 ft.A.z, vi ki ft.A.v, .string ft.A.t]] w fun e w' => e = zr (.agg #[vi ki ft.A.m, vi ki ft.A.k, vi ki ft.A.d, vi ki ft.A.n, vi ki ft.A.s, .int .u8 ft.A.z, vi ki ft.A.v, .string ft.A.t]) ∧ Below w.heap.size w w') := fun w => Fn.h17_any ft.A w
 have CB : Hid (∀ w : World, Calls Tryz.prog 70 #[.agg #[vi ki ft.B.m, vi ki ft.B.k, vi ki ft.B.d, vi ki ft.B.n, vi ki ft.B.s, .int .u8 ft.B.z, vi ki ft.B.v, .string ft.B.t]] w fun e w' => e = zr (.agg #[vi ki ft.B.m, vi ki ft.B.k, vi ki ft.B.d, vi ki ft.B.n, vi ki ft.B.s, .int .u8 ft.B.z, vi ki ft.B.v, .string ft.B.t]) ∧ Below w.heap.size w w') := fun w => Fn.h17_any ft.B w
 go_wp2_with fail
 refine wp_region_held_drew (S := GT w T (tbF nm f (.slice ao' n c') zeF) (tbF nm f (.slice ao' n c') (Fn.fL ft)) b2 (.slice ao' n c') L) (by kernel_rfl) (show GT w T _ _ b2 _ L Z.drew from ⟨B1'.drew, X0', X1', HT', .inl X2'⟩) (fun hHeld => ?_)
 refine tks 0 ⟨some 15, _, _, _, _, none⟩ rfl ?_
 simp only [za, zb, zc, zd]
 refine tks 1 ⟨some 16, _, _, _, _, none⟩ rfl ?_
 simp only [za, zb, zc, zd]
 refine tk (v := ?_) 2 ⟨some 17, _, _, _, _, none⟩ rfl ?_ ?_
 case refine_2 => (intro w9 hSw; have g6 : w9.cell? ⟨w.heap.size, 6, none⟩ = some (.bool ft.h) := hSw.2.1.c 6 (by rw [hT]; rfl); have g7 : w9.cell? ⟨w.heap.size, 7, none⟩ = some (vi ki ft.fr) := hSw.2.1.c 7 (by rw [hT]; rfl); have g8 : w9.cell? ⟨w.heap.size, 8, none⟩ = some (vi ki ft.off) := hSw.2.1.c 8 (by rw [hT]; rfl); clear hSw; go_simp; try with_reducible rfl)
 simp only [za, zb, zc, zd]
 refine tks 3 ⟨some 18, _, _, _, _, none⟩ rfl ?_
 simp only [za, zb, zc, zd]
 refine tks 4 ⟨some 19, _, _, _, _, none⟩ rfl ?_
 simp only [za, zb, zc, zd]
 refine tk (v := ?_) 5 ⟨some 20, _, _, _, _, none⟩ rfl ?_ ?_
 case refine_2 => (intro w9 hSw; have g6 : w9.cell? ⟨w.heap.size, 6, none⟩ = some (.bool ft.h) := hSw.2.1.c 6 (by rw [hT]; rfl); have g7 : w9.cell? ⟨w.heap.size, 7, none⟩ = some (vi ki ft.fr) := hSw.2.1.c 7 (by rw [hT]; rfl); have g8 : w9.cell? ⟨w.heap.size, 8, none⟩ = some (vi ki ft.off) := hSw.2.1.c 8 (by rw [hT]; rfl); clear hSw; go_simp; try with_reducible rfl)
 simp only [za, zb, zc, zd]
 refine tks 6 ⟨some 21, _, _, _, _, none⟩ rfl ?_
 simp only [za, zb, zc, zd]
 refine tks 7 ⟨some 22, _, _, _, _, none⟩ rfl ?_
 simp only [za, zb, zc, zd]
 refine tk (v := ?_) 8 ⟨some 23, _, _, _, _, none⟩ rfl ?_ ?_
 case refine_2 => (intro w9 hSw; have g6 : w9.cell? ⟨w.heap.size, 6, none⟩ = some (.bool ft.h) := hSw.2.1.c 6 (by rw [hT]; rfl); have g7 : w9.cell? ⟨w.heap.size, 7, none⟩ = some (vi ki ft.fr) := hSw.2.1.c 7 (by rw [hT]; rfl); have g8 : w9.cell? ⟨w.heap.size, 8, none⟩ = some (vi ki ft.off) := hSw.2.1.c 8 (by rw [hT]; rfl); clear hSw; go_simp; try with_reducible rfl)
 simp only [za, zb, zc, zd]
 refine tks 9 ⟨some 24, _, _, _, _, none⟩ rfl ?_
 simp only [za, zb, zc, zd]
 refine tks 10 ⟨some 25, _, _, _, _, none⟩ rfl ?_
 simp only [za, zb, zc, zd]
 refine wpAnyH_take (i := 11) (v := .agg #[vi ki ft.A.m, vi ki ft.A.k, vi ki ft.A.d, vi ki ft.A.n, vi ki ft.A.s, .int .u8 ft.A.z, vi ki ft.A.v, .string ft.A.t]) (oi := ⟨some 26, _, _, _, _, none⟩) rfl (by kernel_rfl) (by kernel_rfl) (by kernel_rfl) (fun _ _ _ h => h) (Or.inl ⟨by kernel_rfl, ?_⟩) (by assumption) ?_
 case refine_1 => (intro w9 hSw; exact exec_row (off := 9) rfl rfl (hSw.2.1.rng [.string nm, vi ki f.at_, vi ki f.off, .bool f.dst, .string f.ab, (.slice (some ⟨g, o, none⟩) n c), .bool ft.h, vi ki ft.fr, vi ki ft.off] [vi ki ft.A.m, vi ki ft.A.k, vi ki ft.A.d, vi ki ft.A.n, vi ki ft.A.s, .int .u8 ft.A.z, vi ki ft.A.v, .string ft.A.t] [vi ki ft.B.m, vi ki ft.B.k, vi ki ft.B.d, vi ki ft.B.n, vi ki ft.B.s, .int .u8 ft.B.z, vi ki ft.B.v, .string ft.B.t] (by rw [hT]; rfl)) Tryz.underlying30 rfl (by kernel_rfl))
 simp only [za, zb, zc, zd]
 refine tks 13 ⟨some 28, _, _, _, _, none⟩ rfl ?_
 simp only [za, zb, zc, zd]
 refine tks 14 ⟨some 29, _, _, _, _, none⟩ rfl ?_
 simp only [za, zb, zc, zd]
 refine wpAnyH_take (i := 15) (v := .agg #[vi ki ft.B.m, vi ki ft.B.k, vi ki ft.B.d, vi ki ft.B.n, vi ki ft.B.s, .int .u8 ft.B.z, vi ki ft.B.v, .string ft.B.t]) (oi := ⟨some 30, _, _, _, _, none⟩) rfl (by kernel_rfl) (by kernel_rfl) (by kernel_rfl) (fun _ _ _ h => h) (Or.inl ⟨by kernel_rfl, ?_⟩) (by assumption) ?_
 case refine_1 => (intro w9 hSw; exact exec_row (off := 17) rfl rfl (hSw.2.1.rng [.string nm, vi ki f.at_, vi ki f.off, .bool f.dst, .string f.ab, (.slice (some ⟨g, o, none⟩) n c), .bool ft.h, vi ki ft.fr, vi ki ft.off, vi ki ft.A.m, vi ki ft.A.k, vi ki ft.A.d, vi ki ft.A.n, vi ki ft.A.s, .int .u8 ft.A.z, vi ki ft.A.v, .string ft.A.t] [vi ki ft.B.m, vi ki ft.B.k, vi ki ft.B.d, vi ki ft.B.n, vi ki ft.B.s, .int .u8 ft.B.z, vi ki ft.B.v, .string ft.B.t] [] (by rw [hT]; rfl)) Tryz.underlying30 rfl (by kernel_rfl))
 simp only [za, zb, zc, zd]
 refine rd 12 ⟨some 27, _, _, _, _, none⟩ rfl (fun K hK => ?_)
 go_simp
 refine (CA.out _).mono ?_
 rintro e v1 ⟨rfl, hb1⟩
 refine hK.out _ _ (hHeld.below hb1) (fun hHeld => ?_)
 clear hK K hb1
 refine rd 16 ⟨some 31, _, _, _, _, none⟩ rfl (fun K hK => ?_)
 go_simp
 refine (CB.out _).mono ?_
 rintro e v2 ⟨rfl, hb2⟩
 refine hK.out _ _ (hHeld.below hb2) (fun hHeld => ?_)
 clear hK K hb2
 refine tks 17 ⟨some 32, _, _, _, _, none⟩ rfl ?_
 simp only [za, zb, zc, zd]
 refine tks 18 ⟨some 33, _, _, _, _, none⟩ rfl ?_
 simp only [za, zb, zc, zd]
 refine rd 19 ⟨none, _, _, _, _, none⟩ rfl (fun K hK => ?_)
 refine (if_pos (by kernel_rfl)).mpr (wp_store_mid 42 _ _ rfl b2 6 #[.bool ft.h, vi ki ft.fr, vi ki ft.off, vi ki ft.A.m, vi ki ft.A.k, vi ki ft.A.d, vi ki ft.A.n, vi ki ft.A.s, .int .u8 ft.A.z, vi ki ft.A.v, .string ft.A.t, vi ki ft.B.m, vi ki ft.B.k, vi ki ft.B.d, vi ki ft.B.n, vi ki ft.B.s, .int .u8 ft.B.z, vi ki ft.B.v, .string ft.B.t] rfl rfl ((hHeld.tail (p := [.string nm, vi ki f.at_, vi ki f.off, .bool f.dst, .string f.ab, .slice ao' n c']) (c1 := zeF) (vs := Fn.fL ft) rfl rfl rfl).1) (by kernel_rfl) (Fn.fL_one ft) ?_)
 have hD := (hHeld.tail (p := [.string nm, vi ki f.at_, vi ki f.off, .bool f.dst, .string f.ab, .slice ao' n c']) (c1 := zeF) (vs := Fn.fL ft) rfl rfl rfl).2
 have hP := hHeld.put (p := [.string nm, vi ki f.at_, vi ki f.off, .bool f.dst, .string f.ab, .slice ao' n c']) (c1 := zeF) (vs := Fn.fL ft) rfl rfl rfl hne hV1
 refine hK.out _ _ hP (fun hHeld2 => ?_)
 refine gen_any (fun Z => Bx Z (w.heap.size + 1) zeT ∧ Bx Z b2 (tbF nm f (.slice ao' n c') (Fn.fL ft)) ∧ TrAt Z (.slice ao' n c') L ∧ Below w.heap.size w Z) ⟨hP.2.2.1, hD, hP.2.2.2.1, hP.1⟩ ?_
 clear hK K hHeld hP hHeld2 hD
 rintro Z9 ⟨X1', X2', HT', B1'⟩
 refine wpAnyH_done (by kernel_rfl) ?_ _
 have X1 : Hid (Bx Z9 (w.heap.size + 1) zeT) := X1'
 have X2 : Hid (Bx Z9 b2 (tbF nm f (.slice ao' n c') (Fn.fL ft))) := X2'
 have B1 : Hid (Below w.heap.size w Z9 ∧ TrAt Z9 (.slice ao' n c') L) := ⟨B1', HT'⟩
 clear X1' X2' HT' B1'
 obtain ⟨T2, hT2⟩ : ∃ T2, tbF nm f (.slice ao' n c') (Fn.fL ft) = T2 := ⟨_, rfl⟩
 have hl2 : T2.length = 25 := by rw [← hT2]; rfl
 have h12 : T2.toArray.all (·.oneCell') = true := by rw [← hT2]; exact one_tf nm f ao' n c' ft
 rw [hT2] at X2
 have hs9 : T2.toArray.size = 25 := by rw [List.size_toArray, hl2]
 have ht9 : Z9.there (w.heap.size + 1) 0 T2.toArray.size := by rw [hs9]; exact X1.out.there
 have hi9 : (Tryz.prog.info? 44).map (·.size) = some T2.toArray.size := by rw [hs9]; kernel_rfl
 have hg9 : Bx (Z9.setCells (w.heap.size + 1) 0 T2.toArray.toList) (w.heap.size + 1) T2 ∧ TrAt (Z9.setCells (w.heap.size + 1) 0 T2.toArray.toList) (.slice ao' n c') L ∧ Below w.heap.size w (Z9.setCells (w.heap.size + 1) 0 T2.toArray.toList) := ⟨X1.out.setAll T2 (by rw [hl2]; rfl), trat_setCells B1.out.2 hne1, below_setCells (by omega) _ _ _ B1.out.1⟩
 go_wp2_with (first | (refine wpList_load_mid rfl 44 _ rfl b2 0 rfl T2 _ X2.out.all Tryz.underlying44 rfl (by rw [hl2]; kernel_rfl) ?_) | (refine wpList_store_mid rfl 44 _ _ rfl (w.heap.size + 1) 0 T2.toArray rfl rfl ht9 hi9 h12 ?_; refine gen_list (fun V => Bx V (w.heap.size + 1) T2 ∧ TrAt V (.slice ao' n c') L ∧ Below w.heap.size w V) hg9 ?_; clear X1 X2 B1 ht9 hg9 hs9; rintro V ⟨XV, TV, BV⟩) | fail)
 exact bodyPost_ret (v := .agg T2.toArray) (results_c1 rfl _ _ _ _ rfl (run_loadVar_mid _ _ _ _ _ _ XV.all Tryz.underlying44 rfl (by rw [hl2]; kernel_rfl))) rfl ⟨_, by rw [hT2], TV, BV, HCAP.out⟩
theorem given20n (nm : ByteArray) (f : TrR) (ft : Fn.Ft) (w : World) (T : List Value) (hT : T = tbF nm f (.slice none 0 0) (Fn.fL ft)) :
  Calls Tryz.prog 27 #[.agg T.toArray] w fun e w' => ∃ sv', e = zr (.agg (tbF nm f sv' (Fn.fL ft)).toArray) ∧ TrAt w' sv' [] ∧ Below w.heap.size w w' ∧ Cap sv' := by
 have X0 : Hid (Bx ((w.alloc (.cells T.toArray 34)).alloc (.cells zeT.toArray 44)) w.heap.size T) := (Bx.new w T _).alloc _
 have X1 : Hid (Bx ((w.alloc (.cells T.toArray 34)).alloc (.cells zeT.toArray 44)) (w.heap.size + 1) zeT) := Bx.newAt _ zeT _ _ (by simp)
 have B1 : Hid (Below w.heap.size w ((w.alloc (.cells T.toArray 34)).alloc (.cells zeT.toArray 44))) := ((Below.refl _ _).alloc (Nat.le_refl _) _).alloc (by simp) _
 go_enter Tryz.func27, Tryz.ntmps27
 generalize hUA : T.toArray = UA at *
 go_upto_region 1 with fail
 refine gen_code (fun V => Bx V w.heap.size T ∧ Bx V (w.heap.size + 1) zeT ∧ Below w.heap.size w V) ⟨X0.out, X1.out, B1.out⟩ ?_
 clear X0 X1 B1
 rintro V ⟨X0', X1', B1'⟩
 have X0 : Hid (Bx V w.heap.size T) := X0'
 have X1 : Hid (Bx V (w.heap.size + 1) zeT) := X1'
 have B1 : Hid (Below w.heap.size w V) := B1'
 clear X0' X1' B1'
 have d0 : V.cell? ⟨w.heap.size, 0, none⟩ = some (.string nm) := X0.out.c 0 (by rw [hT]; rfl)
 have d1 : V.cell? ⟨w.heap.size, 1, none⟩ = some (vi ki f.at_) := X0.out.c 1 (by rw [hT]; rfl)
 have d2 : V.cell? ⟨w.heap.size, 2, none⟩ = some (vi ki f.off) := X0.out.c 2 (by rw [hT]; rfl)
 have d3 : V.cell? ⟨w.heap.size, 3, none⟩ = some (.bool f.dst) := X0.out.c 3 (by rw [hT]; rfl)
 have d4 : V.cell? ⟨w.heap.size, 4, none⟩ = some (.string f.ab) := X0.out.c 4 (by rw [hT]; rfl)
 have Y2 : Hid (Bx (V.alloc (.cells zeT.toArray 44)) V.heap.size zeT) := Bx.new V zeT _
 have Y0 : Hid (Bx (V.alloc (.cells zeT.toArray 44)) w.heap.size T) := X0.out.alloc _
 have Y1 : Hid (Bx (V.alloc (.cells zeT.toArray 44)) (w.heap.size + 1) zeT) := X1.out.alloc _
 have YB : Hid (Below w.heap.size w (V.alloc (.cells zeT.toArray 44))) := B1.out.alloc (B1.out.size) _
 have hV1 := X1.out.1
 go_upto_region 2 with (refine wpList_store_mid rfl 44 _ _ rfl V.heap.size 0 (tbF nm f (.slice none 0 0) zeF).toArray rfl rfl Y2.out.there (by kernel_rfl) (one_tb _ _ _ _ _) ?_; refine gen_list (fun U => Bx U w.heap.size T ∧ Bx U (w.heap.size + 1) zeT ∧ Bx U V.heap.size (tbF nm f (.slice none 0 0) zeF) ∧ Below w.heap.size w U) ⟨Y0.out.setOther (by omega) _, Y1.out.setOther (by omega) _, Y2.out.setAll _ rfl, below_setCells (by omega) _ _ _ YB.out⟩ ?_; clear X0 X1 B1 Y0 Y1 Y2 YB d0 d1 d2 d3 d4; rintro U ⟨X0', X1', X2', B1'⟩; have X0 : Hid (Bx U w.heap.size T) := X0'; have X1 : Hid (Bx U (w.heap.size + 1) zeT) := X1'; have X2 : Hid (Bx U V.heap.size (tbF nm f (.slice none 0 0) zeF)) := X2'; have B1 : Hid (Below w.heap.size w U) := B1'; clear X0' X1' X2' B1')
 obtain ⟨b2, hb2⟩ : ∃ b2, V.heap.size = b2 := ⟨_, rfl⟩
 rw [hb2] at X2 hV1 ⊢
 clear hb2 V
 obtain ⟨i1, hi1, hy0, hy1, hy2⟩ := info_parts infoT9
 have c5 : U.cell? ⟨b2, 5, none⟩ = some (.slice none 0 0) := X2.out.c 5 rfl
 have d5 : U.cell? ⟨w.heap.size, 5, none⟩ = some (.slice none 0 0) := X0.out.c 5 (by rw [hT]; rfl)
 have hbs := B1.out.size
 have hu2 := X2.out.1
 have z5 : U.frozen? ⟨b2, 5, none⟩ = false := X2.out.f 5 (v := .slice none 0 0) rfl
 go_upto_region 3 with (at_builtin; refine wpList_append_own_none rfl _ _ 24 rfl U.heap.size 23 i1 4 Tryz.underlying24 hi1 (.slice none 0 0) 0 [] rfl (World.ownsRow_nil _ _ _ _) rfl ?_)
 have HCAP : Hid (Cap (.slice none 0 0)) := fun ao n c h => by cases h; exact Nat.le_refl _
 have HTR : TrAt U (.slice none 0 0) ([] : List TrR) := ⟨⟨none, 0, rfl⟩, by simp, .inl rfl⟩
 have hne : ∀ (a : Addr) (m k : Nat), Value.slice none 0 0 = .slice (some a) m k → a.block ≠ b2 := fun a m k h => by cases h
 have hne1 : ∀ (a : Addr) (m k : Nat), Value.slice none 0 0 = .slice (some a) m k → a.block ≠ w.heap.size + 1 := fun a m k h => by cases h
 refine gen_code (fun Z => Bx Z w.heap.size T ∧ Bx Z (w.heap.size + 1) zeT ∧ Bx Z b2 (tbF nm f (.slice none 0 0) zeF) ∧ TrAt Z (.slice none 0 0) [] ∧ Below w.heap.size w Z) ⟨bx_turns X0.out (Turns.setCell (M := [b2]) _ _ _ (by simp)) (by simp; omega), bx_turns X1.out (Turns.setCell (M := [b2]) _ _ _ (by simp)) (by simp; omega), bx_set1 X2.out 5 (.slice none 0 0) (by rw [tbF_len rfl]; decide), HTR.setC hne, B1.out.setCell (p := ⟨b2, 5, none⟩) (by simp; omega) _⟩ ?_
 clear HTR z5 c5 d5 X0 X1 X2 B1 hu2 hbs
 rintro Z ⟨X0', X1', X2', HT', B1'⟩
 have CA : Hid (∀ w : World, Calls Tryz.prog 70 #[.agg #[vi ki ft.A.m, vi ki ft.A.k, vi ki ft.A.d, vi ki ft.A.n, vi ki ft.A.s, .int .u8 ft.A.z, vi ki ft.A.v, .string ft.A.t]] w fun e w' => e = zr (.agg #[vi ki ft.A.m, vi ki ft.A.k, vi ki ft.A.d, vi ki ft.A.n, vi ki ft.A.s, .int .u8 ft.A.z, vi ki ft.A.v, .string ft.A.t]) ∧ Below w.heap.size w w') := fun w => Fn.h17_any ft.A w
 have CB : Hid (∀ w : World, Calls Tryz.prog 70 #[.agg #[vi ki ft.B.m, vi ki ft.B.k, vi ki ft.B.d, vi ki ft.B.n, vi ki ft.B.s, .int .u8 ft.B.z, vi ki ft.B.v, .string ft.B.t]] w fun e w' => e = zr (.agg #[vi ki ft.B.m, vi ki ft.B.k, vi ki ft.B.d, vi ki ft.B.n, vi ki ft.B.s, .int .u8 ft.B.z, vi ki ft.B.v, .string ft.B.t]) ∧ Below w.heap.size w w') := fun w => Fn.h17_any ft.B w
 go_wp2_with fail
 refine wp_region_held_drew (S := GT w T (tbF nm f (.slice none 0 0) zeF) (tbF nm f (.slice none 0 0) (Fn.fL ft)) b2 (.slice none 0 0) []) (by kernel_rfl) (show GT w T _ _ b2 _ [] Z.drew from ⟨B1'.drew, X0', X1', HT', .inl X2'⟩) (fun hHeld => ?_)
 refine tks 0 ⟨some 15, _, _, _, _, none⟩ rfl ?_
 simp only [za, zb, zc, zd]
 refine tks 1 ⟨some 16, _, _, _, _, none⟩ rfl ?_
 simp only [za, zb, zc, zd]
 refine tk (v := ?_) 2 ⟨some 17, _, _, _, _, none⟩ rfl ?_ ?_
 case refine_2 => (intro w9 hSw; have g6 : w9.cell? ⟨w.heap.size, 6, none⟩ = some (.bool ft.h) := hSw.2.1.c 6 (by rw [hT]; rfl); have g7 : w9.cell? ⟨w.heap.size, 7, none⟩ = some (vi ki ft.fr) := hSw.2.1.c 7 (by rw [hT]; rfl); have g8 : w9.cell? ⟨w.heap.size, 8, none⟩ = some (vi ki ft.off) := hSw.2.1.c 8 (by rw [hT]; rfl); clear hSw; go_simp; try with_reducible rfl)
 simp only [za, zb, zc, zd]
 refine tks 3 ⟨some 18, _, _, _, _, none⟩ rfl ?_
 simp only [za, zb, zc, zd]
 refine tks 4 ⟨some 19, _, _, _, _, none⟩ rfl ?_
 simp only [za, zb, zc, zd]
 refine tk (v := ?_) 5 ⟨some 20, _, _, _, _, none⟩ rfl ?_ ?_
 case refine_2 => (intro w9 hSw; have g6 : w9.cell? ⟨w.heap.size, 6, none⟩ = some (.bool ft.h) := hSw.2.1.c 6 (by rw [hT]; rfl); have g7 : w9.cell? ⟨w.heap.size, 7, none⟩ = some (vi ki ft.fr) := hSw.2.1.c 7 (by rw [hT]; rfl); have g8 : w9.cell? ⟨w.heap.size, 8, none⟩ = some (vi ki ft.off) := hSw.2.1.c 8 (by rw [hT]; rfl); clear hSw; go_simp; try with_reducible rfl)
 simp only [za, zb, zc, zd]
 refine tks 6 ⟨some 21, _, _, _, _, none⟩ rfl ?_
 simp only [za, zb, zc, zd]
 refine tks 7 ⟨some 22, _, _, _, _, none⟩ rfl ?_
 simp only [za, zb, zc, zd]
 refine tk (v := ?_) 8 ⟨some 23, _, _, _, _, none⟩ rfl ?_ ?_
 case refine_2 => (intro w9 hSw; have g6 : w9.cell? ⟨w.heap.size, 6, none⟩ = some (.bool ft.h) := hSw.2.1.c 6 (by rw [hT]; rfl); have g7 : w9.cell? ⟨w.heap.size, 7, none⟩ = some (vi ki ft.fr) := hSw.2.1.c 7 (by rw [hT]; rfl); have g8 : w9.cell? ⟨w.heap.size, 8, none⟩ = some (vi ki ft.off) := hSw.2.1.c 8 (by rw [hT]; rfl); clear hSw; go_simp; try with_reducible rfl)
 simp only [za, zb, zc, zd]
 refine tks 9 ⟨some 24, _, _, _, _, none⟩ rfl ?_
 simp only [za, zb, zc, zd]
 refine tks 10 ⟨some 25, _, _, _, _, none⟩ rfl ?_
 simp only [za, zb, zc, zd]
 refine wpAnyH_take (i := 11) (v := .agg #[vi ki ft.A.m, vi ki ft.A.k, vi ki ft.A.d, vi ki ft.A.n, vi ki ft.A.s, .int .u8 ft.A.z, vi ki ft.A.v, .string ft.A.t]) (oi := ⟨some 26, _, _, _, _, none⟩) rfl (by kernel_rfl) (by kernel_rfl) (by kernel_rfl) (fun _ _ _ h => h) (Or.inl ⟨by kernel_rfl, ?_⟩) (by assumption) ?_
 case refine_1 => (intro w9 hSw; exact exec_row (off := 9) rfl rfl (hSw.2.1.rng [.string nm, vi ki f.at_, vi ki f.off, .bool f.dst, .string f.ab, (.slice none 0 0), .bool ft.h, vi ki ft.fr, vi ki ft.off] [vi ki ft.A.m, vi ki ft.A.k, vi ki ft.A.d, vi ki ft.A.n, vi ki ft.A.s, .int .u8 ft.A.z, vi ki ft.A.v, .string ft.A.t] [vi ki ft.B.m, vi ki ft.B.k, vi ki ft.B.d, vi ki ft.B.n, vi ki ft.B.s, .int .u8 ft.B.z, vi ki ft.B.v, .string ft.B.t] (by rw [hT]; rfl)) Tryz.underlying30 rfl (by kernel_rfl))
 simp only [za, zb, zc, zd]
 refine tks 13 ⟨some 28, _, _, _, _, none⟩ rfl ?_
 simp only [za, zb, zc, zd]
 refine tks 14 ⟨some 29, _, _, _, _, none⟩ rfl ?_
 simp only [za, zb, zc, zd]
 refine wpAnyH_take (i := 15) (v := .agg #[vi ki ft.B.m, vi ki ft.B.k, vi ki ft.B.d, vi ki ft.B.n, vi ki ft.B.s, .int .u8 ft.B.z, vi ki ft.B.v, .string ft.B.t]) (oi := ⟨some 30, _, _, _, _, none⟩) rfl (by kernel_rfl) (by kernel_rfl) (by kernel_rfl) (fun _ _ _ h => h) (Or.inl ⟨by kernel_rfl, ?_⟩) (by assumption) ?_
 case refine_1 => (intro w9 hSw; exact exec_row (off := 17) rfl rfl (hSw.2.1.rng [.string nm, vi ki f.at_, vi ki f.off, .bool f.dst, .string f.ab, (.slice none 0 0), .bool ft.h, vi ki ft.fr, vi ki ft.off, vi ki ft.A.m, vi ki ft.A.k, vi ki ft.A.d, vi ki ft.A.n, vi ki ft.A.s, .int .u8 ft.A.z, vi ki ft.A.v, .string ft.A.t] [vi ki ft.B.m, vi ki ft.B.k, vi ki ft.B.d, vi ki ft.B.n, vi ki ft.B.s, .int .u8 ft.B.z, vi ki ft.B.v, .string ft.B.t] [] (by rw [hT]; rfl)) Tryz.underlying30 rfl (by kernel_rfl))
 simp only [za, zb, zc, zd]
 refine rd 12 ⟨some 27, _, _, _, _, none⟩ rfl (fun K hK => ?_)
 go_simp
 refine (CA.out _).mono ?_
 rintro e v1 ⟨rfl, hb1⟩
 refine hK.out _ _ (hHeld.below hb1) (fun hHeld => ?_)
 clear hK K hb1
 refine rd 16 ⟨some 31, _, _, _, _, none⟩ rfl (fun K hK => ?_)
 go_simp
 refine (CB.out _).mono ?_
 rintro e v2 ⟨rfl, hb2⟩
 refine hK.out _ _ (hHeld.below hb2) (fun hHeld => ?_)
 clear hK K hb2
 refine tks 17 ⟨some 32, _, _, _, _, none⟩ rfl ?_
 simp only [za, zb, zc, zd]
 refine tks 18 ⟨some 33, _, _, _, _, none⟩ rfl ?_
 simp only [za, zb, zc, zd]
 refine rd 19 ⟨none, _, _, _, _, none⟩ rfl (fun K hK => ?_)
 refine (if_pos (by kernel_rfl)).mpr (wp_store_mid 42 _ _ rfl b2 6 #[.bool ft.h, vi ki ft.fr, vi ki ft.off, vi ki ft.A.m, vi ki ft.A.k, vi ki ft.A.d, vi ki ft.A.n, vi ki ft.A.s, .int .u8 ft.A.z, vi ki ft.A.v, .string ft.A.t, vi ki ft.B.m, vi ki ft.B.k, vi ki ft.B.d, vi ki ft.B.n, vi ki ft.B.s, .int .u8 ft.B.z, vi ki ft.B.v, .string ft.B.t] rfl rfl ((hHeld.tail (p := [.string nm, vi ki f.at_, vi ki f.off, .bool f.dst, .string f.ab, .slice none 0 0]) (c1 := zeF) (vs := Fn.fL ft) rfl rfl rfl).1) (by kernel_rfl) (Fn.fL_one ft) ?_)
 have hD := (hHeld.tail (p := [.string nm, vi ki f.at_, vi ki f.off, .bool f.dst, .string f.ab, .slice none 0 0]) (c1 := zeF) (vs := Fn.fL ft) rfl rfl rfl).2
 have hP := hHeld.put (p := [.string nm, vi ki f.at_, vi ki f.off, .bool f.dst, .string f.ab, .slice none 0 0]) (c1 := zeF) (vs := Fn.fL ft) rfl rfl rfl hne hV1
 refine hK.out _ _ hP (fun hHeld2 => ?_)
 refine gen_any (fun Z => Bx Z (w.heap.size + 1) zeT ∧ Bx Z b2 (tbF nm f (.slice none 0 0) (Fn.fL ft)) ∧ TrAt Z (.slice none 0 0) [] ∧ Below w.heap.size w Z) ⟨hP.2.2.1, hD, hP.2.2.2.1, hP.1⟩ ?_
 clear hK K hHeld hP hHeld2 hD
 rintro Z9 ⟨X1', X2', HT', B1'⟩
 refine wpAnyH_done (by kernel_rfl) ?_ _
 have X1 : Hid (Bx Z9 (w.heap.size + 1) zeT) := X1'
 have X2 : Hid (Bx Z9 b2 (tbF nm f (.slice none 0 0) (Fn.fL ft))) := X2'
 have B1 : Hid (Below w.heap.size w Z9 ∧ TrAt Z9 (.slice none 0 0) []) := ⟨B1', HT'⟩
 clear X1' X2' HT' B1'
 obtain ⟨T2, hT2⟩ : ∃ T2, tbF nm f (.slice none 0 0) (Fn.fL ft) = T2 := ⟨_, rfl⟩
 have hl2 : T2.length = 25 := by rw [← hT2]; rfl
 have h12 : T2.toArray.all (·.oneCell') = true := by rw [← hT2]; exact one_tf nm f none 0 0 ft
 rw [hT2] at X2
 have hs9 : T2.toArray.size = 25 := by rw [List.size_toArray, hl2]
 have ht9 : Z9.there (w.heap.size + 1) 0 T2.toArray.size := by rw [hs9]; exact X1.out.there
 have hi9 : (Tryz.prog.info? 44).map (·.size) = some T2.toArray.size := by rw [hs9]; kernel_rfl
 have hg9 : Bx (Z9.setCells (w.heap.size + 1) 0 T2.toArray.toList) (w.heap.size + 1) T2 ∧ TrAt (Z9.setCells (w.heap.size + 1) 0 T2.toArray.toList) (.slice none 0 0) [] ∧ Below w.heap.size w (Z9.setCells (w.heap.size + 1) 0 T2.toArray.toList) := ⟨X1.out.setAll T2 (by rw [hl2]; rfl), trat_setCells B1.out.2 hne1, below_setCells (by omega) _ _ _ B1.out.1⟩
 go_wp2_with (first | (refine wpList_load_mid rfl 44 _ rfl b2 0 rfl T2 _ X2.out.all Tryz.underlying44 rfl (by rw [hl2]; kernel_rfl) ?_) | (refine wpList_store_mid rfl 44 _ _ rfl (w.heap.size + 1) 0 T2.toArray rfl rfl ht9 hi9 h12 ?_; refine gen_list (fun V => Bx V (w.heap.size + 1) T2 ∧ TrAt V (.slice none 0 0) [] ∧ Below w.heap.size w V) hg9 ?_; clear X1 X2 B1 ht9 hg9 hs9; rintro V ⟨XV, TV, BV⟩) | fail)
 exact bodyPost_ret (v := .agg T2.toArray) (results_c1 rfl _ _ _ _ rfl (run_loadVar_mid _ _ _ _ _ _ XV.all Tryz.underlying44 rfl (by rw [hl2]; kernel_rfl))) rfl ⟨_, by rw [hT2], TV, BV, HCAP.out⟩
theorem given_any17 (t : TbR) (sv : Value) (w : World) (HT : TransA w sv t.trs) (h40 : t.trs.length * 40 ≤ 140737488355328) (hg : ∀ a n c, sv = .slice (some a) n c → a.block < w.heap.size ∧ a.spot = none) :
  Calls Tryz.prog 27 #[.agg (tbL t sv).toArray] w fun e w' => ∃ sv', e = zr (.agg (tbL t sv').toArray) ∧ TrAt w' sv' t.trs ∧ Below w.heap.size w w' ∧ Cap sv' := by
 rcases HT with ⟨rfl, hL⟩ | ⟨a, cap, rfl, h1, h2, hc⟩
 ·rw [hL]
  exact given20n t.nm t.first t.foot w _ rfl
 ·obtain ⟨h3, h4⟩ := hg _ _ _ rfl
  obtain ⟨g, o, s⟩ := a
  simp only at h3 h4
  subst h4
  have hcs : ∀ j u, (trCs t.trs)[j]? = some u → w.cell? ⟨g, o + j, none⟩ = some u := fun j u hu => by
   have := hc j u hu
   unfold Addr.add at this
   split at this
   ·rename_i h; subst h; simpa using this
   ·exact this
  have hm : t.trs.length ≤ maxLen := by omega
  exact given20 t.nm t.first t.trs t.foot g o t.trs.length cap rfl w ⟨⟨_, _, rfl⟩, hm, .inr ⟨g, o, cap, rfl, h3, hcs⟩⟩ h3 hcs h40 hm _ rfl
def HereIs (T : List Value) (Ok : World → Prop) (i u : Int) : Prop :=
 ∃ I V E : Int, (∀ w : World, Ok w → Calls Tryz.prog 26 #[.agg T.toArray, .string ⟨#[68, 65, 89]⟩, .agg #[vi ki i, vi ki u]] w fun r w' => r = zr (.tuple #[.agg #[vi ki I, vi ki V], vi ki E]) ∧ Below w.heap.size w w') ∧
  (E ≠ 0 ∨ (E = 0 ∧ i ≠ 0) ∨ (E = 0 ∧ i = 0 ∧ I = 0 ∧ ∃ V1 V2 how : Int, (∀ w : World, Ok w → Calls Tryz.prog 10 #[.agg T.toArray, .agg #[vi ki 0, vi ki u]] w fun r w' => r = zr (.tuple #[.agg #[vi ki 0, vi ki V1], vi ki 0]) ∧ Below w.heap.size w w') ∧ (∀ w : World, Ok w → Calls Tryz.prog 24 #[.string ⟨#[100, 97, 121]⟩, .agg #[vi ki 0, vi ki V1]] w fun r w' => r = zr (.tuple #[.agg #[vi ki 0, vi ki V2], vi ki 0]) ∧ Below w.heap.size w w') ∧ (∀ w : World, Ok w → Calls Tryz.prog 12 #[.agg T.toArray, .agg #[vi ki 0, vi ki V2]] w fun r w' => r = zr (.tuple #[.agg #[vi ki 0, vi ki V], vi ki how, vi ki 0]) ∧ Below w.heap.size w w')))
theorem oh_run (P0 : World → Prop) (Z : List Value) (hZ : Z.length = 25) (i u : Int) (rb : Bool)
  (RR : Hid (∀ w : World, P0 w → Calls Tryz.prog 21 #[.agg Z.toArray] w fun r w' => r = zr (.bool rb) ∧ Below w.heap.size w w'))
  (GV : Hid (∀ w : World, P0 w → Calls Tryz.prog 27 #[.agg Z.toArray] w fun e w' => ∃ (T : List Value) (Ok : World → Prop), e = zr (.agg T.toArray) ∧ T.length = 25 ∧ T.toArray.all (·.oneCell') = true ∧ Ok w' ∧ (∀ A B : World, Ok A → Below A.heap.size A B → Ok B) ∧ (∀ A : World, Ok A → Ok A.drew) ∧ Below w.heap.size w w' ∧ HereIs T Ok i u))
  (KN : Hid (∀ w : World, P0 w → Calls Tryz.prog 29 #[] w fun r w' => r = zr (.bool true) ∧ Below w.heap.size w w')) (w : World) (hL : Hid (∀ W : World, Below w.heap.size w W → P0 W)) :
  Calls Tryz.prog 8 #[.agg Z.toArray, .agg #[vi ki i, vi ki u]] w fun r w' => r = zr (.bool true) ∧ Below w.heap.size w w' := by
 have K0 := bsn2 w Z 34 [vi ki i, vi ki u] 36
 go_enter Tryz.func8, Tryz.ntmps8
 generalize hZA : Z.toArray = ZA at *
 go_upto_region 1 with fail
 refine bs_to K0 ?_
 clear K0
 intro W0 K0
 go_wp2_with (first | (refine wpList_load_mid rfl 34 _ rfl (w.heap.size) 0 rfl Z _ (K0.out.at (w.heap.size) Z (by simp)).all Tryz.underlying34 rfl (by rw [hZ]; kernel_rfl) ?_; rw [hZA]) | fail)
 refine (RR.out _ (hL.out _ K0.out.1)).mono ?_
 rintro e W1 ⟨rfl, hb⟩
 have K1 := bsb K0 hb
 clear hb K0
 cases rb
 ·go_wp2_with fail
  refine (KN.out _ (hL.out _ K1.out.1)).mono ?_
  rintro e W99 ⟨rfl, hb⟩
  have K99 := bsb K1 hb
  clear hb
  go_wp2_with fail
  go_ret
  exact ⟨rfl, K99.out.1⟩
 ·go_wp2_with (first | (refine wpList_load_mid rfl 34 _ rfl (w.heap.size) 0 rfl Z _ (K1.out.at (w.heap.size) Z (by simp)).all Tryz.underlying34 rfl (by rw [hZ]; kernel_rfl) ?_; rw [hZA]) | fail)
  refine (GV.out _ (hL.out _ K1.out.1)).mono ?_
  rintro e W2 ⟨T, Ok, rfl, hTl, hT1, hok, hokb, hokd, hb, hout⟩
  have K2 := bsb K1 hb
  have HOK : Hid (Ok W2) := hok
  have HOB : Hid (∀ A B : World, Ok A → Below A.heap.size A B → Ok B) := hokb
  have HOUT : Hid (HereIs T Ok i u) := hout
  clear hb K1 hok hokb hokd hout
  have X2 : Hid (Bx (W2.alloc (.cells zeT.toArray 44)) W2.heap.size zeT) := Bx.new W2 zeT _
  have hsz := K2.out.1.size
  have lt0 := (K2.out.at (w.heap.size) Z (by simp)).1
  have lt1 := (bo1 K2).1
  generalize hTA : T.toArray = TA at *
  have hTs : TA.size = 25 := by rw [← hTA]; exact hTl
  have hgo : BS w ((W2.heap.size, T) :: [(w.heap.size + 1, [vi ki i, vi ki u]), (w.heap.size, Z)]) ((W2.alloc (.cells zeT.toArray 44)).setCells W2.heap.size 0 TA.toList) ∧ Ok ((W2.alloc (.cells zeT.toArray 44)).setCells W2.heap.size 0 TA.toList) := by
   have ht : TA.toList = T := by rw [← hTA]
   rw [ht]
   refine ⟨K2.out.push zeT T 44 (by rw [hTl]; rfl), HOB.out _ _ HOK.out ?_⟩
   exact below_setCells (w := W2) (Nat.le_refl _) T _ 0 ((Below.refl _ W2).alloc (Nat.le_refl _) _)
  go_upto_region 4 with (refine wpList_store_mid rfl 44 _ _ rfl W2.heap.size 0 TA rfl rfl (by rw [hTs]; exact X2.out.there) (by rw [hTs]; kernel_rfl) hT1 ?_; refine gen_list (fun X => BS w ((W2.heap.size, T) :: [(w.heap.size + 1, [vi ki i, vi ki u]), (w.heap.size, Z)]) X ∧ Ok X) hgo ?_; rintro W3 ⟨KV', OV'⟩)
  have K3 : Hid (BS w ((W2.heap.size, T) :: [(w.heap.size + 1, [vi ki i, vi ki u]), (w.heap.size, Z)]) W3) := KV'
  have HO3 : Hid (Ok W3) := OV'
  clear KV' OV' hgo X2 K2 HOK hTs
  obtain ⟨ob, hob⟩ : ∃ ob, W2.heap.size = ob := ⟨_, rfl⟩
  rw [hob] at K3 lt0 lt1 ⊢
  clear hob
  obtain ⟨c0, c1⟩ := (bo2 K3).c2
  obtain ⟨I, V, E, hTT, hcs⟩ := HOUT.out
  have TT : Hid (∀ w : World, Ok w → Calls Tryz.prog 26 #[.agg TA, .string ⟨#[68, 65, 89]⟩, .agg #[vi ki i, vi ki u]] w fun r w' => r = zr (.tuple #[.agg #[vi ki I, vi ki V], vi ki E]) ∧ Below w.heap.size w w') := by rw [← hTA]; exact hTT
  clear hTT HOUT
  go_wp2_with (first | (refine wpList_load_mid rfl 44 _ rfl ob 0 rfl T _ (K3.out.at ob T (by simp)).all Tryz.underlying44 rfl (by rw [hTl]; kernel_rfl) ?_; rw [hTA]) | fail)
  refine (TT.out _ HO3.out).mono ?_
  rintro e W4 ⟨rfl, hb⟩
  have K4 := bsb K3 hb
  have HO4 : Hid (Ok W4) := HOB.out _ _ HO3.out hb
  clear hb K3 HO3
  clear TT c0 c1
  have M4 := bsn K4 [vi ki I, vi ki V] 36
  have N4 : Hid (Ok (W4.alloc (.cells #[vi ki I, vi ki V] 36))) := HOB.out _ _ HO4.out ((Below.refl _ W4).alloc (Nat.le_refl _) _)
  have lt4_0 := (bo1 K4).1
  have lt4_1 := (bo2 K4).1
  have lt4_2 := (bo3 K4).1
  go_upto_region 5 with fail
  refine gen_code (fun X => BS w ((W4.heap.size, [vi ki I, vi ki V]) :: (ob, T) :: [(w.heap.size + 1, [vi ki i, vi ki u]), (w.heap.size, Z)]) X ∧ Ok X) ⟨M4.out, N4.out⟩ ?_
  rintro W5 ⟨k9, o9⟩
  have K5 : Hid (BS w ((W4.heap.size, [vi ki I, vi ki V]) :: (ob, T) :: [(w.heap.size + 1, [vi ki i, vi ki u]), (w.heap.size, Z)]) W5) := k9
  have HO5 : Hid (Ok W5) := o9
  clear k9 o9 M4 N4 K4 HO4
  rcases hcs with hE | ⟨rfl, hi⟩ | ⟨rfl, rfl, rfl, V1, V2, how, hLO, hTR, hIN⟩
  ·have hE1 : (E != 0) = true := by simpa using hE
   go_wp2_with fail
   refine (KN.out _ (hL.out _ K5.out.1)).mono ?_
   rintro e W99 ⟨rfl, hb⟩
   have K99 := bsb K5 hb
   clear hb
   go_wp2_with fail
   go_ret
   exact ⟨rfl, K99.out.1⟩
  ·have hi1 : (i != 0) = true := by simpa using hi
   obtain ⟨c0, c1⟩ := (bo3 K5).c2
   go_wp2_with fail
   refine (KN.out _ (hL.out _ K5.out.1)).mono ?_
   rintro e W99 ⟨rfl, hb⟩
   have K99 := bsb K5 hb
   clear hb
   go_wp2_with fail
   go_ret
   exact ⟨rfl, K99.out.1⟩
  ·have LO : Hid (∀ w : World, Ok w → Calls Tryz.prog 10 #[.agg TA, .agg #[vi ki 0, vi ki u]] w fun r w' => r = zr (.tuple #[.agg #[vi ki 0, vi ki V1], vi ki 0]) ∧ Below w.heap.size w w') := by rw [← hTA]; exact hLO
   have TR : Hid (∀ w : World, Ok w → Calls Tryz.prog 24 #[.string ⟨#[100, 97, 121]⟩, .agg #[vi ki 0, vi ki V1]] w fun r w' => r = zr (.tuple #[.agg #[vi ki 0, vi ki V2], vi ki 0]) ∧ Below w.heap.size w w') := hTR
   have IN : Hid (∀ w : World, Ok w → Calls Tryz.prog 12 #[.agg TA, .agg #[vi ki 0, vi ki V2]] w fun r w' => r = zr (.tuple #[.agg #[vi ki 0, vi ki V], vi ki how, vi ki 0]) ∧ Below w.heap.size w w') := by rw [← hTA]; exact hIN
   clear hLO hTR hIN
   obtain ⟨c0, c1⟩ := (bo3 K5).c2
   go_wp2_with (first | (refine wpList_load_mid rfl 44 _ rfl ob 0 rfl T _ (K5.out.at ob T (by simp)).all Tryz.underlying44 rfl (by rw [hTl]; kernel_rfl) ?_; rw [hTA]) | fail)
   refine (LO.out _ HO5.out).mono ?_
   rintro e W6 ⟨rfl, hb⟩
   have K6 := bsb K5 hb
   have HO6 : Hid (Ok W6) := HOB.out _ _ HO5.out hb
   clear hb K5 HO5
   clear c0 c1 LO
   have M6 := bsn K6 [vi ki 0, vi ki V1] 36
   have N6 : Hid (Ok (W6.alloc (.cells #[vi ki 0, vi ki V1] 36))) := HOB.out _ _ HO6.out ((Below.refl _ W6).alloc (Nat.le_refl _) _)
   have lt6_0 := (bo1 K6).1
   have lt6_1 := (bo2 K6).1
   have lt6_2 := (bo3 K6).1
   have lt6_3 := (bo4 K6).1
   go_upto_region 8 with fail
   refine gen_code (fun X => BS w ((W6.heap.size, [vi ki 0, vi ki V1]) :: (W4.heap.size, [vi ki 0, vi ki V]) :: (ob, T) :: [(w.heap.size + 1, [vi ki 0, vi ki u]), (w.heap.size, Z)]) X ∧ Ok X) ⟨M6.out, N6.out⟩ ?_
   rintro W7 ⟨k9, o9⟩
   have K7 : Hid (BS w ((W6.heap.size, [vi ki 0, vi ki V1]) :: (W4.heap.size, [vi ki 0, vi ki V]) :: (ob, T) :: [(w.heap.size + 1, [vi ki 0, vi ki u]), (w.heap.size, Z)]) W7) := k9
   have HO7 : Hid (Ok W7) := o9
   clear k9 o9 M6 N6 K6 HO6
   obtain ⟨c0, c1⟩ := (bo1 K7).c2
   go_wp2_with fail
   refine (TR.out _ HO7.out).mono ?_
   rintro e W8 ⟨rfl, hb⟩
   have K8 := bsb K7 hb
   have HO8 : Hid (Ok W8) := HOB.out _ _ HO7.out hb
   clear hb K7 HO7
   clear c0 c1 TR
   have M8 := bsn K8 [vi ki 0, vi ki V2] 36
   have N8 : Hid (Ok (W8.alloc (.cells #[vi ki 0, vi ki V2] 36))) := HOB.out _ _ HO8.out ((Below.refl _ W8).alloc (Nat.le_refl _) _)
   have lt8_0 := (bo1 K8).1
   have lt8_1 := (bo2 K8).1
   have lt8_2 := (bo3 K8).1
   have lt8_3 := (bo4 K8).1
   have lt8_4 := (bo5 K8).1
   go_upto_region 9 with fail
   refine gen_code (fun X => BS w ((W8.heap.size, [vi ki 0, vi ki V2]) :: (W6.heap.size, [vi ki 0, vi ki V1]) :: (W4.heap.size, [vi ki 0, vi ki V]) :: (ob, T) :: [(w.heap.size + 1, [vi ki 0, vi ki u]), (w.heap.size, Z)]) X ∧ Ok X) ⟨M8.out, N8.out⟩ ?_
   rintro W9 ⟨k9, o9⟩
   have K9 : Hid (BS w ((W8.heap.size, [vi ki 0, vi ki V2]) :: (W6.heap.size, [vi ki 0, vi ki V1]) :: (W4.heap.size, [vi ki 0, vi ki V]) :: (ob, T) :: [(w.heap.size + 1, [vi ki 0, vi ki u]), (w.heap.size, Z)]) W9) := k9
   have HO9 : Hid (Ok W9) := o9
   clear k9 o9 M8 N8 K8 HO8
   obtain ⟨c0, c1⟩ := (bo1 K9).c2
   go_wp2_with (first | (refine wpList_load_mid rfl 44 _ rfl ob 0 rfl T _ (K9.out.at ob T (by simp)).all Tryz.underlying44 rfl (by rw [hTl]; kernel_rfl) ?_; rw [hTA]) | fail)
   refine (IN.out _ HO9.out).mono ?_
   rintro e W10 ⟨rfl, hb⟩
   have K10 := bsb K9 hb
   have HO10 : Hid (Ok W10) := HOB.out _ _ HO9.out hb
   clear hb K9 HO9
   clear c0 c1 IN
   have M10 := bsn K10 [vi ki 0, vi ki V] 36
   have N10 : Hid (Ok (W10.alloc (.cells #[vi ki 0, vi ki V] 36))) := HOB.out _ _ HO10.out ((Below.refl _ W10).alloc (Nat.le_refl _) _)
   have lt10_0 := (bo1 K10).1
   have lt10_1 := (bo2 K10).1
   have lt10_2 := (bo3 K10).1
   have lt10_3 := (bo4 K10).1
   have lt10_4 := (bo5 K10).1
   have lt10_5 := (bo6 K10).1
   go_upto_region 10 with fail
   refine gen_code (fun X => BS w ((W10.heap.size, [vi ki 0, vi ki V]) :: (W8.heap.size, [vi ki 0, vi ki V2]) :: (W6.heap.size, [vi ki 0, vi ki V1]) :: (W4.heap.size, [vi ki 0, vi ki V]) :: (ob, T) :: [(w.heap.size + 1, [vi ki 0, vi ki u]), (w.heap.size, Z)]) X ∧ Ok X) ⟨M10.out, N10.out⟩ ?_
   rintro W11 ⟨k9, o9⟩
   have K11 : Hid (BS w ((W10.heap.size, [vi ki 0, vi ki V]) :: (W8.heap.size, [vi ki 0, vi ki V2]) :: (W6.heap.size, [vi ki 0, vi ki V1]) :: (W4.heap.size, [vi ki 0, vi ki V]) :: (ob, T) :: [(w.heap.size + 1, [vi ki 0, vi ki u]), (w.heap.size, Z)]) W11) := k9
   have HO11 : Hid (Ok W11) := o9
   clear k9 o9 M10 N10 K10 HO10
   obtain ⟨c0, c1⟩ := (bo1 K11).c2
   obtain ⟨d0, d1⟩ := (bo4 K11).c2
   go_wp2_with fail
   refine (KN.out _ (hL.out _ K11.out.1)).mono ?_
   rintro e W99 ⟨rfl, hb⟩
   have K99 := bsb K11 hb
   clear hb
   go_wp2_with fail
   go_ret
   exact ⟨rfl, K99.out.1⟩
end Go.Proofs.YtklehbmghjcmaaaGreatDoor
namespace Go.Proofs.YtklehbmghjcmaaaGreatDoor
open Go.RowKit
def ftZ : List Value := [.bool false, vi ki 0, vi ki 0, vi ki 0, vi ki 0, vi ki 0, vi ki 0, vi ki 0, .int .u8 0, vi ki 0, .string ⟨#[]⟩, vi ki 0, vi ki 0, vi ki 0, vi ki 0, vi ki 0, .int .u8 0, vi ki 0, .string ⟨#[]⟩]
def tbZ : List Value := .string ⟨#[]⟩ :: vi ki 0 :: vi ki 0 :: .bool false :: .string ⟨#[]⟩ :: .slice none 0 0 :: ftZ
def utL : List Value := .string ⟨#[85, 84, 67]⟩ :: vi ki 0 :: vi ki 0 :: .bool false :: .string ⟨#[85, 84, 67]⟩ :: .slice none 0 0 :: ftZ
theorem one_u : utL.toArray.all (·.oneCell') = true := by kernel_rfl
theorem res_c1 {P : Program} {fn : Func} {p : Tmp} {ty : TypeId} (h : fn.results = #[.cell p ty]) (tmps : Array Value) (w : World) (a : Addr) (v : Value) (hp : tmps[p]?.getD undef = .pointer (some a)) (hl : (loadVar ty a).run P w = .ok v w) :
  (results fn tmps).run P w = .ok v w := by
 simp [results, h, hp, asAddr, hl]
theorem mid_on {P : Program} {ops : Array Oper} {rest : List Oper} {op : Oper} {a : Act} {w : World} {Q : Exit → Act → World → Prop} (hgd : Region.wanted op (yielded ops a.tmps) = true) (ty : TypeId) (x : Operand) (ho : op.op = .load ty x)
  (b o : Nat) (hx : a.eval x = .pointer (some ⟨b, o, none⟩)) (cs : List Value) (d : TypeDesc) (hc : w.rangeAt b o cs)
  (hu : P.underlying ty = some d) (hd : d.isRow = true) (hi : (P.info? ty).map (·.size) = some cs.length)
  (h : wpList P ops Q rest (a.put op.dst (.agg cs.toArray)) w) : wpList P ops Q (op :: rest) a w := by
 unfold wpList
 rw [if_pos hgd]
 exact .inl (wp_load_mid ty x ho b o hx cs d hc hu hd hi h)
theorem utc_any (w : World) : Calls Tryz.prog 22 #[] w fun e w' => e = zr (.agg utL.toArray) ∧ Below w.heap.size w w' := by
 have X1 : Hid (Bx (w.alloc (.cells tbZ.toArray 44)) w.heap.size tbZ) := Bx.new w tbZ 44
 have B1 : Hid (Below w.heap.size w (w.alloc (.cells tbZ.toArray 44))) := (Below.refl _ _).alloc (Nat.le_refl _) _
 go_enter Tryz.func22, Tryz.ntmps22
 go_wp2_with (refine wpList_store_mid rfl 44 _ _ rfl w.heap.size 0 utL.toArray rfl rfl X1.out.there (by kernel_rfl) one_u ?_; refine gen_at (fun V => Bx V w.heap.size utL ∧ Below w.heap.size w V) ⟨X1.out.setAll utL rfl, below_setCells (Nat.le_refl _) _ _ _ B1.out⟩ ?_; clear X1 B1; rintro V ⟨XV, BV⟩)
 exact bodyPost_ret (v := .agg utL.toArray) (res_c1 rfl _ _ _ _ rfl (run_loadVar_mid _ _ _ _ utL _ XV.all Tryz.underlying44 rfl (by kernel_rfl))) rfl ⟨rfl, BV⟩
theorem isOff0 (w : World) : Calls Tryz.prog 74 #[vi ki 0] w fun e w' => e = zr (.bool true) ∧ w' = w := by
 go_enter Tryz.func74, Tryz.ntmps74
 go_wp2
 go_ret
 exact ⟨rfl, rfl⟩
theorem uright (w : World) : Calls Tryz.prog 31 #[.agg utL.toArray] w fun e w' => e = zr (.bool true) ∧ Below w.heap.size w w' := by
 have X1 : Hid (Bx (w.alloc (.cells utL.toArray 44)) w.heap.size utL) := Bx.new w utL 44
 have B1 : Hid (Below w.heap.size w (w.alloc (.cells utL.toArray 44))) := (Below.refl _ _).alloc (Nat.le_refl _) _
 have hEQ : ∀ W : World, (Op.equalIn 10000 42 (.agg ftZ.toArray) (.agg #[.bool false, vi ki 0, vi ki 0, vi ki 0, vi ki 0, vi ki 0, vi ki 0, vi ki 0, .int .u8 0, vi ki 0, .string ⟨#[]⟩, vi ki 0, vi ki 0, vi ki 0, vi ki 0, vi ki 0, .int .u8 0, vi ki 0, .string ⟨#[]⟩])).run Tryz.prog W = .ok true W := fun W => by kernel_rfl
 go_enter Tryz.func31, Tryz.ntmps31
 generalize hUA : utL.toArray = UA at *
 go_upto_region 1 with fail
 refine gen_to (fun V => Bx V w.heap.size utL ∧ Below w.heap.size w V) ⟨X1.out, B1.out⟩ ?_
 clear X1 B1
 rintro V ⟨XV, BV⟩
 have c1 := XV.c 1 (v := vi ki 0) rfl
 have c2 := XV.c 2 (v := vi ki 0) rfl
 have c5 := XV.c 5 (v := (.slice none 0 0)) rfl
 have HR : Hid (V.rangeAt w.heap.size 6 ftZ) := fun j v hv => (XV.2 (6 + j) v (by simpa [utL, Nat.add_comm] using hv)).1
 have HB : Hid (Below w.heap.size w V) := BV
 clear XV BV
 go_wp2_with fail
 refine (isOff0 _).mono ?_
 rintro e v1 ⟨rfl, hv1⟩
 obtain rfl := hv1.symm
 clear hv1
 go_wp2_with fail
 go_loopw [25] (fun iv wr => iv = vi ki 0 ∧ wr = V) (fun _ _ => 0)
 case atStart => exact ⟨rfl, rfl⟩
 case round =>
  obtain ⟨rfl, rfl⟩ := hrel
  go_wp2_with (first | (refine wpList_load_mid rfl 42 _ rfl w.heap.size 6 rfl ftZ _ HR.out Tryz.underlying42 rfl (by kernel_rfl) ?_) | fail)
  go_ret
  exact ⟨rfl, HB.out⟩
theorem back_e (i t r v e : Int) (he : e ≠ 0)
  (SU : Hid (∀ w : World, Calls Tryz.prog 115 #[vi ki t, vi ki r] w fun r' w' => r' = zr (.tuple #[vi ki v, vi ki e]) ∧ w' = w))
  (w : World) :
  Calls Tryz.prog 69 #[.agg #[vi ki i, vi ki t], vi ki r] w fun r' w' => r' = zr (.tuple #[.agg #[vi ki 0, vi ki 0], vi ki 10]) ∧ Below w.heap.size w w' := by
 have n_e : (e != 0) = true := bne_iff_ne.2 he
 have K0 := bsn2 w [vi ki i, vi ki t] 36 [vi ki 0, vi ki 0] 36
 go_enter Tryz.func69, Tryz.ntmps69
 go_wp2_with fail
 refine (SU.out _).mono ?_
 rintro e W1 ⟨rfl, rfl⟩
 go_wp2
 exact bodyPost_ret (v := .tuple #[.agg #[vi ki 0, vi ki 0], vi ki 10]) (by simp [results, Tryz.results69, go_sem]) rfl ⟨rfl, (by repeat' (first | assumption | exact Below.refl _ _ | exact Nat.le_refl _ | refine Below.alloc ?_ ?_ _ | (simp; done) | (simp; omega) | omega))⟩
theorem back_true (i t r v : Int)
  (SU : Hid (∀ w : World, Calls Tryz.prog 115 #[vi ki t, vi ki r] w fun r' w' => r' = zr (.tuple #[vi ki v, vi ki 0]) ∧ w' = w))
  (R : Hid (∀ w : World, Cvl.Lens w → Calls Tryz.prog 32 #[.agg #[vi ki 0, vi ki v]] w fun r' w' => r' = zr (.bool true) ∧ Below w.heap.size w w'))
  (w : World) (hL : Hid (∀ W : World, Below w.heap.size w W → Cvl.Lens W)) :
  Calls Tryz.prog 69 #[.agg #[vi ki i, vi ki t], vi ki r] w fun r' w' => r' = zr (.tuple #[.agg #[vi ki 0, vi ki v], vi ki 0]) ∧ Below w.heap.size w w' := by
 have K0 := bsn2 w [vi ki i, vi ki t] 36 [vi ki 0, vi ki 0] 36
 go_enter Tryz.func69, Tryz.ntmps69
 go_wp2_with fail
 refine (SU.out _).mono ?_
 rintro e W1 ⟨rfl, rfl⟩
 go_wp2_with fail
 refine (R.out _ (hL.out _ K0.out.1)).mono ?_
 rintro e W2 ⟨rfl, hb⟩
 have K2 := bsb K0 hb
 clear hb K0
 obtain ⟨c2_0_0, c2_0_1⟩ := (bo1 K2).c2
 obtain ⟨z2_0_0, z2_0_1⟩ := (bo1 K2).f2
 obtain ⟨c2_1_0, c2_1_1⟩ := (bo2 K2).c2
 have XF : Hid (Bx (W2.setCells (w.heap.size + 1) 0 [vi ki 0, vi ki v]) (w.heap.size + 1) [vi ki 0, vi ki v]) := (K2.out.at (w.heap.size + 1) [vi ki 0, vi ki 0] (by simp)).setAll _ rfl
 have BF : Hid (Below w.heap.size w (W2.setCells (w.heap.size + 1) 0 [vi ki 0, vi ki v])) := below_setCells (by omega) _ _ _ K2.out.1
 have y0 := XF.out.c 0 rfl
 have y1 := XF.out.c 1 rfl
 simp only [World.setCells, Nat.zero_add] at y0 y1
 clear XF
 go_wp2
 exact bodyPost_ret (v := .tuple #[.agg #[vi ki 0, vi ki v], vi ki 0]) (by simp [results, Tryz.results69, go_sem, y0, y1]) rfl ⟨rfl, BF.out⟩
theorem back_false (i t r v : Int)
  (SU : Hid (∀ w : World, Calls Tryz.prog 115 #[vi ki t, vi ki r] w fun r' w' => r' = zr (.tuple #[vi ki v, vi ki 0]) ∧ w' = w))
  (R : Hid (∀ w : World, Cvl.Lens w → Calls Tryz.prog 32 #[.agg #[vi ki 0, vi ki v]] w fun r' w' => r' = zr (.bool false) ∧ Below w.heap.size w w'))
  (w : World) (hL : Hid (∀ W : World, Below w.heap.size w W → Cvl.Lens W)) :
  Calls Tryz.prog 69 #[.agg #[vi ki i, vi ki t], vi ki r] w fun r' w' => r' = zr (.tuple #[.agg #[vi ki 0, vi ki 0], vi ki 10]) ∧ Below w.heap.size w w' := by
 have K0 := bsn2 w [vi ki i, vi ki t] 36 [vi ki 0, vi ki 0] 36
 go_enter Tryz.func69, Tryz.ntmps69
 go_wp2_with fail
 refine (SU.out _).mono ?_
 rintro e W1 ⟨rfl, rfl⟩
 go_wp2_with fail
 refine (R.out _ (hL.out _ K0.out.1)).mono ?_
 rintro e W2 ⟨rfl, hb⟩
 have K2 := bsb K0 hb
 clear hb K0
 obtain ⟨c2_0_0, c2_0_1⟩ := (bo1 K2).c2
 obtain ⟨z2_0_0, z2_0_1⟩ := (bo1 K2).f2
 obtain ⟨c2_1_0, c2_1_1⟩ := (bo2 K2).c2
 have XF : Hid (Bx (W2.setCells (w.heap.size + 1) 0 [vi ki 0, vi ki 0]) (w.heap.size + 1) [vi ki 0, vi ki 0]) := (K2.out.at (w.heap.size + 1) [vi ki 0, vi ki 0] (by simp)).setAll _ rfl
 have BF : Hid (Below w.heap.size w (W2.setCells (w.heap.size + 1) 0 [vi ki 0, vi ki 0])) := below_setCells (by omega) _ _ _ K2.out.1
 have y0 := XF.out.c 0 rfl
 have y1 := XF.out.c 1 rfl
 simp only [World.setCells, Nat.zero_add] at y0 y1
 clear XF
 go_wp2
 exact bodyPost_ret (v := .tuple #[.agg #[vi ki 0, vi ki 0], vi ki 10]) (by simp [results, Tryz.results69, go_sem, y0, y1]) rfl ⟨rfl, BF.out⟩
theorem len_0 (j M D U mo us x n : Int) (d1 : -1000000000000 ≤ D + mo) (d2 : D + mo ≤ 1000000000000) (hn : n = 0)
  (SL : Hid (∀ w : World, Calls Tryz.prog 76 #[vi ki U] w fun r' w' => r' = zr (.tuple #[vi ki mo, vi ki us]) ∧ w' = w))
  (MU : Hid (∀ w : World, Calls Tryz.prog 160 #[vi ki (D + mo), vi ki 86400000000] w fun r' w' => r' = zr (.tuple #[vi ki x, vi ki 0]) ∧ Below w.heap.size w w'))
  (AD : Hid (∀ w : World, Calls Tryz.prog 81 #[vi ki x, vi ki us] w fun r' w' => r' = zr (.tuple #[vi ki n, vi ki 0]) ∧ w' = w))
  (w : World) :
  Calls Tryz.prog 116 #[.agg #[vi ki j, vi ki M, vi ki D, vi ki U]] w fun r' w' => r' = zr (.tuple #[vi ki 0, vi ki 11]) ∧ Below w.heap.size w w' := by
 subst hn
 have K0 := bsn1 w [vi ki j, vi ki M, vi ki D, vi ki U] 59
 go_enter Tryz.func116, Tryz.ntmps116
 go_wp2_with fail
 refine (SL.out _).mono ?_
 rintro e W1 ⟨rfl, rfl⟩
 go_wp2_with fail
 refine (MU.out _).mono ?_
 rintro e W2 ⟨rfl, hb⟩
 have K2 := bsb K0 hb
 clear hb K0
 obtain ⟨c2_0_0, c2_0_1, c2_0_2, c2_0_3⟩ := (bo1 K2).c4
 go_wp2_with fail
 refine (AD.out _).mono ?_
 rintro e W3 ⟨rfl, hw⟩
 rw [hw]
 clear hw W3
 go_wp2
 go_ret2
 exact ⟨rfl, K2.out.1⟩
theorem len_ok (j M D U mo us x n : Int) (d1 : -1000000000000 ≤ D + mo) (d2 : D + mo ≤ 1000000000000) (hn : 0 < n)
  (SL : Hid (∀ w : World, Calls Tryz.prog 76 #[vi ki U] w fun r' w' => r' = zr (.tuple #[vi ki mo, vi ki us]) ∧ w' = w))
  (MU : Hid (∀ w : World, Calls Tryz.prog 160 #[vi ki (D + mo), vi ki 86400000000] w fun r' w' => r' = zr (.tuple #[vi ki x, vi ki 0]) ∧ Below w.heap.size w w'))
  (AD : Hid (∀ w : World, Calls Tryz.prog 81 #[vi ki x, vi ki us] w fun r' w' => r' = zr (.tuple #[vi ki n, vi ki 0]) ∧ w' = w))
  (w : World) :
  Calls Tryz.prog 116 #[.agg #[vi ki j, vi ki M, vi ki D, vi ki U]] w fun r' w' => r' = zr (.tuple #[vi ki n, vi ki 0]) ∧ Below w.heap.size w w' := by
 have n1 : ¬ n < 0 := by omega
 have n2 : (n == 0) = false := by simp; omega
 have K0 := bsn1 w [vi ki j, vi ki M, vi ki D, vi ki U] 59
 go_enter Tryz.func116, Tryz.ntmps116
 go_wp2_with fail
 refine (SL.out _).mono ?_
 rintro e W1 ⟨rfl, rfl⟩
 go_wp2_with fail
 refine (MU.out _).mono ?_
 rintro e W2 ⟨rfl, hb⟩
 have K2 := bsb K0 hb
 clear hb K0
 obtain ⟨c2_0_0, c2_0_1, c2_0_2, c2_0_3⟩ := (bo1 K2).c4
 go_wp2_with fail
 refine (AD.out _).mono ?_
 rintro e W3 ⟨rfl, hw⟩
 rw [hw]
 clear hw W3
 go_wp2
 go_ret2
 exact ⟨rfl, K2.out.1⟩
theorem bin_ok (D U t q n g r V E : Int)
  (PR : Hid (∀ w : World, Calls Tryz.prog 23 #[.agg #[vi ki 0, vi ki 0, vi ki D, vi ki U]] w fun r' w' => r' = zr (.bool true) ∧ Below w.heap.size w w'))
  (R1 : Hid (∀ w : World, Cvl.Lens w → Calls Tryz.prog 32 #[.agg #[vi ki 0, vi ki t]] w fun r' w' => r' = zr (.bool true) ∧ Below w.heap.size w w'))
  (R2 : Hid (∀ w : World, Cvl.Lens w → Calls Tryz.prog 32 #[.agg #[vi ki 0, vi ki q]] w fun r' w' => r' = zr (.bool true) ∧ Below w.heap.size w w'))
  (LE : Hid (∀ w : World, Calls Tryz.prog 116 #[.agg #[vi ki 0, vi ki 0, vi ki D, vi ki U]] w fun r' w' => r' = zr (.tuple #[vi ki n, vi ki 0]) ∧ Below w.heap.size w w'))
  (SB : Hid (∀ w : World, Calls Tryz.prog 115 #[vi ki t, vi ki q] w fun r' w' => r' = zr (.tuple #[vi ki g, vi ki 0]) ∧ w' = w))
  (MO : Hid (∀ w : World, Calls Tryz.prog 117 #[vi ki g, vi ki n] w fun r' w' => r' = zr (.tuple #[vi ki r, vi ki 0]) ∧ w' = w))
  (BK : Hid (∀ w : World, Cvl.Lens w → Calls Tryz.prog 69 #[.agg #[vi ki 0, vi ki t], vi ki r] w fun r' w' => r' = zr (.tuple #[.agg #[vi ki 0, vi ki V], vi ki E]) ∧ Below w.heap.size w w'))
  (w : World) (hL : Hid (∀ W : World, Below w.heap.size w W → Cvl.Lens W)) :
  Calls Tryz.prog 72 #[.agg #[vi ki 0, vi ki 0, vi ki D, vi ki U], .agg #[vi ki 0, vi ki t], .agg #[vi ki 0, vi ki q]] w fun r' w' => r' = zr (.tuple #[.agg #[vi ki 0, vi ki V], vi ki E]) ∧ Below w.heap.size w w' := by
 have K0 := bsn4 w [vi ki 0, vi ki 0, vi ki D, vi ki U] 59 [vi ki 0, vi ki t] 36 [vi ki 0, vi ki q] 36 [vi ki 0, vi ki 0] 36
 go_enter Tryz.func72, Tryz.ntmps72
 go_wp2_with fail
 refine (PR.out _).mono ?_
 rintro e W1 ⟨rfl, hb⟩
 have K1 := bsb K0 hb
 clear hb K0
 obtain ⟨c1_0_0, c1_0_1⟩ := (bo1 K1).c2
 obtain ⟨c1_1_0, c1_1_1⟩ := (bo2 K1).c2
 obtain ⟨c1_2_0, c1_2_1⟩ := (bo3 K1).c2
 obtain ⟨c1_3_0, c1_3_1, c1_3_2, c1_3_3⟩ := (bo4 K1).c4
 go_wp2_with fail
 refine (R1.out _ (hL.out _ K1.out.1)).mono ?_
 rintro e W2 ⟨rfl, hb⟩
 have K2 := bsb K1 hb
 clear c1_0_0 c1_0_1 c1_1_0 c1_1_1 c1_2_0 c1_2_1 c1_3_0 c1_3_1 c1_3_2 c1_3_3
 clear hb K1
 obtain ⟨c2_0_0, c2_0_1⟩ := (bo1 K2).c2
 obtain ⟨c2_1_0, c2_1_1⟩ := (bo2 K2).c2
 obtain ⟨c2_2_0, c2_2_1⟩ := (bo3 K2).c2
 obtain ⟨c2_3_0, c2_3_1, c2_3_2, c2_3_3⟩ := (bo4 K2).c4
 go_wp2_with fail
 refine (R2.out _ (hL.out _ K2.out.1)).mono ?_
 rintro e W3 ⟨rfl, hb⟩
 have K3 := bsb K2 hb
 clear c2_0_0 c2_0_1 c2_1_0 c2_1_1 c2_2_0 c2_2_1 c2_3_0 c2_3_1 c2_3_2 c2_3_3
 clear hb K2
 obtain ⟨c3_0_0, c3_0_1⟩ := (bo1 K3).c2
 obtain ⟨c3_1_0, c3_1_1⟩ := (bo2 K3).c2
 obtain ⟨c3_2_0, c3_2_1⟩ := (bo3 K3).c2
 obtain ⟨c3_3_0, c3_3_1, c3_3_2, c3_3_3⟩ := (bo4 K3).c4
 go_wp2_with fail
 refine (LE.out _).mono ?_
 rintro e W4 ⟨rfl, hb⟩
 have K4 := bsb K3 hb
 clear c3_0_0 c3_0_1 c3_1_0 c3_1_1 c3_2_0 c3_2_1 c3_3_0 c3_3_1 c3_3_2 c3_3_3
 clear hb K3
 obtain ⟨c4_0_0, c4_0_1⟩ := (bo1 K4).c2
 obtain ⟨c4_1_0, c4_1_1⟩ := (bo2 K4).c2
 obtain ⟨c4_2_0, c4_2_1⟩ := (bo3 K4).c2
 obtain ⟨c4_3_0, c4_3_1, c4_3_2, c4_3_3⟩ := (bo4 K4).c4
 go_wp2_with fail
 refine (SB.out _).mono ?_
 rintro e W5 ⟨rfl, hw⟩
 rw [hw]
 clear hw W5
 go_wp2_with fail
 refine (MO.out _).mono ?_
 rintro e W6 ⟨rfl, hw⟩
 rw [hw]
 clear hw W6
 go_wp2_with fail
 refine (BK.out _ (hL.out _ K4.out.1)).mono ?_
 rintro e W7 ⟨rfl, hb⟩
 have K7 := bsb K4 hb
 clear c4_0_0 c4_0_1 c4_1_0 c4_1_1 c4_2_0 c4_2_1 c4_3_0 c4_3_1 c4_3_2 c4_3_3
 clear hb K4
 obtain ⟨c7_0_0, c7_0_1⟩ := (bo1 K7).c2
 obtain ⟨z7_0_0, z7_0_1⟩ := (bo1 K7).f2
 obtain ⟨c7_1_0, c7_1_1⟩ := (bo2 K7).c2
 obtain ⟨c7_2_0, c7_2_1⟩ := (bo3 K7).c2
 obtain ⟨c7_3_0, c7_3_1, c7_3_2, c7_3_3⟩ := (bo4 K7).c4
 have XF : Hid (Bx (W7.setCells (w.heap.size + 3) 0 [vi ki 0, vi ki V]) (w.heap.size + 3) [vi ki 0, vi ki V]) := (K7.out.at (w.heap.size + 3) [vi ki 0, vi ki 0] (by simp)).setAll _ rfl
 have BF : Hid (Below w.heap.size w (W7.setCells (w.heap.size + 3) 0 [vi ki 0, vi ki V])) := below_setCells (by omega) _ _ _ K7.out.1
 have y0 := XF.out.c 0 rfl
 have y1 := XF.out.c 1 rfl
 simp only [World.setCells, Nat.zero_add] at y0 y1
 clear XF
 go_wp2
 exact bodyPost_ret (v := .tuple #[.agg #[vi ki 0, vi ki V], vi ki E]) (by simp [results, Tryz.results72, go_sem, y0, y1]) rfl ⟨rfl, BF.out⟩
end Go.Proofs.YtklehbmghjcmaaaGreatDoor
