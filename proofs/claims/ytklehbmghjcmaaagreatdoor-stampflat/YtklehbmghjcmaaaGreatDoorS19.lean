import Derived.Test.YtklehbmghjcmaaaGreatDoorSz
import Derived.Test.YtklehbmghjcmaaaGreatDoorS18
import Derived.Test.YtklehbmghjcmaaaGreatDoorS3
import Derived.SizedLaws
import Derived.ChangeArms
import Derived.DataElems
import Derived.Test.YtklehbmghjcmaaaGreatDoorS11
import Derived.Laws.AppendOwnNone
open Go.Value renaming int → vi
open Go.IntKind renaming i64 → ki
open List renaming setIfInBounds_toArray → zb, set_cons_zero → zc, set_cons_succ → zd
open Go.Act renaming put → za
open Go.Ending renaming returned → zr
set_option maxRecDepth 100000
set_option maxHeartbeats 16000000
set_option linter.unusedVariables false
namespace Go.Proofs.YtklehbmghjcmaaaGreatDoor
open Go.RowKit
structure TbR where
 nm : ByteArray
 first : TrR
 trs : List TrR
 foot : Fn.Ft
def tbL (t : TbR) (v : Value) : List Value := .string t.nm :: (trC t.first ++ (v :: Fn.fL t.foot))
def wfT (x : TrR) : Prop := (Lit.int .i64 x.at_).wf = true ∧ (Lit.int .i64 x.off).wf = true
def TransA (W : World) (v : Value) (L : List TrR) : Prop := (v = .slice none 0 0 ∧ L = []) ∨ ∃ a cap, v = .slice (some a) L.length cap ∧ L.length ≤ cap ∧ cap ≤ maxLen ∧ ∀ j u, (trCs L)[j]? = some u → W.cell? (a.add j) = some u
set_option maxRecDepth 100000
theorem cells30 : Tryz.prog.cellsOf 23 = 4 := by kernel_rfl
theorem bytes30 : Tryz.prog.bytesOf 23 = 40 := by kernel_rfl
theorem list4 {α : Type} {l : List α} (h : l.length = 4) : ∃ c0 c1 c2 c3, l = [c0, c1, c2, c3] := by
 match l, h with
 | [c0, c1, c2, c3], _ => exact ⟨c0, c1, c2, c3, rfl⟩
section
variable {H : Type} {enc : TypeId × Value → H} {w : World} {base : Nat} {spare : Nat → Bool} {held : Bool}
open Go.ChangeShapes Go.WideShapes Go.ChangeAt Go.WideMaps Go.WideElems
theorem trod4 {P : Program} {t : TypeId} {f0 f1 f2 f3 : Field} {fuel : Nat} {cs : List Value} {x : DataW H × List MemPlace} (ht : P.underlying t = some (.struct #[f0, f1, f2, f3])) (h : DataW.trod enc P w base spare held fuel t cs = some x) :
  ∃ y0 y1 y2 y3 n, x.1 = .agg [y0.1, y1.1, y2.1, y3.1] ∧ cs.length = P.cellsOf t ∧ DataW.trod enc P w base spare held n f0.type ((cs.drop f0.offset).take (P.cellsOf f0.type)) = some y0 ∧
   DataW.trod enc P w base spare held n f1.type ((cs.drop f1.offset).take (P.cellsOf f1.type)) = some y1 ∧ DataW.trod enc P w base spare held n f2.type ((cs.drop f2.offset).take (P.cellsOf f2.type)) = some y2 ∧
   DataW.trod enc P w base spare held n f3.type ((cs.drop f3.offset).take (P.cellsOf f3.type)) = some y3 := by
 obtain ⟨xs, n, _, hx, hl, hlen, hf⟩ := DataW.trod_struct ht h
 obtain ⟨y0, y1, y2, y3, rfl⟩ := list4 hlen
 exact ⟨y0, y1, y2, y3, n, by rw [hx]; rfl, hl, by simpa using hf 0 f0 rfl, by simpa using hf 1 f1 rfl, by simpa using hf 2 f2 rfl, by simpa using hf 3 f3 rfl⟩
theorem tran_open {n : Nat} {cs : List Value} {y : DataW H × List MemPlace} (h : DataW.trod enc Tryz.prog w base spare held n 23 cs = some y) : ∃ x : TrR, cs = trC x ∧ wfT x := by
 obtain ⟨y0, y1, y2, y3, n', _, hl, h0, h1, h2, h3⟩ := trod4 Tryz.underlying23 h
 have hc : cs.length = 4 := hl.trans cells30
 obtain ⟨c0, c1, c2, c3, rfl⟩ := list4 hc
 simp only [show Tryz.prog.cellsOf 2 = 1 by kernel_rfl, show Tryz.prog.cellsOf 4 = 1 by kernel_rfl, show Tryz.prog.cellsOf 9 = 1 by kernel_rfl, List.drop_succ_cons, List.drop_zero, List.take_succ_cons, List.take_zero] at h0 h1 h2 h3
 obtain ⟨a, e0, _, w0⟩ := DataW.trod_int Tryz.underlying2 h0
 obtain ⟨o, e1, _, w1⟩ := DataW.trod_int Tryz.underlying2 h1
 obtain ⟨d, e2, _⟩ := DataW.trod_bool Tryz.underlying4 h2
 obtain ⟨s, e3, _, w3⟩ := DataW.trod_string Tryz.underlying9 h3
 simp only [List.cons.injEq, and_true] at e0 e1 e2 e3
 exact ⟨⟨a, o, d, s⟩, by unfold trC; rw [e0, e1, e2, e3], w0, w1⟩
theorem trans_open {n : Nat} {v : Value} {y : DataW H × List MemPlace} (h : DataW.trod enc Tryz.prog w 0 (fun _ => true) held n 24 [v] = some y) :
  ∃ (L : List TrR), TransA w v L ∧ (∀ x ∈ L, wfT x) ∧ (y.1 = .nil ∧ L = [] ∨ ∃ es sp, y.1 = .slice es sp ∧ es.length = L.length) := by
 rcases DataW.trod_slice Tryz.underlying24 h with ⟨hcs, hx⟩ | ⟨a, len, cap, elems, rest, n', _, hcs, hx, _, hl, hm, hlen, hel, _, _⟩
 ·simp only [List.cons.injEq, and_true] at hcs
  exact ⟨[], .inl ⟨hcs, rfl⟩, fun x hx => by simp at hx, .inl ⟨by rw [hx], rfl⟩⟩
 ·simp only [List.cons.injEq, and_true] at hcs
  rw [cells30] at hel
  have each : ∀ k, k < len → ∃ x : TrR, w.cells? 0 (a.add (k * 4)) 4 = some (trC x) ∧ wfT x := by
   intro k hk
   have := hel k hk
   rw [List.getElem?_eq_getElem (by omega), Option.bind_eq_some_iff] at this
   obtain ⟨cs, h1, h2⟩ := this
   obtain ⟨x, rfl, hw⟩ := tran_open h2
   exact ⟨x, h1, hw⟩
  have build : ∀ k, k ≤ len → ∃ L : List TrR, L.length = k ∧ (∀ x ∈ L, wfT x) ∧ ∀ j u, (trCs L)[j]? = some u → w.cell? (a.add j) = some u := by
   intro k
   induction k with
   | zero => exact fun _ => ⟨[], rfl, fun x hx => by simp at hx, fun j u hj => by simp [trCs] at hj⟩
   | succ k ih =>
    intro hk
    obtain ⟨L, hL, hwf, hc⟩ := ih (by omega)
    obtain ⟨x, hx1, hx2⟩ := each k (by omega)
    refine ⟨L ++ [x], by simp [hL], fun z hz => ?_, fun j u hj => ?_⟩
    ·rcases List.mem_append.1 hz with hz | hz
     ·exact hwf z hz
     ·simp at hz; subst hz; exact hx2
    ·rw [trCs_app] at hj
     by_cases hlt : j < (trCs L).length
     ·rw [List.getElem?_append_left hlt] at hj; exact hc j u hj
     ·rw [List.getElem?_append_right (by omega), trCs_len, hL] at hj
      rw [trCs_len, hL] at hlt
      have hj' : (trC x)[j - k * 4]? = some u := by simpa [trCs] using hj
      have h4 : j - k * 4 < 4 := by have := (List.getElem?_eq_some_iff.1 hj').1; simpa [trC] using this
      have hcell : w.cell? ((a.add (k * 4)).add (j - k * 4)) = some u := by
       unfold World.cells? at hx1
       rw [if_pos (Nat.zero_le _)] at hx1
       have hm9 := hx1
       simp only [List.range, List.range.loop, List.mapM_cons, List.mapM_nil, Option.bind_eq_bind, Option.bind_eq_some_iff, Option.pure_def, Option.some.injEq, trC, List.cons.injEq] at hm9
       obtain ⟨u0, g0, _, ⟨u1, g1, _, ⟨u2, g2, _, ⟨u3, g3, _, rfl, rfl⟩, rfl⟩, rfl⟩, e⟩ := hm9
       simp only [List.cons.injEq, and_true] at e
       obtain ⟨e0, e1, e2, e3⟩ := e
       rcases (show j - k * 4 = 0 ∨ j - k * 4 = 1 ∨ j - k * 4 = 2 ∨ j - k * 4 = 3 by omega) with q | q | q | q <;> rw [q] at hj' ⊢ <;> simp [trC] at hj' <;> subst hj'
       ·rw [g0, e0]
       ·rw [g1, e1]
       ·rw [g2, e2]
       ·rw [g3, e3]
      have hadd : (a.add (k * 4)).add (j - k * 4) = a.add j := by rw [Addr.add_add, show k * 4 + (j - k * 4) = j by omega]
      rw [hadd] at hcell; exact hcell
  obtain ⟨L, hL, hwf, hc⟩ := build len (Nat.le_refl _)
  refine ⟨L, .inr ⟨a, cap, by rw [hL]; exact hcs, by rw [hL]; exact hl, hm, hc⟩, hwf, .inr ⟨elems.map (·.1), rest.map (·.1), by rw [hx], by simp [hlen, hL]⟩⟩
theorem foot_cells {n : Nat} {cs : List Value} {y : DataW H × List MemPlace} (h : DataW.trod enc Tryz.prog w base spare held n 32 cs = some y) : ∃ f : Fn.Ft, cs = Fn.fL f ∧ Fn.wfF f ∧ (Lit.int .i64 f.fr).wf = true := by
 obtain ⟨x0, x1, x2, x3, x4, n', hl, h0, h1, h2, h3, h4⟩ := Fn.trod5 Tryz.underlying32 h
 have hc : cs.length = 19 := hl.trans (show Tryz.prog.cellsOf 32 = 19 by kernel_rfl)
 obtain ⟨c0, c1, c2, c3, c4, c5, c6, c7, c8, c9, c10, c11, c12, c13, c14, c15, c16, c17, c18, rfl⟩ := Fn.list19 hc
 simp only [show Tryz.prog.cellsOf 4 = 1 by kernel_rfl, show Tryz.prog.cellsOf 2 = 1 by kernel_rfl, show Tryz.prog.cellsOf 30 = 8 by kernel_rfl, List.drop_succ_cons, List.drop_zero, List.take_succ_cons, List.take_zero] at h0 h1 h2 h3 h4
 obtain ⟨hs, e0, _⟩ := DataW.trod_bool Tryz.underlying4 h0
 obtain ⟨fr, e1, _, w1⟩ := DataW.trod_int Tryz.underlying2 h1
 obtain ⟨off, e2, _, w2⟩ := DataW.trod_int Tryz.underlying2 h2
 obtain ⟨A, e3, w3⟩ := Fn.half_open h3
 obtain ⟨B, e4, w4⟩ := Fn.half_open h4
 unfold Fn.hL at e3 e4
 simp only [List.cons.injEq, and_true] at e0 e1 e2 e3 e4
 obtain ⟨a0, a1, a2, a3, a4, a5, a6, a7⟩ := e3
 obtain ⟨b0, b1, b2, b3, b4, b5, b6, b7⟩ := e4
 exact ⟨⟨hs, fr, off, A, B⟩, by unfold Fn.fL; rw [e0, e1, e2, a0, a1, a2, a3, a4, a5, a6, a7, b0, b1, b2, b3, b4, b5, b6, b7], ⟨w2, w3, w4⟩, w1⟩
theorem split25 {l : List Value} (h : l.length = 25) : ∃ (c0 : Value) (f : List Value) (c5 : Value) (r : List Value), l = c0 :: (f ++ (c5 :: r)) ∧ f.length = 4 ∧ r.length = 19 := by
 refine ⟨l[0]'(by omega), (l.drop 1).take 4, l[5]'(by omega), l.drop 6, ?_, by simp; omega, by simp; omega⟩
 conv => lhs; rw [← List.take_append_drop 6 l]
 apply List.ext_getElem?
 intro i
 by_cases h6 : i < 6
 ·rw [List.getElem?_append_left (by simp; omega)]
  rcases (show i = 0 ∨ i = 1 ∨ i = 2 ∨ i = 3 ∨ i = 4 ∨ i = 5 by omega) with q | q | q | q | q | q <;> subst q <;> simp [h]
 ·rw [List.getElem?_append_right (by simp; omega)]
  obtain ⟨k, rfl⟩ : ∃ k, i = k + 6 := ⟨i - 6, by omega⟩
  simp [List.getElem?_append, h]
  rw [if_neg (by omega)]; congr 1; omega
theorem table_open {r : Reach} {b0 : Nat} {v : Value} {d : DataW H} {p : List MemPlace} (hv : Value.okWide Tryz.prog w r b0 34 v) (h : DataW.Trod enc Tryz.prog w 0 (fun _ => true) held 34 v d p) :
  ∃ (t : TbR) (sv : Value), v = .agg (tbL t sv).toArray ∧ TransA w sv t.trs ∧ (∀ x ∈ t.trs, wfT x) ∧ wfT t.first ∧ Fn.wfF t.foot ∧ (Lit.int .i64 t.foot.fr).wf = true ∧ ∃ e0 e1 e2 e3, d = .agg [e0, e1, e2, e3] ∧ (e2 = .nil ∧ t.trs = [] ∨ ∃ es sp, e2 = .slice es sp ∧ es.length = t.trs.length) := by
 obtain ⟨cs, rfl, hsz⟩ := okWide_struct Tryz.underlying34 hv
 obtain ⟨fuel, hq⟩ := h
 obtain ⟨y0, y1, y2, y3, n', hd, hl, h0, h1, h2, h3⟩ := trod4 Tryz.underlying34 hq
 obtain ⟨cs⟩ := cs
 have hc : cs.length = 25 := hsz.trans (show Tryz.prog.cellsOf 34 = 25 by kernel_rfl)
 obtain ⟨c0, f, c5, rr, rfl, hf, hr⟩ := split25 hc
 obtain ⟨f0, f1, f2, f3, rfl⟩ := list4 hf
 simp only [show Tryz.prog.cellsOf 9 = 1 by kernel_rfl, cells30, show Tryz.prog.cellsOf 24 = 1 by kernel_rfl, show Tryz.prog.cellsOf 32 = 19 by kernel_rfl, Value.cells, List.drop_succ_cons, List.drop_zero, List.take_succ_cons, List.take_zero, List.cons_append, List.nil_append] at h0 h1 h2 h3
 obtain ⟨nm, e0, _, _⟩ := DataW.trod_string Tryz.underlying9 h0
 obtain ⟨x, e1, w1⟩ := tran_open h1
 obtain ⟨L, hT, hwf, hy⟩ := trans_open h2
 rw [List.take_of_length_le (by omega)] at h3
 obtain ⟨ft, e3, w3, w4⟩ := foot_cells h3
 simp only [List.cons.injEq, and_true] at e0
 refine ⟨⟨nm, x, L, ft⟩, c5, ?_, hT, hwf, w1, w3, w4, y0.1, y1.1, y2.1, y3.1, hd, hy⟩
 unfold tbL
 rw [e0, ← e1, ← e3]
end
end Go.Proofs.YtklehbmghjcmaaaGreatDoor
namespace Go.Proofs.YtklehbmghjcmaaaGreatDoor
open Go.RowKit Sr
theorem one_tb (nm : ByteArray) (f : TrR) (ao : Option Addr) (n c : Nat) : (tbF nm f (.slice ao n c) zeF).toArray.all (·.oneCell') = true := by
 simp [tbF, trC, zeF, Value.oneCell']
theorem TrAt.setC {W : World} {b i : Nat} {v sv : Value} {L : List TrR} (h : TrAt W sv L) (hg : ∀ a n c, sv = .slice (some a) n c → a.block ≠ b) : TrAt (W.setCell ⟨b, i, none⟩ v) sv L := by
 obtain ⟨h1, h2, h3⟩ := h
 refine ⟨h1, h2, h3.imp_right ?_⟩
 rintro ⟨g', o', c', e, hg', hc⟩
 have hne := hg _ _ _ e
 exact ⟨_, _, _, e, by simpa using hg', fun j u hj => (World.cell?_setCell_other _ _ _ _ (fun q => hne (by cases q; rfl))).trans (hc j u hj)⟩
theorem trat_setCells {W : World} {b i : Nat} {vs : List Value} {sv : Value} {L : List TrR} (h : TrAt W sv L) (hg : ∀ (a : Addr) (m k : Nat), sv = .slice (some a) m k → a.block ≠ b) : TrAt (W.setCells b i vs) sv L := by
 obtain ⟨h1, h2, h3⟩ := h
 refine ⟨h1, h2, h3.imp_right ?_⟩
 rintro ⟨g', o', c', e, hg', hc⟩
 have hne := hg _ _ _ e
 exact ⟨_, _, _, e, by rw [setCells_size]; exact hg', fun j u hj => (setCells_off b vs W i ⟨g', o' + j, none⟩ hne).trans (hc j u hj)⟩
theorem bx_tail {W : World} {b : Nat} {p cs : List Value} (h : Bx W b (p ++ cs)) (vs : List Value) (hl : cs.length = vs.length) : W.there b p.length cs.length ∧ Bx (W.setCells b p.length vs) b (p ++ vs) := by
 have ht : W.there b p.length cs.length := fun j hj => by
  have hj2 : (p ++ cs)[p.length + j]? = some cs[j] := by rw [List.getElem?_append_right (by omega), show p.length + j - p.length = j by omega, List.getElem?_eq_getElem hj]
  have := h.2 (p.length + j) _ hj2
  exact ⟨by rw [this.1]; rfl, this.2⟩
 refine ⟨ht, by rw [setCells_size]; exact h.1, fun i v e => ?_⟩
 have hi := (List.getElem?_eq_some_iff.1 e).1
 rw [List.length_append] at hi
 have hf : W.frozen? ⟨b, i, none⟩ = false := (h.2 i _ (List.getElem?_eq_getElem (by rw [List.length_append]; omega))).2
 refine ⟨?_, by rw [World.frozen?_setCells]; exact hf⟩
 by_cases hip : i < p.length
 ·rw [List.getElem?_append_left hip] at e
  refine (World.cell?_setCells_out b vs p.length W ⟨b, i, none⟩ (fun _ _ => .inl hip)).trans ?_
  exact (h.2 i v (by rw [List.getElem?_append_left hip]; exact e)).1
 ·rw [List.getElem?_append_right (by omega)] at e
  have := World.rangeAt_setCells_same W b p.length vs (hl ▸ ht) (i - p.length) v e
  rwa [show p.length + (i - p.length) = i by omega] at this
def Cap (sv : Value) : Prop := ∀ ao n c, sv = .slice ao n c → n ≤ c
theorem cap_own {W : World} {base : Nat} {e : TypeId} {size : Nat} {v : Value} {n : Nat} {xs : List Value} (h : W.ownsRow base e size v n xs) : Cap v := fun ao m c hv => by
 rcases h.2 with ⟨e, z⟩ | ⟨g, cap, cur, e, _, _, h5, _⟩
 ·rw [e] at hv; cases hv; exact Nat.le_refl _
 ·rw [e] at hv; cases hv; exact h5
def GT (w : World) (T T1 T2 : List Value) (b2 : Nat) (sv : Value) (L : List TrR) (W : World) : Prop := Below w.heap.size w W ∧ Bx W w.heap.size T ∧ Bx W (w.heap.size + 1) zeT ∧ TrAt W sv L ∧ (Bx W b2 T1 ∨ Bx W b2 T2)
section
variable {w W V : World} {T T1 T2 : List Value} {b2 : Nat} {sv : Value} {L : List TrR}
theorem GT.below (h : GT w T T1 T2 b2 sv L W) (hb : Below W.heap.size W V) : GT w T T1 T2 b2 sv L V := ⟨h.1.trans (hb.mono h.1.size), h.2.1.below hb, h.2.2.1.below hb, h.2.2.2.1.mv hb, h.2.2.2.2.imp (·.below hb) (·.below hb)⟩
theorem GT.tail (h : GT w T T1 T2 b2 sv L W) {p c1 vs : List Value} (e1 : T1 = p ++ c1) (e2 : T2 = p ++ vs) (hl : c1.length = vs.length) : W.there b2 p.length vs.length ∧ Bx (W.setCells b2 p.length vs) b2 T2 := by
 subst e1 e2
 rcases h.2.2.2.2 with q | q
 ·have := bx_tail q vs hl; rw [hl] at this; exact this
 ·exact bx_tail q vs rfl
theorem GT.put (h : GT w T T1 T2 b2 sv L W) {p c1 vs : List Value} (e1 : T1 = p ++ c1) (e2 : T2 = p ++ vs) (hl : c1.length = vs.length) (hg : ∀ (a : Addr) (m k : Nat), sv = .slice (some a) m k → a.block ≠ b2) (h2 : w.heap.size + 1 < b2) : GT w T T1 T2 b2 sv L (W.setCells b2 p.length vs) :=
 ⟨below_setCells (by omega) _ _ _ h.1, h.2.1.setOther (by omega) _ _, h.2.2.1.setOther (by omega) _ _, trat_setCells h.2.2.2.1 hg, .inr (h.tail e1 e2 hl).2⟩
end
theorem one_tf (nm : ByteArray) (f : TrR) (ao : Option Addr) (n c : Nat) (ft : Fn.Ft) : (tbF nm f (.slice ao n c) (Fn.fL ft)).toArray.all (·.oneCell') = true := by
 simp [tbF, trC, Fn.fL, Value.oneCell']
theorem given17 (nm : ByteArray) (f : TrR) (L : List TrR) (ft : Fn.Ft) (g o n c : Nat) (hn : L.length = n) (w : World) (HT : Hid (TrAt w (.slice (some ⟨g, o, none⟩) n c) L)) (hg : g < w.heap.size) (hcs : Hid (∀ j u, (trCs L)[j]? = some u → w.cell? ⟨g, o + j, none⟩ = some u)) (h40 : n * 40 ≤ 140737488355328) (hm : n ≤ maxLen) (T : List Value) (hT : T = tbF nm f (.slice (some ⟨g, o, none⟩) n c) (Fn.fL ft)) :
  Calls Tryz.prog 9 #[.agg T.toArray] w fun e w' => ∃ sv', e = zr (.agg (tbF nm f sv' (Fn.fL ft)).toArray) ∧ TrAt w' sv' L ∧ Below w.heap.size w w' ∧ Cap sv' := by
 have X0 : Hid (Bx ((w.alloc (.cells T.toArray 34)).alloc (.cells zeT.toArray 44)) w.heap.size T) := (Bx.new w T _).alloc _
 have X1 : Hid (Bx ((w.alloc (.cells T.toArray 34)).alloc (.cells zeT.toArray 44)) (w.heap.size + 1) zeT) := Bx.newAt _ zeT _ _ (by simp)
 have B1 : Hid (Below w.heap.size w ((w.alloc (.cells T.toArray 34)).alloc (.cells zeT.toArray 44))) := ((Below.refl _ _).alloc (Nat.le_refl _) _).alloc (by simp) _
 go_enter Tryz.func9, Tryz.ntmps9
 generalize hUA : T.toArray = UA at *
 go_upto_region 1 with fail
 refine gen_code (fun V => Bx V w.heap.size T ∧ Bx V (w.heap.size + 1) zeT ∧ Below w.heap.size w V) ⟨X0.out, X1.out, B1.out⟩ ?_
 clear X0 X1 B1
 rintro V ⟨X0', X1', B1'⟩
 have X0 : Hid (Bx V w.heap.size T) := X0'
 have X1 : Hid (Bx V (w.heap.size + 1) zeT) := X1'
 have B1 : Hid (Below w.heap.size w V) := B1'
 clear X0' X1' B1'
 have d0 : V.cell? ⟨w.heap.size, 0, none⟩ = some (.string nm) := X0.out.c 0 (by rw [hT]; rfl)
 have d1 : V.cell? ⟨w.heap.size, 1, none⟩ = some (vi ki f.at_) := X0.out.c 1 (by rw [hT]; rfl)
 have d2 : V.cell? ⟨w.heap.size, 2, none⟩ = some (vi ki f.off) := X0.out.c 2 (by rw [hT]; rfl)
 have d3 : V.cell? ⟨w.heap.size, 3, none⟩ = some (.bool f.dst) := X0.out.c 3 (by rw [hT]; rfl)
 have d4 : V.cell? ⟨w.heap.size, 4, none⟩ = some (.string f.ab) := X0.out.c 4 (by rw [hT]; rfl)
 have Y2 : Hid (Bx (V.alloc (.cells zeT.toArray 44)) V.heap.size zeT) := Bx.new V zeT _
 have Y0 : Hid (Bx (V.alloc (.cells zeT.toArray 44)) w.heap.size T) := X0.out.alloc _
 have Y1 : Hid (Bx (V.alloc (.cells zeT.toArray 44)) (w.heap.size + 1) zeT) := X1.out.alloc _
 have YB : Hid (Below w.heap.size w (V.alloc (.cells zeT.toArray 44))) := B1.out.alloc (B1.out.size) _
 have hV1 := X1.out.1
 go_upto_region 2 with (refine wpList_store_mid rfl 44 _ _ rfl V.heap.size 0 (tbF nm f (.slice none 0 0) zeF).toArray rfl rfl Y2.out.there (by kernel_rfl) (one_tb _ _ _ _ _) ?_; refine gen_list (fun U => Bx U w.heap.size T ∧ Bx U (w.heap.size + 1) zeT ∧ Bx U V.heap.size (tbF nm f (.slice none 0 0) zeF) ∧ Below w.heap.size w U) ⟨Y0.out.setOther (by omega) _, Y1.out.setOther (by omega) _, Y2.out.setAll _ rfl, below_setCells (by omega) _ _ _ YB.out⟩ ?_; clear X0 X1 B1 Y0 Y1 Y2 YB d0 d1 d2 d3 d4; rintro U ⟨X0', X1', X2', B1'⟩; have X0 : Hid (Bx U w.heap.size T) := X0'; have X1 : Hid (Bx U (w.heap.size + 1) zeT) := X1'; have X2 : Hid (Bx U V.heap.size (tbF nm f (.slice none 0 0) zeF)) := X2'; have B1 : Hid (Below w.heap.size w U) := B1'; clear X0' X1' X2' B1')
 obtain ⟨b2, hb2⟩ : ∃ b2, V.heap.size = b2 := ⟨_, rfl⟩
 rw [hb2] at X2 hV1 ⊢
 clear hb2 V
 obtain ⟨i1, hi1, hy0, hy1, hy2⟩ := info_parts infoT9
 have c5 : U.cell? ⟨b2, 5, none⟩ = some (.slice none 0 0) := X2.out.c 5 rfl
 have d5 : U.cell? ⟨w.heap.size, 5, none⟩ = some (.slice (some ⟨g, o, none⟩) n c) := X0.out.c 5 (by rw [hT]; rfl)
 have hN : Hid (∀ j u, (trCs L)[j]? = some u → U.cell? ((⟨g, o, none⟩ : Addr).add j) = some u) := fun j u hu => by
  have h1 := (B1.out.cell (p := ⟨g, o + j, none⟩) hg).trans (hcs.out j u hu)
  unfold Addr.add
  split
  ·rename_i h; subst h; simpa using h1
  ·exact h1
 have hbs := B1.out.size
 have hu2 := X2.out.1
 go_upto_region 3 with (at_builtin; refine wpList_append_own _ rfl _ _ 24 rfl U.heap.size 23 i1 (.agg #[vi ki 0, vi ki 0, .bool false, .string ⟨#[]⟩]) 4 40 Tryz.underlying24 hi1 hy0 hy1 hy2 rfl (by decide) (.slice none 0 0) 0 [] rfl (World.ownsRow_nil _ _ _ _) ⟨g, o, none⟩ n c (trCs L) rfl (by rw [trCs_len, hn]) hN.out (trCs_one L) (by omega) (by omega) (Nat.le_refl _) ?_; intro v' w9 hown' hgrow' _; rw [Nat.zero_add] at hown'; obtain ⟨ao', c', hv'⟩ := tr_len hown'; subst hv'; have hb9 : Below U.heap.size U w9 := ⟨hgrow'.os, hgrow'.tape, hgrow'.output, hgrow'.size, fun k hk => hgrow'.block k hk (by simp [Value.ownBlock])⟩; have X9 := X2.out.below hb9; have c9 := X9.c 5 rfl; have z9 := X9.f 5 (v := .slice none 0 0) rfl)
 rw [List.nil_append] at hown'
 have HCAP : Hid (Cap (.slice ao' n c')) := cap_own hown'
 have HTR : TrAt w9 (.slice ao' n c') L := TrAt.of_own (L := L) (by rw [hn]; exact hown')
 have hne : ∀ (a : Addr) (m k : Nat), Value.slice ao' n c' = .slice (some a) m k → a.block ≠ b2 := by
  rcases hown'.2 with ⟨e, _⟩ | ⟨g', cap', cur, e, hb, _⟩
  ·intro a m k h; rw [e] at h; cases h
  ·intro a m k h; rw [e] at h; cases h; simp; omega
 have hne1 : ∀ (a : Addr) (m k : Nat), Value.slice ao' n c' = .slice (some a) m k → a.block ≠ w.heap.size + 1 := by
  rcases hown'.2 with ⟨e, _⟩ | ⟨g', cap', cur, e, hb, _⟩
  ·intro a m k h; rw [e] at h; cases h
  ·intro a m k h; rw [e] at h; cases h; simp; omega
 refine gen_code (fun Z => Bx Z w.heap.size T ∧ Bx Z (w.heap.size + 1) zeT ∧ Bx Z b2 (tbF nm f (.slice ao' n c') zeF) ∧ TrAt Z (.slice ao' n c') L ∧ Below w.heap.size w Z) ⟨bx_turns (X0.out.below hb9) (Turns.setCell (M := [b2]) _ _ _ (by simp)) (by simp; omega), bx_turns (X1.out.below hb9) (Turns.setCell (M := [b2]) _ _ _ (by simp)) (by simp; omega), bx_set1 X9 5 (.slice ao' n c') (by rw [tbF_len rfl]; decide), HTR.setC hne, (B1.out.trans (hb9.mono hbs)).setCell (p := ⟨b2, 5, none⟩) (by simp; omega) _⟩ ?_
 clear HTR X9 c9 z9 hb9 hgrow' hown' c5 d5 hN X0 X1 X2 B1 hu2 hbs
 rintro Z ⟨X0', X1', X2', HT', B1'⟩
 have CA : Hid (∀ w : World, Calls Tryz.prog 30 #[.agg #[vi ki ft.A.m, vi ki ft.A.k, vi ki ft.A.d, vi ki ft.A.n, vi ki ft.A.s, .int .u8 ft.A.z, vi ki ft.A.v, .string ft.A.t]] w fun e w' => e = zr (.agg #[vi ki ft.A.m, vi ki ft.A.k, vi ki ft.A.d, vi ki ft.A.n, vi ki ft.A.s, .int .u8 ft.A.z, vi ki ft.A.v, .string ft.A.t]) ∧ Below w.heap.size w w') := fun w => Fn.h17_any ft.A w
 have CB : Hid (∀ w : World, Calls Tryz.prog 30 #[.agg #[vi ki ft.B.m, vi ki ft.B.k, vi ki ft.B.d, vi ki ft.B.n, vi ki ft.B.s, .int .u8 ft.B.z, vi ki ft.B.v, .string ft.B.t]] w fun e w' => e = zr (.agg #[vi ki ft.B.m, vi ki ft.B.k, vi ki ft.B.d, vi ki ft.B.n, vi ki ft.B.s, .int .u8 ft.B.z, vi ki ft.B.v, .string ft.B.t]) ∧ Below w.heap.size w w') := fun w => Fn.h17_any ft.B w
 go_wp2_with fail
 refine wp_region_held_drew (S := GT w T (tbF nm f (.slice ao' n c') zeF) (tbF nm f (.slice ao' n c') (Fn.fL ft)) b2 (.slice ao' n c') L) (by kernel_rfl) (show GT w T _ _ b2 _ L Z.drew from ⟨B1'.drew, X0', X1', HT', .inl X2'⟩) (fun hHeld => ?_)
 refine tks 0 ⟨some 15, _, _, _, _, none⟩ rfl ?_
 simp only [za, zb, zc, zd]
 refine tks 1 ⟨some 16, _, _, _, _, none⟩ rfl ?_
 simp only [za, zb, zc, zd]
 refine tk (v := ?_) 2 ⟨some 17, _, _, _, _, none⟩ rfl ?_ ?_
 case refine_2 => (intro w9 hSw; have g6 : w9.cell? ⟨w.heap.size, 6, none⟩ = some (.bool ft.h) := hSw.2.1.c 6 (by rw [hT]; rfl); have g7 : w9.cell? ⟨w.heap.size, 7, none⟩ = some (vi ki ft.fr) := hSw.2.1.c 7 (by rw [hT]; rfl); have g8 : w9.cell? ⟨w.heap.size, 8, none⟩ = some (vi ki ft.off) := hSw.2.1.c 8 (by rw [hT]; rfl); clear hSw; go_simp; try with_reducible rfl)
 simp only [za, zb, zc, zd]
 refine tks 3 ⟨some 18, _, _, _, _, none⟩ rfl ?_
 simp only [za, zb, zc, zd]
 refine tks 4 ⟨some 19, _, _, _, _, none⟩ rfl ?_
 simp only [za, zb, zc, zd]
 refine tk (v := ?_) 5 ⟨some 20, _, _, _, _, none⟩ rfl ?_ ?_
 case refine_2 => (intro w9 hSw; have g6 : w9.cell? ⟨w.heap.size, 6, none⟩ = some (.bool ft.h) := hSw.2.1.c 6 (by rw [hT]; rfl); have g7 : w9.cell? ⟨w.heap.size, 7, none⟩ = some (vi ki ft.fr) := hSw.2.1.c 7 (by rw [hT]; rfl); have g8 : w9.cell? ⟨w.heap.size, 8, none⟩ = some (vi ki ft.off) := hSw.2.1.c 8 (by rw [hT]; rfl); clear hSw; go_simp; try with_reducible rfl)
 simp only [za, zb, zc, zd]
 refine tks 6 ⟨some 21, _, _, _, _, none⟩ rfl ?_
 simp only [za, zb, zc, zd]
 refine tks 7 ⟨some 22, _, _, _, _, none⟩ rfl ?_
 simp only [za, zb, zc, zd]
 refine tk (v := ?_) 8 ⟨some 23, _, _, _, _, none⟩ rfl ?_ ?_
 case refine_2 => (intro w9 hSw; have g6 : w9.cell? ⟨w.heap.size, 6, none⟩ = some (.bool ft.h) := hSw.2.1.c 6 (by rw [hT]; rfl); have g7 : w9.cell? ⟨w.heap.size, 7, none⟩ = some (vi ki ft.fr) := hSw.2.1.c 7 (by rw [hT]; rfl); have g8 : w9.cell? ⟨w.heap.size, 8, none⟩ = some (vi ki ft.off) := hSw.2.1.c 8 (by rw [hT]; rfl); clear hSw; go_simp; try with_reducible rfl)
 simp only [za, zb, zc, zd]
 refine tks 9 ⟨some 24, _, _, _, _, none⟩ rfl ?_
 simp only [za, zb, zc, zd]
 refine tks 10 ⟨some 25, _, _, _, _, none⟩ rfl ?_
 simp only [za, zb, zc, zd]
 refine wpAnyH_take (i := 11) (v := .agg #[vi ki ft.A.m, vi ki ft.A.k, vi ki ft.A.d, vi ki ft.A.n, vi ki ft.A.s, .int .u8 ft.A.z, vi ki ft.A.v, .string ft.A.t]) (oi := ⟨some 26, _, _, _, _, none⟩) rfl (by kernel_rfl) (by kernel_rfl) (by kernel_rfl) (fun _ _ _ h => h) (Or.inl ⟨by kernel_rfl, ?_⟩) (by assumption) ?_
 case refine_1 => (intro w9 hSw; exact exec_row (off := 9) rfl rfl (hSw.2.1.rng [.string nm, vi ki f.at_, vi ki f.off, .bool f.dst, .string f.ab, (.slice (some ⟨g, o, none⟩) n c), .bool ft.h, vi ki ft.fr, vi ki ft.off] [vi ki ft.A.m, vi ki ft.A.k, vi ki ft.A.d, vi ki ft.A.n, vi ki ft.A.s, .int .u8 ft.A.z, vi ki ft.A.v, .string ft.A.t] [vi ki ft.B.m, vi ki ft.B.k, vi ki ft.B.d, vi ki ft.B.n, vi ki ft.B.s, .int .u8 ft.B.z, vi ki ft.B.v, .string ft.B.t] (by rw [hT]; rfl)) Tryz.underlying30 rfl (by kernel_rfl))
 simp only [za, zb, zc, zd]
 refine tks 13 ⟨some 28, _, _, _, _, none⟩ rfl ?_
 simp only [za, zb, zc, zd]
 refine tks 14 ⟨some 29, _, _, _, _, none⟩ rfl ?_
 simp only [za, zb, zc, zd]
 refine wpAnyH_take (i := 15) (v := .agg #[vi ki ft.B.m, vi ki ft.B.k, vi ki ft.B.d, vi ki ft.B.n, vi ki ft.B.s, .int .u8 ft.B.z, vi ki ft.B.v, .string ft.B.t]) (oi := ⟨some 30, _, _, _, _, none⟩) rfl (by kernel_rfl) (by kernel_rfl) (by kernel_rfl) (fun _ _ _ h => h) (Or.inl ⟨by kernel_rfl, ?_⟩) (by assumption) ?_
 case refine_1 => (intro w9 hSw; exact exec_row (off := 17) rfl rfl (hSw.2.1.rng [.string nm, vi ki f.at_, vi ki f.off, .bool f.dst, .string f.ab, (.slice (some ⟨g, o, none⟩) n c), .bool ft.h, vi ki ft.fr, vi ki ft.off, vi ki ft.A.m, vi ki ft.A.k, vi ki ft.A.d, vi ki ft.A.n, vi ki ft.A.s, .int .u8 ft.A.z, vi ki ft.A.v, .string ft.A.t] [vi ki ft.B.m, vi ki ft.B.k, vi ki ft.B.d, vi ki ft.B.n, vi ki ft.B.s, .int .u8 ft.B.z, vi ki ft.B.v, .string ft.B.t] [] (by rw [hT]; rfl)) Tryz.underlying30 rfl (by kernel_rfl))
 simp only [za, zb, zc, zd]
 refine rd 12 ⟨some 27, _, _, _, _, none⟩ rfl (fun K hK => ?_)
 go_simp
 refine (CA.out _).mono ?_
 rintro e v1 ⟨rfl, hb1⟩
 refine hK.out _ _ (hHeld.below hb1) (fun hHeld => ?_)
 clear hK K hb1
 refine rd 16 ⟨some 31, _, _, _, _, none⟩ rfl (fun K hK => ?_)
 go_simp
 refine (CB.out _).mono ?_
 rintro e v2 ⟨rfl, hb2⟩
 refine hK.out _ _ (hHeld.below hb2) (fun hHeld => ?_)
 clear hK K hb2
 refine tks 17 ⟨some 32, _, _, _, _, none⟩ rfl ?_
 simp only [za, zb, zc, zd]
 refine tks 18 ⟨some 33, _, _, _, _, none⟩ rfl ?_
 simp only [za, zb, zc, zd]
 refine rd 19 ⟨none, _, _, _, _, none⟩ rfl (fun K hK => ?_)
 refine (if_pos (by kernel_rfl)).mpr (wp_store_mid 42 _ _ rfl b2 6 #[.bool ft.h, vi ki ft.fr, vi ki ft.off, vi ki ft.A.m, vi ki ft.A.k, vi ki ft.A.d, vi ki ft.A.n, vi ki ft.A.s, .int .u8 ft.A.z, vi ki ft.A.v, .string ft.A.t, vi ki ft.B.m, vi ki ft.B.k, vi ki ft.B.d, vi ki ft.B.n, vi ki ft.B.s, .int .u8 ft.B.z, vi ki ft.B.v, .string ft.B.t] rfl rfl ((hHeld.tail (p := [.string nm, vi ki f.at_, vi ki f.off, .bool f.dst, .string f.ab, .slice ao' n c']) (c1 := zeF) (vs := Fn.fL ft) rfl rfl rfl).1) (by kernel_rfl) (Fn.fL_one ft) ?_)
 have hD := (hHeld.tail (p := [.string nm, vi ki f.at_, vi ki f.off, .bool f.dst, .string f.ab, .slice ao' n c']) (c1 := zeF) (vs := Fn.fL ft) rfl rfl rfl).2
 have hP := hHeld.put (p := [.string nm, vi ki f.at_, vi ki f.off, .bool f.dst, .string f.ab, .slice ao' n c']) (c1 := zeF) (vs := Fn.fL ft) rfl rfl rfl hne hV1
 refine hK.out _ _ hP (fun hHeld2 => ?_)
 refine gen_any (fun Z => Bx Z (w.heap.size + 1) zeT ∧ Bx Z b2 (tbF nm f (.slice ao' n c') (Fn.fL ft)) ∧ TrAt Z (.slice ao' n c') L ∧ Below w.heap.size w Z) ⟨hP.2.2.1, hD, hP.2.2.2.1, hP.1⟩ ?_
 clear hK K hHeld hP hHeld2 hD
 rintro Z9 ⟨X1', X2', HT', B1'⟩
 refine wpAnyH_done (by kernel_rfl) ?_ _
 have X1 : Hid (Bx Z9 (w.heap.size + 1) zeT) := X1'
 have X2 : Hid (Bx Z9 b2 (tbF nm f (.slice ao' n c') (Fn.fL ft))) := X2'
 have B1 : Hid (Below w.heap.size w Z9 ∧ TrAt Z9 (.slice ao' n c') L) := ⟨B1', HT'⟩
 clear X1' X2' HT' B1'
 obtain ⟨T2, hT2⟩ : ∃ T2, tbF nm f (.slice ao' n c') (Fn.fL ft) = T2 := ⟨_, rfl⟩
 have hl2 : T2.length = 25 := by rw [← hT2]; rfl
 have h12 : T2.toArray.all (·.oneCell') = true := by rw [← hT2]; exact one_tf nm f ao' n c' ft
 rw [hT2] at X2
 have hs9 : T2.toArray.size = 25 := by rw [List.size_toArray, hl2]
 have ht9 : Z9.there (w.heap.size + 1) 0 T2.toArray.size := by rw [hs9]; exact X1.out.there
 have hi9 : (Tryz.prog.info? 44).map (·.size) = some T2.toArray.size := by rw [hs9]; kernel_rfl
 have hg9 : Bx (Z9.setCells (w.heap.size + 1) 0 T2.toArray.toList) (w.heap.size + 1) T2 ∧ TrAt (Z9.setCells (w.heap.size + 1) 0 T2.toArray.toList) (.slice ao' n c') L ∧ Below w.heap.size w (Z9.setCells (w.heap.size + 1) 0 T2.toArray.toList) := ⟨X1.out.setAll T2 (by rw [hl2]; rfl), trat_setCells B1.out.2 hne1, below_setCells (by omega) _ _ _ B1.out.1⟩
 go_wp2_with (first | (refine wpList_load_mid rfl 44 _ rfl b2 0 rfl T2 _ X2.out.all Tryz.underlying44 rfl (by rw [hl2]; kernel_rfl) ?_) | (refine wpList_store_mid rfl 44 _ _ rfl (w.heap.size + 1) 0 T2.toArray rfl rfl ht9 hi9 h12 ?_; refine gen_list (fun V => Bx V (w.heap.size + 1) T2 ∧ TrAt V (.slice ao' n c') L ∧ Below w.heap.size w V) hg9 ?_; clear X1 X2 B1 ht9 hg9 hs9; rintro V ⟨XV, TV, BV⟩) | fail)
 exact bodyPost_ret (v := .agg T2.toArray) (results_c1 rfl _ _ _ _ rfl (run_loadVar_mid _ _ _ _ _ _ XV.all Tryz.underlying44 rfl (by rw [hl2]; kernel_rfl))) rfl ⟨_, by rw [hT2], TV, BV, HCAP.out⟩
theorem given17n (nm : ByteArray) (f : TrR) (ft : Fn.Ft) (w : World) (T : List Value) (hT : T = tbF nm f (.slice none 0 0) (Fn.fL ft)) :
  Calls Tryz.prog 9 #[.agg T.toArray] w fun e w' => ∃ sv', e = zr (.agg (tbF nm f sv' (Fn.fL ft)).toArray) ∧ TrAt w' sv' [] ∧ Below w.heap.size w w' ∧ Cap sv' := by
 have X0 : Hid (Bx ((w.alloc (.cells T.toArray 34)).alloc (.cells zeT.toArray 44)) w.heap.size T) := (Bx.new w T _).alloc _
 have X1 : Hid (Bx ((w.alloc (.cells T.toArray 34)).alloc (.cells zeT.toArray 44)) (w.heap.size + 1) zeT) := Bx.newAt _ zeT _ _ (by simp)
 have B1 : Hid (Below w.heap.size w ((w.alloc (.cells T.toArray 34)).alloc (.cells zeT.toArray 44))) := ((Below.refl _ _).alloc (Nat.le_refl _) _).alloc (by simp) _
 go_enter Tryz.func9, Tryz.ntmps9
 generalize hUA : T.toArray = UA at *
 go_upto_region 1 with fail
 refine gen_code (fun V => Bx V w.heap.size T ∧ Bx V (w.heap.size + 1) zeT ∧ Below w.heap.size w V) ⟨X0.out, X1.out, B1.out⟩ ?_
 clear X0 X1 B1
 rintro V ⟨X0', X1', B1'⟩
 have X0 : Hid (Bx V w.heap.size T) := X0'
 have X1 : Hid (Bx V (w.heap.size + 1) zeT) := X1'
 have B1 : Hid (Below w.heap.size w V) := B1'
 clear X0' X1' B1'
 have d0 : V.cell? ⟨w.heap.size, 0, none⟩ = some (.string nm) := X0.out.c 0 (by rw [hT]; rfl)
 have d1 : V.cell? ⟨w.heap.size, 1, none⟩ = some (vi ki f.at_) := X0.out.c 1 (by rw [hT]; rfl)
 have d2 : V.cell? ⟨w.heap.size, 2, none⟩ = some (vi ki f.off) := X0.out.c 2 (by rw [hT]; rfl)
 have d3 : V.cell? ⟨w.heap.size, 3, none⟩ = some (.bool f.dst) := X0.out.c 3 (by rw [hT]; rfl)
 have d4 : V.cell? ⟨w.heap.size, 4, none⟩ = some (.string f.ab) := X0.out.c 4 (by rw [hT]; rfl)
 have Y2 : Hid (Bx (V.alloc (.cells zeT.toArray 44)) V.heap.size zeT) := Bx.new V zeT _
 have Y0 : Hid (Bx (V.alloc (.cells zeT.toArray 44)) w.heap.size T) := X0.out.alloc _
 have Y1 : Hid (Bx (V.alloc (.cells zeT.toArray 44)) (w.heap.size + 1) zeT) := X1.out.alloc _
 have YB : Hid (Below w.heap.size w (V.alloc (.cells zeT.toArray 44))) := B1.out.alloc (B1.out.size) _
 have hV1 := X1.out.1
 go_upto_region 2 with (refine wpList_store_mid rfl 44 _ _ rfl V.heap.size 0 (tbF nm f (.slice none 0 0) zeF).toArray rfl rfl Y2.out.there (by kernel_rfl) (one_tb _ _ _ _ _) ?_; refine gen_list (fun U => Bx U w.heap.size T ∧ Bx U (w.heap.size + 1) zeT ∧ Bx U V.heap.size (tbF nm f (.slice none 0 0) zeF) ∧ Below w.heap.size w U) ⟨Y0.out.setOther (by omega) _, Y1.out.setOther (by omega) _, Y2.out.setAll _ rfl, below_setCells (by omega) _ _ _ YB.out⟩ ?_; clear X0 X1 B1 Y0 Y1 Y2 YB d0 d1 d2 d3 d4; rintro U ⟨X0', X1', X2', B1'⟩; have X0 : Hid (Bx U w.heap.size T) := X0'; have X1 : Hid (Bx U (w.heap.size + 1) zeT) := X1'; have X2 : Hid (Bx U V.heap.size (tbF nm f (.slice none 0 0) zeF)) := X2'; have B1 : Hid (Below w.heap.size w U) := B1'; clear X0' X1' X2' B1')
 obtain ⟨b2, hb2⟩ : ∃ b2, V.heap.size = b2 := ⟨_, rfl⟩
 rw [hb2] at X2 hV1 ⊢
 clear hb2 V
 obtain ⟨i1, hi1, hy0, hy1, hy2⟩ := info_parts infoT9
 have c5 : U.cell? ⟨b2, 5, none⟩ = some (.slice none 0 0) := X2.out.c 5 rfl
 have d5 : U.cell? ⟨w.heap.size, 5, none⟩ = some (.slice none 0 0) := X0.out.c 5 (by rw [hT]; rfl)
 have hbs := B1.out.size
 have hu2 := X2.out.1
 have z5 : U.frozen? ⟨b2, 5, none⟩ = false := X2.out.f 5 (v := .slice none 0 0) rfl
 go_upto_region 3 with (at_builtin; refine wpList_append_own_none rfl _ _ 24 rfl U.heap.size 23 i1 4 Tryz.underlying24 hi1 (.slice none 0 0) 0 [] rfl (World.ownsRow_nil _ _ _ _) rfl ?_)
 have HCAP : Hid (Cap (.slice none 0 0)) := fun ao n c h => by cases h; exact Nat.le_refl _
 have HTR : TrAt U (.slice none 0 0) ([] : List TrR) := ⟨⟨none, 0, rfl⟩, by simp, .inl rfl⟩
 have hne : ∀ (a : Addr) (m k : Nat), Value.slice none 0 0 = .slice (some a) m k → a.block ≠ b2 := fun a m k h => by cases h
 have hne1 : ∀ (a : Addr) (m k : Nat), Value.slice none 0 0 = .slice (some a) m k → a.block ≠ w.heap.size + 1 := fun a m k h => by cases h
 refine gen_code (fun Z => Bx Z w.heap.size T ∧ Bx Z (w.heap.size + 1) zeT ∧ Bx Z b2 (tbF nm f (.slice none 0 0) zeF) ∧ TrAt Z (.slice none 0 0) [] ∧ Below w.heap.size w Z) ⟨bx_turns X0.out (Turns.setCell (M := [b2]) _ _ _ (by simp)) (by simp; omega), bx_turns X1.out (Turns.setCell (M := [b2]) _ _ _ (by simp)) (by simp; omega), bx_set1 X2.out 5 (.slice none 0 0) (by rw [tbF_len rfl]; decide), HTR.setC hne, B1.out.setCell (p := ⟨b2, 5, none⟩) (by simp; omega) _⟩ ?_
 clear HTR z5 c5 d5 X0 X1 X2 B1 hu2 hbs
 rintro Z ⟨X0', X1', X2', HT', B1'⟩
 have CA : Hid (∀ w : World, Calls Tryz.prog 30 #[.agg #[vi ki ft.A.m, vi ki ft.A.k, vi ki ft.A.d, vi ki ft.A.n, vi ki ft.A.s, .int .u8 ft.A.z, vi ki ft.A.v, .string ft.A.t]] w fun e w' => e = zr (.agg #[vi ki ft.A.m, vi ki ft.A.k, vi ki ft.A.d, vi ki ft.A.n, vi ki ft.A.s, .int .u8 ft.A.z, vi ki ft.A.v, .string ft.A.t]) ∧ Below w.heap.size w w') := fun w => Fn.h17_any ft.A w
 have CB : Hid (∀ w : World, Calls Tryz.prog 30 #[.agg #[vi ki ft.B.m, vi ki ft.B.k, vi ki ft.B.d, vi ki ft.B.n, vi ki ft.B.s, .int .u8 ft.B.z, vi ki ft.B.v, .string ft.B.t]] w fun e w' => e = zr (.agg #[vi ki ft.B.m, vi ki ft.B.k, vi ki ft.B.d, vi ki ft.B.n, vi ki ft.B.s, .int .u8 ft.B.z, vi ki ft.B.v, .string ft.B.t]) ∧ Below w.heap.size w w') := fun w => Fn.h17_any ft.B w
 go_wp2_with fail
 refine wp_region_held_drew (S := GT w T (tbF nm f (.slice none 0 0) zeF) (tbF nm f (.slice none 0 0) (Fn.fL ft)) b2 (.slice none 0 0) []) (by kernel_rfl) (show GT w T _ _ b2 _ [] Z.drew from ⟨B1'.drew, X0', X1', HT', .inl X2'⟩) (fun hHeld => ?_)
 refine tks 0 ⟨some 15, _, _, _, _, none⟩ rfl ?_
 simp only [za, zb, zc, zd]
 refine tks 1 ⟨some 16, _, _, _, _, none⟩ rfl ?_
 simp only [za, zb, zc, zd]
 refine tk (v := ?_) 2 ⟨some 17, _, _, _, _, none⟩ rfl ?_ ?_
 case refine_2 => (intro w9 hSw; have g6 : w9.cell? ⟨w.heap.size, 6, none⟩ = some (.bool ft.h) := hSw.2.1.c 6 (by rw [hT]; rfl); have g7 : w9.cell? ⟨w.heap.size, 7, none⟩ = some (vi ki ft.fr) := hSw.2.1.c 7 (by rw [hT]; rfl); have g8 : w9.cell? ⟨w.heap.size, 8, none⟩ = some (vi ki ft.off) := hSw.2.1.c 8 (by rw [hT]; rfl); clear hSw; go_simp; try with_reducible rfl)
 simp only [za, zb, zc, zd]
 refine tks 3 ⟨some 18, _, _, _, _, none⟩ rfl ?_
 simp only [za, zb, zc, zd]
 refine tks 4 ⟨some 19, _, _, _, _, none⟩ rfl ?_
 simp only [za, zb, zc, zd]
 refine tk (v := ?_) 5 ⟨some 20, _, _, _, _, none⟩ rfl ?_ ?_
 case refine_2 => (intro w9 hSw; have g6 : w9.cell? ⟨w.heap.size, 6, none⟩ = some (.bool ft.h) := hSw.2.1.c 6 (by rw [hT]; rfl); have g7 : w9.cell? ⟨w.heap.size, 7, none⟩ = some (vi ki ft.fr) := hSw.2.1.c 7 (by rw [hT]; rfl); have g8 : w9.cell? ⟨w.heap.size, 8, none⟩ = some (vi ki ft.off) := hSw.2.1.c 8 (by rw [hT]; rfl); clear hSw; go_simp; try with_reducible rfl)
 simp only [za, zb, zc, zd]
 refine tks 6 ⟨some 21, _, _, _, _, none⟩ rfl ?_
 simp only [za, zb, zc, zd]
 refine tks 7 ⟨some 22, _, _, _, _, none⟩ rfl ?_
 simp only [za, zb, zc, zd]
 refine tk (v := ?_) 8 ⟨some 23, _, _, _, _, none⟩ rfl ?_ ?_
 case refine_2 => (intro w9 hSw; have g6 : w9.cell? ⟨w.heap.size, 6, none⟩ = some (.bool ft.h) := hSw.2.1.c 6 (by rw [hT]; rfl); have g7 : w9.cell? ⟨w.heap.size, 7, none⟩ = some (vi ki ft.fr) := hSw.2.1.c 7 (by rw [hT]; rfl); have g8 : w9.cell? ⟨w.heap.size, 8, none⟩ = some (vi ki ft.off) := hSw.2.1.c 8 (by rw [hT]; rfl); clear hSw; go_simp; try with_reducible rfl)
 simp only [za, zb, zc, zd]
 refine tks 9 ⟨some 24, _, _, _, _, none⟩ rfl ?_
 simp only [za, zb, zc, zd]
 refine tks 10 ⟨some 25, _, _, _, _, none⟩ rfl ?_
 simp only [za, zb, zc, zd]
 refine wpAnyH_take (i := 11) (v := .agg #[vi ki ft.A.m, vi ki ft.A.k, vi ki ft.A.d, vi ki ft.A.n, vi ki ft.A.s, .int .u8 ft.A.z, vi ki ft.A.v, .string ft.A.t]) (oi := ⟨some 26, _, _, _, _, none⟩) rfl (by kernel_rfl) (by kernel_rfl) (by kernel_rfl) (fun _ _ _ h => h) (Or.inl ⟨by kernel_rfl, ?_⟩) (by assumption) ?_
 case refine_1 => (intro w9 hSw; exact exec_row (off := 9) rfl rfl (hSw.2.1.rng [.string nm, vi ki f.at_, vi ki f.off, .bool f.dst, .string f.ab, (.slice none 0 0), .bool ft.h, vi ki ft.fr, vi ki ft.off] [vi ki ft.A.m, vi ki ft.A.k, vi ki ft.A.d, vi ki ft.A.n, vi ki ft.A.s, .int .u8 ft.A.z, vi ki ft.A.v, .string ft.A.t] [vi ki ft.B.m, vi ki ft.B.k, vi ki ft.B.d, vi ki ft.B.n, vi ki ft.B.s, .int .u8 ft.B.z, vi ki ft.B.v, .string ft.B.t] (by rw [hT]; rfl)) Tryz.underlying30 rfl (by kernel_rfl))
 simp only [za, zb, zc, zd]
 refine tks 13 ⟨some 28, _, _, _, _, none⟩ rfl ?_
 simp only [za, zb, zc, zd]
 refine tks 14 ⟨some 29, _, _, _, _, none⟩ rfl ?_
 simp only [za, zb, zc, zd]
 refine wpAnyH_take (i := 15) (v := .agg #[vi ki ft.B.m, vi ki ft.B.k, vi ki ft.B.d, vi ki ft.B.n, vi ki ft.B.s, .int .u8 ft.B.z, vi ki ft.B.v, .string ft.B.t]) (oi := ⟨some 30, _, _, _, _, none⟩) rfl (by kernel_rfl) (by kernel_rfl) (by kernel_rfl) (fun _ _ _ h => h) (Or.inl ⟨by kernel_rfl, ?_⟩) (by assumption) ?_
 case refine_1 => (intro w9 hSw; exact exec_row (off := 17) rfl rfl (hSw.2.1.rng [.string nm, vi ki f.at_, vi ki f.off, .bool f.dst, .string f.ab, (.slice none 0 0), .bool ft.h, vi ki ft.fr, vi ki ft.off, vi ki ft.A.m, vi ki ft.A.k, vi ki ft.A.d, vi ki ft.A.n, vi ki ft.A.s, .int .u8 ft.A.z, vi ki ft.A.v, .string ft.A.t] [vi ki ft.B.m, vi ki ft.B.k, vi ki ft.B.d, vi ki ft.B.n, vi ki ft.B.s, .int .u8 ft.B.z, vi ki ft.B.v, .string ft.B.t] [] (by rw [hT]; rfl)) Tryz.underlying30 rfl (by kernel_rfl))
 simp only [za, zb, zc, zd]
 refine rd 12 ⟨some 27, _, _, _, _, none⟩ rfl (fun K hK => ?_)
 go_simp
 refine (CA.out _).mono ?_
 rintro e v1 ⟨rfl, hb1⟩
 refine hK.out _ _ (hHeld.below hb1) (fun hHeld => ?_)
 clear hK K hb1
 refine rd 16 ⟨some 31, _, _, _, _, none⟩ rfl (fun K hK => ?_)
 go_simp
 refine (CB.out _).mono ?_
 rintro e v2 ⟨rfl, hb2⟩
 refine hK.out _ _ (hHeld.below hb2) (fun hHeld => ?_)
 clear hK K hb2
 refine tks 17 ⟨some 32, _, _, _, _, none⟩ rfl ?_
 simp only [za, zb, zc, zd]
 refine tks 18 ⟨some 33, _, _, _, _, none⟩ rfl ?_
 simp only [za, zb, zc, zd]
 refine rd 19 ⟨none, _, _, _, _, none⟩ rfl (fun K hK => ?_)
 refine (if_pos (by kernel_rfl)).mpr (wp_store_mid 42 _ _ rfl b2 6 #[.bool ft.h, vi ki ft.fr, vi ki ft.off, vi ki ft.A.m, vi ki ft.A.k, vi ki ft.A.d, vi ki ft.A.n, vi ki ft.A.s, .int .u8 ft.A.z, vi ki ft.A.v, .string ft.A.t, vi ki ft.B.m, vi ki ft.B.k, vi ki ft.B.d, vi ki ft.B.n, vi ki ft.B.s, .int .u8 ft.B.z, vi ki ft.B.v, .string ft.B.t] rfl rfl ((hHeld.tail (p := [.string nm, vi ki f.at_, vi ki f.off, .bool f.dst, .string f.ab, .slice none 0 0]) (c1 := zeF) (vs := Fn.fL ft) rfl rfl rfl).1) (by kernel_rfl) (Fn.fL_one ft) ?_)
 have hD := (hHeld.tail (p := [.string nm, vi ki f.at_, vi ki f.off, .bool f.dst, .string f.ab, .slice none 0 0]) (c1 := zeF) (vs := Fn.fL ft) rfl rfl rfl).2
 have hP := hHeld.put (p := [.string nm, vi ki f.at_, vi ki f.off, .bool f.dst, .string f.ab, .slice none 0 0]) (c1 := zeF) (vs := Fn.fL ft) rfl rfl rfl hne hV1
 refine hK.out _ _ hP (fun hHeld2 => ?_)
 refine gen_any (fun Z => Bx Z (w.heap.size + 1) zeT ∧ Bx Z b2 (tbF nm f (.slice none 0 0) (Fn.fL ft)) ∧ TrAt Z (.slice none 0 0) [] ∧ Below w.heap.size w Z) ⟨hP.2.2.1, hD, hP.2.2.2.1, hP.1⟩ ?_
 clear hK K hHeld hP hHeld2 hD
 rintro Z9 ⟨X1', X2', HT', B1'⟩
 refine wpAnyH_done (by kernel_rfl) ?_ _
 have X1 : Hid (Bx Z9 (w.heap.size + 1) zeT) := X1'
 have X2 : Hid (Bx Z9 b2 (tbF nm f (.slice none 0 0) (Fn.fL ft))) := X2'
 have B1 : Hid (Below w.heap.size w Z9 ∧ TrAt Z9 (.slice none 0 0) []) := ⟨B1', HT'⟩
 clear X1' X2' HT' B1'
 obtain ⟨T2, hT2⟩ : ∃ T2, tbF nm f (.slice none 0 0) (Fn.fL ft) = T2 := ⟨_, rfl⟩
 have hl2 : T2.length = 25 := by rw [← hT2]; rfl
 have h12 : T2.toArray.all (·.oneCell') = true := by rw [← hT2]; exact one_tf nm f none 0 0 ft
 rw [hT2] at X2
 have hs9 : T2.toArray.size = 25 := by rw [List.size_toArray, hl2]
 have ht9 : Z9.there (w.heap.size + 1) 0 T2.toArray.size := by rw [hs9]; exact X1.out.there
 have hi9 : (Tryz.prog.info? 44).map (·.size) = some T2.toArray.size := by rw [hs9]; kernel_rfl
 have hg9 : Bx (Z9.setCells (w.heap.size + 1) 0 T2.toArray.toList) (w.heap.size + 1) T2 ∧ TrAt (Z9.setCells (w.heap.size + 1) 0 T2.toArray.toList) (.slice none 0 0) [] ∧ Below w.heap.size w (Z9.setCells (w.heap.size + 1) 0 T2.toArray.toList) := ⟨X1.out.setAll T2 (by rw [hl2]; rfl), trat_setCells B1.out.2 hne1, below_setCells (by omega) _ _ _ B1.out.1⟩
 go_wp2_with (first | (refine wpList_load_mid rfl 44 _ rfl b2 0 rfl T2 _ X2.out.all Tryz.underlying44 rfl (by rw [hl2]; kernel_rfl) ?_) | (refine wpList_store_mid rfl 44 _ _ rfl (w.heap.size + 1) 0 T2.toArray rfl rfl ht9 hi9 h12 ?_; refine gen_list (fun V => Bx V (w.heap.size + 1) T2 ∧ TrAt V (.slice none 0 0) [] ∧ Below w.heap.size w V) hg9 ?_; clear X1 X2 B1 ht9 hg9 hs9; rintro V ⟨XV, TV, BV⟩) | fail)
 exact bodyPost_ret (v := .agg T2.toArray) (results_c1 rfl _ _ _ _ rfl (run_loadVar_mid _ _ _ _ _ _ XV.all Tryz.underlying44 rfl (by rw [hl2]; kernel_rfl))) rfl ⟨_, by rw [hT2], TV, BV, HCAP.out⟩
theorem given_any17 (t : TbR) (sv : Value) (w : World) (HT : TransA w sv t.trs) (h40 : t.trs.length * 40 ≤ 140737488355328) (hg : ∀ a n c, sv = .slice (some a) n c → a.block < w.heap.size ∧ a.spot = none) :
  Calls Tryz.prog 9 #[.agg (tbL t sv).toArray] w fun e w' => ∃ sv', e = zr (.agg (tbL t sv').toArray) ∧ TrAt w' sv' t.trs ∧ Below w.heap.size w w' ∧ Cap sv' := by
 rcases HT with ⟨rfl, hL⟩ | ⟨a, cap, rfl, h1, h2, hc⟩
 ·rw [hL]
  exact given17n t.nm t.first t.foot w _ rfl
 ·obtain ⟨h3, h4⟩ := hg _ _ _ rfl
  obtain ⟨g, o, s⟩ := a
  simp only at h3 h4
  subst h4
  have hcs : ∀ j u, (trCs t.trs)[j]? = some u → w.cell? ⟨g, o + j, none⟩ = some u := fun j u hu => by
   have := hc j u hu
   unfold Addr.add at this
   split at this
   ·rename_i h; subst h; simpa using this
   ·exact this
  have hm : t.trs.length ≤ maxLen := by omega
  exact given17 t.nm t.first t.trs t.foot g o t.trs.length cap rfl w ⟨⟨_, _, rfl⟩, hm, .inr ⟨g, o, cap, rfl, h3, hcs⟩⟩ h3 hcs h40 hm _ rfl
end Go.Proofs.YtklehbmghjcmaaaGreatDoor
