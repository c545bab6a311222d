import Derived.Test.YtklehbmghjcmaaaGreatDoorSz
import Derived.Test.YtklehbmghjcmaaaGreatDoorS18
import Derived.Test.YtklehbmghjcmaaaGreatDoorS3
import Derived.SizedLaws
import Derived.ChangeArms
import Derived.DataElems
open Go.Value renaming int → vi
open Go.IntKind renaming i64 → ki
open List renaming setIfInBounds_toArray → zb, set_cons_zero → zc, set_cons_succ → zd
open Go.Act renaming put → za
open Go.Ending renaming returned → zr
set_option maxRecDepth 100000
set_option maxHeartbeats 16000000
set_option linter.unusedVariables false
namespace Go.Proofs.YtklehbmghjcmaaaGreatDoor.Fn
open Go.RowKit
theorem h17_any (a : Hf) (w : World) :
  Calls Tryz.prog 30 #[.agg (hL a).toArray] w fun e w' => e = zr (.agg (hL a).toArray) ∧ Below w.heap.size w w' := by
 have Z1 : Hid (Bx (w.alloc (.cells #[vi ki a.m, vi ki a.k, vi ki a.d, vi ki a.n, vi ki a.s, .int .u8 a.z, vi ki a.v, .string a.t] 30) |>.alloc (.cells #[vi ki 0, vi ki 0, vi ki 0, vi ki 0, vi ki 0, .int .u8 0, vi ki 0, .string ⟨#[]⟩] 40)) (w.heap.size + 1) [vi ki 0, vi ki 0, vi ki 0, vi ki 0, vi ki 0, .int .u8 0, vi ki 0, .string ⟨#[]⟩]) := Bx.newAt _ [vi ki 0, vi ki 0, vi ki 0, vi ki 0, vi ki 0, .int .u8 0, vi ki 0, .string ⟨#[]⟩] _ _ (by simp)
 have ZB : Hid (Below w.heap.size w (w.alloc (.cells #[vi ki a.m, vi ki a.k, vi ki a.d, vi ki a.n, vi ki a.s, .int .u8 a.z, vi ki a.v, .string a.t] 30) |>.alloc (.cells #[vi ki 0, vi ki 0, vi ki 0, vi ki 0, vi ki 0, .int .u8 0, vi ki 0, .string ⟨#[]⟩] 40))) := ((Below.refl _ _).alloc (by simp) _).alloc (by simp) _
 show Calls Tryz.prog 30 #[.agg #[vi ki a.m, vi ki a.k, vi ki a.d, vi ki a.n, vi ki a.s, .int .u8 a.z, vi ki a.v, .string a.t]] w _
 go_enter Tryz.func30, Tryz.ntmps30
 go_wp2_with (first | (refine wpList_store_mid rfl 40 _ _ rfl (w.heap.size + 1) 0 #[vi ki a.m, vi ki a.k, vi ki a.d, vi ki a.n, vi ki a.s, .int .u8 a.z, vi ki a.v, .string a.t] rfl rfl Z1.out.there (by kernel_rfl) (hL_one a) ?_; refine gen_list (fun V => Bx V (w.heap.size + 1) (hL a) ∧ Below w.heap.size w V) ⟨Z1.out.setAll (hL a) rfl, below_setCells (by omega) _ _ _ ZB.out⟩ ?_; rintro V ⟨U1, UB⟩) | fail)
 exact bodyPost_ret (v := .agg (hL a).toArray) (results_cell1 rfl _ _ _ _ rfl (run_loadVar_mid _ _ _ _ (hL a) _ U1.all Tryz.underlying40 rfl (by kernel_rfl))) rfl ⟨rfl, UB⟩
end Go.Proofs.YtklehbmghjcmaaaGreatDoor.Fn
namespace Go.Proofs.YtklehbmghjcmaaaGreatDoor
open Go.RowKit
structure TbR where
 nm : ByteArray
 first : TrR
 trs : List TrR
 foot : Fn.Ft
def tbL (t : TbR) (v : Value) : List Value := .string t.nm :: (trC t.first ++ (v :: Fn.fL t.foot))
def wfT (x : TrR) : Prop := (Lit.int .i64 x.at_).wf = true ∧ (Lit.int .i64 x.off).wf = true
def TransA (W : World) (v : Value) (L : List TrR) : Prop := (v = .slice none 0 0 ∧ L = []) ∨ ∃ a cap, v = .slice (some a) L.length cap ∧ L.length ≤ cap ∧ cap ≤ maxLen ∧ ∀ j u, (trCs L)[j]? = some u → W.cell? (a.add j) = some u
set_option maxRecDepth 100000
theorem cells30 : Tryz.prog.cellsOf 23 = 4 := by kernel_rfl
theorem bytes30 : Tryz.prog.bytesOf 23 = 40 := by kernel_rfl
theorem list4 {α : Type} {l : List α} (h : l.length = 4) : ∃ c0 c1 c2 c3, l = [c0, c1, c2, c3] := by
 match l, h with
 | [c0, c1, c2, c3], _ => exact ⟨c0, c1, c2, c3, rfl⟩
section
variable {H : Type} {enc : TypeId × Value → H} {w : World} {base : Nat} {spare : Nat → Bool} {held : Bool}
open Go.ChangeShapes Go.WideShapes Go.ChangeAt Go.WideMaps Go.WideElems
theorem trod4 {P : Program} {t : TypeId} {f0 f1 f2 f3 : Field} {fuel : Nat} {cs : List Value} {x : DataW H × List MemPlace} (ht : P.underlying t = some (.struct #[f0, f1, f2, f3])) (h : DataW.trod enc P w base spare held fuel t cs = some x) :
  ∃ y0 y1 y2 y3 n, x.1 = .agg [y0.1, y1.1, y2.1, y3.1] ∧ cs.length = P.cellsOf t ∧ DataW.trod enc P w base spare held n f0.type ((cs.drop f0.offset).take (P.cellsOf f0.type)) = some y0 ∧
   DataW.trod enc P w base spare held n f1.type ((cs.drop f1.offset).take (P.cellsOf f1.type)) = some y1 ∧ DataW.trod enc P w base spare held n f2.type ((cs.drop f2.offset).take (P.cellsOf f2.type)) = some y2 ∧
   DataW.trod enc P w base spare held n f3.type ((cs.drop f3.offset).take (P.cellsOf f3.type)) = some y3 := by
 obtain ⟨xs, n, _, hx, hl, hlen, hf⟩ := DataW.trod_struct ht h
 obtain ⟨y0, y1, y2, y3, rfl⟩ := list4 hlen
 exact ⟨y0, y1, y2, y3, n, by rw [hx]; rfl, hl, by simpa using hf 0 f0 rfl, by simpa using hf 1 f1 rfl, by simpa using hf 2 f2 rfl, by simpa using hf 3 f3 rfl⟩
theorem tran_open {n : Nat} {cs : List Value} {y : DataW H × List MemPlace} (h : DataW.trod enc Tryz.prog w base spare held n 23 cs = some y) : ∃ x : TrR, cs = trC x ∧ wfT x := by
 obtain ⟨y0, y1, y2, y3, n', _, hl, h0, h1, h2, h3⟩ := trod4 Tryz.underlying23 h
 have hc : cs.length = 4 := hl.trans cells30
 obtain ⟨c0, c1, c2, c3, rfl⟩ := list4 hc
 simp only [show Tryz.prog.cellsOf 2 = 1 by kernel_rfl, show Tryz.prog.cellsOf 4 = 1 by kernel_rfl, show Tryz.prog.cellsOf 9 = 1 by kernel_rfl, List.drop_succ_cons, List.drop_zero, List.take_succ_cons, List.take_zero] at h0 h1 h2 h3
 obtain ⟨a, e0, _, w0⟩ := DataW.trod_int Tryz.underlying2 h0
 obtain ⟨o, e1, _, w1⟩ := DataW.trod_int Tryz.underlying2 h1
 obtain ⟨d, e2, _⟩ := DataW.trod_bool Tryz.underlying4 h2
 obtain ⟨s, e3, _, w3⟩ := DataW.trod_string Tryz.underlying9 h3
 simp only [List.cons.injEq, and_true] at e0 e1 e2 e3
 exact ⟨⟨a, o, d, s⟩, by unfold trC; rw [e0, e1, e2, e3], w0, w1⟩
theorem trans_open {n : Nat} {v : Value} {y : DataW H × List MemPlace} (h : DataW.trod enc Tryz.prog w 0 (fun _ => true) held n 24 [v] = some y) :
  ∃ (L : List TrR), TransA w v L ∧ (∀ x ∈ L, wfT x) ∧ (y.1 = .nil ∧ L = [] ∨ ∃ es sp, y.1 = .slice es sp ∧ es.length = L.length) := by
 rcases DataW.trod_slice Tryz.underlying24 h with ⟨hcs, hx⟩ | ⟨a, len, cap, elems, rest, n', _, hcs, hx, _, hl, hm, hlen, hel, _, _⟩
 ·simp only [List.cons.injEq, and_true] at hcs
  exact ⟨[], .inl ⟨hcs, rfl⟩, fun x hx => by simp at hx, .inl ⟨by rw [hx], rfl⟩⟩
 ·simp only [List.cons.injEq, and_true] at hcs
  rw [cells30] at hel
  have each : ∀ k, k < len → ∃ x : TrR, w.cells? 0 (a.add (k * 4)) 4 = some (trC x) ∧ wfT x := by
   intro k hk
   have := hel k hk
   rw [List.getElem?_eq_getElem (by omega), Option.bind_eq_some_iff] at this
   obtain ⟨cs, h1, h2⟩ := this
   obtain ⟨x, rfl, hw⟩ := tran_open h2
   exact ⟨x, h1, hw⟩
  have build : ∀ k, k ≤ len → ∃ L : List TrR, L.length = k ∧ (∀ x ∈ L, wfT x) ∧ ∀ j u, (trCs L)[j]? = some u → w.cell? (a.add j) = some u := by
   intro k
   induction k with
   | zero => exact fun _ => ⟨[], rfl, fun x hx => by simp at hx, fun j u hj => by simp [trCs] at hj⟩
   | succ k ih =>
    intro hk
    obtain ⟨L, hL, hwf, hc⟩ := ih (by omega)
    obtain ⟨x, hx1, hx2⟩ := each k (by omega)
    refine ⟨L ++ [x], by simp [hL], fun z hz => ?_, fun j u hj => ?_⟩
    ·rcases List.mem_append.1 hz with hz | hz
     ·exact hwf z hz
     ·simp at hz; subst hz; exact hx2
    ·rw [trCs_app] at hj
     by_cases hlt : j < (trCs L).length
     ·rw [List.getElem?_append_left hlt] at hj; exact hc j u hj
     ·rw [List.getElem?_append_right (by omega), trCs_len, hL] at hj
      rw [trCs_len, hL] at hlt
      have hj' : (trC x)[j - k * 4]? = some u := by simpa [trCs] using hj
      have h4 : j - k * 4 < 4 := by have := (List.getElem?_eq_some_iff.1 hj').1; simpa [trC] using this
      have hcell : w.cell? ((a.add (k * 4)).add (j - k * 4)) = some u := by
       unfold World.cells? at hx1
       rw [if_pos (Nat.zero_le _)] at hx1
       have hm9 := hx1
       simp only [List.range, List.range.loop, List.mapM_cons, List.mapM_nil, Option.bind_eq_bind, Option.bind_eq_some_iff, Option.pure_def, Option.some.injEq, trC, List.cons.injEq] at hm9
       obtain ⟨u0, g0, _, ⟨u1, g1, _, ⟨u2, g2, _, ⟨u3, g3, _, rfl, rfl⟩, rfl⟩, rfl⟩, e⟩ := hm9
       simp only [List.cons.injEq, and_true] at e
       obtain ⟨e0, e1, e2, e3⟩ := e
       rcases (show j - k * 4 = 0 ∨ j - k * 4 = 1 ∨ j - k * 4 = 2 ∨ j - k * 4 = 3 by omega) with q | q | q | q <;> rw [q] at hj' ⊢ <;> simp [trC] at hj' <;> subst hj'
       ·rw [g0, e0]
       ·rw [g1, e1]
       ·rw [g2, e2]
       ·rw [g3, e3]
      have hadd : (a.add (k * 4)).add (j - k * 4) = a.add j := by rw [Addr.add_add, show k * 4 + (j - k * 4) = j by omega]
      rw [hadd] at hcell; exact hcell
  obtain ⟨L, hL, hwf, hc⟩ := build len (Nat.le_refl _)
  refine ⟨L, .inr ⟨a, cap, by rw [hL]; exact hcs, by rw [hL]; exact hl, hm, hc⟩, hwf, .inr ⟨elems.map (·.1), rest.map (·.1), by rw [hx], by simp [hlen, hL]⟩⟩
theorem foot_cells {n : Nat} {cs : List Value} {y : DataW H × List MemPlace} (h : DataW.trod enc Tryz.prog w base spare held n 32 cs = some y) : ∃ f : Fn.Ft, cs = Fn.fL f ∧ Fn.wfF f ∧ (Lit.int .i64 f.fr).wf = true := by
 obtain ⟨x0, x1, x2, x3, x4, n', hl, h0, h1, h2, h3, h4⟩ := Fn.trod5 Tryz.underlying32 h
 have hc : cs.length = 19 := hl.trans (show Tryz.prog.cellsOf 32 = 19 by kernel_rfl)
 obtain ⟨c0, c1, c2, c3, c4, c5, c6, c7, c8, c9, c10, c11, c12, c13, c14, c15, c16, c17, c18, rfl⟩ := Fn.list19 hc
 simp only [show Tryz.prog.cellsOf 4 = 1 by kernel_rfl, show Tryz.prog.cellsOf 2 = 1 by kernel_rfl, show Tryz.prog.cellsOf 30 = 8 by kernel_rfl, List.drop_succ_cons, List.drop_zero, List.take_succ_cons, List.take_zero] at h0 h1 h2 h3 h4
 obtain ⟨hs, e0, _⟩ := DataW.trod_bool Tryz.underlying4 h0
 obtain ⟨fr, e1, _, w1⟩ := DataW.trod_int Tryz.underlying2 h1
 obtain ⟨off, e2, _, w2⟩ := DataW.trod_int Tryz.underlying2 h2
 obtain ⟨A, e3, w3⟩ := Fn.half_open h3
 obtain ⟨B, e4, w4⟩ := Fn.half_open h4
 unfold Fn.hL at e3 e4
 simp only [List.cons.injEq, and_true] at e0 e1 e2 e3 e4
 obtain ⟨a0, a1, a2, a3, a4, a5, a6, a7⟩ := e3
 obtain ⟨b0, b1, b2, b3, b4, b5, b6, b7⟩ := e4
 exact ⟨⟨hs, fr, off, A, B⟩, by unfold Fn.fL; rw [e0, e1, e2, a0, a1, a2, a3, a4, a5, a6, a7, b0, b1, b2, b3, b4, b5, b6, b7], ⟨w2, w3, w4⟩, w1⟩
theorem split25 {l : List Value} (h : l.length = 25) : ∃ (c0 : Value) (f : List Value) (c5 : Value) (r : List Value), l = c0 :: (f ++ (c5 :: r)) ∧ f.length = 4 ∧ r.length = 19 := by
 refine ⟨l[0]'(by omega), (l.drop 1).take 4, l[5]'(by omega), l.drop 6, ?_, by simp; omega, by simp; omega⟩
 conv => lhs; rw [← List.take_append_drop 6 l]
 apply List.ext_getElem?
 intro i
 by_cases h6 : i < 6
 ·rw [List.getElem?_append_left (by simp; omega)]
  rcases (show i = 0 ∨ i = 1 ∨ i = 2 ∨ i = 3 ∨ i = 4 ∨ i = 5 by omega) with q | q | q | q | q | q <;> subst q <;> simp [h]
 ·rw [List.getElem?_append_right (by simp; omega)]
  obtain ⟨k, rfl⟩ : ∃ k, i = k + 6 := ⟨i - 6, by omega⟩
  simp [List.getElem?_append, h]
  rw [if_neg (by omega)]; congr 1; omega
theorem table_open {r : Reach} {b0 : Nat} {v : Value} {d : DataW H} {p : List MemPlace} (hv : Value.okWide Tryz.prog w r b0 34 v) (h : DataW.Trod enc Tryz.prog w 0 (fun _ => true) held 34 v d p) :
  ∃ (t : TbR) (sv : Value), v = .agg (tbL t sv).toArray ∧ TransA w sv t.trs ∧ (∀ x ∈ t.trs, wfT x) ∧ wfT t.first ∧ Fn.wfF t.foot ∧ (Lit.int .i64 t.foot.fr).wf = true ∧ ∃ e0 e1 e2 e3, d = .agg [e0, e1, e2, e3] ∧ (e2 = .nil ∧ t.trs = [] ∨ ∃ es sp, e2 = .slice es sp ∧ es.length = t.trs.length) := by
 obtain ⟨cs, rfl, hsz⟩ := okWide_struct Tryz.underlying34 hv
 obtain ⟨fuel, hq⟩ := h
 obtain ⟨y0, y1, y2, y3, n', hd, hl, h0, h1, h2, h3⟩ := trod4 Tryz.underlying34 hq
 obtain ⟨cs⟩ := cs
 have hc : cs.length = 25 := hsz.trans (show Tryz.prog.cellsOf 34 = 25 by kernel_rfl)
 obtain ⟨c0, f, c5, rr, rfl, hf, hr⟩ := split25 hc
 obtain ⟨f0, f1, f2, f3, rfl⟩ := list4 hf
 simp only [show Tryz.prog.cellsOf 9 = 1 by kernel_rfl, cells30, show Tryz.prog.cellsOf 24 = 1 by kernel_rfl, show Tryz.prog.cellsOf 32 = 19 by kernel_rfl, Value.cells, List.drop_succ_cons, List.drop_zero, List.take_succ_cons, List.take_zero, List.cons_append, List.nil_append] at h0 h1 h2 h3
 obtain ⟨nm, e0, _, _⟩ := DataW.trod_string Tryz.underlying9 h0
 obtain ⟨x, e1, w1⟩ := tran_open h1
 obtain ⟨L, hT, hwf, hy⟩ := trans_open h2
 rw [List.take_of_length_le (by omega)] at h3
 obtain ⟨ft, e3, w3, w4⟩ := foot_cells h3
 simp only [List.cons.injEq, and_true] at e0
 refine ⟨⟨nm, x, L, ft⟩, c5, ?_, hT, hwf, w1, w3, w4, y0.1, y1.1, y2.1, y3.1, hd, hy⟩
 unfold tbL
 rw [e0, ← e1, ← e3]
end
end Go.Proofs.YtklehbmghjcmaaaGreatDoor
