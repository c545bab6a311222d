/- A foot as an argument; the law's half, given. -/
import Derived.Test.YthbcicjkmgoliaaDoorFtK
import Derived.Lib.SmallJoins
import Derived.Deep.Strs
import Derived.OpenShut
import Derived.ProofKit
namespace Go.Proofs.YthbcicjkmgoliaaDoor
open Go.RowKit
set_option linter.unusedVariables false

theorem hL_one (a : Hf) : (hL a).toArray.all (·.oneCell') = true := all_oneCell_toArray (by intro v hv; simp only [hL, List.mem_cons, List.not_mem_nil, or_false] at hv; rcases hv with rfl | rfl | rfl | rfl | rfl | rfl | rfl | rfl <;> rfl)

theorem list2 {α : Type} {l : List α} (h : l.length = 2) : ∃ c0 c1, l = [c0, c1] := by
  match l, h with
  | [c0, c1], _ => exact ⟨c0, c1, rfl⟩
theorem list3 {α : Type} {l : List α} (h : l.length = 3) : ∃ c0 c1 c2, l = [c0, c1, c2] := by
  match l, h with
  | [c0, c1, c2], _ => exact ⟨c0, c1, c2, rfl⟩
theorem list5 {α : Type} {l : List α} (h : l.length = 5) : ∃ c0 c1 c2 c3 c4, l = [c0, c1, c2, c3, c4] := by
  match l, h with
  | [c0, c1, c2, c3, c4], _ => exact ⟨c0, c1, c2, c3, c4, rfl⟩
theorem list8 {α : Type} {l : List α} (h : l.length = 8) : ∃ c0 c1 c2 c3 c4 c5 c6 c7, l = [c0, c1, c2, c3, c4, c5, c6, c7] := by
  match l, h with
  | [c0, c1, c2, c3, c4, c5, c6, c7], _ => exact ⟨c0, c1, c2, c3, c4, c5, c6, c7, rfl⟩
theorem list19 {α : Type} {l : List α} (h : l.length = 19) : ∃ c0 c1 c2 c3 c4 c5 c6 c7 c8 c9 c10 c11 c12 c13 c14 c15 c16 c17 c18, l = [c0, c1, c2, c3, c4, c5, c6, c7, c8, c9, c10, c11, c12, c13, c14, c15, c16, c17, c18] := by
  match l, h with
  | [c0, c1, c2, c3, c4, c5, c6, c7, c8, c9, c10, c11, c12, c13, c14, c15, c16, c17, c18], _ => exact ⟨c0, c1, c2, c3, c4, c5, c6, c7, c8, c9, c10, c11, c12, c13, c14, c15, c16, c17, c18, rfl⟩

set_option maxRecDepth 100000
theorem laidOutP : laidOutB Tryd.prog = true := by kernel_rfl

section
variable {H : Type} {enc : TypeId × Value → H} {w : World} {base : Nat} {spare : Nat → Bool} {held : Bool}
open Go.ChangeShapes Go.WideShapes Go.ChangeAt Go.WideMaps Go.WideElems

theorem trod5 {P : Program} {t : TypeId} {f0 f1 f2 f3 f4 : Field} {fuel : Nat} {cs : List Value} {x : DataW H × List MemPlace} (ht : P.underlying t = some (.struct #[f0, f1, f2, f3, f4])) (h : DataW.trod enc P w base spare held fuel t cs = some x) :
    ∃ y0 y1 y2 y3 y4 n, cs.length = P.cellsOf t ∧ DataW.trod enc P w base spare held n f0.type ((cs.drop f0.offset).take (P.cellsOf f0.type)) = some y0 ∧
      DataW.trod enc P w base spare held n f1.type ((cs.drop f1.offset).take (P.cellsOf f1.type)) = some y1 ∧ DataW.trod enc P w base spare held n f2.type ((cs.drop f2.offset).take (P.cellsOf f2.type)) = some y2 ∧
      DataW.trod enc P w base spare held n f3.type ((cs.drop f3.offset).take (P.cellsOf f3.type)) = some y3 ∧ DataW.trod enc P w base spare held n f4.type ((cs.drop f4.offset).take (P.cellsOf f4.type)) = some y4 := by
  obtain ⟨xs, n, _, _, hl, hlen, hf⟩ := DataW.trod_struct ht h
  obtain ⟨y0, y1, y2, y3, y4, rfl⟩ := list5 hlen
  exact ⟨y0, y1, y2, y3, y4, n, hl, by simpa using hf 0 f0 rfl, by simpa using hf 1 f1 rfl, by simpa using hf 2 f2 rfl, by simpa using hf 3 f3 rfl, by simpa using hf 4 f4 rfl⟩

theorem on_open {n : Nat} {cs : List Value} {y : DataW H × List MemPlace} (h : DataW.trod enc Tryd.prog w base spare held n 23 cs = some y) :
    ∃ k d m : Int, cs = [.int .i64 k, .int .i64 d, .int .i64 m] ∧ (Lit.int .i64 k).wf = true ∧ (Lit.int .i64 d).wf = true ∧ (Lit.int .i64 m).wf = true := by
  obtain ⟨y0, y1, y2, n', _, hl, h0, h1, h2⟩ := Deep.trod_struct3 Tryd.underlying23 h
  have hc : cs.length = 3 := hl.trans (show Tryd.prog.cellsOf 23 = 3 by kernel_rfl)
  obtain ⟨c0, c1, c2, rfl⟩ := list3 hc
  · obtain ⟨k, e0, _, w0⟩ := DataW.trod_int Tryd.underlying3 h0
    obtain ⟨d, e1, _, w1⟩ := DataW.trod_int Tryd.underlying2 h1
    obtain ⟨m, e2, _, w2⟩ := DataW.trod_int Tryd.underlying2 h2
    rw [show Tryd.prog.cellsOf 3 = 1 by kernel_rfl] at e0
    rw [show Tryd.prog.cellsOf 2 = 1 by kernel_rfl] at e1 e2
    simp at e0 e1 e2
    exact ⟨k, d, m, by rw [e0, e1, e2], w0, w1, w2⟩

theorem at_open {n : Nat} {cs : List Value} {y : DataW H × List MemPlace} (h : DataW.trod enc Tryd.prog w base spare held n 25 cs = some y) :
    ∃ s z : Int, cs = [.int .i64 s, .int .u8 z] ∧ (Lit.int .i64 s).wf = true ∧ (Lit.int .u8 z).wf = true := by
  obtain ⟨y0, y1, n', _, hl, h0, h1⟩ := trod_struct2 Tryd.underlying25 h
  have hc : cs.length = 2 := hl.trans (show Tryd.prog.cellsOf 25 = 2 by kernel_rfl)
  obtain ⟨c0, c1, rfl⟩ := list2 hc
  · obtain ⟨k, e0, _, w0⟩ := DataW.trod_int Tryd.underlying2 h0
    obtain ⟨d, e1, _, w1⟩ := DataW.trod_int Tryd.underlying5 h1
    rw [show Tryd.prog.cellsOf 2 = 1 by kernel_rfl] at e0
    rw [show Tryd.prog.cellsOf 5 = 1 by kernel_rfl] at e1
    simp at e0 e1
    exact ⟨k, d, by rw [e0, e1], w0, w1⟩

/-- every number of a half is one of its kind. -/
def wfH (a : Hf) : Prop := (Lit.int .i64 a.m).wf = true ∧ (Lit.int .i64 a.k).wf = true ∧ (Lit.int .i64 a.d).wf = true ∧ (Lit.int .i64 a.n).wf = true ∧ (Lit.int .i64 a.s).wf = true ∧ (Lit.int .u8 a.z).wf = true ∧ (Lit.int .i64 a.v).wf = true
def wfF (f : Ft) : Prop := (Lit.int .i64 f.off).wf = true ∧ wfH f.A ∧ wfH f.B

theorem half_open {n : Nat} {cs : List Value} {y : DataW H × List MemPlace} (h : DataW.trod enc Tryd.prog w base spare held n 27 cs = some y) : ∃ a : Hf, cs = hL a ∧ wfH a := by
  obtain ⟨x0, x1, x2, x3, x4, n', hl, h0, h1, h2, h3, h4⟩ := trod5 Tryd.underlying27 h
  have hc : cs.length = 8 := hl.trans (show Tryd.prog.cellsOf 27 = 8 by kernel_rfl)
  obtain ⟨c0, c1, c2, c3, c4, c5, c6, c7, rfl⟩ := list8 hc
  ·   skip
      simp only [show Tryd.prog.cellsOf 2 = 1 by kernel_rfl, show Tryd.prog.cellsOf 23 = 3 by kernel_rfl, show Tryd.prog.cellsOf 25 = 2 by kernel_rfl, show Tryd.prog.cellsOf 9 = 1 by kernel_rfl, List.drop_succ_cons, List.drop_zero, List.take_succ_cons, List.take_zero] at h0 h1 h2 h3 h4
      obtain ⟨m, e0, _, w0⟩ := DataW.trod_int Tryd.underlying2 h0
      obtain ⟨k, d, n0, e1, w1, w2, w3⟩ := on_open h1
      obtain ⟨s, z, e2, w4, w5⟩ := at_open h2
      obtain ⟨v, e3, _, w6⟩ := DataW.trod_int Tryd.underlying2 h3
      obtain ⟨t, e4, _, w7⟩ := DataW.trod_string Tryd.underlying9 h4
      simp only [List.cons.injEq, and_true] at e0 e1 e2 e3 e4
      exact ⟨⟨m, k, d, n0, s, z, v, t⟩, by unfold hL; rw [e0, e1.1, e1.2.1, e1.2.2, e2.1, e2.2, e3, e4], w0, w1, w2, w3, w4, w5, w6⟩

theorem foot_open {r : Reach} {b0 : Nat} {v : Value} {d : DataW H} {p : List MemPlace} (hv : Value.okWide Tryd.prog w r b0 29 v) (h : DataW.Trod enc Tryd.prog w base spare held 29 v d p) :
    ∃ f : Ft, v = .agg #[.bool f.h, .int .i64 f.fr, .int .i64 f.off, .int .i64 f.A.m, .int .i64 f.A.k, .int .i64 f.A.d, .int .i64 f.A.n, .int .i64 f.A.s, .int .u8 f.A.z, .int .i64 f.A.v, .string f.A.t, .int .i64 f.B.m, .int .i64 f.B.k, .int .i64 f.B.d, .int .i64 f.B.n, .int .i64 f.B.s, .int .u8 f.B.z, .int .i64 f.B.v, .string f.B.t] ∧ wfF f := by
  obtain ⟨cs, rfl, hsz⟩ := okWide_struct Tryd.underlying29 hv
  obtain ⟨fuel, hq⟩ := h
  obtain ⟨x0, x1, x2, x3, x4, n', hl, h0, h1, h2, h3, h4⟩ := trod5 Tryd.underlying29 hq
  obtain ⟨cs⟩ := cs
  have hc : cs.length = 19 := hsz.trans (show Tryd.prog.cellsOf 29 = 19 by kernel_rfl)
  obtain ⟨c0, c1, c2, c3, c4, c5, c6, c7, c8, c9, c10, c11, c12, c13, c14, c15, c16, c17, c18, rfl⟩ := list19 hc
  ·   skip
      simp only [show Tryd.prog.cellsOf 4 = 1 by kernel_rfl, show Tryd.prog.cellsOf 2 = 1 by kernel_rfl, show Tryd.prog.cellsOf 27 = 8 by kernel_rfl, Value.cells, List.drop_succ_cons, List.drop_zero, List.take_succ_cons, List.take_zero] at h0 h1 h2 h3 h4
      obtain ⟨hs, e0, _⟩ := DataW.trod_bool Tryd.underlying4 h0
      obtain ⟨fr, e1, _, w1⟩ := DataW.trod_int Tryd.underlying2 h1
      obtain ⟨off, e2, _, w2⟩ := DataW.trod_int Tryd.underlying2 h2
      obtain ⟨A, e3, w3⟩ := half_open h3
      obtain ⟨B, e4, w4⟩ := half_open h4
      unfold hL at e3 e4
      simp only [List.cons.injEq, and_true] at e0 e1 e2 e3 e4
      obtain ⟨a0, a1, a2, a3, a4, a5, a6, a7⟩ := e3
      obtain ⟨b0, b1, b2, b3, b4, b5, b6, b7⟩ := e4
      exact ⟨⟨hs, fr, off, A, B⟩, by rw [e0, e1, e2, a0, a1, a2, a3, a4, a5, a6, a7, b0, b1, b2, b3, b4, b5, b6, b7], w2, w3, w4⟩
end

set_option maxRecDepth 100000 in
set_option maxHeartbeats 8000000 in
theorem lhalf_any (a : Hf) (w : World) :
    Calls Tryd.prog 22 #[.agg (hL a).toArray] w fun e w' => e = .returned (.agg (hL a).toArray) ∧ Below w.heap.size w w' := by
  have Z1 : Hid (Bx (w.alloc (.cells #[.int .i64 a.m, .int .i64 a.k, .int .i64 a.d, .int .i64 a.n, .int .i64 a.s, .int .u8 a.z, .int .i64 a.v, .string a.t] 27) |>.alloc (.cells #[.int .i64 0, .int .i64 0, .int .i64 0, .int .i64 0, .int .i64 0, .int .u8 0, .int .i64 0, .string ⟨#[]⟩] 37)) (w.heap.size + 1) [.int .i64 0, .int .i64 0, .int .i64 0, .int .i64 0, .int .i64 0, .int .u8 0, .int .i64 0, .string ⟨#[]⟩]) := Bx.newAt _ [.int .i64 0, .int .i64 0, .int .i64 0, .int .i64 0, .int .i64 0, .int .u8 0, .int .i64 0, .string ⟨#[]⟩] _ _ (by simp)
  have ZB : Hid (Below w.heap.size w (w.alloc (.cells #[.int .i64 a.m, .int .i64 a.k, .int .i64 a.d, .int .i64 a.n, .int .i64 a.s, .int .u8 a.z, .int .i64 a.v, .string a.t] 27) |>.alloc (.cells #[.int .i64 0, .int .i64 0, .int .i64 0, .int .i64 0, .int .i64 0, .int .u8 0, .int .i64 0, .string ⟨#[]⟩] 37))) := ((Below.refl _ _).alloc (by simp) _).alloc (by simp) _
  show Calls Tryd.prog 22 #[.agg #[.int .i64 a.m, .int .i64 a.k, .int .i64 a.d, .int .i64 a.n, .int .i64 a.s, .int .u8 a.z, .int .i64 a.v, .string a.t]] w _
  go_enter Tryd.func22, Tryd.ntmps22
  go_wp2_with (first | (refine wpList_store_mid rfl 37 _ _ rfl (w.heap.size + 1) 0 #[.int .i64 a.m, .int .i64 a.k, .int .i64 a.d, .int .i64 a.n, .int .i64 a.s, .int .u8 a.z, .int .i64 a.v, .string a.t] rfl rfl Z1.out.there (by kernel_rfl) (hL_one a) ?_; refine gen_list (fun V => Bx V (w.heap.size + 1) (hL a) ∧ Below w.heap.size w V) ⟨Z1.out.setAll (hL a) rfl, below_setCells (by omega) _ _ _ ZB.out⟩ ?_; rintro V ⟨U1, UB⟩) | fail)
  exact bodyPost_ret (v := .agg (hL a).toArray) (results_cell1 rfl _ _ _ _ rfl (run_loadVar_mid _ _ _ _ (hL a) _ U1.all Tryd.underlying37 rfl (by kernel_rfl))) rfl ⟨rfl, UB⟩

def zF : List Value := [.bool false, .int .i64 0, .int .i64 0, .int .i64 0, .int .i64 0, .int .i64 0, .int .i64 0, .int .i64 0, .int .u8 0, .int .i64 0, .string ⟨#[]⟩, .int .i64 0, .int .i64 0, .int .i64 0, .int .i64 0, .int .i64 0, .int .u8 0, .int .i64 0, .string ⟨#[]⟩]
theorem fL_one (f : Ft) : (fL f).toArray.all (·.oneCell') = true := all_oneCell_toArray (by
  intro v hv
  simp only [fL, List.mem_cons, List.not_mem_nil, or_false] at hv
  repeat' (rcases hv with rfl | hv)
  all_goals first | rfl | (subst hv; rfl))
/-- what given holds. -/
def GS (w : World) (f : Ft) (W : World) : Prop := Below w.heap.size w W ∧ Bx W w.heap.size (fL f) ∧ (Bx W (w.heap.size + 1) zF ∨ Bx W (w.heap.size + 1) (fL f))
theorem GS.below {w W V : World} {f : Ft} (h : GS w f W) (hb : Below W.heap.size W V) : GS w f V := ⟨h.1.trans (hb.mono h.1.size), h.2.1.below hb, h.2.2.imp (·.below hb) (·.below hb)⟩
theorem GS.there {w W : World} {f : Ft} (h : GS w f W) : W.there (w.heap.size + 1) 0 19 := by rcases h.2.2 with q | q <;> exact q.there
theorem GS.done {w W : World} {f : Ft} (h : GS w f W) : Bx (W.setCells (w.heap.size + 1) 0 (fL f)) (w.heap.size + 1) (fL f) := by rcases h.2.2 with q | q <;> exact q.setAll (fL f) rfl
theorem GS.put {w W : World} {f : Ft} (h : GS w f W) : GS w f (W.setCells (w.heap.size + 1) 0 (fL f)) := ⟨below_setCells (by omega) _ _ _ h.1, h.2.1.setOther (by omega) _, .inr h.done⟩

set_option maxRecDepth 100000 in
set_option maxHeartbeats 8000000 in
theorem given_any (f : Ft) (w : World) :
    Calls Tryd.prog 10 #[.agg #[.bool f.h, .int .i64 f.fr, .int .i64 f.off, .int .i64 f.A.m, .int .i64 f.A.k, .int .i64 f.A.d, .int .i64 f.A.n, .int .i64 f.A.s, .int .u8 f.A.z, .int .i64 f.A.v, .string f.A.t, .int .i64 f.B.m, .int .i64 f.B.k, .int .i64 f.B.d, .int .i64 f.B.n, .int .i64 f.B.s, .int .u8 f.B.z, .int .i64 f.B.v, .string f.B.t]] w fun e w' => e = .returned (.agg (fL f).toArray) ∧ Below w.heap.size w w' := by
  have CA : Hid (∀ w : World, True → Calls Tryd.prog 22 #[.agg #[.int .i64 f.A.m, .int .i64 f.A.k, .int .i64 f.A.d, .int .i64 f.A.n, .int .i64 f.A.s, .int .u8 f.A.z, .int .i64 f.A.v, .string f.A.t]] w fun e w' => e = .returned (.agg #[.int .i64 f.A.m, .int .i64 f.A.k, .int .i64 f.A.d, .int .i64 f.A.n, .int .i64 f.A.s, .int .u8 f.A.z, .int .i64 f.A.v, .string f.A.t]) ∧ Below w.heap.size w w') := fun w _ => lhalf_any f.A w
  have CB : Hid (∀ w : World, True → Calls Tryd.prog 22 #[.agg #[.int .i64 f.B.m, .int .i64 f.B.k, .int .i64 f.B.d, .int .i64 f.B.n, .int .i64 f.B.s, .int .u8 f.B.z, .int .i64 f.B.v, .string f.B.t]] w fun e w' => e = .returned (.agg #[.int .i64 f.B.m, .int .i64 f.B.k, .int .i64 f.B.d, .int .i64 f.B.n, .int .i64 f.B.s, .int .u8 f.B.z, .int .i64 f.B.v, .string f.B.t]) ∧ Below w.heap.size w w') := fun w _ => lhalf_any f.B w
  have HB : Hid (Below w.heap.size w ((w.alloc (.cells #[.bool f.h, .int .i64 f.fr, .int .i64 f.off, .int .i64 f.A.m, .int .i64 f.A.k, .int .i64 f.A.d, .int .i64 f.A.n, .int .i64 f.A.s, .int .u8 f.A.z, .int .i64 f.A.v, .string f.A.t, .int .i64 f.B.m, .int .i64 f.B.k, .int .i64 f.B.d, .int .i64 f.B.n, .int .i64 f.B.s, .int .u8 f.B.z, .int .i64 f.B.v, .string f.B.t] 29)).alloc (.cells #[.bool false, .int .i64 0, .int .i64 0, .int .i64 0, .int .i64 0, .int .i64 0, .int .i64 0, .int .i64 0, .int .u8 0, .int .i64 0, .string ⟨#[]⟩, .int .i64 0, .int .i64 0, .int .i64 0, .int .i64 0, .int .i64 0, .int .u8 0, .int .i64 0, .string ⟨#[]⟩] 39))) := (((Below.refl _ _).alloc (by simp <;> omega) _).alloc (by simp <;> omega) _)
  have X0 : Hid (Bx ((w.alloc (.cells #[.bool f.h, .int .i64 f.fr, .int .i64 f.off, .int .i64 f.A.m, .int .i64 f.A.k, .int .i64 f.A.d, .int .i64 f.A.n, .int .i64 f.A.s, .int .u8 f.A.z, .int .i64 f.A.v, .string f.A.t, .int .i64 f.B.m, .int .i64 f.B.k, .int .i64 f.B.d, .int .i64 f.B.n, .int .i64 f.B.s, .int .u8 f.B.z, .int .i64 f.B.v, .string f.B.t] 29)).alloc (.cells #[.bool false, .int .i64 0, .int .i64 0, .int .i64 0, .int .i64 0, .int .i64 0, .int .i64 0, .int .i64 0, .int .u8 0, .int .i64 0, .string ⟨#[]⟩, .int .i64 0, .int .i64 0, .int .i64 0, .int .i64 0, .int .i64 0, .int .u8 0, .int .i64 0, .string ⟨#[]⟩] 39)) (w.heap.size) (fL f)) := ((Bx.newAt w (fL f) _ _ (by simp)).alloc _)
  have X1 : Hid (Bx ((w.alloc (.cells #[.bool f.h, .int .i64 f.fr, .int .i64 f.off, .int .i64 f.A.m, .int .i64 f.A.k, .int .i64 f.A.d, .int .i64 f.A.n, .int .i64 f.A.s, .int .u8 f.A.z, .int .i64 f.A.v, .string f.A.t, .int .i64 f.B.m, .int .i64 f.B.k, .int .i64 f.B.d, .int .i64 f.B.n, .int .i64 f.B.s, .int .u8 f.B.z, .int .i64 f.B.v, .string f.B.t] 29)).alloc (.cells #[.bool false, .int .i64 0, .int .i64 0, .int .i64 0, .int .i64 0, .int .i64 0, .int .i64 0, .int .i64 0, .int .u8 0, .int .i64 0, .string ⟨#[]⟩, .int .i64 0, .int .i64 0, .int .i64 0, .int .i64 0, .int .i64 0, .int .u8 0, .int .i64 0, .string ⟨#[]⟩] 39)) (w.heap.size + 1) (zF)) := (Bx.newAt (w.alloc (.cells #[.bool f.h, .int .i64 f.fr, .int .i64 f.off, .int .i64 f.A.m, .int .i64 f.A.k, .int .i64 f.A.d, .int .i64 f.A.n, .int .i64 f.A.s, .int .u8 f.A.z, .int .i64 f.A.v, .string f.A.t, .int .i64 f.B.m, .int .i64 f.B.k, .int .i64 f.B.d, .int .i64 f.B.n, .int .i64 f.B.s, .int .u8 f.B.z, .int .i64 f.B.v, .string f.B.t] 29)) (zF) _ _ (by simp))
  have S0 : GS w f (((w.alloc (.cells #[.bool f.h, .int .i64 f.fr, .int .i64 f.off, .int .i64 f.A.m, .int .i64 f.A.k, .int .i64 f.A.d, .int .i64 f.A.n, .int .i64 f.A.s, .int .u8 f.A.z, .int .i64 f.A.v, .string f.A.t, .int .i64 f.B.m, .int .i64 f.B.k, .int .i64 f.B.d, .int .i64 f.B.n, .int .i64 f.B.s, .int .u8 f.B.z, .int .i64 f.B.v, .string f.B.t] 29)).alloc (.cells #[.bool false, .int .i64 0, .int .i64 0, .int .i64 0, .int .i64 0, .int .i64 0, .int .i64 0, .int .i64 0, .int .u8 0, .int .i64 0, .string ⟨#[]⟩, .int .i64 0, .int .i64 0, .int .i64 0, .int .i64 0, .int .i64 0, .int .u8 0, .int .i64 0, .string ⟨#[]⟩] 39))).drew := ⟨HB.out.drew, X0.out, .inl X1.out⟩
  clear HB X0 X1
  go_enter Tryd.func10, Tryd.ntmps10
  go_wp2_with fail
  refine wp_region_held_drew (S := (GS w f)) (by kernel_rfl) S0 (fun hHeld => ?_)
  refine gen_any ((GS w f)) hHeld ?_
  clear hHeld
  rintro v0 hHeld
  refine wpAnyH_take (i := 0) (v := ?_) (oi := { dst := some 3, op := _, type := _, pos := _, after := _, guard := none }) rfl (by kernel_rfl) (by kernel_rfl) (by kernel_rfl) (fun _ _ _ h => h) (Or.inl ⟨by kernel_rfl, ?_⟩) (by assumption) ?_
  case refine_2 => (intro w9 hSw; clear hSw; go_simp; try with_reducible rfl)
  simp only [Act.put, List.setIfInBounds_toArray, List.set_cons_zero, List.set_cons_succ]
  refine wpAnyH_take (i := 1) (v := ?_) (oi := { dst := some 4, op := _, type := _, pos := _, after := _, guard := none }) rfl (by kernel_rfl) (by kernel_rfl) (by kernel_rfl) (fun _ _ _ h => h) (Or.inl ⟨by kernel_rfl, ?_⟩) (by assumption) ?_
  case refine_2 => (intro w9 hSw; have g0 := hSw.2.1.c 0 rfl; have g1 := hSw.2.1.c 1 rfl; have g2 := hSw.2.1.c 2 rfl; clear hSw; go_simp; try with_reducible rfl)
  simp only [Act.put, List.setIfInBounds_toArray, List.set_cons_zero, List.set_cons_succ]
  refine wpAnyH_take (i := 2) (v := ?_) (oi := { dst := some 5, op := _, type := _, pos := _, after := _, guard := none }) rfl (by kernel_rfl) (by kernel_rfl) (by kernel_rfl) (fun _ _ _ h => h) (Or.inl ⟨by kernel_rfl, ?_⟩) (by assumption) ?_
  case refine_2 => (intro w9 hSw; clear hSw; go_simp; try with_reducible rfl)
  simp only [Act.put, List.setIfInBounds_toArray, List.set_cons_zero, List.set_cons_succ]
  refine wpAnyH_take (i := 3) (v := ?_) (oi := { dst := some 6, op := _, type := _, pos := _, after := _, guard := none }) rfl (by kernel_rfl) (by kernel_rfl) (by kernel_rfl) (fun _ _ _ h => h) (Or.inl ⟨by kernel_rfl, ?_⟩) (by assumption) ?_
  case refine_2 => (intro w9 hSw; have g0 := hSw.2.1.c 0 rfl; have g1 := hSw.2.1.c 1 rfl; have g2 := hSw.2.1.c 2 rfl; clear hSw; go_simp; try with_reducible rfl)
  simp only [Act.put, List.setIfInBounds_toArray, List.set_cons_zero, List.set_cons_succ]
  refine wpAnyH_take (i := 4) (v := ?_) (oi := { dst := some 7, op := _, type := _, pos := _, after := _, guard := none }) rfl (by kernel_rfl) (by kernel_rfl) (by kernel_rfl) (fun _ _ _ h => h) (Or.inl ⟨by kernel_rfl, ?_⟩) (by assumption) ?_
  case refine_2 => (intro w9 hSw; clear hSw; go_simp; try with_reducible rfl)
  simp only [Act.put, List.setIfInBounds_toArray, List.set_cons_zero, List.set_cons_succ]
  refine wpAnyH_take (i := 5) (v := ?_) (oi := { dst := some 8, op := _, type := _, pos := _, after := _, guard := none }) rfl (by kernel_rfl) (by kernel_rfl) (by kernel_rfl) (fun _ _ _ h => h) (Or.inl ⟨by kernel_rfl, ?_⟩) (by assumption) ?_
  case refine_2 => (intro w9 hSw; have g0 := hSw.2.1.c 0 rfl; have g1 := hSw.2.1.c 1 rfl; have g2 := hSw.2.1.c 2 rfl; clear hSw; go_simp; try with_reducible rfl)
  simp only [Act.put, List.setIfInBounds_toArray, List.set_cons_zero, List.set_cons_succ]
  refine wpAnyH_take (i := 6) (v := ?_) (oi := { dst := some 9, op := _, type := _, pos := _, after := _, guard := none }) rfl (by kernel_rfl) (by kernel_rfl) (by kernel_rfl) (fun _ _ _ h => h) (Or.inl ⟨by kernel_rfl, ?_⟩) (by assumption) ?_
  case refine_2 => (intro w9 hSw; clear hSw; go_simp; try with_reducible rfl)
  simp only [Act.put, List.setIfInBounds_toArray, List.set_cons_zero, List.set_cons_succ]
  refine wpAnyH_take (i := 7) (oi := { dst := some 10, op := _, type := _, pos := _, after := _, guard := none }) rfl (by kernel_rfl) (by kernel_rfl) (by kernel_rfl) (fun _ _ _ h => h) (yieldsIf_load_mid (by kernel_rfl) 27 _ rfl (w.heap.size) 3 rfl ([.int .i64 f.A.m, .int .i64 f.A.k, .int .i64 f.A.d, .int .i64 f.A.n, .int .i64 f.A.s, .int .u8 f.A.z, .int .i64 f.A.v, .string f.A.t]) _ (fun w9 hSw => hSw.2.1.rng [.bool f.h, .int .i64 f.fr, .int .i64 f.off] [.int .i64 f.A.m, .int .i64 f.A.k, .int .i64 f.A.d, .int .i64 f.A.n, .int .i64 f.A.s, .int .u8 f.A.z, .int .i64 f.A.v, .string f.A.t] [.int .i64 f.B.m, .int .i64 f.B.k, .int .i64 f.B.d, .int .i64 f.B.n, .int .i64 f.B.s, .int .u8 f.B.z, .int .i64 f.B.v, .string f.B.t] rfl) Tryd.underlying27 rfl (by kernel_rfl)) (by assumption) ?_
  simp only [Act.put, List.setIfInBounds_toArray, List.set_cons_zero, List.set_cons_succ]
  refine wpAnyH_take (i := 9) (v := ?_) (oi := { dst := some 12, op := _, type := _, pos := _, after := _, guard := none }) rfl (by kernel_rfl) (by kernel_rfl) (by kernel_rfl) (fun _ _ _ h => h) (Or.inl ⟨by kernel_rfl, ?_⟩) (by assumption) ?_
  case refine_2 => (intro w9 hSw; clear hSw; go_simp; try with_reducible rfl)
  simp only [Act.put, List.setIfInBounds_toArray, List.set_cons_zero, List.set_cons_succ]
  refine wpAnyH_take (i := 10) (oi := { dst := some 13, op := _, type := _, pos := _, after := _, guard := none }) rfl (by kernel_rfl) (by kernel_rfl) (by kernel_rfl) (fun _ _ _ h => h) (yieldsIf_load_mid (by kernel_rfl) 27 _ rfl (w.heap.size) 11 rfl ([.int .i64 f.B.m, .int .i64 f.B.k, .int .i64 f.B.d, .int .i64 f.B.n, .int .i64 f.B.s, .int .u8 f.B.z, .int .i64 f.B.v, .string f.B.t]) _ (fun w9 hSw => hSw.2.1.rng [.bool f.h, .int .i64 f.fr, .int .i64 f.off, .int .i64 f.A.m, .int .i64 f.A.k, .int .i64 f.A.d, .int .i64 f.A.n, .int .i64 f.A.s, .int .u8 f.A.z, .int .i64 f.A.v, .string f.A.t] [.int .i64 f.B.m, .int .i64 f.B.k, .int .i64 f.B.d, .int .i64 f.B.n, .int .i64 f.B.s, .int .u8 f.B.z, .int .i64 f.B.v, .string f.B.t] [] rfl) Tryd.underlying27 rfl (by kernel_rfl)) (by assumption) ?_
  simp only [Act.put, List.setIfInBounds_toArray, List.set_cons_zero, List.set_cons_succ]
  refine wpAnyH_ready (rs := [8]) (by kernel_rfl) (by simp) (AllReadyH.cons (o := { dst := some 11, op := _, type := _, pos := _, after := _, guard := none }) rfl (fun K hK => ?_) AllReadyH.nil)
  go_simp
  refine (CA.out _ trivial).mono ?_
  rintro e v1 ⟨rfl, hb1⟩
  have hH1 := hHeld.below hb1
  refine hK.out _ _ hH1 (fun _ => ?_)
  clear hK K hb1 hHeld
  have hHeld := hH1; clear hH1
  refine wpAnyH_ready (rs := [11]) (by kernel_rfl) (by simp) (AllReadyH.cons (o := { dst := some 14, op := _, type := _, pos := _, after := _, guard := none }) rfl (fun K hK => ?_) AllReadyH.nil)
  go_simp
  refine (CB.out _ trivial).mono ?_
  rintro e v2 ⟨rfl, hb2⟩
  have hH2 := hHeld.below hb2
  refine hK.out _ _ hH2 (fun _ => ?_)
  clear hK K hb2 hHeld
  have hHeld := hH2; clear hH2
  refine wpAnyH_take (i := 12) (v := ?_) (oi := { dst := some 15, op := _, type := _, pos := _, after := _, guard := none }) rfl (by kernel_rfl) (by kernel_rfl) (by kernel_rfl) (fun _ _ _ h => h) (Or.inl ⟨by kernel_rfl, ?_⟩) (by assumption) ?_
  case refine_2 => (intro w9 hSw; clear hSw; go_simp; try with_reducible rfl)
  simp only [Act.put, List.setIfInBounds_toArray, List.set_cons_zero, List.set_cons_succ]
  refine wpAnyH_ready (rs := [13]) (by kernel_rfl) (by simp) (AllReadyH.cons (o := { dst := none, op := _, type := _, pos := _, after := _, guard := none }) rfl (fun K hK => ?_) AllReadyH.nil)
  refine (if_pos (by kernel_rfl)).mpr (wp_store_mid 39 _ _ rfl (w.heap.size + 1) 0 #[.bool f.h, .int .i64 f.fr, .int .i64 f.off, .int .i64 f.A.m, .int .i64 f.A.k, .int .i64 f.A.d, .int .i64 f.A.n, .int .i64 f.A.s, .int .u8 f.A.z, .int .i64 f.A.v, .string f.A.t, .int .i64 f.B.m, .int .i64 f.B.k, .int .i64 f.B.d, .int .i64 f.B.n, .int .i64 f.B.s, .int .u8 f.B.z, .int .i64 f.B.v, .string f.B.t] rfl rfl hHeld.there (by kernel_rfl) (fL_one f) ?_)
  refine hK.out _ _ (hHeld.put) (fun _ => ?_)
  clear hK K
  refine gen_any (w1 := v2.setCells (w.heap.size + 1) 0 (fL f)) (fun V => Bx V (w.heap.size + 1) (fL f) ∧ Below w.heap.size w V) ⟨hHeld.done, below_setCells (by omega) _ _ _ hHeld.1⟩ ?_
  clear hHeld
  rintro v3 ⟨U1, UB⟩
  refine wpAnyH_done (by kernel_rfl) ?_ _
  go_wp2
  exact bodyPost_ret (v := .agg (fL f).toArray) (results_cell1 rfl _ _ _ _ rfl (run_loadVar_mid _ _ _ _ (fL f) _ U1.all Tryd.underlying39 rfl (by kernel_rfl))) rfl ⟨rfl, UB⟩

end Go.Proofs.YthbcicjkmgoliaaDoor
