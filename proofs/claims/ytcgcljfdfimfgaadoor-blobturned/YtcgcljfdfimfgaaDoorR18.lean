import Derived.Test.YtcgcljfdfimfgaaDoorR17
import Derived.Test.YtcgcljfdfimfgaaDoorR7
import Derived.SizedLaws
import Derived.ChangeArms
import Derived.DataElems
import Derived.Test.YtcgcljfdfimfgaaDoorR4
/- A table as an argument: its name, its first stand, its changes, its foot. -/
namespace Go.Proofs.YtcgcljfdfimfgaaDoor
open Go.RowKit
set_option linter.unusedVariables false

/-- a table, but for its changes' memory. -/
structure TbR where
  nm : ByteArray
  first : TrR
  trs : List TrR
  foot : Fn.Ft
def tbL (t : TbR) (v : Value) : List Value := .string t.nm :: (trC t.first ++ (v :: Fn.fL t.foot))
def wfT (x : TrR) : Prop := (Lit.int .i64 x.at_).wf = true ∧ (Lit.int .i64 x.off).wf = true ∧ x.ab.size ≤ maxLen
/-- v is a slice of the changes L. -/
def TransA (W : World) (v : Value) (L : List TrR) : Prop := (v = .slice none 0 0 ∧ L = []) ∨ ∃ a cap, v = .slice (some a) L.length cap ∧ L.length ≤ cap ∧ cap ≤ maxLen ∧ ∀ j u, (trCs L)[j]? = some u → W.cell? (a.add j) = some u
set_option maxRecDepth 100000
theorem cells30 : Tryd.prog.cellsOf 23 = 4 := by kernel_rfl
theorem bytes30 : Tryd.prog.bytesOf 23 = 40 := by kernel_rfl
theorem list4 {α : Type} {l : List α} (h : l.length = 4) : ∃ c0 c1 c2 c3, l = [c0, c1, c2, c3] := by
  match l, h with
  | [c0, c1, c2, c3], _ => exact ⟨c0, c1, c2, c3, rfl⟩

section
variable {H : Type} {enc : TypeId × Value → H} {w : World} {base : Nat} {spare : Nat → Bool} {held : Bool}
open Go.ChangeShapes Go.WideShapes Go.ChangeAt Go.WideMaps Go.WideElems

theorem trod4 {P : Program} {t : TypeId} {f0 f1 f2 f3 : Field} {fuel : Nat} {cs : List Value} {x : DataW H × List MemPlace} (ht : P.underlying t = some (.struct #[f0, f1, f2, f3])) (h : DataW.trod enc P w base spare held fuel t cs = some x) :
    ∃ y0 y1 y2 y3 n, x.1 = .agg [y0.1, y1.1, y2.1, y3.1] ∧ cs.length = P.cellsOf t ∧ DataW.trod enc P w base spare held n f0.type ((cs.drop f0.offset).take (P.cellsOf f0.type)) = some y0 ∧
      DataW.trod enc P w base spare held n f1.type ((cs.drop f1.offset).take (P.cellsOf f1.type)) = some y1 ∧ DataW.trod enc P w base spare held n f2.type ((cs.drop f2.offset).take (P.cellsOf f2.type)) = some y2 ∧
      DataW.trod enc P w base spare held n f3.type ((cs.drop f3.offset).take (P.cellsOf f3.type)) = some y3 := by
  obtain ⟨xs, n, _, hx, hl, hlen, hf⟩ := DataW.trod_struct ht h
  obtain ⟨y0, y1, y2, y3, rfl⟩ := list4 hlen
  exact ⟨y0, y1, y2, y3, n, by rw [hx]; rfl, hl, by simpa using hf 0 f0 rfl, by simpa using hf 1 f1 rfl, by simpa using hf 2 f2 rfl, by simpa using hf 3 f3 rfl⟩

theorem tran_open {n : Nat} {cs : List Value} {y : DataW H × List MemPlace} (h : DataW.trod enc Tryd.prog w base spare held n 23 cs = some y) : ∃ x : TrR, cs = trC x ∧ wfT x := by
  obtain ⟨y0, y1, y2, y3, n', _, hl, h0, h1, h2, h3⟩ := trod4 Tryd.underlying23 h
  have hc : cs.length = 4 := hl.trans cells30
  obtain ⟨c0, c1, c2, c3, rfl⟩ := list4 hc
  simp only [show Tryd.prog.cellsOf 2 = 1 by kernel_rfl, show Tryd.prog.cellsOf 4 = 1 by kernel_rfl, show Tryd.prog.cellsOf 9 = 1 by kernel_rfl, List.drop_succ_cons, List.drop_zero, List.take_succ_cons, List.take_zero] at h0 h1 h2 h3
  obtain ⟨a, e0, _, w0⟩ := DataW.trod_int Tryd.underlying2 h0
  obtain ⟨o, e1, _, w1⟩ := DataW.trod_int Tryd.underlying2 h1
  obtain ⟨d, e2, _⟩ := DataW.trod_bool Tryd.underlying4 h2
  obtain ⟨s, e3, _, w3⟩ := DataW.trod_string Tryd.underlying9 h3
  simp only [List.cons.injEq, and_true] at e0 e1 e2 e3
  exact ⟨⟨a, o, d, s⟩, by unfold trC; rw [e0, e1, e2, e3], w0, w1, w3⟩

/-- a slice of changes. -/
theorem trans_open {n : Nat} {v : Value} {y : DataW H × List MemPlace} (h : DataW.trod enc Tryd.prog w 0 (fun _ => true) held n 24 [v] = some y) :
    ∃ (L : List TrR), TransA w v L ∧ (∀ x ∈ L, wfT x) ∧ (y.1 = .nil ∧ L = [] ∨ ∃ es sp, y.1 = .slice es sp ∧ es.length = L.length) := by
  rcases DataW.trod_slice Tryd.underlying24 h with ⟨hcs, hx⟩ | ⟨a, len, cap, elems, rest, n', _, hcs, hx, _, hl, hm, hlen, hel, _, _⟩
  · simp only [List.cons.injEq, and_true] at hcs
    exact ⟨[], .inl ⟨hcs, rfl⟩, fun x hx => by simp at hx, .inl ⟨by rw [hx], rfl⟩⟩
  · simp only [List.cons.injEq, and_true] at hcs
    rw [cells30] at hel
    have each : ∀ k, k < len → ∃ x : TrR, w.cells? 0 (a.add (k * 4)) 4 = some (trC x) ∧ wfT x := by
      intro k hk
      have := hel k hk
      rw [List.getElem?_eq_getElem (by omega), Option.bind_eq_some_iff] at this
      obtain ⟨cs, h1, h2⟩ := this
      obtain ⟨x, rfl, hw⟩ := tran_open h2
      exact ⟨x, h1, hw⟩
    have build : ∀ k, k ≤ len → ∃ L : List TrR, L.length = k ∧ (∀ x ∈ L, wfT x) ∧ ∀ j u, (trCs L)[j]? = some u → w.cell? (a.add j) = some u := by
      intro k
      induction k with
      | zero => exact fun _ => ⟨[], rfl, fun x hx => by simp at hx, fun j u hj => by simp [trCs] at hj⟩
      | succ k ih =>
        intro hk
        obtain ⟨L, hL, hwf, hc⟩ := ih (by omega)
        obtain ⟨x, hx1, hx2⟩ := each k (by omega)
        refine ⟨L ++ [x], by simp [hL], fun z hz => ?_, fun j u hj => ?_⟩
        · rcases List.mem_append.1 hz with hz | hz
          · exact hwf z hz
          · simp at hz; subst hz; exact hx2
        · rw [trCs_app] at hj
          by_cases hlt : j < (trCs L).length
          · rw [List.getElem?_append_left hlt] at hj; exact hc j u hj
          · rw [List.getElem?_append_right (by omega), trCs_len, hL] at hj
            rw [trCs_len, hL] at hlt
            have hj' : (trC x)[j - k * 4]? = some u := by simpa [trCs] using hj
            have h4 : j - k * 4 < 4 := by have := (List.getElem?_eq_some_iff.1 hj').1; simpa [trC] using this
            have hcell : w.cell? ((a.add (k * 4)).add (j - k * 4)) = some u := by
              unfold World.cells? at hx1
              rw [if_pos (Nat.zero_le _)] at hx1
              have hm9 := hx1
              simp only [List.range, List.range.loop, List.mapM_cons, List.mapM_nil, Option.bind_eq_bind, Option.bind_eq_some_iff, Option.pure_def, Option.some.injEq, trC, List.cons.injEq] at hm9
              obtain ⟨u0, g0, _, ⟨u1, g1, _, ⟨u2, g2, _, ⟨u3, g3, _, rfl, rfl⟩, rfl⟩, rfl⟩, e⟩ := hm9
              simp only [List.cons.injEq, and_true] at e
              obtain ⟨e0, e1, e2, e3⟩ := e
              rcases (show j - k * 4 = 0 ∨ j - k * 4 = 1 ∨ j - k * 4 = 2 ∨ j - k * 4 = 3 by omega) with q | q | q | q <;> rw [q] at hj' ⊢ <;> simp [trC] at hj' <;> subst hj'
              · rw [g0, e0]
              · rw [g1, e1]
              · rw [g2, e2]
              · rw [g3, e3]
            have hadd : (a.add (k * 4)).add (j - k * 4) = a.add j := by rw [Addr.add_add, show k * 4 + (j - k * 4) = j by omega]
            rw [hadd] at hcell; exact hcell
    obtain ⟨L, hL, hwf, hc⟩ := build len (Nat.le_refl _)
    refine ⟨L, .inr ⟨a, cap, by rw [hL]; exact hcs, by rw [hL]; exact hl, hm, hc⟩, hwf, .inr ⟨elems.map (·.1), rest.map (·.1), by rw [hx], by simp [hlen, hL]⟩⟩

theorem foot_cells {n : Nat} {cs : List Value} {y : DataW H × List MemPlace} (h : DataW.trod enc Tryd.prog w base spare held n 32 cs = some y) : ∃ f : Fn.Ft, cs = Fn.fL f ∧ (Fn.wfF f ∧ f.A.t.size ≤ maxLen ∧ f.B.t.size ≤ maxLen) ∧ (Lit.int .i64 f.fr).wf = true := by
  obtain ⟨x0, x1, x2, x3, x4, n', hl, h0, h1, h2, h3, h4⟩ := Fn.trod5 Tryd.underlying32 h
  have hc : cs.length = 19 := hl.trans (show Tryd.prog.cellsOf 32 = 19 by kernel_rfl)
  obtain ⟨c0, c1, c2, c3, c4, c5, c6, c7, c8, c9, c10, c11, c12, c13, c14, c15, c16, c17, c18, rfl⟩ := Fn.list19 hc
  simp only [show Tryd.prog.cellsOf 4 = 1 by kernel_rfl, show Tryd.prog.cellsOf 2 = 1 by kernel_rfl, show Tryd.prog.cellsOf 30 = 8 by kernel_rfl, List.drop_succ_cons, List.drop_zero, List.take_succ_cons, List.take_zero] at h0 h1 h2 h3 h4
  obtain ⟨hs, e0, _⟩ := DataW.trod_bool Tryd.underlying4 h0
  obtain ⟨fr, e1, _, w1⟩ := DataW.trod_int Tryd.underlying2 h1
  obtain ⟨off, e2, _, w2⟩ := DataW.trod_int Tryd.underlying2 h2
  obtain ⟨A, e3, w3⟩ := Fn.half_open h3
  obtain ⟨B, e4, w4⟩ := Fn.half_open h4
  unfold Fn.hL at e3 e4
  simp only [List.cons.injEq, and_true] at e0 e1 e2 e3 e4
  obtain ⟨a0, a1, a2, a3, a4, a5, a6, a7⟩ := e3
  obtain ⟨b0, b1, b2, b3, b4, b5, b6, b7⟩ := e4
  exact ⟨⟨hs, fr, off, A, B⟩, by unfold Fn.fL; rw [e0, e1, e2, a0, a1, a2, a3, a4, a5, a6, a7, b0, b1, b2, b3, b4, b5, b6, b7], ⟨⟨w2, w3.1, w4.1⟩, w3.2, w4.2⟩, w1⟩
theorem split25 {l : List Value} (h : l.length = 25) : ∃ (c0 : Value) (f : List Value) (c5 : Value) (r : List Value), l = c0 :: (f ++ (c5 :: r)) ∧ f.length = 4 ∧ r.length = 19 := by
  refine ⟨l[0]'(by omega), (l.drop 1).take 4, l[5]'(by omega), l.drop 6, ?_, by simp; omega, by simp; omega⟩
  conv => lhs; rw [← List.take_append_drop 6 l]
  apply List.ext_getElem?
  intro i
  by_cases h6 : i < 6
  · rw [List.getElem?_append_left (by simp; omega)]
    rcases (show i = 0 ∨ i = 1 ∨ i = 2 ∨ i = 3 ∨ i = 4 ∨ i = 5 by omega) with q | q | q | q | q | q <;> subst q <;> simp [h]
  · rw [List.getElem?_append_right (by simp; omega)]
    obtain ⟨k, rfl⟩ : ∃ k, i = k + 6 := ⟨i - 6, by omega⟩
    simp [List.getElem?_append, h]
    rw [if_neg (by omega)]; congr 1; omega
theorem table_open {r : Reach} {b0 : Nat} {v : Value} {d : DataW H} {p : List MemPlace} (hv : Value.okWide Tryd.prog w r b0 34 v) (h : DataW.Trod enc Tryd.prog w 0 (fun _ => true) held 34 v d p) :
    ∃ (t : TbR) (sv : Value), v = .agg (tbL t sv).toArray ∧ TransA w sv t.trs ∧ (∀ x ∈ t.trs, wfT x) ∧ wfT t.first ∧ (Fn.wfF t.foot ∧ t.foot.A.t.size ≤ maxLen ∧ t.foot.B.t.size ≤ maxLen ∧ t.nm.size ≤ maxLen) ∧ (Lit.int .i64 t.foot.fr).wf = true ∧ ∃ e0 e1 e2 e3, d = .agg [e0, e1, e2, e3] ∧ (e2 = .nil ∧ t.trs = [] ∨ ∃ es sp, e2 = .slice es sp ∧ es.length = t.trs.length) := by
  obtain ⟨cs, rfl, hsz⟩ := okWide_struct Tryd.underlying34 hv
  obtain ⟨fuel, hq⟩ := h
  obtain ⟨y0, y1, y2, y3, n', hd, hl, h0, h1, h2, h3⟩ := trod4 Tryd.underlying34 hq
  obtain ⟨cs⟩ := cs
  have hc : cs.length = 25 := hsz.trans (show Tryd.prog.cellsOf 34 = 25 by kernel_rfl)
  obtain ⟨c0, f, c5, rr, rfl, hf, hr⟩ := split25 hc
  obtain ⟨f0, f1, f2, f3, rfl⟩ := list4 hf
  simp only [show Tryd.prog.cellsOf 9 = 1 by kernel_rfl, cells30, show Tryd.prog.cellsOf 24 = 1 by kernel_rfl, show Tryd.prog.cellsOf 32 = 19 by kernel_rfl, Value.cells, List.drop_succ_cons, List.drop_zero, List.take_succ_cons, List.take_zero, List.cons_append, List.nil_append] at h0 h1 h2 h3
  obtain ⟨nm, e0, _, wn⟩ := DataW.trod_string Tryd.underlying9 h0
  obtain ⟨x, e1, w1⟩ := tran_open h1
  obtain ⟨L, hT, hwf, hy⟩ := trans_open h2
  rw [List.take_of_length_le (by omega)] at h3
  obtain ⟨ft, e3, w3, w4⟩ := foot_cells h3
  simp only [List.cons.injEq, and_true] at e0
  refine ⟨⟨nm, x, L, ft⟩, c5, ?_, hT, hwf, w1, ⟨w3.1, w3.2.1, w3.2.2, wn⟩, w4, y0.1, y1.1, y2.1, y3.1, hd, hy⟩
  unfold tbL
  rw [e0, ← e1, ← e3]

end

end Go.Proofs.YtcgcljfdfimfgaaDoor
/- A table's cells. -/
namespace Go.Proofs.YtcgcljfdfimfgaaDoor
open Go.RowKit Sr
set_option linter.unusedVariables false

end Go.Proofs.YtcgcljfdfimfgaaDoor
/- What blob.pass does with a table's changes, by either machine: mathematics, and what stands between the rounds. -/
namespace Go.Proofs.YtcgcljfdfimfgaaDoor
open Go.RowKit Sr
set_option linter.unusedVariables false

/-- one change, passed. -/
def trF {bb pb : Nat} (m : PM bb pb) (σ : List UInt8) (x : TrR) : List UInt8 × TrR :=
  ((m.text (m.flag (m.num (m.num σ x.at_).1 x.off).1 x.dst).1 x.ab).1, ⟨(m.num σ x.at_).2, (m.num (m.num σ x.at_).1 x.off).2, (m.flag (m.num (m.num σ x.at_).1 x.off).1 x.dst).2, (m.text (m.flag (m.num (m.num σ x.at_).1 x.off).1 x.dst).1 x.ab).2⟩)
/-- so many changes, passed: those that are there, and new ones. -/
def loopF {bb pb : Nat} (m : PM bb pb) : Nat → List TrR → List UInt8 → List UInt8 × List TrR
  | 0, R, σ => (σ, R)
  | k + 1, R, σ => ((loopF m k R.tail (trF m σ (R.headD zTr)).1).1, (trF m σ (R.headD zTr)).2 :: (loopF m k R.tail (trF m σ (R.headD zTr)).1).2)
theorem ok_tr {bb pb : Nat} (m : PM bb pb) (σ : List UInt8) (x : TrR) (h : m.ok (trF m σ x).1) : m.ok (m.num σ x.at_).1 := m.bN _ _ (m.bF _ _ (m.bT _ _ h))
theorem ok_loop {bb pb : Nat} (m : PM bb pb) : ∀ (k : Nat) (R : List TrR) (σ : List UInt8), m.ok (loopF m k R σ).1 → m.ok σ
  | 0, _, _, h => h
  | k + 1, R, σ, h => m.bN _ _ (ok_tr m σ _ (ok_loop m k _ _ h))
/-- all blocks but bb, b, rows of bytes and rows of changes lie as they lay. -/
def KT3 (bb b : Nat) (W W' : World) : Prop := W.heap.size ≤ W'.heap.size ∧ ∀ k o, W.heap[k]? = some o → k ≠ bb → k ≠ b → (∀ cs fz, o ≠ .cells cs 5 fz) → (∀ cs fz, o ≠ .cells cs 23 fz) → W'.heap[k]? = some o
theorem KT3.trans {bb b : Nat} {A B C : World} (h : KT3 bb b A B) (k : KT3 bb b B C) : KT3 bb b A C := ⟨Nat.le_trans h.1 k.1, fun i o hi hb hn h5 h3 => k.2 i o (h.2 i o hi hb hn h5 h3) hb hn h5 h3⟩
theorem KT3.of_kt2 {bb b : Nat} {A B : World} (h : KT2 bb b A B) : KT3 bb b A B := ⟨h.1, fun i o hi hb hn h5 _ => h.2 i o hi hb hn h5⟩
theorem KT3.of_row {bb b g : Nat} {A B : World} {cs : Array Value} {fz : Nat × Nat} (h : KT2 bb g A B) (hg : A.heap[g]? = some (.cells cs 23 fz)) : KT3 bb b A B :=
  ⟨h.1, fun i o hi hb hn h5 h3 => h.2 i o hi hb (by rintro rfl; rw [hg] at hi; cases hi; exact h3 _ _ rfl) h5⟩
theorem KT3.of_grown {bb b : Nat} {A B : World} {row : Option Nat} (h : A.grownBy B row) (hr : ∀ k, row = some k → ∃ cs fz, A.heap[k]? = some (.cells cs 23 fz)) : KT3 bb b A B :=
  ⟨h.size, fun i o hi _ _ _ h3 => (h.block i (Array.getElem?_eq_some_iff.1 hi).1 (fun e => by obtain ⟨cs, fz, h9⟩ := hr i e.symm; rw [h9] at hi; cases hi; exact h3 _ _ rfl)).trans hi⟩
/-- what stands between two rounds. -/
structure PT {bb pb : Nat} (m : PM bb pb) (W0 : World) (q tb : Nat) (W : World) (σ : List UInt8) (T : Array Value) (v : Value) (L : List TrR) : Prop where
  st : m.St W σ
  tbk : W.heap[tb]? = some (.cells (T.setIfInBounds 5 v) 46 (0, 0))
  box : PB q m.agg W
  own : W.ownsRow m.lw 23 4 v L.length (trCs L)
  kt : KT3 bb tb W0 W
theorem own_mv {W W' : World} {base : Nat} {e : TypeId} {size : Nat} {v : Value} {n : Nat} {xs : List Value} (h : W.ownsRow base e size v n xs) (hk : Below W.heap.size W W') : W'.ownsRow base e size v n xs := own_keep9 h hk
theorem PT.mv {bb pb : Nat} {m : PM bb pb} {W0 : World} {q tb : Nat} {W W' : World} {σ : List UInt8} {T : Array Value} {v : Value} {L : List TrR} (h : PT m W0 q tb W σ T v L) (k : Below W.heap.size W W') : PT m W0 q tb W' σ T v L :=
  ⟨m.below _ _ _ h.st k, blk_below k h.tbk, blk_below k h.box, own_mv h.own k, h.kt.trans (KT3.of_kt2 (KT2.of_below k))⟩
theorem own_form4 {W : World} {base n : Nat} {v : Value} {L : List TrR} (h : W.ownsRow base 23 4 v n (trCs L)) (h0 : 0 < n) : ∃ g cap cur, v = .slice (some ⟨g, 0, none⟩) n cap ∧ base ≤ g ∧ W.heap[g]? = some (.cells cur 23 (0, 0)) ∧ n ≤ cap ∧ cap ≤ maxLen ∧ cur.size = cap * 4 ∧ cur.toList.take (n * 4) = trCs L := by
  rcases h.2 with ⟨_, z⟩ | ⟨g, cap, cur, a, b, c, d, e, f, i⟩
  · omega
  · exact ⟨g, cap, cur, a, b, c, d, e, f, i⟩
theorem own_len4 {W : World} {base n : Nat} {v : Value} {xs : List Value} (h : W.ownsRow base 23 4 v n xs) : ∃ ao c, v = .slice ao n c := by
  rcases h.2 with ⟨a, z⟩ | ⟨g, cap, cur, a, _⟩
  · subst z; exact ⟨none, 0, a⟩
  · exact ⟨_, _, a⟩
theorem row_get {cur : Array Value} {n : Nat} {D R : List TrR} {x : TrR} (htk : cur.toList.take (n * 4) = trCs (D ++ x :: R)) (hn : (D ++ x :: R).length = n) (i : Nat) (hi : i < 4) {u : Value} (hu : (trC x)[i]? = some u) : cur[D.length * 4 + i]? = some u := by
  have h := trCs_get D R x i hi
  rw [← htk, List.getElem?_take, if_pos (by rw [← hn]; simp; omega), hu] at h
  simpa using h
theorem own_set3 {W' : World} {base g n cap : Nat} {cur : Array Value} {D R : List TrR} {x : TrR} {a : Int} {b : Bool} {c : ByteArray} (hn : (D ++ x :: R).length = n) (hb : base ≤ g) (hcap : n ≤ cap) (hmax : cap ≤ maxLen) (hsz : cur.size = cap * 4) (htk : cur.toList.take (n * 4) = trCs (D ++ x :: R))
    (h : W'.heap[g]? = some (.cells (((cur.setIfInBounds (D.length * 4 + 1) (.int .i64 a)).setIfInBounds (D.length * 4 + 2) (.bool b)).setIfInBounds (D.length * 4 + 3) (.string c)) 23 (0, 0))) : W'.ownsRow base 23 4 (.slice (some ⟨g, 0, none⟩) n cap) n (trCs (D ++ ⟨x.at_, a, b, c⟩ :: R)) := by
  have l1 : D.length * 4 + 1 < n * 4 := by rw [← hn]; simp; omega
  have l2 : D.length * 4 + 2 < n * 4 := by rw [← hn]; simp; omega
  have l3 : D.length * 4 + 3 < n * 4 := by rw [← hn]; simp; omega
  refine ⟨by rw [trCs_len, ← hn]; simp, .inr ⟨g, cap, _, rfl, hb, h, hcap, hmax, by simpa using hsz, ?_⟩⟩
  rw [Array.toList_setIfInBounds, take_set l3, Array.toList_setIfInBounds, take_set l2, Array.toList_setIfInBounds, take_set l1, htk, trCs_set D R x 1 (by decide)]
  have e1 : (trC x).set 1 (.int .i64 a) = trC ⟨x.at_, a, x.dst, x.ab⟩ := rfl
  rw [e1, trCs_back, trCs_set D R _ 2 (by decide)]
  have e2 : (trC ⟨x.at_, a, x.dst, x.ab⟩).set 2 (.bool b) = trC ⟨x.at_, a, b, x.ab⟩ := rfl
  rw [e2, trCs_back, trCs_set D R _ 3 (by decide)]
  have e3 : (trC ⟨x.at_, a, b, x.ab⟩).set 3 (.string c) = trC ⟨x.at_, a, b, c⟩ := rfl
  rw [e3, trCs_back]
/-- the box of the parts, and the table's changes. -/
def S5 (q : Nat) (fs : Array Value) (tb : Nat) (v : Value) (W : World) : Prop := PB q fs W ∧ W.cell? ⟨tb, 5, none⟩ = some v
theorem PT.s5 {bb pb : Nat} {m : PM bb pb} {W0 : World} {q tb : Nat} {W : World} {σ : List UInt8} {T : Array Value} {v : Value} {L : List TrR} (h : PT m W0 q tb W σ T v L) (h5 : 5 < T.size) : S5 q m.agg tb v W := ⟨h.box, cell_of h.tbk (by simp [h5])⟩

end Go.Proofs.YtcgcljfdfimfgaaDoor
