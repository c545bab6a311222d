import Derived.Test.YtcmefhnfdcngfaaDoorRows
import Derived.WalkKit
import Derived.WalkSpells
import Derived.WalkLawsBesides
import Derived.Deep.MidRow
import Derived.Deep.RegionHeld3
/- Blocks that a function makes for its own structs: what they hold stays through calls, and is written anew whole. -/
namespace Go.Proofs.YtcmefhnfdcngfaaDoor
open Go.RowKit
set_option linter.unusedVariables false

/-- block b holds these cells, and may be written. -/
def Bx (W : World) (b : Nat) (l : List Value) : Prop := b < W.heap.size ∧ ∀ i v, l[i]? = some v → W.cell? ⟨b, i, none⟩ = some v ∧ W.frozen? ⟨b, i, none⟩ = false
theorem Bx.below {W W' : World} {b : Nat} {l : List Value} (h : Bx W b l) (hb : Below W.heap.size W W') : Bx W' b l :=
  ⟨Nat.lt_of_lt_of_le h.1 hb.size, fun i v e => ⟨(hb.cell (p := ⟨b, i, none⟩) h.1).trans (h.2 i v e).1, (hb.frozen (p := ⟨b, i, none⟩) h.1).trans (h.2 i v e).2⟩⟩
theorem Bx.alloc {W : World} {b : Nat} {l : List Value} (h : Bx W b l) (o : Obj) : Bx (W.alloc o) b l := h.below ((Below.refl _ W).alloc (Nat.le_refl _) o)
theorem Bx.new (w : World) (l : List Value) (t : TypeId) : Bx (w.alloc (.cells l.toArray t)) w.heap.size l :=
  ⟨by simp, fun i v e => ⟨by rw [World.cell?_alloc_at _ _ _ _ rfl]; simpa using e, by rw [World.frozen?_alloc_at _ _ _ _ rfl]⟩⟩
theorem Bx.c {W : World} {b : Nat} {l : List Value} (h : Bx W b l) (i : Nat) {v : Value} (e : l[i]? = some v) : W.cell? ⟨b, i, none⟩ = some v := (h.2 i v e).1
theorem Bx.f {W : World} {b : Nat} {l : List Value} (h : Bx W b l) (i : Nat) {v : Value} (e : l[i]? = some v) : W.frozen? ⟨b, i, none⟩ = false := (h.2 i v e).2
theorem below_setCells {w : World} {b : Nat} (hb : w.heap.size ≤ b) : ∀ (vs : List Value) (W : World) (i : Nat), Below w.heap.size w W → Below w.heap.size w (W.setCells b i vs)
  | [], _, _, h => h
  | v :: vs, W, i, h => below_setCells hb vs _ _ (h.setCell (p := ⟨b, i, none⟩) hb v)
theorem setCells_size (b : Nat) : ∀ (vs : List Value) (W : World) (i : Nat), (W.setCells b i vs).heap.size = W.heap.size
  | [], _, _ => rfl
  | v :: vs, W, i => by rw [World.setCells, setCells_size b vs]; simp
theorem setCells_off (b : Nat) (vs : List Value) (W : World) (i : Nat) (p : Addr) (h : p.block ≠ b) : (W.setCells b i vs).cell? p = W.cell? p :=
  World.cell?_setCells_out b vs i W p (fun e _ => absurd e h)
theorem Bx.there {W : World} {b : Nat} {l : List Value} (h : Bx W b l) : W.there b 0 l.length := fun j hj => by
  have := h.2 j l[j] (List.getElem?_eq_getElem hj)
  rw [Nat.zero_add]
  exact ⟨by rw [this.1]; rfl, this.2⟩
theorem Bx.all {W : World} {b : Nat} {l : List Value} (h : Bx W b l) : W.rangeAt b 0 l := fun j v hv => by rw [Nat.zero_add]; exact (h.2 j v hv).1
theorem Bx.setAll {W : World} {b : Nat} {l : List Value} (h : Bx W b l) (vs : List Value) (hl : l.length = vs.length) : Bx (W.setCells b 0 vs) b vs :=
  ⟨by rw [setCells_size]; exact h.1, fun i v e => by
    have hi := (List.getElem?_eq_some_iff.1 e).1
    refine ⟨?_, ?_⟩
    · have := World.rangeAt_setCells_same W b 0 vs (hl ▸ h.there) i v e
      rwa [Nat.zero_add] at this
    · rw [World.frozen?_setCells]; exact (h.2 i l[i] (List.getElem?_eq_getElem (by omega))).2⟩
theorem Bx.setOther {W : World} {b' b : Nat} {l : List Value} (h : Bx W b' l) (hb : b' ≠ b) (vs : List Value) (j : Nat := 0) : Bx (W.setCells b j vs) b' l :=
  ⟨by rw [setCells_size]; exact h.1, fun i v e => ⟨by rw [setCells_off b vs _ _ _ hb]; exact (h.2 i v e).1, by rw [World.frozen?_setCells]; exact (h.2 i v e).2⟩⟩

/-- what lay stays, and these blocks, made since, hold these cells. -/
def BS (w : World) (l : List (Nat × List Value)) (W : World) : Prop := Below w.heap.size w W ∧ ∀ x ∈ l, w.heap.size ≤ x.1 ∧ Bx W x.1 x.2
theorem BS.start (w : World) : BS w [] w := ⟨Below.refl _ _, fun x h => by cases h⟩
theorem BS.below {w W V : World} {l : List (Nat × List Value)} (h : BS w l W) (hb : Below W.heap.size W V) : BS w l V :=
  ⟨h.1.trans (hb.mono h.1.size), fun x hx => ⟨(h.2 x hx).1, (h.2 x hx).2.below hb⟩⟩
theorem BS.drew {w W : World} {l : List (Nat × List Value)} (h : BS w l W) : BS w l W.drew := ⟨h.1.drew, h.2⟩
theorem BS.alloc {w W : World} {l : List (Nat × List Value)} (h : BS w l W) (o : Obj) : BS w l (W.alloc o) := h.below ((Below.refl _ W).alloc (Nat.le_refl _) o)
theorem BS.new {w W : World} {l : List (Nat × List Value)} (h : BS w l W) (cs : List Value) (t : TypeId) {b : Nat} (hb : W.heap.size = b) : BS w ((b, cs) :: l) (W.alloc (.cells cs.toArray t)) :=
  ⟨(h.alloc _).1, fun x hx => by
    rcases List.mem_cons.1 hx with rfl | hx
    · exact ⟨by rw [← hb]; exact h.1.size, by rw [← hb]; exact Bx.new W cs t⟩
    · exact (h.alloc _).2 x hx⟩
theorem BS.first {w W : World} {l : List (Nat × List Value)} {b : Nat} {cs : List Value} (h : BS w ((b, cs) :: l) W) : Bx W b cs := (h.2 (b, cs) List.mem_cons_self).2
theorem BS.at {w W : World} {l : List (Nat × List Value)} (h : BS w l W) (b : Nat) (cs : List Value) (hm : (b, cs) ∈ l) : Bx W b cs := (h.2 (b, cs) hm).2
/-- a block that was made, written whole. -/
theorem BS.set {w W : World} {l : List (Nat × List Value)} {b : Nat} {cs : List Value} (h : BS w ((b, cs) :: l) W) (vs : List Value) (hl : cs.length = vs.length) (hn : ∀ x ∈ l, x.1 ≠ b) : BS w ((b, vs) :: l) (W.setCells b 0 vs) :=
  ⟨below_setCells (h.2 (b, cs) List.mem_cons_self).1 vs W 0 h.1, fun x hx => by
    rcases List.mem_cons.1 hx with rfl | hx
    · exact ⟨(h.2 (b, cs) List.mem_cons_self).1, h.first.setAll vs hl⟩
    · exact ⟨(h.2 x (List.mem_cons_of_mem _ hx)).1, (h.2 x (List.mem_cons_of_mem _ hx)).2.setOther (hn x hx) vs⟩⟩
/-- a new block, made and written whole. -/
theorem BS.push {w W : World} {l : List (Nat × List Value)} (h : BS w l W) (zs vs : List Value) (t : TypeId) (hl : zs.length = vs.length) : BS w ((W.heap.size, vs) :: l) ((W.alloc (.cells zs.toArray t)).setCells W.heap.size 0 vs) :=
  (h.new zs t rfl).set vs hl fun x hx => Nat.ne_of_lt (h.2 x hx).2.1
theorem gen_to {P : Program} {c : Code} {Q : Exit → Act → World → Prop} {a : Act} {w1 : World} (T : World → Prop) (h : T w1) (k : ∀ w2, T w2 → Code.wp P c Q a w2) : Code.wp P c Q a w1 := k _ h

end Go.Proofs.YtcmefhnfdcngfaaDoor
/- Blocks that a function makes: one cell written, fewer of them. -/
namespace Go.Proofs.YtcmefhnfdcngfaaDoor
open Go.RowKit
set_option linter.unusedVariables false

theorem BS.tail {w W : World} {l : List (Nat × List Value)} {x : Nat × List Value} (h : BS w (x :: l) W) : BS w l W := ⟨h.1, fun y hy => h.2 y (List.mem_cons_of_mem _ hy)⟩
theorem Bx.set1 {W : World} {b : Nat} {l : List Value} (h : Bx W b l) (i : Nat) (v : Value) (hi : i < l.length) : Bx (W.setCell ⟨b, i, none⟩ v) b (l.set i v) :=
  ⟨by simpa using h.1, fun j x e => by
    by_cases hj : i = j
    · subst hj
      rw [List.getElem?_set_self hi] at e
      cases e
      exact ⟨World.cell?_setCell_same _ _ _ (h.2 i l[i] (List.getElem?_eq_getElem hi)).1, by rw [World.frozen?_setCell]; exact (h.2 i l[i] (List.getElem?_eq_getElem hi)).2⟩
    · rw [List.getElem?_set_ne hj] at e
      exact ⟨(World.cell?_setCell_other _ _ _ _ (fun q => hj (by cases q; rfl))).trans (h.2 j x e).1, by rw [World.frozen?_setCell]; exact (h.2 j x e).2⟩⟩
/-- one cell of a block that was made, written anew. -/
theorem BS.set1 {w W : World} {l : List (Nat × List Value)} {b : Nat} {cs : List Value} (h : BS w ((b, cs) :: l) W) (i : Nat) (v : Value) (hi : i < cs.length) (hn : ∀ x ∈ l, x.1 ≠ b) : BS w ((b, cs.set i v) :: l) (W.setCell ⟨b, i, none⟩ v) :=
  ⟨h.1.setCell (p := ⟨b, i, none⟩) (h.2 (b, cs) List.mem_cons_self).1 v, fun x hx => by
    rcases List.mem_cons.1 hx with rfl | hx
    · exact ⟨(h.2 (b, cs) List.mem_cons_self).1, h.first.set1 i v hi⟩
    · exact ⟨(h.2 x (List.mem_cons_of_mem _ hx)).1, (h.2 x (List.mem_cons_of_mem _ hx)).2.setOther (hn x hx) [v] i⟩⟩
/-- what lay stays. -/
def BW (w W : World) : Prop := Below w.heap.size w W
theorem BW.below {w W V : World} (h : BW w W) (hb : Below W.heap.size W V) : BW w V := Below.trans h (hb.mono h.size)
theorem BW.drew {w W : World} (h : BW w W) : BW w W.drew := Below.drew h


/-- a new block beside those that stay. -/
def NB (w : World) (l : List (Nat × List Value)) (W : World) (b : Nat) (cs : List Value) : Prop := Bx W b cs ∧ w.heap.size ≤ b ∧ ∀ x ∈ l, x.1 ≠ b
theorem NB.below {w V V' : World} {l : List (Nat × List Value)} {b : Nat} {cs : List Value} (h : NB w l V b cs) (hb : Below V.heap.size V V') : NB w l V' b cs := ⟨h.1.below hb, h.2⟩
/-- a block that is none of them is written. -/
theorem BS.off {w W : World} {l : List (Nat × List Value)} (h : BS w l W) {b : Nat} (hb : w.heap.size ≤ b) (hn : ∀ x ∈ l, x.1 ≠ b) (vs : List Value) : BS w l (W.setCells b 0 vs) :=
  ⟨below_setCells hb vs W 0 h.1, fun x hx => ⟨(h.2 x hx).1, (h.2 x hx).2.setOther (hn x hx) vs⟩⟩
end Go.Proofs.YtcmefhnfdcngfaaDoor
/- A row of structs of three cells that is built at once: any number of them. -/
namespace Go.Proofs.YtcmefhnfdcngfaaDoor
open Go.RowKit
set_option linter.unusedVariables false

/-- three values as a struct; all of them as cells. -/
def ag3 (x : Value × Value × Value) : Value := .agg #[x.1, x.2.1, x.2.2]
def fl3 : List (Value × Value × Value) → List Value
  | [] => []
  | x :: l => x.1 :: x.2.1 :: x.2.2 :: fl3 l
def ix3 : Nat → List (Value × Value × Value) → List (Nat × Value)
  | _, [] => []
  | k, x :: l => (k, ag3 x) :: ix3 (k + 1) l
theorem fill3_step (cs : Array Value) (i : Nat) (a b c : Value) (rest : List (Nat × Value)) : Instr.fill (fun i => some (i * 3, 3)) cs ((i, .agg #[a, b, c]) :: rest) =
    if (decide (3 ≠ 3) || decide (i * 3 + 3 > cs.size)) = true then none else Instr.fill (fun i => some (i * 3, 3)) (((cs.setIfInBounds (i * 3 + 0) a).setIfInBounds (i * 3 + 1) b).setIfInBounds (i * 3 + 2) c) rest := rfl
theorem fill3 : ∀ (l : List (Value × Value × Value)) (k : Nat) (pre suf : List Value), pre.length = k * 3 → suf.length = 3 * l.length →
    Instr.fill (fun i => some (i * 3, 3)) (pre ++ suf).toArray (ix3 k l) = some (pre ++ fl3 l).toArray
  | [], k, pre, suf, hp, hs => by
    have : suf = [] := List.eq_nil_of_length_eq_zero (by simpa using hs)
    subst this
    rfl
  | x :: l, k, pre, suf, hp, hs => by
    match suf, hs with
    | a :: b :: c :: suf, hs =>
      have q := fill3 l (k + 1) (pre ++ [x.1, x.2.1, x.2.2]) suf (by simp [hp]; omega) (by simp at hs; omega)
      have hsz : (pre ++ a :: b :: c :: suf).toArray.size = pre.length + (suf.length + 3) := by simp
      have e : Instr.fill (fun i => some (i * 3, 3)) (pre ++ a :: b :: c :: suf).toArray (ix3 k (x :: l)) = Instr.fill (fun i => some (i * 3, 3)) ((pre ++ [x.1, x.2.1, x.2.2]) ++ suf).toArray (ix3 (k + 1) l) := by
        show Instr.fill _ _ ((k, .agg #[x.1, x.2.1, x.2.2]) :: ix3 (k + 1) l) = _
        rw [fill3_step, if_neg (by rw [hsz]; simp; omega)]
        congr 1
        rw [← hp]
        simp [List.setIfInBounds_toArray]
      rw [e, q]
      simp [fl3]
theorem wpl_rows3 {P : Program} {ops : Array Oper} {rest : List Oper} {op : Oper} {a : Act} {w : World} {Q : Exit → Act → World → Prop} (hgd : op.guard = none) (T E : TypeId) (n : Nat) (ps : Array (Nat × Operand)) (ho : op.op = .buildSlice T n ps) (rs : List (Value × Value × Value))
    (hu : P.underlying T = some (.slice E)) (hi : (P.info? E).map (·.size) = some 3) (hz : ∃ z, (zeroValue E).run P w = .ok z w) (hn : rs.length = n) (hn0 : n ≠ 0) (hn1 : n ≤ 1000)
    (hp : (ps.toList.map fun (i, x) => (i, a.eval x)) = ix3 0 rs)
    (h : wpList P ops Q rest (a.put op.dst (.slice (some ⟨w.heap.size, 0, none⟩) n n)) (w.alloc (.cells (fl3 rs).toArray E))) : wpList P ops Q (op :: rest) a w :=
  wpList_plain hgd fun K hK => by
    obtain ⟨z, hz⟩ := hz
    have hsz : (sizeOf E).run P w = .ok 3 w := by
      cases hq : P.info? E with
      | none => simp [hq] at hi
      | some i => 
        have hs : i.size = 3 := by simpa [hq] using hi
        simp [sizeOf, typeInfo, hq, hs]
    have hf : ∀ (zz : Array Value), Instr.fill (fun i => some (i * 3, 3)) ((Array.range (n * 3)).map (fun j => zz[j % zz.size]!)) (ix3 0 rs) = some (fl3 rs).toArray := fun zz => by
      have q := fill3 rs 0 [] ((Array.range (n * 3)).map (fun j => zz[j % zz.size]!)).toList (by rfl) (by simp; omega)
      obtain ⟨X, hX⟩ : ∃ X, (Array.range (n * 3)).map (fun j => zz[j % zz.size]!) = X := ⟨_, rfl⟩
      rw [hX] at q ⊢
      rw [show X = ([] ++ X.toList).toArray from by rw [List.nil_append, Array.toArray_toList]]
      exact q
    have hrun : (Instr.buildSlice T n (ps.map fun (i, x) => (i, a.eval x))).run P w = .ok (.slice (some ⟨w.heap.size, 0, none⟩) n n) (w.alloc (.cells (fl3 rs).toArray E)) := by
      unfold Instr.buildSlice
      rw [Array.toList_map.trans hp]
      simp only [Sem.run_bind, run_underlying hu, Result.andThen_ok, hsz]
      rw [if_neg (by omega), if_neg (by omega)]
      simp only [Sem.run_bind, Sem.run_pure, Result.andThen_ok, hz, hf]
      simp [newRow, go_sem]
    unfold Oper.wp execOp
    simp only [ho, Sem.run_bind, hrun, Result.andThen_ok, Sem.run_pure]
    exact hK _ _ h

/-! ### a row of numbers that is built at once -/
def in1 : Nat → List Int → List (Nat × Value)
  | _, [] => []
  | k, x :: l => (k, .int .i64 x) :: in1 (k + 1) l
theorem fill1_step (cs : Array Value) (i : Nat) (a : Int) (rest : List (Nat × Value)) : Instr.fill (fun i => some (i * 1, 1)) cs ((i, .int .i64 a) :: rest) =
    if (decide (1 ≠ 1) || decide (i * 1 + 1 > cs.size)) = true then none else Instr.fill (fun i => some (i * 1, 1)) (cs.setIfInBounds (i * 1 + 0) (.int .i64 a)) rest := rfl
theorem fill1 : ∀ (l : List Int) (k : Nat) (pre suf : List Value), pre.length = k → suf.length = l.length →
    Instr.fill (fun i => some (i * 1, 1)) (pre ++ suf).toArray (in1 k l) = some (pre ++ l.map (fun k => Value.int .i64 k)).toArray
  | [], k, pre, suf, hp, hs => by
    have : suf = [] := List.eq_nil_of_length_eq_zero (by simpa using hs)
    subst this
    rfl
  | x :: l, k, pre, suf, hp, hs => by
    match suf, hs with
    | a :: suf, hs =>
      have q := fill1 l (k + 1) (pre ++ [.int .i64 x]) suf (by simp [hp]) (by simpa using hs)
      have hsz : (pre ++ a :: suf).toArray.size = pre.length + (suf.length + 1) := by simp
      have e : Instr.fill (fun i => some (i * 1, 1)) (pre ++ a :: suf).toArray (in1 k (x :: l)) = Instr.fill (fun i => some (i * 1, 1)) ((pre ++ [Value.int .i64 x]) ++ suf).toArray (in1 (k + 1) l) := by
        show Instr.fill _ _ ((k, .int .i64 x) :: in1 (k + 1) l) = _
        rw [fill1_step, if_neg (by rw [hsz]; simp; omega)]
        congr 1
        rw [← hp]
        simp [List.setIfInBounds_toArray]
      rw [e, q]
      simp
theorem run_ints {P : Program} (w : World) (T E : TypeId) (n : Nat) (l : List Int) (hu : P.underlying T = some (.slice E)) (hi : (P.info? E).map (·.size) = some 1) (hz : ∃ z, (zeroValue E).run P w = .ok z w) (hn : l.length = n) (hn0 : n ≠ 0) (hn1 : n ≤ 1000) (ps : Array (Nat × Value)) (hp : ps.toList = in1 0 l) :
    (Instr.buildSlice T n ps).run P w = .ok (.slice (some ⟨w.heap.size, 0, none⟩) n n) (w.alloc (.cells (l.map (fun k => Value.int .i64 k)).toArray E)) := by
  obtain ⟨z, hz⟩ := hz
  have hsz : (sizeOf E).run P w = .ok 1 w := by
    cases hq : P.info? E with
    | none => simp [hq] at hi
    | some i =>
      have hs : i.size = 1 := by simpa [hq] using hi
      simp [sizeOf, typeInfo, hq, hs]
  have hf : ∀ (zz : Array Value), Instr.fill (fun i => some (i * 1, 1)) ((Array.range (n * 1)).map (fun j => zz[j % zz.size]!)) (in1 0 l) = some (l.map (fun k => Value.int .i64 k)).toArray := fun zz => by
    have q := fill1 l 0 [] ((Array.range (n * 1)).map (fun j => zz[j % zz.size]!)).toList (by rfl) (by simp; omega)
    obtain ⟨X, hX⟩ : ∃ X, (Array.range (n * 1)).map (fun j => zz[j % zz.size]!) = X := ⟨_, rfl⟩
    rw [hX] at q ⊢
    rw [show X = ([] ++ X.toList).toArray from by rw [List.nil_append, Array.toArray_toList]]
    exact q
  unfold Instr.buildSlice
  rw [hp]
  simp only [Sem.run_bind, run_underlying hu, Result.andThen_ok, hsz]
  rw [if_neg (by omega), if_neg (by omega)]
  simp only [Sem.run_bind, Sem.run_pure, Result.andThen_ok, hz, hf]
  simp [newRow, go_sem]
theorem wpl_ints {P : Program} {ops : Array Oper} {rest : List Oper} {op : Oper} {a : Act} {w : World} {Q : Exit → Act → World → Prop} (hgd : op.guard = none) (T E : TypeId) (n : Nat) (ps : Array (Nat × Operand)) (ho : op.op = .buildSlice T n ps) (l : List Int)
    (hu : P.underlying T = some (.slice E)) (hi : (P.info? E).map (·.size) = some 1) (hz : ∃ z, (zeroValue E).run P w = .ok z w) (hn : l.length = n) (hn0 : n ≠ 0) (hn1 : n ≤ 1000)
    (hp : (ps.toList.map fun (i, x) => (i, a.eval x)) = in1 0 l)
    (h : ∀ (b : Nat) (W : World), b = w.heap.size → W = w.alloc (.cells (l.map (fun k => Value.int .i64 k)).toArray E) → wpList P ops Q rest (a.put op.dst (.slice (some ⟨b, 0, none⟩) n n)) W) : wpList P ops Q (op :: rest) a w :=
  wpList_plain hgd fun K hK => by
    have hrun := run_ints w T E n l hu hi hz hn hn0 hn1 (ps.map fun (i, x) => (i, a.eval x)) (Array.toList_map.trans hp)
    unfold Oper.wp execOp
    simp only [ho, Sem.run_bind, hrun, Result.andThen_ok, Sem.run_pure]
    exact hK _ _ (h _ _ rfl rfl)
theorem wpl_put {P : Program} {ops : Array Oper} {rest : List Oper} {op : Oper} {a : Act} {w : World} {Q : Exit → Act → World → Prop} (hgd : op.guard = none) (v : Value) (hrun : (execOp a.eval op).run P w = .ok (.value v) w)
    (h : wpList P ops Q rest (a.put op.dst v) w) : wpList P ops Q (op :: rest) a w :=
  wpList_plain hgd fun K hK => by
    unfold Oper.wp
    rw [hrun]
    exact hK _ _ h

end Go.Proofs.YtcmefhnfdcngfaaDoor
