import Derived.Test.YtcmefhnfdcngfaaDoorO0
/- A row of structs of three cells that is built at once: any number of them. -/
namespace Go.Proofs.YtcmefhnfdcngfaaDoor
open Go.RowKit
set_option linter.unusedVariables false

/-- three values as a struct; all of them as cells. -/
def ag3 (x : Value × Value × Value) : Value := .agg #[x.1, x.2.1, x.2.2]
def fl3 : List (Value × Value × Value) → List Value
  | [] => []
  | x :: l => x.1 :: x.2.1 :: x.2.2 :: fl3 l
def ix3 : Nat → List (Value × Value × Value) → List (Nat × Value)
  | _, [] => []
  | k, x :: l => (k, ag3 x) :: ix3 (k + 1) l
theorem fill3_step (cs : Array Value) (i : Nat) (a b c : Value) (rest : List (Nat × Value)) : Instr.fill (fun i => some (i * 3, 3)) cs ((i, .agg #[a, b, c]) :: rest) =
    if (decide (3 ≠ 3) || decide (i * 3 + 3 > cs.size)) = true then none else Instr.fill (fun i => some (i * 3, 3)) (((cs.setIfInBounds (i * 3 + 0) a).setIfInBounds (i * 3 + 1) b).setIfInBounds (i * 3 + 2) c) rest := rfl
theorem fill3 : ∀ (l : List (Value × Value × Value)) (k : Nat) (pre suf : List Value), pre.length = k * 3 → suf.length = 3 * l.length →
    Instr.fill (fun i => some (i * 3, 3)) (pre ++ suf).toArray (ix3 k l) = some (pre ++ fl3 l).toArray
  | [], k, pre, suf, hp, hs => by
    have : suf = [] := List.eq_nil_of_length_eq_zero (by simpa using hs)
    subst this
    rfl
  | x :: l, k, pre, suf, hp, hs => by
    match suf, hs with
    | a :: b :: c :: suf, hs =>
      have q := fill3 l (k + 1) (pre ++ [x.1, x.2.1, x.2.2]) suf (by simp [hp]; omega) (by simp at hs; omega)
      have hsz : (pre ++ a :: b :: c :: suf).toArray.size = pre.length + (suf.length + 3) := by simp
      have e : Instr.fill (fun i => some (i * 3, 3)) (pre ++ a :: b :: c :: suf).toArray (ix3 k (x :: l)) = Instr.fill (fun i => some (i * 3, 3)) ((pre ++ [x.1, x.2.1, x.2.2]) ++ suf).toArray (ix3 (k + 1) l) := by
        show Instr.fill _ _ ((k, .agg #[x.1, x.2.1, x.2.2]) :: ix3 (k + 1) l) = _
        rw [fill3_step, if_neg (by rw [hsz]; simp; omega)]
        congr 1
        rw [← hp]
        simp [List.setIfInBounds_toArray]
      rw [e, q]
      simp [fl3]
theorem wpl_rows3 {P : Program} {ops : Array Oper} {rest : List Oper} {op : Oper} {a : Act} {w : World} {Q : Exit → Act → World → Prop} (hgd : op.guard = none) (T E : TypeId) (n : Nat) (ps : Array (Nat × Operand)) (ho : op.op = .buildSlice T n ps) (rs : List (Value × Value × Value))
    (hu : P.underlying T = some (.slice E)) (hi : (P.info? E).map (·.size) = some 3) (hz : ∃ z, (zeroValue E).run P w = .ok z w) (hn : rs.length = n) (hn0 : n ≠ 0) (hn1 : n ≤ 1000)
    (hp : (ps.toList.map fun (i, x) => (i, a.eval x)) = ix3 0 rs)
    (h : wpList P ops Q rest (a.put op.dst (.slice (some ⟨w.heap.size, 0, none⟩) n n)) (w.alloc (.cells (fl3 rs).toArray E))) : wpList P ops Q (op :: rest) a w :=
  wpList_plain hgd fun K hK => by
    obtain ⟨z, hz⟩ := hz
    have hsz : (sizeOf E).run P w = .ok 3 w := by
      cases hq : P.info? E with
      | none => simp [hq] at hi
      | some i => 
        have hs : i.size = 3 := by simpa [hq] using hi
        simp [sizeOf, typeInfo, hq, hs]
    have hf : ∀ (zz : Array Value), Instr.fill (fun i => some (i * 3, 3)) ((Array.range (n * 3)).map (fun j => zz[j % zz.size]!)) (ix3 0 rs) = some (fl3 rs).toArray := fun zz => by
      have q := fill3 rs 0 [] ((Array.range (n * 3)).map (fun j => zz[j % zz.size]!)).toList (by rfl) (by simp; omega)
      obtain ⟨X, hX⟩ : ∃ X, (Array.range (n * 3)).map (fun j => zz[j % zz.size]!) = X := ⟨_, rfl⟩
      rw [hX] at q ⊢
      rw [show X = ([] ++ X.toList).toArray from by rw [List.nil_append, Array.toArray_toList]]
      exact q
    have hrun : (Instr.buildSlice T n (ps.map fun (i, x) => (i, a.eval x))).run P w = .ok (.slice (some ⟨w.heap.size, 0, none⟩) n n) (w.alloc (.cells (fl3 rs).toArray E)) := by
      unfold Instr.buildSlice
      rw [Array.toList_map.trans hp]
      simp only [Sem.run_bind, run_underlying hu, Result.andThen_ok, hsz]
      rw [if_neg (by omega), if_neg (by omega)]
      simp only [Sem.run_bind, Sem.run_pure, Result.andThen_ok, hz, hf]
      simp [newRow, go_sem]
    unfold Oper.wp execOp
    simp only [ho, Sem.run_bind, hrun, Result.andThen_ok, Sem.run_pure]
    exact hK _ _ h

/-! ### a row of numbers that is built at once -/
def in1 : Nat → List Int → List (Nat × Value)
  | _, [] => []
  | k, x :: l => (k, .int .i64 x) :: in1 (k + 1) l
theorem fill1_step (cs : Array Value) (i : Nat) (a : Int) (rest : List (Nat × Value)) : Instr.fill (fun i => some (i * 1, 1)) cs ((i, .int .i64 a) :: rest) =
    if (decide (1 ≠ 1) || decide (i * 1 + 1 > cs.size)) = true then none else Instr.fill (fun i => some (i * 1, 1)) (cs.setIfInBounds (i * 1 + 0) (.int .i64 a)) rest := rfl
theorem fill1 : ∀ (l : List Int) (k : Nat) (pre suf : List Value), pre.length = k → suf.length = l.length →
    Instr.fill (fun i => some (i * 1, 1)) (pre ++ suf).toArray (in1 k l) = some (pre ++ l.map (fun k => Value.int .i64 k)).toArray
  | [], k, pre, suf, hp, hs => by
    have : suf = [] := List.eq_nil_of_length_eq_zero (by simpa using hs)
    subst this
    rfl
  | x :: l, k, pre, suf, hp, hs => by
    match suf, hs with
    | a :: suf, hs =>
      have q := fill1 l (k + 1) (pre ++ [.int .i64 x]) suf (by simp [hp]) (by simpa using hs)
      have hsz : (pre ++ a :: suf).toArray.size = pre.length + (suf.length + 1) := by simp
      have e : Instr.fill (fun i => some (i * 1, 1)) (pre ++ a :: suf).toArray (in1 k (x :: l)) = Instr.fill (fun i => some (i * 1, 1)) ((pre ++ [Value.int .i64 x]) ++ suf).toArray (in1 (k + 1) l) := by
        show Instr.fill _ _ ((k, .int .i64 x) :: in1 (k + 1) l) = _
        rw [fill1_step, if_neg (by rw [hsz]; simp; omega)]
        congr 1
        rw [← hp]
        simp [List.setIfInBounds_toArray]
      rw [e, q]
      simp
theorem run_ints {P : Program} (w : World) (T E : TypeId) (n : Nat) (l : List Int) (hu : P.underlying T = some (.slice E)) (hi : (P.info? E).map (·.size) = some 1) (hz : ∃ z, (zeroValue E).run P w = .ok z w) (hn : l.length = n) (hn0 : n ≠ 0) (hn1 : n ≤ 1000) (ps : Array (Nat × Value)) (hp : ps.toList = in1 0 l) :
    (Instr.buildSlice T n ps).run P w = .ok (.slice (some ⟨w.heap.size, 0, none⟩) n n) (w.alloc (.cells (l.map (fun k => Value.int .i64 k)).toArray E)) := by
  obtain ⟨z, hz⟩ := hz
  have hsz : (sizeOf E).run P w = .ok 1 w := by
    cases hq : P.info? E with
    | none => simp [hq] at hi
    | some i =>
      have hs : i.size = 1 := by simpa [hq] using hi
      simp [sizeOf, typeInfo, hq, hs]
  have hf : ∀ (zz : Array Value), Instr.fill (fun i => some (i * 1, 1)) ((Array.range (n * 1)).map (fun j => zz[j % zz.size]!)) (in1 0 l) = some (l.map (fun k => Value.int .i64 k)).toArray := fun zz => by
    have q := fill1 l 0 [] ((Array.range (n * 1)).map (fun j => zz[j % zz.size]!)).toList (by rfl) (by simp; omega)
    obtain ⟨X, hX⟩ : ∃ X, (Array.range (n * 1)).map (fun j => zz[j % zz.size]!) = X := ⟨_, rfl⟩
    rw [hX] at q ⊢
    rw [show X = ([] ++ X.toList).toArray from by rw [List.nil_append, Array.toArray_toList]]
    exact q
  unfold Instr.buildSlice
  rw [hp]
  simp only [Sem.run_bind, run_underlying hu, Result.andThen_ok, hsz]
  rw [if_neg (by omega), if_neg (by omega)]
  simp only [Sem.run_bind, Sem.run_pure, Result.andThen_ok, hz, hf]
  simp [newRow, go_sem]
theorem wpl_ints {P : Program} {ops : Array Oper} {rest : List Oper} {op : Oper} {a : Act} {w : World} {Q : Exit → Act → World → Prop} (hgd : op.guard = none) (T E : TypeId) (n : Nat) (ps : Array (Nat × Operand)) (ho : op.op = .buildSlice T n ps) (l : List Int)
    (hu : P.underlying T = some (.slice E)) (hi : (P.info? E).map (·.size) = some 1) (hz : ∃ z, (zeroValue E).run P w = .ok z w) (hn : l.length = n) (hn0 : n ≠ 0) (hn1 : n ≤ 1000)
    (hp : (ps.toList.map fun (i, x) => (i, a.eval x)) = in1 0 l)
    (h : ∀ (b : Nat) (W : World), b = w.heap.size → W = w.alloc (.cells (l.map (fun k => Value.int .i64 k)).toArray E) → wpList P ops Q rest (a.put op.dst (.slice (some ⟨b, 0, none⟩) n n)) W) : wpList P ops Q (op :: rest) a w :=
  wpList_plain hgd fun K hK => by
    have hrun := run_ints w T E n l hu hi hz hn hn0 hn1 (ps.map fun (i, x) => (i, a.eval x)) (Array.toList_map.trans hp)
    unfold Oper.wp execOp
    simp only [ho, Sem.run_bind, hrun, Result.andThen_ok, Sem.run_pure]
    exact hK _ _ (h _ _ rfl rfl)
theorem wpl_put {P : Program} {ops : Array Oper} {rest : List Oper} {op : Oper} {a : Act} {w : World} {Q : Exit → Act → World → Prop} (hgd : op.guard = none) (v : Value) (hrun : (execOp a.eval op).run P w = .ok (.value v) w)
    (h : wpList P ops Q rest (a.put op.dst v) w) : wpList P ops Q (op :: rest) a w :=
  wpList_plain hgd fun K hK => by
    unfold Oper.wp
    rw [hrun]
    exact hK _ _ h

end Go.Proofs.YtcmefhnfdcngfaaDoor
