import Derived.Test.YtcgcljfdfimfgaaDoorR15
/- foot.around. -/
namespace Go.Proofs.YtcgcljfdfimfgaaDoor.Fn
open Go.RowKit
set_option linter.unusedVariables false

attribute [local go_sem] Oper.semAt_some

theorem wpListIn_store_mid {F : Fence} {n : Nat} {P : Program} {ops : Array Oper} {rest : List Oper} {op : Oper} {a : Act} {w : World} {Q : Exit → Act → World → Prop} (hgd : op.guard = none) (ty : TypeId) (x y : Operand) (ho : op.op = .store ty x y)
    (b o : Nat) (cells : Array Value) (hx : a.eval x = .pointer (some ⟨b, o, none⟩)) (hy : a.eval y = .agg cells)
    (ht : w.there b o cells.size) (hi : (P.info? ty).map (·.size) = some cells.size) (h1 : cells.all (·.oneCell') = true)
    (h : wpListIn F n P ops Q rest (a.put op.dst undef) (w.setCells b o cells.toList)) : wpListIn F n P ops Q (op :: rest) a w := by
  refine wpListIn_plain hgd fun K' hK' => ?_
  unfold Oper.wpIn
  refine ⟨by simp [Oper.about, ho], ?_⟩
  rw [Oper.semAt_plain F _ _ (by rw [ho]; intro c hc'; cases hc')]
  simp only [execOp, ho, hx, hy, Sem.run_bind, run_storeAt_mid w b o ty cells ht hi h1, Sem.run_pure, Result.andThen_ok]
  exact hK' _ _ h
theorem keeps_setCells (b : Nat) : ∀ (vs : List Value) (W : World) (i : Nat), KeepsOthers W (W.setCells b i vs)
  | [], W, _ => KeepsOthers.refl W
  | v :: vs, W, i => (KeepsOthers.setCell W _ v).trans (keeps_setCells b vs _ _)
theorem Bx.grownR {W W' : World} {b : Nat} {row : Option Nat} {l : List Value} (h : Bx W b l) (hg : W.grownBy W' row) (hb : ∀ r, row = some r → r ≠ b) : Bx W' b l :=
  h.same hg.size (hg.block b h.1 (fun e => hb b e.symm rfl))
theorem operIn_load_mid {F : Fence} {n : Nat} {P : Program} {op : Oper} {a : Act} {w : World} {K : Act → World → Prop} {Q : Exit → Act → World → Prop} (ty : TypeId) (x : Operand) (ho : op.op = .load ty x)
    (b o : Nat) (hx : a.eval x = .pointer (some ⟨b, o, none⟩)) (cs : List Value) (d : TypeDesc) (hc : w.rangeAt b o cs)
    (hu : P.underlying ty = some d) (hd : d.isRow = true) (hi : (P.info? ty).map (·.size) = some cs.length)
    (h : K (a.put op.dst (.agg cs.toArray)) w) : op.wpIn F n P a w K Q := by
  unfold Oper.wpIn
  refine ⟨by simp [Oper.about, ho], ?_⟩
  rw [Oper.semAt_plain F _ _ (by rw [ho]; intro c hc'; cases hc')]
  simp only [execOp, ho, hx, Sem.run_bind, run_loadAt_mid w b o ty cs d hc hu hd hi, Sem.run_pure, Result.andThen_ok]
  exact h
theorem operIn_store_mid {F : Fence} {n : Nat} {P : Program} {op : Oper} {a : Act} {w : World} {K : Act → World → Prop} {Q : Exit → Act → World → Prop} (ty : TypeId) (x y : Operand) (ho : op.op = .store ty x y)
    (b o : Nat) (cells : Array Value) (hx : a.eval x = .pointer (some ⟨b, o, none⟩)) (hy : a.eval y = .agg cells)
    (ht : w.there b o cells.size) (hi : (P.info? ty).map (·.size) = some cells.size) (h1 : cells.all (·.oneCell') = true)
    (h : K (a.put op.dst undef) (w.setCells b o cells.toList)) : op.wpIn F n P a w K Q := by
  unfold Oper.wpIn
  refine ⟨by simp [Oper.about, ho], ?_⟩
  rw [Oper.semAt_plain F _ _ (by rw [ho]; intro c hc'; cases hc')]
  simp only [execOp, ho, hx, hy, Sem.run_bind, run_storeAt_mid w b o ty cells ht hi h1, Sem.run_pure, Result.andThen_ok]
  exact h
theorem run_store1 {P : Program} (w : World) (b : Nat) (ty : TypeId) (k : IntKind) (c : Int) (ht : w.there b 0 1) (hi : (P.info? ty).map (·.size) = some 1) :
    (Instr.storeAt ty (.pointer (some ⟨b, 0, none⟩)) (.int k c)).run P w = .ok () (w.setCells b 0 [.int k c]) := by
  have := run_storeCells_cells (P := P) b 0 [.int k c] 0 w (fun j hj => by simpa using (ht j (by simpa using hj)).1) (fun j hj => by simpa using (ht j (by simpa using hj)).2) (by simp [Value.oneCell'])
  cases hq : P.info? ty with
  | none => simp [hq] at hi
  | some i =>
    have hs : 1 = i.size := by simp [hq] at hi; omega
    simp only [Nat.add_zero] at this
    simp only [Instr.storeAt, Instr.sureAddr, Sem.run_bind, Sem.run_pure, Result.andThen_ok]
    simp [storeVar, sizeOf, typeInfo, hq, Value.cells, ← hs, this]
theorem operIn_store1 {F : Fence} {n : Nat} {P : Program} {op : Oper} {a : Act} {w : World} {K : Act → World → Prop} {Q : Exit → Act → World → Prop} (ty : TypeId) (x y : Operand) (ho : op.op = .store ty x y)
    (b : Nat) (k : IntKind) (c : Int) (hx : a.eval x = .pointer (some ⟨b, 0, none⟩)) (hy : a.eval y = .int k c)
    (ht : w.there b 0 1) (hi : (P.info? ty).map (·.size) = some 1)
    (h : K (a.put op.dst undef) (w.setCells b 0 [.int k c])) : op.wpIn F n P a w K Q := by
  unfold Oper.wpIn
  refine ⟨by simp [Oper.about, ho], ?_⟩
  rw [Oper.semAt_plain F _ _ (by rw [ho]; intro c hc'; cases hc')]
  simp only [execOp, ho, hx, hy, Sem.run_bind, run_store1 w b ty k c ht hi, Sem.run_pure, Result.andThen_ok]
  exact h
theorem gen_anyIn {F : Fence} {n : Nat} {P : Program} {md : Region.Mode} {ops : Array Oper} {Q : Exit → Act → World → Prop} {fuel : Nat} {listed : Array Bool} {a : Act} {w1 : World} (T : World → Prop) (h : T w1)
    (k : ∀ w2, T w2 → wpAnyIn F n P md ops Q fuel listed a w2) : wpAnyIn F n P md ops Q fuel listed a w1 := k _ h
theorem results_cell3 {P : Program} {fn : Func} {p q r : Tmp} {t1 t2 t3 : TypeId} (h : fn.results = #[.cell p t1, .cell q t2, .cell r t3]) (tmps : Array Value) (w : World) (a b c : Addr) (u v x : Value) (hp : tmps[p]?.getD undef = .pointer (some a)) (hq : tmps[q]?.getD undef = .pointer (some b)) (hr : tmps[r]?.getD undef = .pointer (some c))
    (h1 : (loadVar t1 a).run P w = .ok u w) (h2 : (loadVar t2 b).run P w = .ok v w) (h3 : (loadVar t3 c).run P w = .ok x w) : (results fn tmps).run P w = .ok (.tuple #[u, v, x]) w := by
  simp [results, h, hp, hq, hr, asAddr, h1, h2, h3]
theorem run_loadVar1 {P : Program} {w : World} {a : Addr} {v : Value} {ty : TypeId} {k : IntKind} (hc : w.cell? a = some v) (hu : P.underlying ty = some (.int k)) : (loadVar ty a).run P w = .ok v w := by
  simp [loadVar, isAgg, run_underlying hu, hc]
/-- what is told last. -/
def lastK (f : Ft) (y : Int) (k : Nat) : List Value := if k = 0 then z4 else tL (shK f (y - 1) (k - 1))
theorem lastK_len (f : Ft) (y : Int) (k : Nat) : (lastK f y k).length = 4 := by unfold lastK; split <;> rfl
/-- what around holds between two rounds. -/
structure AR (w : World) (f : Ft) (t y : Int) (K b8 k : Nat) (W : World) : Prop where
  le : k ≤ K
  at_ : Bx W (w.heap.size + 1) [.int .i64 t]
  r1 : Bx W (w.heap.size + 1 + 1) z4
  r2 : Bx W (w.heap.size + 1 + 1 + 1) z4
  r3 : Bx W (w.heap.size + 1 + 1 + 1 + 1) [.int .i64 0]
  last : Bx W b8 (lastK f y k)
  bel : Below w.heap.size w W
theorem AR.grown {w : World} {f : Ft} {t y : Int} {K b8 k : Nat} {W V : World} {row : Option Nat} (h : AR w f t y K b8 k W) (hg : W.grownBy V row) (hr : ∀ r, row = some r → w.heap.size + 5 ≤ r ∧ r ≠ b8) : AR w f t y K b8 k V :=
  ⟨h.le, h.at_.grownR hg (fun r e => by have := hr r e; omega), h.r1.grownR hg (fun r e => by have := hr r e; omega), h.r2.grownR hg (fun r e => by have := hr r e; omega), h.r3.grownR hg (fun r e => by have := hr r e; omega),
    h.last.grownR hg (fun r e => (hr r e).2), h.bel.grown hg h.bel.size (fun r e => by have := hr r e; omega)⟩
theorem AR.alloc {w : World} {f : Ft} {t y : Int} {K b8 k : Nat} {W : World} (h : AR w f t y K b8 k W) (o : Obj) : AR w f t y K b8 k (W.alloc o) := h.grown (World.grownBy_alloc W o none) (fun r e => by cases e)
theorem AR.told {w : World} {f : Ft} {t y : Int} {K b8 k : Nat} {W : World} (h : AR w f t y K b8 k W) (hk : k < K) (hb : w.heap.size + 5 ≤ b8) (hx : True := trivial) : AR w f t y K b8 (k + 1) (W.setCells b8 0 (tL (shK f (y - 1) k))) :=
  ⟨by omega, h.at_.setOther (by omega) _, h.r1.setOther (by omega) _, h.r2.setOther (by omega) _, h.r3.setOther (by omega) _, by
    have := h.last.setAll (tL (shK f (y - 1) k)) (by rw [lastK_len]; rfl)
    rw [show lastK f y (k + 1) = tL (shK f (y - 1) k) by unfold lastK; rw [if_neg (by omega)]; rfl]
    exact this, below_setCells (by omega) _ _ _ h.bel⟩
/-- what it leaves. -/
structure AX (w : World) (f : Ft) (y : Int) (K : Nat) (W : World) : Prop where
  r1 : Bx W (w.heap.size + 1 + 1) (tL (shK f (y - 1) (K - 1)))
  r2 : Bx W (w.heap.size + 1 + 1 + 1) (tL (shK f (y - 1) K))
  r3 : Bx W (w.heap.size + 1 + 1 + 1 + 1) [.int .i64 0]
  bel : Below w.heap.size w W
theorem AX.grown {w : World} {f : Ft} {y : Int} {K : Nat} {W V : World} {row : Option Nat} (h : AX w f y K W) (hg : W.grownBy V row) (hr : ∀ r, row = some r → w.heap.size + 5 ≤ r) : AX w f y K V :=
  ⟨h.r1.grownR hg (fun r e => by have := hr r e; omega), h.r2.grownR hg (fun r e => by have := hr r e; omega), h.r3.grownR hg (fun r e => by have := hr r e; omega), h.bel.grown hg h.bel.size (fun r e => by have := hr r e; omega)⟩

/-- the results are written. -/
structure DS (w : World) (b8 bx B : Nat) (W : World) (p q : Tr) (L1 L2 : List Value) (V : World) : Prop where
  last : Bx V b8 (tL p)
  cur : Bx V bx (tL q)
  r1 : Bx V (w.heap.size + 1 + 1) L1
  r2 : Bx V (w.heap.size + 1 + 1 + 1) L2
  r3 : Bx V (w.heap.size + 1 + 1 + 1 + 1) [.int .i64 0]
  bel : Below w.heap.size w V
  kf : KeepsFrom B W V
  o8 : w.heap.size + 5 ≤ b8
  ox : w.heap.size + 5 ≤ bx
theorem DS.s2 {w : World} {b8 bx B : Nat} {W : World} {p q : Tr} {L1 L2 : List Value} {V : World} (h : DS w b8 bx B W p q L1 L2 V) (hl : L1.length = 4) : DS w b8 bx B W p q (tL p) L2 (V.setCells (w.heap.size + 1 + 1) 0 (tL p)) :=
  have o8 := h.o8
  have ox := h.ox
  ⟨h.last.setOther (by omega) _, h.cur.setOther (by omega) _, h.r1.setAll _ (by rw [hl]; rfl), h.r2.setOther (by omega) _, h.r3.setOther (by omega) _, below_setCells (by omega) _ _ _ h.bel, h.kf.trans ((keeps_setCells _ _ _ _).from _), h.o8, h.ox⟩
theorem DS.s3 {w : World} {b8 bx B : Nat} {W : World} {p q : Tr} {L1 L2 : List Value} {V : World} (h : DS w b8 bx B W p q L1 L2 V) (hl : L2.length = 4) : DS w b8 bx B W p q L1 (tL q) (V.setCells (w.heap.size + 1 + 1 + 1) 0 (tL q)) :=
  have o8 := h.o8
  have ox := h.ox
  ⟨h.last.setOther (by omega) _, h.cur.setOther (by omega) _, h.r1.setOther (by omega) _, h.r2.setAll _ (by rw [hl]; rfl), h.r3.setOther (by omega) _, below_setCells (by omega) _ _ _ h.bel, h.kf.trans ((keeps_setCells _ _ _ _).from _), h.o8, h.ox⟩
theorem DS.s4 {w : World} {b8 bx B : Nat} {W : World} {p q : Tr} {L1 L2 : List Value} {V : World} (h : DS w b8 bx B W p q L1 L2 V) : DS w b8 bx B W p q L1 L2 (V.setCells (w.heap.size + 1 + 1 + 1 + 1) 0 [.int .i64 0]) :=
  have o8 := h.o8
  have ox := h.ox
  ⟨h.last.setOther (by omega) _, h.cur.setOther (by omega) _, h.r1.setOther (by omega) _, h.r2.setOther (by omega) _, h.r3.setAll _ rfl, below_setCells (by omega) _ _ _ h.bel, h.kf.trans ((keeps_setCells _ _ _ _).from _), h.o8, h.ox⟩

set_option maxRecDepth 100000 in
set_option maxHeartbeats 8000000 in
theorem around_ok (f : Ft) (t y : Int) (K : Nat) (hf : okF f = true) (hy : YAt t y) (y1 : -4714 ≤ y) (y2 : y ≤ 294278) (t1 : -9223372036854775808 ≤ t) (t2 : t ≤ 9223372036854775807)
    (k1 : 1 ≤ K) (k2 : K < 6) (hK : t < (shK f (y - 1) K).t) (hlo : ∀ k, k < K → (shK f (y - 1) k).t ≤ t) (w : World) (hL0 : Hid (Cvl.Lens w)) (hT0 : Hid (Clk.Tab w)) :
    Calls Tryd.prog 44 #[.agg #[.bool f.h, .int .i64 f.fr, .int .i64 f.off, .int .i64 f.A.m, .int .i64 f.A.k, .int .i64 f.A.d, .int .i64 f.A.n, .int .i64 f.A.s, .int .u8 f.A.z, .int .i64 f.A.v, .string f.A.t, .int .i64 f.B.m, .int .i64 f.B.k, .int .i64 f.B.d, .int .i64 f.B.n, .int .i64 f.B.s, .int .u8 f.B.z, .int .i64 f.B.v, .string f.B.t], .int .i64 t] w fun e w' => e = .returned (.tuple #[.agg (tL (shK f (y - 1) (K - 1))).toArray, .agg (tL (shK f (y - 1) K)).toArray, .int .i64 0]) ∧ Below w.heap.size w w' := by
  have HB : Hid (Below w.heap.size w (((((w.alloc (.cells #[.bool f.h, .int .i64 f.fr, .int .i64 f.off, .int .i64 f.A.m, .int .i64 f.A.k, .int .i64 f.A.d, .int .i64 f.A.n, .int .i64 f.A.s, .int .u8 f.A.z, .int .i64 f.A.v, .string f.A.t, .int .i64 f.B.m, .int .i64 f.B.k, .int .i64 f.B.d, .int .i64 f.B.n, .int .i64 f.B.s, .int .u8 f.B.z, .int .i64 f.B.v, .string f.B.t] 44)).alloc (.cells #[.int .i64 t] 2)).alloc (.cells #[.int .i64 0, .int .i64 0, .bool false, .string ⟨#[]⟩] 23)).alloc (.cells #[.int .i64 0, .int .i64 0, .bool false, .string ⟨#[]⟩] 23)).alloc (.cells #[.int .i64 0] 36))) := ((((((Below.refl _ _).alloc (by simp <;> omega) _).alloc (by simp <;> omega) _).alloc (by simp <;> omega) _).alloc (by simp <;> omega) _).alloc (by simp <;> omega) _)
  have X0 : Hid (Bx (((((w.alloc (.cells #[.bool f.h, .int .i64 f.fr, .int .i64 f.off, .int .i64 f.A.m, .int .i64 f.A.k, .int .i64 f.A.d, .int .i64 f.A.n, .int .i64 f.A.s, .int .u8 f.A.z, .int .i64 f.A.v, .string f.A.t, .int .i64 f.B.m, .int .i64 f.B.k, .int .i64 f.B.d, .int .i64 f.B.n, .int .i64 f.B.s, .int .u8 f.B.z, .int .i64 f.B.v, .string f.B.t] 44)).alloc (.cells #[.int .i64 t] 2)).alloc (.cells #[.int .i64 0, .int .i64 0, .bool false, .string ⟨#[]⟩] 23)).alloc (.cells #[.int .i64 0, .int .i64 0, .bool false, .string ⟨#[]⟩] 23)).alloc (.cells #[.int .i64 0] 36)) (w.heap.size) (fL f)) := (((((Bx.newAt w (fL f) _ _ (by simp)).alloc _).alloc _).alloc _).alloc _)
  have X1 : Hid (Bx (((((w.alloc (.cells #[.bool f.h, .int .i64 f.fr, .int .i64 f.off, .int .i64 f.A.m, .int .i64 f.A.k, .int .i64 f.A.d, .int .i64 f.A.n, .int .i64 f.A.s, .int .u8 f.A.z, .int .i64 f.A.v, .string f.A.t, .int .i64 f.B.m, .int .i64 f.B.k, .int .i64 f.B.d, .int .i64 f.B.n, .int .i64 f.B.s, .int .u8 f.B.z, .int .i64 f.B.v, .string f.B.t] 44)).alloc (.cells #[.int .i64 t] 2)).alloc (.cells #[.int .i64 0, .int .i64 0, .bool false, .string ⟨#[]⟩] 23)).alloc (.cells #[.int .i64 0, .int .i64 0, .bool false, .string ⟨#[]⟩] 23)).alloc (.cells #[.int .i64 0] 36)) (w.heap.size + 1) ([.int .i64 t])) := ((((Bx.newAt (w.alloc (.cells #[.bool f.h, .int .i64 f.fr, .int .i64 f.off, .int .i64 f.A.m, .int .i64 f.A.k, .int .i64 f.A.d, .int .i64 f.A.n, .int .i64 f.A.s, .int .u8 f.A.z, .int .i64 f.A.v, .string f.A.t, .int .i64 f.B.m, .int .i64 f.B.k, .int .i64 f.B.d, .int .i64 f.B.n, .int .i64 f.B.s, .int .u8 f.B.z, .int .i64 f.B.v, .string f.B.t] 44)) ([.int .i64 t]) _ _ (by simp)).alloc _).alloc _).alloc _)
  have X2 : Hid (Bx (((((w.alloc (.cells #[.bool f.h, .int .i64 f.fr, .int .i64 f.off, .int .i64 f.A.m, .int .i64 f.A.k, .int .i64 f.A.d, .int .i64 f.A.n, .int .i64 f.A.s, .int .u8 f.A.z, .int .i64 f.A.v, .string f.A.t, .int .i64 f.B.m, .int .i64 f.B.k, .int .i64 f.B.d, .int .i64 f.B.n, .int .i64 f.B.s, .int .u8 f.B.z, .int .i64 f.B.v, .string f.B.t] 44)).alloc (.cells #[.int .i64 t] 2)).alloc (.cells #[.int .i64 0, .int .i64 0, .bool false, .string ⟨#[]⟩] 23)).alloc (.cells #[.int .i64 0, .int .i64 0, .bool false, .string ⟨#[]⟩] 23)).alloc (.cells #[.int .i64 0] 36)) (w.heap.size + 2) (z4)) := (((Bx.newAt ((w.alloc (.cells #[.bool f.h, .int .i64 f.fr, .int .i64 f.off, .int .i64 f.A.m, .int .i64 f.A.k, .int .i64 f.A.d, .int .i64 f.A.n, .int .i64 f.A.s, .int .u8 f.A.z, .int .i64 f.A.v, .string f.A.t, .int .i64 f.B.m, .int .i64 f.B.k, .int .i64 f.B.d, .int .i64 f.B.n, .int .i64 f.B.s, .int .u8 f.B.z, .int .i64 f.B.v, .string f.B.t] 44)).alloc (.cells #[.int .i64 t] 2)) (z4) _ _ (by simp)).alloc _).alloc _)
  have X3 : Hid (Bx (((((w.alloc (.cells #[.bool f.h, .int .i64 f.fr, .int .i64 f.off, .int .i64 f.A.m, .int .i64 f.A.k, .int .i64 f.A.d, .int .i64 f.A.n, .int .i64 f.A.s, .int .u8 f.A.z, .int .i64 f.A.v, .string f.A.t, .int .i64 f.B.m, .int .i64 f.B.k, .int .i64 f.B.d, .int .i64 f.B.n, .int .i64 f.B.s, .int .u8 f.B.z, .int .i64 f.B.v, .string f.B.t] 44)).alloc (.cells #[.int .i64 t] 2)).alloc (.cells #[.int .i64 0, .int .i64 0, .bool false, .string ⟨#[]⟩] 23)).alloc (.cells #[.int .i64 0, .int .i64 0, .bool false, .string ⟨#[]⟩] 23)).alloc (.cells #[.int .i64 0] 36)) (w.heap.size + 3) (z4)) := ((Bx.newAt (((w.alloc (.cells #[.bool f.h, .int .i64 f.fr, .int .i64 f.off, .int .i64 f.A.m, .int .i64 f.A.k, .int .i64 f.A.d, .int .i64 f.A.n, .int .i64 f.A.s, .int .u8 f.A.z, .int .i64 f.A.v, .string f.A.t, .int .i64 f.B.m, .int .i64 f.B.k, .int .i64 f.B.d, .int .i64 f.B.n, .int .i64 f.B.s, .int .u8 f.B.z, .int .i64 f.B.v, .string f.B.t] 44)).alloc (.cells #[.int .i64 t] 2)).alloc (.cells #[.int .i64 0, .int .i64 0, .bool false, .string ⟨#[]⟩] 23)) (z4) _ _ (by simp)).alloc _)
  have X4 : Hid (Bx (((((w.alloc (.cells #[.bool f.h, .int .i64 f.fr, .int .i64 f.off, .int .i64 f.A.m, .int .i64 f.A.k, .int .i64 f.A.d, .int .i64 f.A.n, .int .i64 f.A.s, .int .u8 f.A.z, .int .i64 f.A.v, .string f.A.t, .int .i64 f.B.m, .int .i64 f.B.k, .int .i64 f.B.d, .int .i64 f.B.n, .int .i64 f.B.s, .int .u8 f.B.z, .int .i64 f.B.v, .string f.B.t] 44)).alloc (.cells #[.int .i64 t] 2)).alloc (.cells #[.int .i64 0, .int .i64 0, .bool false, .string ⟨#[]⟩] 23)).alloc (.cells #[.int .i64 0, .int .i64 0, .bool false, .string ⟨#[]⟩] 23)).alloc (.cells #[.int .i64 0] 36)) (w.heap.size + 4) ([.int .i64 0])) := (Bx.newAt ((((w.alloc (.cells #[.bool f.h, .int .i64 f.fr, .int .i64 f.off, .int .i64 f.A.m, .int .i64 f.A.k, .int .i64 f.A.d, .int .i64 f.A.n, .int .i64 f.A.s, .int .u8 f.A.z, .int .i64 f.A.v, .string f.A.t, .int .i64 f.B.m, .int .i64 f.B.k, .int .i64 f.B.d, .int .i64 f.B.n, .int .i64 f.B.s, .int .u8 f.B.z, .int .i64 f.B.v, .string f.B.t] 44)).alloc (.cells #[.int .i64 t] 2)).alloc (.cells #[.int .i64 0, .int .i64 0, .bool false, .string ⟨#[]⟩] 23)).alloc (.cells #[.int .i64 0, .int .i64 0, .bool false, .string ⟨#[]⟩] 23)) ([.int .i64 0]) _ _ (by simp))
  have L1 : Hid (Cvl.Lens (((((w.alloc (.cells #[.bool f.h, .int .i64 f.fr, .int .i64 f.off, .int .i64 f.A.m, .int .i64 f.A.k, .int .i64 f.A.d, .int .i64 f.A.n, .int .i64 f.A.s, .int .u8 f.A.z, .int .i64 f.A.v, .string f.A.t, .int .i64 f.B.m, .int .i64 f.B.k, .int .i64 f.B.d, .int .i64 f.B.n, .int .i64 f.B.s, .int .u8 f.B.z, .int .i64 f.B.v, .string f.B.t] 44)).alloc (.cells #[.int .i64 t] 2)).alloc (.cells #[.int .i64 0, .int .i64 0, .bool false, .string ⟨#[]⟩] 23)).alloc (.cells #[.int .i64 0, .int .i64 0, .bool false, .string ⟨#[]⟩] 23)).alloc (.cells #[.int .i64 0] 36))) := Lens_below hL0.out HB.out (Lens_lt hL0.out)
  have T1 : Hid (Clk.Tab (((((w.alloc (.cells #[.bool f.h, .int .i64 f.fr, .int .i64 f.off, .int .i64 f.A.m, .int .i64 f.A.k, .int .i64 f.A.d, .int .i64 f.A.n, .int .i64 f.A.s, .int .u8 f.A.z, .int .i64 f.A.v, .string f.A.t, .int .i64 f.B.m, .int .i64 f.B.k, .int .i64 f.B.d, .int .i64 f.B.n, .int .i64 f.B.s, .int .u8 f.B.z, .int .i64 f.B.v, .string f.B.t] 44)).alloc (.cells #[.int .i64 t] 2)).alloc (.cells #[.int .i64 0, .int .i64 0, .bool false, .string ⟨#[]⟩] 23)).alloc (.cells #[.int .i64 0, .int .i64 0, .bool false, .string ⟨#[]⟩] 23)).alloc (.cells #[.int .i64 0] 36))) := hT0.out.below HB.out
  have CA : Hid (Calls Tryd.prog 53 #[.agg #[.bool f.h, .int .i64 f.fr, .int .i64 f.off, .int .i64 f.A.m, .int .i64 f.A.k, .int .i64 f.A.d, .int .i64 f.A.n, .int .i64 f.A.s, .int .u8 f.A.z, .int .i64 f.A.v, .string f.A.t, .int .i64 f.B.m, .int .i64 f.B.k, .int .i64 f.B.d, .int .i64 f.B.n, .int .i64 f.B.s, .int .u8 f.B.z, .int .i64 f.B.v, .string f.B.t]] (((((w.alloc (.cells #[.bool f.h, .int .i64 f.fr, .int .i64 f.off, .int .i64 f.A.m, .int .i64 f.A.k, .int .i64 f.A.d, .int .i64 f.A.n, .int .i64 f.A.s, .int .u8 f.A.z, .int .i64 f.A.v, .string f.A.t, .int .i64 f.B.m, .int .i64 f.B.k, .int .i64 f.B.d, .int .i64 f.B.n, .int .i64 f.B.s, .int .u8 f.B.z, .int .i64 f.B.v, .string f.B.t] 44)).alloc (.cells #[.int .i64 t] 2)).alloc (.cells #[.int .i64 0, .int .i64 0, .bool false, .string ⟨#[]⟩] 23)).alloc (.cells #[.int .i64 0, .int .i64 0, .bool false, .string ⟨#[]⟩] 23)).alloc (.cells #[.int .i64 0] 36)) fun e w' => e = .returned (.bool true) ∧ Below (((((w.alloc (.cells #[.bool f.h, .int .i64 f.fr, .int .i64 f.off, .int .i64 f.A.m, .int .i64 f.A.k, .int .i64 f.A.d, .int .i64 f.A.n, .int .i64 f.A.s, .int .u8 f.A.z, .int .i64 f.A.v, .string f.A.t, .int .i64 f.B.m, .int .i64 f.B.k, .int .i64 f.B.d, .int .i64 f.B.n, .int .i64 f.B.s, .int .u8 f.B.z, .int .i64 f.B.v, .string f.B.t] 44)).alloc (.cells #[.int .i64 t] 2)).alloc (.cells #[.int .i64 0, .int .i64 0, .bool false, .string ⟨#[]⟩] 23)).alloc (.cells #[.int .i64 0, .int .i64 0, .bool false, .string ⟨#[]⟩] 23)).alloc (.cells #[.int .i64 0] 36)).heap.size (((((w.alloc (.cells #[.bool f.h, .int .i64 f.fr, .int .i64 f.off, .int .i64 f.A.m, .int .i64 f.A.k, .int .i64 f.A.d, .int .i64 f.A.n, .int .i64 f.A.s, .int .u8 f.A.z, .int .i64 f.A.v, .string f.A.t, .int .i64 f.B.m, .int .i64 f.B.k, .int .i64 f.B.d, .int .i64 f.B.n, .int .i64 f.B.s, .int .u8 f.B.z, .int .i64 f.B.v, .string f.B.t] 44)).alloc (.cells #[.int .i64 t] 2)).alloc (.cells #[.int .i64 0, .int .i64 0, .bool false, .string ⟨#[]⟩] 23)).alloc (.cells #[.int .i64 0, .int .i64 0, .bool false, .string ⟨#[]⟩] 23)).alloc (.cells #[.int .i64 0] 36)) w') := by
    have R := can_any f (((((w.alloc (.cells #[.bool f.h, .int .i64 f.fr, .int .i64 f.off, .int .i64 f.A.m, .int .i64 f.A.k, .int .i64 f.A.d, .int .i64 f.A.n, .int .i64 f.A.s, .int .u8 f.A.z, .int .i64 f.A.v, .string f.A.t, .int .i64 f.B.m, .int .i64 f.B.k, .int .i64 f.B.d, .int .i64 f.B.n, .int .i64 f.B.s, .int .u8 f.B.z, .int .i64 f.B.v, .string f.B.t] 44)).alloc (.cells #[.int .i64 t] 2)).alloc (.cells #[.int .i64 0, .int .i64 0, .bool false, .string ⟨#[]⟩] 23)).alloc (.cells #[.int .i64 0, .int .i64 0, .bool false, .string ⟨#[]⟩] 23)).alloc (.cells #[.int .i64 0] 36)) L1.out T1.out
    rw [hf] at R
    exact R
  have h1 : ¬ y < -4714 := by omega
  have h2 : ¬ 294278 < y := by omega
  refine (callsIn_wide (n := 3)).1 ?_
  refine callsIn_of_wp_marks Tryd.func44 rfl trivial ?_ rfl
  simp only [Tryd.ntmps44, List.size_toArray, List.length_cons, List.length_nil, Nat.reduceAdd, Nat.reduceSub, Array.replicate_succ, Array.replicate_zero, List.push_toArray, List.append_toArray, List.nil_append, List.cons_append]
  gi_wp2_with (first | (refine wpListIn_load_mid rfl 44 _ rfl w.heap.size 0 rfl [.bool f.h, .int .i64 f.fr, .int .i64 f.off, .int .i64 f.A.m, .int .i64 f.A.k, .int .i64 f.A.d, .int .i64 f.A.n, .int .i64 f.A.s, .int .u8 f.A.z, .int .i64 f.A.v, .string f.A.t, .int .i64 f.B.m, .int .i64 f.B.k, .int .i64 f.B.d, .int .i64 f.B.n, .int .i64 f.B.s, .int .u8 f.B.z, .int .i64 f.B.v, .string f.B.t] _ X0.out.all Tryd.underlying44 rfl (by kernel_rfl) ?_) | fail)
  refine ⟨trivial, (callsIn_wide.2 CA.out).mono ?_⟩
  rintro e w1 ⟨rfl, hb⟩
  have HB1 : Hid (Below w.heap.size w w1) := HB.out.trans (hb.mono HB.out.size)
  have Y0 : Hid (Bx w1 w.heap.size [.bool f.h, .int .i64 f.fr, .int .i64 f.off, .int .i64 f.A.m, .int .i64 f.A.k, .int .i64 f.A.d, .int .i64 f.A.n, .int .i64 f.A.s, .int .u8 f.A.z, .int .i64 f.A.v, .string f.A.t, .int .i64 f.B.m, .int .i64 f.B.k, .int .i64 f.B.d, .int .i64 f.B.n, .int .i64 f.B.s, .int .u8 f.B.z, .int .i64 f.B.v, .string f.B.t]) := X0.out.below hb
  have Y1 : Hid (Bx w1 (w.heap.size + 1) [.int .i64 t]) := X1.out.below hb
  have Y2 : Hid (Bx w1 (w.heap.size + 1 + 1) z4) := X2.out.below hb
  have Y3 : Hid (Bx w1 (w.heap.size + 1 + 1 + 1) z4) := X3.out.below hb
  have Y4 : Hid (Bx w1 (w.heap.size + 1 + 1 + 1 + 1) [.int .i64 0]) := X4.out.below hb
  have L2 : Hid (Cvl.Lens w1) := bel_lens HB1.out hL0.out
  have ct := Y1.out.c 0 rfl
  clear hb HB X0 X1 X2 X3 X4 CA L1 T1
  gi_wp2_with fail
  refine ⟨trivial, (callsIn_wide.2 (yat_any t y hy t1 t2 _ L2.out)).mono ?_⟩
  rintro e w9 ⟨rfl, rfl⟩
  have Z0 : Hid (Bx (w9.alloc (.cells #[.int .i64 0, .int .i64 0, .bool false, .string ⟨#[]⟩] 23)) w.heap.size [.bool f.h, .int .i64 f.fr, .int .i64 f.off, .int .i64 f.A.m, .int .i64 f.A.k, .int .i64 f.A.d, .int .i64 f.A.n, .int .i64 f.A.s, .int .u8 f.A.z, .int .i64 f.A.v, .string f.A.t, .int .i64 f.B.m, .int .i64 f.B.k, .int .i64 f.B.d, .int .i64 f.B.n, .int .i64 f.B.s, .int .u8 f.B.z, .int .i64 f.B.v, .string f.B.t]) := Y0.out.alloc _
  gi_wp2_with (first | (refine wpListIn_load_mid rfl 44 _ rfl w.heap.size 0 rfl [.bool f.h, .int .i64 f.fr, .int .i64 f.off, .int .i64 f.A.m, .int .i64 f.A.k, .int .i64 f.A.d, .int .i64 f.A.n, .int .i64 f.A.s, .int .u8 f.A.z, .int .i64 f.A.v, .string f.A.t, .int .i64 f.B.m, .int .i64 f.B.k, .int .i64 f.B.d, .int .i64 f.B.n, .int .i64 f.B.s, .int .u8 f.B.z, .int .i64 f.B.v, .string f.B.t] _ Z0.out.all Tryd.underlying44 rfl (by kernel_rfl) ?_) | fail)
  refine ⟨trivial, (callsIn_wide.2 (begin_any f _)).mono ?_⟩
  rintro e w2 ⟨rfl, hM, hb⟩
  rw [World.size_alloc] at hM hb ⊢
  gi_wp2_with fail
  refine ⟨trivial, (callsIn_wide.2 (shifts_any f (w9.heap.size + 1 + 2) (y - 1) (y + 1) _)).mono ?_⟩
  rintro e w3 ⟨rfl, rfl⟩
  gi_wp2_with fail
  have hm2 : w9.heap.size + 1 + 2 < w2.heap.size := by obtain ⟨es, c, hq, _⟩ := hM; exact (Array.getElem?_eq_some_iff.1 hq).1
  obtain ⟨m, hm⟩ : ∃ m, w9.heap.size + 1 + 2 = m := ⟨_, rfl⟩
  rw [hm] at hM hm2 ⊢
  have ba : Below w9.heap.size w9 (w9.alloc (.cells #[.int .i64 0, .int .i64 0, .bool false, .string ⟨#[]⟩] 23)) := (Below.refl _ _).alloc (Nat.le_refl _) _
  have b92 : Below w9.heap.size w9 w2 := ba.trans (hb.mono (by simp))
  have b12 : Below w.heap.size w w2 := HB1.out.trans (b92.mono HB1.out.size)
  have I0 : AR w f t y K w9.heap.size 0 w2 := ⟨by omega, Y1.out.below b92, Y2.out.below b92, Y3.out.below b92, Y4.out.below b92, (Bx.new w9 z4 23).below (by rw [World.size_alloc]; exact hb), b12⟩
  have L3 := bel_lens b12 hL0.out
  refine gen_codeIn (fun V => ItS f m (w2.heap.size + 1) (w2.heap.size + 2) w2.heap.size (y - 1) (y + 1) V ∧ AR w f t y K w9.heap.size 0 V ∧ w2.heap.size + 3 ≤ V.heap.size) ⟨?_, ((I0.alloc _).alloc _).alloc _, by simp⟩ ?_
  · have lb : Below w2.heap.size w2 ((((w2.alloc (.cells #[.bool f.h, .int .i64 f.fr, .int .i64 f.off, .int .i64 f.A.m, .int .i64 f.A.k, .int .i64 f.A.d, .int .i64 f.A.n, .int .i64 f.A.s, .int .u8 f.A.z, .int .i64 f.A.v, .string f.A.t, .int .i64 f.B.m, .int .i64 f.B.k, .int .i64 f.B.d, .int .i64 f.B.n, .int .i64 f.B.s, .int .u8 f.B.z, .int .i64 f.B.v, .string f.B.t, .map (some m)] 107))).alloc (.cells #[.int .i64 (y - 1)] 2)).alloc (.cells #[.int .i64 (y + 1)] 2)) := (((Below.refl _ w2).alloc (Nat.le_refl _) _).alloc (by simp) _).alloc (by simp; omega) _
    exact ⟨((Bx.newAt (w2.alloc (.cells #[.bool f.h, .int .i64 f.fr, .int .i64 f.off, .int .i64 f.A.m, .int .i64 f.A.k, .int .i64 f.A.d, .int .i64 f.A.n, .int .i64 f.A.s, .int .u8 f.A.z, .int .i64 f.A.v, .string f.A.t, .int .i64 f.B.m, .int .i64 f.B.k, .int .i64 f.B.d, .int .i64 f.B.n, .int .i64 f.B.s, .int .u8 f.B.z, .int .i64 f.B.v, .string f.B.t, .map (some m)] 107)) [.int .i64 (y - 1)] 2 _ (by simp)).alloc _).c 0 rfl, (Bx.newAt ((w2.alloc (.cells #[.bool f.h, .int .i64 f.fr, .int .i64 f.off, .int .i64 f.A.m, .int .i64 f.A.k, .int .i64 f.A.d, .int .i64 f.A.n, .int .i64 f.A.s, .int .u8 f.A.z, .int .i64 f.A.v, .string f.A.t, .int .i64 f.B.m, .int .i64 f.B.k, .int .i64 f.B.d, .int .i64 f.B.n, .int .i64 f.B.s, .int .u8 f.B.z, .int .i64 f.B.v, .string f.B.t, .map (some m)] 107)).alloc (.cells #[.int .i64 (y - 1)] 2)) [.int .i64 (y + 1)] 2 _ (by simp)).c 0 rfl,
      ((Bx.new w2 (cL f m) _).alloc _).alloc _, hM.same (lb.block m hm2), Lens_below L3 lb (Lens_lt L3), by first | (simp; done) | (simp; omega), by first | (simp; done) | (simp; omega), by omega, by omega, by omega⟩
  have hw4 : w.heap.size + 5 ≤ w9.heap.size := by have := Y4.out.1; omega
  rintro W0 ⟨IS, J0, hsz⟩
  clear hM L3 b12 b92 ba hb Y0 Y1 Y2 Y3 Y4 Z0 I0 L2 HB1 ct
  refine rangeM rfl (by decide) (gf := 62) (lb := #[.pointer (some ⟨w2.heap.size + 1, 0, none⟩), .pointer (some ⟨w2.heap.size + 2, 0, none⟩), .pointer (some ⟨w2.heap.size, 0, none⟩)]) rfl trivial (enters_of Tryd.func62 (by kernel_rfl) rfl)
    (it_seq f hf m (w2.heap.size + 1) (w2.heap.size + 2) w2.heap.size _ (y - 1) (y + 1) 3 (by omega) (by omega) (by omega) (by omega) W0 IS)
    (by omega) (by intro k hk; simp at hk; have := Lens_lt IS.ln; omega) rfl
    (fun k W => AR w f t y K w9.heap.size k W)
    (fun c k W => c = .ret ∧ AX w f y K W) ?hI ?hIx J0
    (fun k a' W => ∃ bx, W0.heap.size ≤ bx ∧ Bx W bx (tL (shK f (y - 1) k)) ∧ a' = { tmps := #[.agg #[.bool f.h, .int .i64 f.fr, .int .i64 f.off, .int .i64 f.A.m, .int .i64 f.A.k, .int .i64 f.A.d, .int .i64 f.A.n, .int .i64 f.A.s, .int .u8 f.A.z, .int .i64 f.A.v, .string f.A.t, .int .i64 f.B.m, .int .i64 f.B.k, .int .i64 f.B.d, .int .i64 f.B.n, .int .i64 f.B.s, .int .u8 f.B.z, .int .i64 f.B.v, .string f.B.t], .int .i64 t, .pointer (some ⟨w.heap.size, 0, none⟩), .pointer (some ⟨w.heap.size + 1, 0, none⟩), .pointer (some ⟨w.heap.size + 1 + 1, 0, none⟩), .pointer (some ⟨w.heap.size + 1 + 1 + 1, 0, none⟩), .pointer (some ⟨w.heap.size + 1 + 1 + 1 + 1, 0, none⟩), .int .i64 y, .pointer (some ⟨w9.heap.size, 0, none⟩), .pointer (some ⟨bx, 0, none⟩), .agg #[.bool f.h, .int .i64 f.fr, .int .i64 f.off, .int .i64 f.A.m, .int .i64 f.A.k, .int .i64 f.A.d, .int .i64 f.A.n, .int .i64 f.A.s, .int .u8 f.A.z, .int .i64 f.A.v, .string f.A.t, .int .i64 f.B.m, .int .i64 f.B.k, .int .i64 f.B.d, .int .i64 f.B.n, .int .i64 f.B.s, .int .u8 f.B.z, .int .i64 f.B.v, .string f.B.t], .bool true, .bool false, undef, undef, .int .i64 t, .int .i64 y, .int .i64 y, .bool (decide (y < -4714)), .bool (decide (y < -4714)), .int .i64 y, .bool (decide (294278 < y)), .bool (decide (y < -4714) || decide (294278 < y)), undef, undef, .agg #[.bool f.h, .int .i64 f.fr, .int .i64 f.off, .int .i64 f.A.m, .int .i64 f.A.k, .int .i64 f.A.d, .int .i64 f.A.n, .int .i64 f.A.s, .int .u8 f.A.z, .int .i64 f.A.v, .string f.A.t, .int .i64 f.B.m, .int .i64 f.B.k, .int .i64 f.B.d, .int .i64 f.B.n, .int .i64 f.B.s, .int .u8 f.B.z, .int .i64 f.B.v, .string f.B.t], .agg (cL f m).toArray, .int .i64 y, .int .i64 (y - 1), .int .i64 y, .int .i64 (y + 1), .func (.func 62) #[] #[.pointer (some ⟨w2.heap.size + 1, 0, none⟩), .pointer (some ⟨w2.heap.size + 2, 0, none⟩), .pointer (some ⟨w2.heap.size, 0, none⟩)], .agg #[.int .i64 (shK f (y - 1) k).t, .int .i64 (shK f (y - 1) k).o, .bool (shK f (y - 1) k).d, .string (shK f (y - 1) k).a], undef, undef, undef, undef, undef, undef, undef, undef, undef], defers := [] })
    ?hAx ?assign ?body ?done ?stop
  case hI => exact fun k A B row h hg hrow => h.grown hg (fun r e => by rcases hrow r e with q | ⟨q, _⟩ <;> omega)
  case hIx => exact fun c k A B row h hg hrow => ⟨h.1, h.2.grown hg (fun r e => by rcases hrow r e with q | ⟨q, _⟩ <;> omega)⟩
  case hAx =>
    rintro k a' W l o o' ⟨bx, h1, h2, h3⟩ hl ho hc
    refine ⟨bx, h1, h2.same (by simp) (World.putObj_heap_other (fun e => ?_)), h3⟩
    subst e
    have := (h2.2 0 _ rfl).1
    simp [World.cell?, ho] at this
    cases o <;> simp_all [Obj.isCells]
  case assign =>
    rintro l k W K' hI hlt hK
    simp only [tL]
    gi_wp2
    exact hK _ _ ((KeepsOthers.alloc _ _).from _) ⟨by simp, fun q hq => Below.heap_alloc _ _ _ (by simp at hq; have := Lens_lt IS.ln; omega)⟩ (hI.alloc _) ⟨W.heap.size, by omega, Bx.new W (tL (shK f (y - 1) k)) _, rfl⟩
  case body =>
    rintro l k a' W hI ⟨bx, hx1, hx2, rfl⟩ hk hlt
    have ct := hI.at_.c 0 rfl
    have x0 := hx2.c 0 rfl
    have x1 := hx2.c 1 rfl
    have x2 := hx2.c 2 rfl
    have x3 := hx2.c 3 rfl
    by_cases hkK : k < K
    · have hle : ¬ t < (shK f (y - 1) k).t := by have := hlo k hkK; omega
      have hs : W.there w9.heap.size 0 4 := by have := hI.last.there; rwa [lastK_len] at this
      gi_wp2_with (first | (refine wpListIn_store_mid rfl 23 _ _ rfl w9.heap.size 0 #[.int .i64 (shK f (y - 1) k).t, .int .i64 (shK f (y - 1) k).o, .bool (shK f (y - 1) k).d, .string (shK f (y - 1) k).a] rfl rfl hs (by kernel_rfl) (tL_one (shK f (y - 1) k)) ?_; refine gen_listIn (fun V => KeepsFrom W0.heap.size W V ∧ Kept [w2.heap.size + 1, w2.heap.size + 2, w2.heap.size, m, 1] W V ∧ AR w f t y K w9.heap.size (k + 1) V) ⟨(keeps_setCells _ _ _ _).from _, ⟨by rw [setCells_size]; exact Nat.le_refl _, fun q hq => setCells_heap _ _ _ _ _ (by simp at hq; have := Lens_lt hL0.out; omega)⟩, hI.told hkK (by omega)⟩ ?_; rintro V ⟨q1, q2, q3⟩) | fail)
      exact ⟨q1, q2, q3⟩
    · obtain rfl : k = K := by have := hI.le; omega
      have hl : lastK f y k = tL (shK f (y - 1) (k - 1)) := by unfold lastK; rw [if_neg (by omega)]
      have D0 : DS w w9.heap.size bx W0.heap.size W (shK f (y - 1) (k - 1)) (shK f (y - 1) k) z4 z4 W.drew := ⟨hl ▸ hI.last, hx2, hI.r1, hI.r2, hI.r3, hI.bel.drew, (KeepsOthers.drew W).from _, by omega, by omega⟩
      gi_wp2
      refine wpIn_region_any (by kernel_rfl) ?_
      refine gen_anyIn (DS w w9.heap.size bx W0.heap.size W (shK f (y - 1) (k - 1)) (shK f (y - 1) k) z4 z4) D0 ?_
      clear D0 hI x0 x1 x2 x3 ct hx2 hl
      rintro V0 hD
      refine wpAnyIn_ready (rs := [0, 1]) (by kernel_rfl) (by simp) (AllReadyIn.cons (o := { dst := some 37, op := _, type := _, pos := _, after := _, guard := none }) rfl (fun K' hK' => ?_) (AllReadyIn.cons (o := { dst := some 38, op := _, type := _, pos := _, after := _, guard := none }) rfl (fun K' hK' => ?_) AllReadyIn.nil))
      ·
        refine (if_pos (by kernel_rfl)).mpr (operIn_load_mid 23 _ rfl w9.heap.size 0 rfl (tL (shK f (y - 1) (k - 1))) _ hD.last.all Tryd.underlying23 rfl (by kernel_rfl) (hK' _ _ ?_))
        simp only [Act.put, List.setIfInBounds_toArray, List.set_cons_zero, List.set_cons_succ]
        refine wpAnyIn_ready (rs := [1, 2]) (by kernel_rfl) (by simp) (AllReadyIn.cons (o := { dst := some 38, op := _, type := _, pos := _, after := _, guard := none }) rfl (fun K' hK' => ?_) (AllReadyIn.cons (o := { dst := none, op := _, type := _, pos := _, after := _, guard := none }) rfl (fun K' hK' => ?_) AllReadyIn.nil))
        ·
          refine (if_pos (by kernel_rfl)).mpr (operIn_load_mid 23 _ rfl bx 0 rfl (tL (shK f (y - 1) k)) _ hD.cur.all Tryd.underlying23 rfl (by kernel_rfl) (hK' _ _ ?_))
          simp only [Act.put, List.setIfInBounds_toArray, List.set_cons_zero, List.set_cons_succ]
          refine wpAnyIn_ready (rs := [2]) (by kernel_rfl) (by simp) (AllReadyIn.cons (o := { dst := none, op := _, type := _, pos := _, after := _, guard := none }) rfl (fun K' hK' => ?_) AllReadyIn.nil)
          refine (if_pos (by kernel_rfl)).mpr (operIn_store_mid 23 _ _ rfl (w.heap.size + 1 + 1) 0 (tL (shK f (y - 1) (k - 1))).toArray rfl rfl hD.r1.there (by kernel_rfl) (tL_one _) (hK' _ _ ?_))
          refine gen_anyIn (DS w w9.heap.size bx W0.heap.size W (shK f (y - 1) (k - 1)) (shK f (y - 1) k) (tL (shK f (y - 1) (k - 1))) z4) (hD.s2 rfl) ?_
          clear hD hK'
          rintro V1 hD
          refine wpAnyIn_ready (rs := [3]) (by kernel_rfl) (by simp) (AllReadyIn.cons (o := { dst := none, op := _, type := _, pos := _, after := _, guard := none }) rfl (fun K' hK' => ?_) AllReadyIn.nil)
          refine (if_pos (by kernel_rfl)).mpr (operIn_store_mid 23 _ _ rfl (w.heap.size + 1 + 1 + 1) 0 (tL (shK f (y - 1) k)).toArray rfl rfl hD.r2.there (by kernel_rfl) (tL_one _) (hK' _ _ ?_))
          refine gen_anyIn (DS w w9.heap.size bx W0.heap.size W (shK f (y - 1) (k - 1)) (shK f (y - 1) k) (tL (shK f (y - 1) (k - 1))) (tL (shK f (y - 1) k))) (hD.s3 rfl) ?_
          clear hD hK'
          rintro V2 hD
          refine wpAnyIn_ready (rs := [4]) (by kernel_rfl) (by simp) (AllReadyIn.cons (o := { dst := none, op := _, type := _, pos := _, after := _, guard := none }) rfl (fun K' hK' => ?_) AllReadyIn.nil)
          refine (if_pos (by kernel_rfl)).mpr (operIn_store1 36 _ _ rfl (w.heap.size + 1 + 1 + 1 + 1) .i64 0 rfl rfl hD.r3.there (by kernel_rfl) (hK' _ _ ?_))
          refine gen_anyIn (DS w w9.heap.size bx W0.heap.size W (shK f (y - 1) (k - 1)) (shK f (y - 1) k) (tL (shK f (y - 1) (k - 1))) (tL (shK f (y - 1) k))) (hD.s4) ?_
          clear hD hK'
          rintro V3 hD
          refine wpAnyIn_done (by kernel_rfl) ?_ _
          gi_wp2
          exact ⟨hD.kf, rfl, hD.r1, hD.r2, hD.r3, hD.bel⟩
        ·
          refine (if_pos (by kernel_rfl)).mpr (operIn_store_mid 23 _ _ rfl (w.heap.size + 1 + 1) 0 (tL (shK f (y - 1) (k - 1))).toArray rfl rfl hD.r1.there (by kernel_rfl) (tL_one _) (hK' _ _ ?_))
          refine gen_anyIn (DS w w9.heap.size bx W0.heap.size W (shK f (y - 1) (k - 1)) (shK f (y - 1) k) (tL (shK f (y - 1) (k - 1))) z4) (hD.s2 rfl) ?_
          clear hD hK'
          rintro V4 hD
          refine wpAnyIn_ready (rs := [1]) (by kernel_rfl) (by simp) (AllReadyIn.cons (o := { dst := some 38, op := _, type := _, pos := _, after := _, guard := none }) rfl (fun K' hK' => ?_) AllReadyIn.nil)
          refine (if_pos (by kernel_rfl)).mpr (operIn_load_mid 23 _ rfl bx 0 rfl (tL (shK f (y - 1) k)) _ hD.cur.all Tryd.underlying23 rfl (by kernel_rfl) (hK' _ _ ?_))
          simp only [Act.put, List.setIfInBounds_toArray, List.set_cons_zero, List.set_cons_succ]
          refine wpAnyIn_ready (rs := [3]) (by kernel_rfl) (by simp) (AllReadyIn.cons (o := { dst := none, op := _, type := _, pos := _, after := _, guard := none }) rfl (fun K' hK' => ?_) AllReadyIn.nil)
          refine (if_pos (by kernel_rfl)).mpr (operIn_store_mid 23 _ _ rfl (w.heap.size + 1 + 1 + 1) 0 (tL (shK f (y - 1) k)).toArray rfl rfl hD.r2.there (by kernel_rfl) (tL_one _) (hK' _ _ ?_))
          refine gen_anyIn (DS w w9.heap.size bx W0.heap.size W (shK f (y - 1) (k - 1)) (shK f (y - 1) k) (tL (shK f (y - 1) (k - 1))) (tL (shK f (y - 1) k))) (hD.s3 rfl) ?_
          clear hD hK'
          rintro V5 hD
          refine wpAnyIn_ready (rs := [4]) (by kernel_rfl) (by simp) (AllReadyIn.cons (o := { dst := none, op := _, type := _, pos := _, after := _, guard := none }) rfl (fun K' hK' => ?_) AllReadyIn.nil)
          refine (if_pos (by kernel_rfl)).mpr (operIn_store1 36 _ _ rfl (w.heap.size + 1 + 1 + 1 + 1) .i64 0 rfl rfl hD.r3.there (by kernel_rfl) (hK' _ _ ?_))
          refine gen_anyIn (DS w w9.heap.size bx W0.heap.size W (shK f (y - 1) (k - 1)) (shK f (y - 1) k) (tL (shK f (y - 1) (k - 1))) (tL (shK f (y - 1) k))) (hD.s4) ?_
          clear hD hK'
          rintro V6 hD
          refine wpAnyIn_done (by kernel_rfl) ?_ _
          gi_wp2
          exact ⟨hD.kf, rfl, hD.r1, hD.r2, hD.r3, hD.bel⟩
      ·
        refine (if_pos (by kernel_rfl)).mpr (operIn_load_mid 23 _ rfl bx 0 rfl (tL (shK f (y - 1) k)) _ hD.cur.all Tryd.underlying23 rfl (by kernel_rfl) (hK' _ _ ?_))
        simp only [Act.put, List.setIfInBounds_toArray, List.set_cons_zero, List.set_cons_succ]
        refine wpAnyIn_ready (rs := [0]) (by kernel_rfl) (by simp) (AllReadyIn.cons (o := { dst := some 37, op := _, type := _, pos := _, after := _, guard := none }) rfl (fun K' hK' => ?_) AllReadyIn.nil)
        refine (if_pos (by kernel_rfl)).mpr (operIn_load_mid 23 _ rfl w9.heap.size 0 rfl (tL (shK f (y - 1) (k - 1))) _ hD.last.all Tryd.underlying23 rfl (by kernel_rfl) (hK' _ _ ?_))
        simp only [Act.put, List.setIfInBounds_toArray, List.set_cons_zero, List.set_cons_succ]
        refine wpAnyIn_ready (rs := [2]) (by kernel_rfl) (by simp) (AllReadyIn.cons (o := { dst := none, op := _, type := _, pos := _, after := _, guard := none }) rfl (fun K' hK' => ?_) AllReadyIn.nil)
        refine (if_pos (by kernel_rfl)).mpr (operIn_store_mid 23 _ _ rfl (w.heap.size + 1 + 1) 0 (tL (shK f (y - 1) (k - 1))).toArray rfl rfl hD.r1.there (by kernel_rfl) (tL_one _) (hK' _ _ ?_))
        refine gen_anyIn (DS w w9.heap.size bx W0.heap.size W (shK f (y - 1) (k - 1)) (shK f (y - 1) k) (tL (shK f (y - 1) (k - 1))) z4) (hD.s2 rfl) ?_
        clear hD hK'
        rintro V7 hD
        refine wpAnyIn_ready (rs := [3]) (by kernel_rfl) (by simp) (AllReadyIn.cons (o := { dst := none, op := _, type := _, pos := _, after := _, guard := none }) rfl (fun K' hK' => ?_) AllReadyIn.nil)
        refine (if_pos (by kernel_rfl)).mpr (operIn_store_mid 23 _ _ rfl (w.heap.size + 1 + 1 + 1) 0 (tL (shK f (y - 1) k)).toArray rfl rfl hD.r2.there (by kernel_rfl) (tL_one _) (hK' _ _ ?_))
        refine gen_anyIn (DS w w9.heap.size bx W0.heap.size W (shK f (y - 1) (k - 1)) (shK f (y - 1) k) (tL (shK f (y - 1) (k - 1))) (tL (shK f (y - 1) k))) (hD.s3 rfl) ?_
        clear hD hK'
        rintro V8 hD
        refine wpAnyIn_ready (rs := [4]) (by kernel_rfl) (by simp) (AllReadyIn.cons (o := { dst := none, op := _, type := _, pos := _, after := _, guard := none }) rfl (fun K' hK' => ?_) AllReadyIn.nil)
        refine (if_pos (by kernel_rfl)).mpr (operIn_store1 36 _ _ rfl (w.heap.size + 1 + 1 + 1 + 1) .i64 0 rfl rfl hD.r3.there (by kernel_rfl) (hK' _ _ ?_))
        refine gen_anyIn (DS w w9.heap.size bx W0.heap.size W (shK f (y - 1) (k - 1)) (shK f (y - 1) k) (tL (shK f (y - 1) (k - 1))) (tL (shK f (y - 1) k))) (hD.s4) ?_
        clear hD hK'
        rintro V9 hD
        refine wpAnyIn_done (by kernel_rfl) ?_ _
        gi_wp2
        exact ⟨hD.kf, rfl, hD.r1, hD.r2, hD.r3, hD.bel⟩
  case done =>
    rintro D W hD hI hK'
    exact absurd hI.le (by omega)
  case stop =>
    rintro D c k W hD hk ⟨rfl, hX⟩ hK'
    gi_wp2
    refine ⟨by simp, .inl ⟨_, _, rfl, run_takeDeferred hK', ?_⟩⟩
    have hX2 := hX.grown (grownBy_putObj' W D (.deferred none)) (fun r e => by cases e; omega)
    refine ⟨_, results_cell3 rfl _ _ _ _ _ _ _ _ rfl rfl rfl (run_loadVar_mid _ _ _ _ _ _ hX2.r1.all Tryd.underlying23 rfl (by kernel_rfl)) (run_loadVar_mid _ _ _ _ _ _ hX2.r2.all Tryd.underlying23 rfl (by kernel_rfl)) (run_loadVar1 (hX2.r3.c 0 rfl) Tryd.underlying36), rfl, hX2.bel⟩

end Go.Proofs.YtcgcljfdfimfgaaDoor.Fn
