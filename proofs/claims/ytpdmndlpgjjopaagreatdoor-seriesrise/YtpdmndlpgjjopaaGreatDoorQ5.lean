import Derived.Test.YtpdmndlpgjjopaaGreatDoorQz
import Derived.Test.YtpdmndlpgjjopaaGreatDoorQ4
import Derived.Lib.SmallJoins
import Derived.Deep.Strs
import Derived.OpenShut
import Derived.ProofKit
import Derived.Test.YtpdmndlpgjjopaaGreatDoorQ2
import Derived.SizedLaws
import Derived.ChangeArms
import Derived.DataElems
import Derived.Deep.QuietTactic
import Derived.BigQuiet
import Derived.Laws.StructEq
import Derived.Test.YtpdmndlpgjjopaaGreatDoorQ3
import Derived.Laws.AppendOwnNone
open Go.Value renaming int → vi
open Go.IntKind renaming i64 → ki
open List renaming setIfInBounds_toArray → zb, set_cons_zero → zc, set_cons_succ → zd
open Go.Act renaming put → za
open Go.Ending renaming returned → zr
set_option maxRecDepth 100000
set_option maxHeartbeats 16000000
set_option linter.unusedVariables false
namespace Go.Proofs.YtpdmndlpgjjopaaGreatDoor.Fn
open Go.RowKit
attribute [local go_sem] Oper.semAt_some
theorem wpListIn_store_mid {F : Fence} {n : Nat} {P : Program} {ops : Array Oper} {rest : List Oper} {op : Oper} {a : Act} {w : World} {Q : Exit → Act → World → Prop} (hgd : op.guard = none) (ty : TypeId) (x y : Operand) (ho : op.op = .store ty x y)
  (b o : Nat) (cells : Array Value) (hx : a.eval x = .pointer (some ⟨b, o, none⟩)) (hy : a.eval y = .agg cells)
  (ht : w.there b o cells.size) (hi : (P.info? ty).map (·.size) = some cells.size) (h1 : cells.all (·.oneCell') = true)
  (h : wpListIn F n P ops Q rest (a.put op.dst undef) (w.setCells b o cells.toList)) : wpListIn F n P ops Q (op :: rest) a w := by
 refine wpListIn_plain hgd fun K' hK' => ?_
 unfold Oper.wpIn
 refine ⟨by simp [Oper.about, ho], ?_⟩
 rw [Oper.semAt_plain F _ _ (by rw [ho]; intro c hc'; cases hc')]
 simp only [execOp, ho, hx, hy, Sem.run_bind, run_storeAt_mid w b o ty cells ht hi h1, Sem.run_pure, Result.andThen_ok]
 exact hK' _ _ h
theorem keeps_setCells (b : Nat) : ∀ (vs : List Value) (W : World) (i : Nat), KeepsOthers W (W.setCells b i vs)
 | [], W, _ => KeepsOthers.refl W
 | v :: vs, W, i => (KeepsOthers.setCell W _ v).trans (keeps_setCells b vs _ _)
theorem Bx.grownR {W W' : World} {b : Nat} {row : Option Nat} {l : List Value} (h : Bx W b l) (hg : W.grownBy W' row) (hb : ∀ r, row = some r → r ≠ b) : Bx W' b l :=
 h.same hg.size (hg.block b h.1 (fun e => hb b e.symm rfl))
theorem operIn_load_mid {F : Fence} {n : Nat} {P : Program} {op : Oper} {a : Act} {w : World} {K : Act → World → Prop} {Q : Exit → Act → World → Prop} (ty : TypeId) (x : Operand) (ho : op.op = .load ty x)
  (b o : Nat) (hx : a.eval x = .pointer (some ⟨b, o, none⟩)) (cs : List Value) (d : TypeDesc) (hc : w.rangeAt b o cs)
  (hu : P.underlying ty = some d) (hd : d.isRow = true) (hi : (P.info? ty).map (·.size) = some cs.length)
  (h : K (a.put op.dst (.agg cs.toArray)) w) : op.wpIn F n P a w K Q := by
 unfold Oper.wpIn
 refine ⟨by simp [Oper.about, ho], ?_⟩
 rw [Oper.semAt_plain F _ _ (by rw [ho]; intro c hc'; cases hc')]
 simp only [execOp, ho, hx, Sem.run_bind, run_loadAt_mid w b o ty cs d hc hu hd hi, Sem.run_pure, Result.andThen_ok]
 exact h
theorem operIn_store_mid {F : Fence} {n : Nat} {P : Program} {op : Oper} {a : Act} {w : World} {K : Act → World → Prop} {Q : Exit → Act → World → Prop} (ty : TypeId) (x y : Operand) (ho : op.op = .store ty x y)
  (b o : Nat) (cells : Array Value) (hx : a.eval x = .pointer (some ⟨b, o, none⟩)) (hy : a.eval y = .agg cells)
  (ht : w.there b o cells.size) (hi : (P.info? ty).map (·.size) = some cells.size) (h1 : cells.all (·.oneCell') = true)
  (h : K (a.put op.dst undef) (w.setCells b o cells.toList)) : op.wpIn F n P a w K Q := by
 unfold Oper.wpIn
 refine ⟨by simp [Oper.about, ho], ?_⟩
 rw [Oper.semAt_plain F _ _ (by rw [ho]; intro c hc'; cases hc')]
 simp only [execOp, ho, hx, hy, Sem.run_bind, run_storeAt_mid w b o ty cells ht hi h1, Sem.run_pure, Result.andThen_ok]
 exact h
theorem run_store1 {P : Program} (w : World) (b : Nat) (ty : TypeId) (k : IntKind) (c : Int) (ht : w.there b 0 1) (hi : (P.info? ty).map (·.size) = some 1) :
  (Instr.storeAt ty (.pointer (some ⟨b, 0, none⟩)) (.int k c)).run P w = .ok () (w.setCells b 0 [.int k c]) := by
 have := run_storeCells_cells (P := P) b 0 [.int k c] 0 w (fun j hj => by simpa using (ht j (by simpa using hj)).1) (fun j hj => by simpa using (ht j (by simpa using hj)).2) (by simp [Value.oneCell'])
 cases hq : P.info? ty with
 | none => simp [hq] at hi
 | some i =>
  have hs : 1 = i.size := by simp [hq] at hi; omega
  simp only [Nat.add_zero] at this
  simp only [Instr.storeAt, Instr.sureAddr, Sem.run_bind, Sem.run_pure, Result.andThen_ok]
  simp [storeVar, sizeOf, typeInfo, hq, Value.cells, ← hs, this]
theorem operIn_store1 {F : Fence} {n : Nat} {P : Program} {op : Oper} {a : Act} {w : World} {K : Act → World → Prop} {Q : Exit → Act → World → Prop} (ty : TypeId) (x y : Operand) (ho : op.op = .store ty x y)
  (b : Nat) (k : IntKind) (c : Int) (hx : a.eval x = .pointer (some ⟨b, 0, none⟩)) (hy : a.eval y = .int k c)
  (ht : w.there b 0 1) (hi : (P.info? ty).map (·.size) = some 1)
  (h : K (a.put op.dst undef) (w.setCells b 0 [.int k c])) : op.wpIn F n P a w K Q := by
 unfold Oper.wpIn
 refine ⟨by simp [Oper.about, ho], ?_⟩
 rw [Oper.semAt_plain F _ _ (by rw [ho]; intro c hc'; cases hc')]
 simp only [execOp, ho, hx, hy, Sem.run_bind, run_store1 w b ty k c ht hi, Sem.run_pure, Result.andThen_ok]
 exact h
theorem gen_anyIn {F : Fence} {n : Nat} {P : Program} {md : Region.Mode} {ops : Array Oper} {Q : Exit → Act → World → Prop} {fuel : Nat} {listed : Array Bool} {a : Act} {w1 : World} (T : World → Prop) (h : T w1)
  (k : ∀ w2, T w2 → wpAnyIn F n P md ops Q fuel listed a w2) : wpAnyIn F n P md ops Q fuel listed a w1 := k _ h
theorem results_cell3 {P : Program} {fn : Func} {p q r : Tmp} {t1 t2 t3 : TypeId} (h : fn.results = #[.cell p t1, .cell q t2, .cell r t3]) (tmps : Array Value) (w : World) (a b c : Addr) (u v x : Value) (hp : tmps[p]?.getD undef = .pointer (some a)) (hq : tmps[q]?.getD undef = .pointer (some b)) (hr : tmps[r]?.getD undef = .pointer (some c))
  (h1 : (loadVar t1 a).run P w = .ok u w) (h2 : (loadVar t2 b).run P w = .ok v w) (h3 : (loadVar t3 c).run P w = .ok x w) : (results fn tmps).run P w = .ok (.tuple #[u, v, x]) w := by
 simp [results, h, hp, hq, hr, asAddr, h1, h2, h3]
theorem run_loadVar1 {P : Program} {w : World} {a : Addr} {v : Value} {ty : TypeId} {k : IntKind} (hc : w.cell? a = some v) (hu : P.underlying ty = some (.int k)) : (loadVar ty a).run P w = .ok v w := by
 simp [loadVar, isAgg, run_underlying hu, hc]
def lastK (f : Ft) (y : Int) (k : Nat) : List Value := if k = 0 then z4 else tL (shK f (y - 1) (k - 1))
theorem lastK_len (f : Ft) (y : Int) (k : Nat) : (lastK f y k).length = 4 := by unfold lastK; split <;> rfl
structure AR (w : World) (f : Ft) (t y : Int) (K b8 k : Nat) (W : World) : Prop where
 le : k ≤ K
 at_ : Bx W (w.heap.size + 1) [vi ki t]
 r1 : Bx W (w.heap.size + 1 + 1) z4
 r2 : Bx W (w.heap.size + 1 + 1 + 1) z4
 r3 : Bx W (w.heap.size + 1 + 1 + 1 + 1) [vi ki 0]
 last : Bx W b8 (lastK f y k)
 bel : Below w.heap.size w W
theorem AR.grown {w : World} {f : Ft} {t y : Int} {K b8 k : Nat} {W V : World} {row : Option Nat} (h : AR w f t y K b8 k W) (hg : W.grownBy V row) (hr : ∀ r, row = some r → w.heap.size + 5 ≤ r ∧ r ≠ b8) : AR w f t y K b8 k V :=
 ⟨h.le, h.at_.grownR hg (fun r e => by have := hr r e; omega), h.r1.grownR hg (fun r e => by have := hr r e; omega), h.r2.grownR hg (fun r e => by have := hr r e; omega), h.r3.grownR hg (fun r e => by have := hr r e; omega),
  h.last.grownR hg (fun r e => (hr r e).2), h.bel.grown hg h.bel.size (fun r e => by have := hr r e; omega)⟩
theorem AR.alloc {w : World} {f : Ft} {t y : Int} {K b8 k : Nat} {W : World} (h : AR w f t y K b8 k W) (o : Obj) : AR w f t y K b8 k (W.alloc o) := h.grown (World.grownBy_alloc W o none) (fun r e => by cases e)
theorem AR.told {w : World} {f : Ft} {t y : Int} {K b8 k : Nat} {W : World} (h : AR w f t y K b8 k W) (hk : k < K) (hb : w.heap.size + 5 ≤ b8) (hx : True := trivial) : AR w f t y K b8 (k + 1) (W.setCells b8 0 (tL (shK f (y - 1) k))) :=
 ⟨by omega, h.at_.setOther (by omega) _, h.r1.setOther (by omega) _, h.r2.setOther (by omega) _, h.r3.setOther (by omega) _, by
  have := h.last.setAll (tL (shK f (y - 1) k)) (by rw [lastK_len]; rfl)
  rw [show lastK f y (k + 1) = tL (shK f (y - 1) k) by unfold lastK; rw [if_neg (by omega)]; rfl]
  exact this, below_setCells (by omega) _ _ _ h.bel⟩
structure AX (w : World) (f : Ft) (y : Int) (K : Nat) (W : World) : Prop where
 r1 : Bx W (w.heap.size + 1 + 1) (tL (shK f (y - 1) (K - 1)))
 r2 : Bx W (w.heap.size + 1 + 1 + 1) (tL (shK f (y - 1) K))
 r3 : Bx W (w.heap.size + 1 + 1 + 1 + 1) [vi ki 0]
 bel : Below w.heap.size w W
theorem AX.grown {w : World} {f : Ft} {y : Int} {K : Nat} {W V : World} {row : Option Nat} (h : AX w f y K W) (hg : W.grownBy V row) (hr : ∀ r, row = some r → w.heap.size + 5 ≤ r) : AX w f y K V :=
 ⟨h.r1.grownR hg (fun r e => by have := hr r e; omega), h.r2.grownR hg (fun r e => by have := hr r e; omega), h.r3.grownR hg (fun r e => by have := hr r e; omega), h.bel.grown hg h.bel.size (fun r e => by have := hr r e; omega)⟩
structure DS (w : World) (b8 bx B : Nat) (W : World) (p q : Tr) (L1 L2 : List Value) (V : World) : Prop where
 last : Bx V b8 (tL p)
 cur : Bx V bx (tL q)
 r1 : Bx V (w.heap.size + 1 + 1) L1
 r2 : Bx V (w.heap.size + 1 + 1 + 1) L2
 r3 : Bx V (w.heap.size + 1 + 1 + 1 + 1) [vi ki 0]
 bel : Below w.heap.size w V
 kf : KeepsFrom B W V
 o8 : w.heap.size + 5 ≤ b8
 ox : w.heap.size + 5 ≤ bx
theorem DS.s2 {w : World} {b8 bx B : Nat} {W : World} {p q : Tr} {L1 L2 : List Value} {V : World} (h : DS w b8 bx B W p q L1 L2 V) (hl : L1.length = 4) : DS w b8 bx B W p q (tL p) L2 (V.setCells (w.heap.size + 1 + 1) 0 (tL p)) :=
 have o8 := h.o8
 have ox := h.ox
 ⟨h.last.setOther (by omega) _, h.cur.setOther (by omega) _, h.r1.setAll _ (by rw [hl]; rfl), h.r2.setOther (by omega) _, h.r3.setOther (by omega) _, below_setCells (by omega) _ _ _ h.bel, h.kf.trans ((keeps_setCells _ _ _ _).from _), h.o8, h.ox⟩
theorem DS.s3 {w : World} {b8 bx B : Nat} {W : World} {p q : Tr} {L1 L2 : List Value} {V : World} (h : DS w b8 bx B W p q L1 L2 V) (hl : L2.length = 4) : DS w b8 bx B W p q L1 (tL q) (V.setCells (w.heap.size + 1 + 1 + 1) 0 (tL q)) :=
 have o8 := h.o8
 have ox := h.ox
 ⟨h.last.setOther (by omega) _, h.cur.setOther (by omega) _, h.r1.setOther (by omega) _, h.r2.setAll _ (by rw [hl]; rfl), h.r3.setOther (by omega) _, below_setCells (by omega) _ _ _ h.bel, h.kf.trans ((keeps_setCells _ _ _ _).from _), h.o8, h.ox⟩
theorem DS.s4 {w : World} {b8 bx B : Nat} {W : World} {p q : Tr} {L1 L2 : List Value} {V : World} (h : DS w b8 bx B W p q L1 L2 V) : DS w b8 bx B W p q L1 L2 (V.setCells (w.heap.size + 1 + 1 + 1 + 1) 0 [vi ki 0]) :=
 have o8 := h.o8
 have ox := h.ox
 ⟨h.last.setOther (by omega) _, h.cur.setOther (by omega) _, h.r1.setOther (by omega) _, h.r2.setOther (by omega) _, h.r3.setAll _ rfl, below_setCells (by omega) _ _ _ h.bel, h.kf.trans ((keeps_setCells _ _ _ _).from _), h.o8, h.ox⟩
theorem around_ok (f : Ft) (t y : Int) (K : Nat) (hf : okF f = true) (hy : YAt t y) (y1 : -4714 ≤ y) (y2 : y ≤ 294278) (t1 : -9223372036854775808 ≤ t) (t2 : t ≤ 9223372036854775807)
  (k1 : 1 ≤ K) (k2 : K < 6) (hK : t < (shK f (y - 1) K).t) (hlo : ∀ k, k < K → (shK f (y - 1) k).t ≤ t) (w : World) (hL0 : Hid (Cvl.Lens w)) (hT0 : Hid (Clk.Tab w)) :
  Calls Tryz.prog 81 #[.agg #[.bool f.h, vi ki f.fr, vi ki f.off, vi ki f.A.m, vi ki f.A.k, vi ki f.A.d, vi ki f.A.n, vi ki f.A.s, .int .u8 f.A.z, vi ki f.A.v, .string f.A.t, vi ki f.B.m, vi ki f.B.k, vi ki f.B.d, vi ki f.B.n, vi ki f.B.s, .int .u8 f.B.z, vi ki f.B.v, .string f.B.t], vi ki t] w fun e w' => e = zr (.tuple #[.agg (tL (shK f (y - 1) (K - 1))).toArray, .agg (tL (shK f (y - 1) K)).toArray, vi ki 0]) ∧ Below w.heap.size w w' := by
 have HB : Hid (Below w.heap.size w (((((w.alloc (.cells #[.bool f.h, vi ki f.fr, vi ki f.off, vi ki f.A.m, vi ki f.A.k, vi ki f.A.d, vi ki f.A.n, vi ki f.A.s, .int .u8 f.A.z, vi ki f.A.v, .string f.A.t, vi ki f.B.m, vi ki f.B.k, vi ki f.B.d, vi ki f.B.n, vi ki f.B.s, .int .u8 f.B.z, vi ki f.B.v, .string f.B.t] 44)).alloc (.cells #[vi ki t] 2)).alloc (.cells #[vi ki 0, vi ki 0, .bool false, .string ⟨#[]⟩] 23)).alloc (.cells #[vi ki 0, vi ki 0, .bool false, .string ⟨#[]⟩] 23)).alloc (.cells #[vi ki 0] 49))) := ((((((Below.refl _ _).alloc (by simp <;> omega) _).alloc (by simp <;> omega) _).alloc (by simp <;> omega) _).alloc (by simp <;> omega) _).alloc (by simp <;> omega) _)
 have X0 : Hid (Bx (((((w.alloc (.cells #[.bool f.h, vi ki f.fr, vi ki f.off, vi ki f.A.m, vi ki f.A.k, vi ki f.A.d, vi ki f.A.n, vi ki f.A.s, .int .u8 f.A.z, vi ki f.A.v, .string f.A.t, vi ki f.B.m, vi ki f.B.k, vi ki f.B.d, vi ki f.B.n, vi ki f.B.s, .int .u8 f.B.z, vi ki f.B.v, .string f.B.t] 44)).alloc (.cells #[vi ki t] 2)).alloc (.cells #[vi ki 0, vi ki 0, .bool false, .string ⟨#[]⟩] 23)).alloc (.cells #[vi ki 0, vi ki 0, .bool false, .string ⟨#[]⟩] 23)).alloc (.cells #[vi ki 0] 49)) (w.heap.size) (fL f)) := (((((Bx.newAt w (fL f) _ _ (by simp)).alloc _).alloc _).alloc _).alloc _)
 have X1 : Hid (Bx (((((w.alloc (.cells #[.bool f.h, vi ki f.fr, vi ki f.off, vi ki f.A.m, vi ki f.A.k, vi ki f.A.d, vi ki f.A.n, vi ki f.A.s, .int .u8 f.A.z, vi ki f.A.v, .string f.A.t, vi ki f.B.m, vi ki f.B.k, vi ki f.B.d, vi ki f.B.n, vi ki f.B.s, .int .u8 f.B.z, vi ki f.B.v, .string f.B.t] 44)).alloc (.cells #[vi ki t] 2)).alloc (.cells #[vi ki 0, vi ki 0, .bool false, .string ⟨#[]⟩] 23)).alloc (.cells #[vi ki 0, vi ki 0, .bool false, .string ⟨#[]⟩] 23)).alloc (.cells #[vi ki 0] 49)) (w.heap.size + 1) ([vi ki t])) := ((((Bx.newAt (w.alloc (.cells #[.bool f.h, vi ki f.fr, vi ki f.off, vi ki f.A.m, vi ki f.A.k, vi ki f.A.d, vi ki f.A.n, vi ki f.A.s, .int .u8 f.A.z, vi ki f.A.v, .string f.A.t, vi ki f.B.m, vi ki f.B.k, vi ki f.B.d, vi ki f.B.n, vi ki f.B.s, .int .u8 f.B.z, vi ki f.B.v, .string f.B.t] 44)) ([vi ki t]) _ _ (by simp)).alloc _).alloc _).alloc _)
 have X2 : Hid (Bx (((((w.alloc (.cells #[.bool f.h, vi ki f.fr, vi ki f.off, vi ki f.A.m, vi ki f.A.k, vi ki f.A.d, vi ki f.A.n, vi ki f.A.s, .int .u8 f.A.z, vi ki f.A.v, .string f.A.t, vi ki f.B.m, vi ki f.B.k, vi ki f.B.d, vi ki f.B.n, vi ki f.B.s, .int .u8 f.B.z, vi ki f.B.v, .string f.B.t] 44)).alloc (.cells #[vi ki t] 2)).alloc (.cells #[vi ki 0, vi ki 0, .bool false, .string ⟨#[]⟩] 23)).alloc (.cells #[vi ki 0, vi ki 0, .bool false, .string ⟨#[]⟩] 23)).alloc (.cells #[vi ki 0] 49)) (w.heap.size + 2) (z4)) := (((Bx.newAt ((w.alloc (.cells #[.bool f.h, vi ki f.fr, vi ki f.off, vi ki f.A.m, vi ki f.A.k, vi ki f.A.d, vi ki f.A.n, vi ki f.A.s, .int .u8 f.A.z, vi ki f.A.v, .string f.A.t, vi ki f.B.m, vi ki f.B.k, vi ki f.B.d, vi ki f.B.n, vi ki f.B.s, .int .u8 f.B.z, vi ki f.B.v, .string f.B.t] 44)).alloc (.cells #[vi ki t] 2)) (z4) _ _ (by simp)).alloc _).alloc _)
 have X3 : Hid (Bx (((((w.alloc (.cells #[.bool f.h, vi ki f.fr, vi ki f.off, vi ki f.A.m, vi ki f.A.k, vi ki f.A.d, vi ki f.A.n, vi ki f.A.s, .int .u8 f.A.z, vi ki f.A.v, .string f.A.t, vi ki f.B.m, vi ki f.B.k, vi ki f.B.d, vi ki f.B.n, vi ki f.B.s, .int .u8 f.B.z, vi ki f.B.v, .string f.B.t] 44)).alloc (.cells #[vi ki t] 2)).alloc (.cells #[vi ki 0, vi ki 0, .bool false, .string ⟨#[]⟩] 23)).alloc (.cells #[vi ki 0, vi ki 0, .bool false, .string ⟨#[]⟩] 23)).alloc (.cells #[vi ki 0] 49)) (w.heap.size + 3) (z4)) := ((Bx.newAt (((w.alloc (.cells #[.bool f.h, vi ki f.fr, vi ki f.off, vi ki f.A.m, vi ki f.A.k, vi ki f.A.d, vi ki f.A.n, vi ki f.A.s, .int .u8 f.A.z, vi ki f.A.v, .string f.A.t, vi ki f.B.m, vi ki f.B.k, vi ki f.B.d, vi ki f.B.n, vi ki f.B.s, .int .u8 f.B.z, vi ki f.B.v, .string f.B.t] 44)).alloc (.cells #[vi ki t] 2)).alloc (.cells #[vi ki 0, vi ki 0, .bool false, .string ⟨#[]⟩] 23)) (z4) _ _ (by simp)).alloc _)
 have X4 : Hid (Bx (((((w.alloc (.cells #[.bool f.h, vi ki f.fr, vi ki f.off, vi ki f.A.m, vi ki f.A.k, vi ki f.A.d, vi ki f.A.n, vi ki f.A.s, .int .u8 f.A.z, vi ki f.A.v, .string f.A.t, vi ki f.B.m, vi ki f.B.k, vi ki f.B.d, vi ki f.B.n, vi ki f.B.s, .int .u8 f.B.z, vi ki f.B.v, .string f.B.t] 44)).alloc (.cells #[vi ki t] 2)).alloc (.cells #[vi ki 0, vi ki 0, .bool false, .string ⟨#[]⟩] 23)).alloc (.cells #[vi ki 0, vi ki 0, .bool false, .string ⟨#[]⟩] 23)).alloc (.cells #[vi ki 0] 49)) (w.heap.size + 4) ([vi ki 0])) := (Bx.newAt ((((w.alloc (.cells #[.bool f.h, vi ki f.fr, vi ki f.off, vi ki f.A.m, vi ki f.A.k, vi ki f.A.d, vi ki f.A.n, vi ki f.A.s, .int .u8 f.A.z, vi ki f.A.v, .string f.A.t, vi ki f.B.m, vi ki f.B.k, vi ki f.B.d, vi ki f.B.n, vi ki f.B.s, .int .u8 f.B.z, vi ki f.B.v, .string f.B.t] 44)).alloc (.cells #[vi ki t] 2)).alloc (.cells #[vi ki 0, vi ki 0, .bool false, .string ⟨#[]⟩] 23)).alloc (.cells #[vi ki 0, vi ki 0, .bool false, .string ⟨#[]⟩] 23)) ([vi ki 0]) _ _ (by simp))
 have L1 : Hid (Cvl.Lens (((((w.alloc (.cells #[.bool f.h, vi ki f.fr, vi ki f.off, vi ki f.A.m, vi ki f.A.k, vi ki f.A.d, vi ki f.A.n, vi ki f.A.s, .int .u8 f.A.z, vi ki f.A.v, .string f.A.t, vi ki f.B.m, vi ki f.B.k, vi ki f.B.d, vi ki f.B.n, vi ki f.B.s, .int .u8 f.B.z, vi ki f.B.v, .string f.B.t] 44)).alloc (.cells #[vi ki t] 2)).alloc (.cells #[vi ki 0, vi ki 0, .bool false, .string ⟨#[]⟩] 23)).alloc (.cells #[vi ki 0, vi ki 0, .bool false, .string ⟨#[]⟩] 23)).alloc (.cells #[vi ki 0] 49))) := Lens_below hL0.out HB.out (Lens_lt hL0.out)
 have T1 : Hid (Clk.Tab (((((w.alloc (.cells #[.bool f.h, vi ki f.fr, vi ki f.off, vi ki f.A.m, vi ki f.A.k, vi ki f.A.d, vi ki f.A.n, vi ki f.A.s, .int .u8 f.A.z, vi ki f.A.v, .string f.A.t, vi ki f.B.m, vi ki f.B.k, vi ki f.B.d, vi ki f.B.n, vi ki f.B.s, .int .u8 f.B.z, vi ki f.B.v, .string f.B.t] 44)).alloc (.cells #[vi ki t] 2)).alloc (.cells #[vi ki 0, vi ki 0, .bool false, .string ⟨#[]⟩] 23)).alloc (.cells #[vi ki 0, vi ki 0, .bool false, .string ⟨#[]⟩] 23)).alloc (.cells #[vi ki 0] 49))) := hT0.out.below HB.out
 have CA : Hid (Calls Tryz.prog 103 #[.agg #[.bool f.h, vi ki f.fr, vi ki f.off, vi ki f.A.m, vi ki f.A.k, vi ki f.A.d, vi ki f.A.n, vi ki f.A.s, .int .u8 f.A.z, vi ki f.A.v, .string f.A.t, vi ki f.B.m, vi ki f.B.k, vi ki f.B.d, vi ki f.B.n, vi ki f.B.s, .int .u8 f.B.z, vi ki f.B.v, .string f.B.t]] (((((w.alloc (.cells #[.bool f.h, vi ki f.fr, vi ki f.off, vi ki f.A.m, vi ki f.A.k, vi ki f.A.d, vi ki f.A.n, vi ki f.A.s, .int .u8 f.A.z, vi ki f.A.v, .string f.A.t, vi ki f.B.m, vi ki f.B.k, vi ki f.B.d, vi ki f.B.n, vi ki f.B.s, .int .u8 f.B.z, vi ki f.B.v, .string f.B.t] 44)).alloc (.cells #[vi ki t] 2)).alloc (.cells #[vi ki 0, vi ki 0, .bool false, .string ⟨#[]⟩] 23)).alloc (.cells #[vi ki 0, vi ki 0, .bool false, .string ⟨#[]⟩] 23)).alloc (.cells #[vi ki 0] 49)) fun e w' => e = zr (.bool true) ∧ Below (((((w.alloc (.cells #[.bool f.h, vi ki f.fr, vi ki f.off, vi ki f.A.m, vi ki f.A.k, vi ki f.A.d, vi ki f.A.n, vi ki f.A.s, .int .u8 f.A.z, vi ki f.A.v, .string f.A.t, vi ki f.B.m, vi ki f.B.k, vi ki f.B.d, vi ki f.B.n, vi ki f.B.s, .int .u8 f.B.z, vi ki f.B.v, .string f.B.t] 44)).alloc (.cells #[vi ki t] 2)).alloc (.cells #[vi ki 0, vi ki 0, .bool false, .string ⟨#[]⟩] 23)).alloc (.cells #[vi ki 0, vi ki 0, .bool false, .string ⟨#[]⟩] 23)).alloc (.cells #[vi ki 0] 49)).heap.size (((((w.alloc (.cells #[.bool f.h, vi ki f.fr, vi ki f.off, vi ki f.A.m, vi ki f.A.k, vi ki f.A.d, vi ki f.A.n, vi ki f.A.s, .int .u8 f.A.z, vi ki f.A.v, .string f.A.t, vi ki f.B.m, vi ki f.B.k, vi ki f.B.d, vi ki f.B.n, vi ki f.B.s, .int .u8 f.B.z, vi ki f.B.v, .string f.B.t] 44)).alloc (.cells #[vi ki t] 2)).alloc (.cells #[vi ki 0, vi ki 0, .bool false, .string ⟨#[]⟩] 23)).alloc (.cells #[vi ki 0, vi ki 0, .bool false, .string ⟨#[]⟩] 23)).alloc (.cells #[vi ki 0] 49)) w') := by
  have R := can_any f (((((w.alloc (.cells #[.bool f.h, vi ki f.fr, vi ki f.off, vi ki f.A.m, vi ki f.A.k, vi ki f.A.d, vi ki f.A.n, vi ki f.A.s, .int .u8 f.A.z, vi ki f.A.v, .string f.A.t, vi ki f.B.m, vi ki f.B.k, vi ki f.B.d, vi ki f.B.n, vi ki f.B.s, .int .u8 f.B.z, vi ki f.B.v, .string f.B.t] 44)).alloc (.cells #[vi ki t] 2)).alloc (.cells #[vi ki 0, vi ki 0, .bool false, .string ⟨#[]⟩] 23)).alloc (.cells #[vi ki 0, vi ki 0, .bool false, .string ⟨#[]⟩] 23)).alloc (.cells #[vi ki 0] 49)) L1.out T1.out
  rw [hf] at R
  exact R
 have h1 : ¬ y < -4714 := by omega
 have h2 : ¬ 294278 < y := by omega
 refine (callsIn_wide (n := 3)).1 ?_
 refine callsIn_of_wp_marks Tryz.func81 rfl trivial ?_ rfl
 simp only [Tryz.ntmps81, List.size_toArray, List.length_cons, List.length_nil, Nat.reduceAdd, Nat.reduceSub, Array.replicate_succ, Array.replicate_zero, List.push_toArray, List.append_toArray, List.nil_append, List.cons_append]
 gi_wp2_with (first | (refine wpListIn_load_mid rfl 44 _ rfl w.heap.size 0 rfl [.bool f.h, vi ki f.fr, vi ki f.off, vi ki f.A.m, vi ki f.A.k, vi ki f.A.d, vi ki f.A.n, vi ki f.A.s, .int .u8 f.A.z, vi ki f.A.v, .string f.A.t, vi ki f.B.m, vi ki f.B.k, vi ki f.B.d, vi ki f.B.n, vi ki f.B.s, .int .u8 f.B.z, vi ki f.B.v, .string f.B.t] _ X0.out.all Tryz.underlying44 rfl (by kernel_rfl) ?_) | fail)
 refine ⟨trivial, (callsIn_wide.2 CA.out).mono ?_⟩
 rintro e w1 ⟨rfl, hb⟩
 have HB1 : Hid (Below w.heap.size w w1) := HB.out.trans (hb.mono HB.out.size)
 have Y0 : Hid (Bx w1 w.heap.size [.bool f.h, vi ki f.fr, vi ki f.off, vi ki f.A.m, vi ki f.A.k, vi ki f.A.d, vi ki f.A.n, vi ki f.A.s, .int .u8 f.A.z, vi ki f.A.v, .string f.A.t, vi ki f.B.m, vi ki f.B.k, vi ki f.B.d, vi ki f.B.n, vi ki f.B.s, .int .u8 f.B.z, vi ki f.B.v, .string f.B.t]) := X0.out.below hb
 have Y1 : Hid (Bx w1 (w.heap.size + 1) [vi ki t]) := X1.out.below hb
 have Y2 : Hid (Bx w1 (w.heap.size + 1 + 1) z4) := X2.out.below hb
 have Y3 : Hid (Bx w1 (w.heap.size + 1 + 1 + 1) z4) := X3.out.below hb
 have Y4 : Hid (Bx w1 (w.heap.size + 1 + 1 + 1 + 1) [vi ki 0]) := X4.out.below hb
 have L2 : Hid (Cvl.Lens w1) := bel_lens HB1.out hL0.out
 have ct := Y1.out.c 0 rfl
 clear hb HB X0 X1 X2 X3 X4 CA L1 T1
 gi_wp2_with fail
 refine ⟨trivial, (callsIn_wide.2 (yat_any t y hy t1 t2 _ L2.out)).mono ?_⟩
 rintro e w9 ⟨rfl, rfl⟩
 have Z0 : Hid (Bx (w9.alloc (.cells #[vi ki 0, vi ki 0, .bool false, .string ⟨#[]⟩] 23)) w.heap.size [.bool f.h, vi ki f.fr, vi ki f.off, vi ki f.A.m, vi ki f.A.k, vi ki f.A.d, vi ki f.A.n, vi ki f.A.s, .int .u8 f.A.z, vi ki f.A.v, .string f.A.t, vi ki f.B.m, vi ki f.B.k, vi ki f.B.d, vi ki f.B.n, vi ki f.B.s, .int .u8 f.B.z, vi ki f.B.v, .string f.B.t]) := Y0.out.alloc _
 gi_wp2_with (first | (refine wpListIn_load_mid rfl 44 _ rfl w.heap.size 0 rfl [.bool f.h, vi ki f.fr, vi ki f.off, vi ki f.A.m, vi ki f.A.k, vi ki f.A.d, vi ki f.A.n, vi ki f.A.s, .int .u8 f.A.z, vi ki f.A.v, .string f.A.t, vi ki f.B.m, vi ki f.B.k, vi ki f.B.d, vi ki f.B.n, vi ki f.B.s, .int .u8 f.B.z, vi ki f.B.v, .string f.B.t] _ Z0.out.all Tryz.underlying44 rfl (by kernel_rfl) ?_) | fail)
 refine ⟨trivial, (callsIn_wide.2 (begin_any f _)).mono ?_⟩
 rintro e w2 ⟨rfl, hM, hb⟩
 rw [World.size_alloc] at hM hb ⊢
 gi_wp2_with fail
 refine ⟨trivial, (callsIn_wide.2 (shifts_any f (w9.heap.size + 1 + 2) (y - 1) (y + 1) _)).mono ?_⟩
 rintro e w3 ⟨rfl, rfl⟩
 gi_wp2_with fail
 have hm2 : w9.heap.size + 1 + 2 < w2.heap.size := by obtain ⟨es, c, hq, _⟩ := hM; exact (Array.getElem?_eq_some_iff.1 hq).1
 obtain ⟨m, hm⟩ : ∃ m, w9.heap.size + 1 + 2 = m := ⟨_, rfl⟩
 rw [hm] at hM hm2 ⊢
 have ba : Below w9.heap.size w9 (w9.alloc (.cells #[vi ki 0, vi ki 0, .bool false, .string ⟨#[]⟩] 23)) := (Below.refl _ _).alloc (Nat.le_refl _) _
 have b92 : Below w9.heap.size w9 w2 := ba.trans (hb.mono (by simp))
 have b12 : Below w.heap.size w w2 := HB1.out.trans (b92.mono HB1.out.size)
 have I0 : AR w f t y K w9.heap.size 0 w2 := ⟨by omega, Y1.out.below b92, Y2.out.below b92, Y3.out.below b92, Y4.out.below b92, (Bx.new w9 z4 23).below (by rw [World.size_alloc]; exact hb), b12⟩
 have L3 := bel_lens b12 hL0.out
 refine gen_codeIn (fun V => ItS f m (w2.heap.size + 1) (w2.heap.size + 2) w2.heap.size (y - 1) (y + 1) V ∧ AR w f t y K w9.heap.size 0 V ∧ w2.heap.size + 3 ≤ V.heap.size) ⟨?_, ((I0.alloc _).alloc _).alloc _, by simp⟩ ?_
 ·have lb : Below w2.heap.size w2 ((((w2.alloc (.cells #[.bool f.h, vi ki f.fr, vi ki f.off, vi ki f.A.m, vi ki f.A.k, vi ki f.A.d, vi ki f.A.n, vi ki f.A.s, .int .u8 f.A.z, vi ki f.A.v, .string f.A.t, vi ki f.B.m, vi ki f.B.k, vi ki f.B.d, vi ki f.B.n, vi ki f.B.s, .int .u8 f.B.z, vi ki f.B.v, .string f.B.t, .map (some m)] 159))).alloc (.cells #[vi ki (y - 1)] 2)).alloc (.cells #[vi ki (y + 1)] 2)) := (((Below.refl _ w2).alloc (Nat.le_refl _) _).alloc (by simp) _).alloc (by simp; omega) _
  exact ⟨((Bx.newAt (w2.alloc (.cells #[.bool f.h, vi ki f.fr, vi ki f.off, vi ki f.A.m, vi ki f.A.k, vi ki f.A.d, vi ki f.A.n, vi ki f.A.s, .int .u8 f.A.z, vi ki f.A.v, .string f.A.t, vi ki f.B.m, vi ki f.B.k, vi ki f.B.d, vi ki f.B.n, vi ki f.B.s, .int .u8 f.B.z, vi ki f.B.v, .string f.B.t, .map (some m)] 159)) [vi ki (y - 1)] 2 _ (by simp)).alloc _).c 0 rfl, (Bx.newAt ((w2.alloc (.cells #[.bool f.h, vi ki f.fr, vi ki f.off, vi ki f.A.m, vi ki f.A.k, vi ki f.A.d, vi ki f.A.n, vi ki f.A.s, .int .u8 f.A.z, vi ki f.A.v, .string f.A.t, vi ki f.B.m, vi ki f.B.k, vi ki f.B.d, vi ki f.B.n, vi ki f.B.s, .int .u8 f.B.z, vi ki f.B.v, .string f.B.t, .map (some m)] 159)).alloc (.cells #[vi ki (y - 1)] 2)) [vi ki (y + 1)] 2 _ (by simp)).c 0 rfl,
   ((Bx.new w2 (cL f m) _).alloc _).alloc _, hM.same (lb.block m hm2), Lens_below L3 lb (Lens_lt L3), by first | (simp; done) | (simp; omega), by first | (simp; done) | (simp; omega), by omega, by omega, by omega⟩
 have hw4 : w.heap.size + 5 ≤ w9.heap.size := by have := Y4.out.1; omega
 rintro W0 ⟨IS, J0, hsz⟩
 clear hM L3 b12 b92 ba hb Y0 Y1 Y2 Y3 Y4 Z0 I0 L2 HB1 ct
 refine rangeM rfl (by decide) (gf := 122) (lb := #[.pointer (some ⟨w2.heap.size + 1, 0, none⟩), .pointer (some ⟨w2.heap.size + 2, 0, none⟩), .pointer (some ⟨w2.heap.size, 0, none⟩)]) rfl trivial (enters_of Tryz.func122 (by kernel_rfl) rfl)
  (it_seq f hf m (w2.heap.size + 1) (w2.heap.size + 2) w2.heap.size _ (y - 1) (y + 1) 3 (by omega) (by omega) (by omega) (by omega) W0 IS)
  (by omega) (by intro k hk; simp at hk; have := Lens_lt IS.ln; omega) rfl
  (fun k W => AR w f t y K w9.heap.size k W)
  (fun c k W => c = .ret ∧ AX w f y K W) ?hI ?hIx J0
  (fun k a' W => ∃ bx, W0.heap.size ≤ bx ∧ Bx W bx (tL (shK f (y - 1) k)) ∧ a' = { tmps := #[.agg #[.bool f.h, vi ki f.fr, vi ki f.off, vi ki f.A.m, vi ki f.A.k, vi ki f.A.d, vi ki f.A.n, vi ki f.A.s, .int .u8 f.A.z, vi ki f.A.v, .string f.A.t, vi ki f.B.m, vi ki f.B.k, vi ki f.B.d, vi ki f.B.n, vi ki f.B.s, .int .u8 f.B.z, vi ki f.B.v, .string f.B.t], vi ki t, .pointer (some ⟨w.heap.size, 0, none⟩), .pointer (some ⟨w.heap.size + 1, 0, none⟩), .pointer (some ⟨w.heap.size + 1 + 1, 0, none⟩), .pointer (some ⟨w.heap.size + 1 + 1 + 1, 0, none⟩), .pointer (some ⟨w.heap.size + 1 + 1 + 1 + 1, 0, none⟩), vi ki y, .pointer (some ⟨w9.heap.size, 0, none⟩), .pointer (some ⟨bx, 0, none⟩), .agg #[.bool f.h, vi ki f.fr, vi ki f.off, vi ki f.A.m, vi ki f.A.k, vi ki f.A.d, vi ki f.A.n, vi ki f.A.s, .int .u8 f.A.z, vi ki f.A.v, .string f.A.t, vi ki f.B.m, vi ki f.B.k, vi ki f.B.d, vi ki f.B.n, vi ki f.B.s, .int .u8 f.B.z, vi ki f.B.v, .string f.B.t], .bool true, .bool false, undef, undef, vi ki t, vi ki y, vi ki y, .bool (decide (y < -4714)), .bool (decide (y < -4714)), vi ki y, .bool (decide (294278 < y)), .bool (decide (y < -4714) || decide (294278 < y)), undef, undef, .agg #[.bool f.h, vi ki f.fr, vi ki f.off, vi ki f.A.m, vi ki f.A.k, vi ki f.A.d, vi ki f.A.n, vi ki f.A.s, .int .u8 f.A.z, vi ki f.A.v, .string f.A.t, vi ki f.B.m, vi ki f.B.k, vi ki f.B.d, vi ki f.B.n, vi ki f.B.s, .int .u8 f.B.z, vi ki f.B.v, .string f.B.t], .agg (cL f m).toArray, vi ki y, vi ki (y - 1), vi ki y, vi ki (y + 1), .func (.func 122) #[] #[.pointer (some ⟨w2.heap.size + 1, 0, none⟩), .pointer (some ⟨w2.heap.size + 2, 0, none⟩), .pointer (some ⟨w2.heap.size, 0, none⟩)], .agg #[vi ki (shK f (y - 1) k).t, vi ki (shK f (y - 1) k).o, .bool (shK f (y - 1) k).d, .string (shK f (y - 1) k).a], undef, undef, undef, undef, undef, undef, undef, undef, undef], defers := [] })
  ?hAx ?assign ?body ?done ?stop
 case hI => exact fun k A B row h hg hrow => h.grown hg (fun r e => by rcases hrow r e with q | ⟨q, _⟩ <;> omega)
 case hIx => exact fun c k A B row h hg hrow => ⟨h.1, h.2.grown hg (fun r e => by rcases hrow r e with q | ⟨q, _⟩ <;> omega)⟩
 case hAx =>
  rintro k a' W l o o' ⟨bx, h1, h2, h3⟩ hl ho hc
  refine ⟨bx, h1, h2.same (by simp) (World.putObj_heap_other (fun e => ?_)), h3⟩
  subst e
  have := (h2.2 0 _ rfl).1
  simp [World.cell?, ho] at this
  cases o <;> simp_all [Obj.isCells]
 case assign =>
  rintro l k W K' hI hlt hK
  simp only [tL]
  gi_wp2
  exact hK _ _ ((KeepsOthers.alloc _ _).from _) ⟨by simp, fun q hq => Below.heap_alloc _ _ _ (by simp at hq; have := Lens_lt IS.ln; omega)⟩ (hI.alloc _) ⟨W.heap.size, by omega, Bx.new W (tL (shK f (y - 1) k)) _, rfl⟩
 case body =>
  rintro l k a' W hI ⟨bx, hx1, hx2, rfl⟩ hk hlt
  have ct := hI.at_.c 0 rfl
  have x0 := hx2.c 0 rfl
  have x1 := hx2.c 1 rfl
  have x2 := hx2.c 2 rfl
  have x3 := hx2.c 3 rfl
  by_cases hkK : k < K
  ·have hle : ¬ t < (shK f (y - 1) k).t := by have := hlo k hkK; omega
   have hs : W.there w9.heap.size 0 4 := by have := hI.last.there; rwa [lastK_len] at this
   gi_wp2_with (first | (refine wpListIn_store_mid rfl 23 _ _ rfl w9.heap.size 0 #[vi ki (shK f (y - 1) k).t, vi ki (shK f (y - 1) k).o, .bool (shK f (y - 1) k).d, .string (shK f (y - 1) k).a] rfl rfl hs (by kernel_rfl) (tL_one (shK f (y - 1) k)) ?_; refine gen_listIn (fun V => KeepsFrom W0.heap.size W V ∧ Kept [w2.heap.size + 1, w2.heap.size + 2, w2.heap.size, m, 0] W V ∧ AR w f t y K w9.heap.size (k + 1) V) ⟨(keeps_setCells _ _ _ _).from _, ⟨by rw [setCells_size]; exact Nat.le_refl _, fun q hq => setCells_heap _ _ _ _ _ (by simp at hq; have := Lens_lt hL0.out; omega)⟩, hI.told hkK (by omega)⟩ ?_; rintro V ⟨q1, q2, q3⟩) | fail)
   exact ⟨q1, q2, q3⟩
  ·obtain rfl : k = K := by have := hI.le; omega
   have hl : lastK f y k = tL (shK f (y - 1) (k - 1)) := by unfold lastK; rw [if_neg (by omega)]
   have D0 : DS w w9.heap.size bx W0.heap.size W (shK f (y - 1) (k - 1)) (shK f (y - 1) k) z4 z4 W.drew := ⟨hl ▸ hI.last, hx2, hI.r1, hI.r2, hI.r3, hI.bel.drew, (KeepsOthers.drew W).from _, by omega, by omega⟩
   gi_wp2
   refine wpIn_region_any (by kernel_rfl) ?_
   refine gen_anyIn (DS w w9.heap.size bx W0.heap.size W (shK f (y - 1) (k - 1)) (shK f (y - 1) k) z4 z4) D0 ?_
   clear D0 hI x0 x1 x2 x3 ct hx2 hl
   rintro V0 hD
   refine wpAnyIn_ready (rs := [0, 1]) (by kernel_rfl) (by simp) (AllReadyIn.cons (o := ⟨some 37, _, _, _, _, none⟩) rfl (fun K' hK' => ?_) (AllReadyIn.cons (o := ⟨some 38, _, _, _, _, none⟩) rfl (fun K' hK' => ?_) AllReadyIn.nil))
   ·
    refine (if_pos (by kernel_rfl)).mpr (operIn_load_mid 23 _ rfl w9.heap.size 0 rfl (tL (shK f (y - 1) (k - 1))) _ hD.last.all Tryz.underlying23 rfl (by kernel_rfl) (hK' _ _ ?_))
    simp only [za, zb, zc, zd]
    refine wpAnyIn_ready (rs := [1, 2]) (by kernel_rfl) (by simp) (AllReadyIn.cons (o := ⟨some 38, _, _, _, _, none⟩) rfl (fun K' hK' => ?_) (AllReadyIn.cons (o := ⟨none, _, _, _, _, none⟩) rfl (fun K' hK' => ?_) AllReadyIn.nil))
    ·
     refine (if_pos (by kernel_rfl)).mpr (operIn_load_mid 23 _ rfl bx 0 rfl (tL (shK f (y - 1) k)) _ hD.cur.all Tryz.underlying23 rfl (by kernel_rfl) (hK' _ _ ?_))
     simp only [za, zb, zc, zd]
     refine wpAnyIn_ready (rs := [2]) (by kernel_rfl) (by simp) (AllReadyIn.cons (o := ⟨none, _, _, _, _, none⟩) rfl (fun K' hK' => ?_) AllReadyIn.nil)
     refine (if_pos (by kernel_rfl)).mpr (operIn_store_mid 23 _ _ rfl (w.heap.size + 1 + 1) 0 (tL (shK f (y - 1) (k - 1))).toArray rfl rfl hD.r1.there (by kernel_rfl) (tL_one _) (hK' _ _ ?_))
     refine gen_anyIn (DS w w9.heap.size bx W0.heap.size W (shK f (y - 1) (k - 1)) (shK f (y - 1) k) (tL (shK f (y - 1) (k - 1))) z4) (hD.s2 rfl) ?_
     clear hD hK'
     rintro V1 hD
     refine wpAnyIn_ready (rs := [3]) (by kernel_rfl) (by simp) (AllReadyIn.cons (o := ⟨none, _, _, _, _, none⟩) rfl (fun K' hK' => ?_) AllReadyIn.nil)
     refine (if_pos (by kernel_rfl)).mpr (operIn_store_mid 23 _ _ rfl (w.heap.size + 1 + 1 + 1) 0 (tL (shK f (y - 1) k)).toArray rfl rfl hD.r2.there (by kernel_rfl) (tL_one _) (hK' _ _ ?_))
     refine gen_anyIn (DS w w9.heap.size bx W0.heap.size W (shK f (y - 1) (k - 1)) (shK f (y - 1) k) (tL (shK f (y - 1) (k - 1))) (tL (shK f (y - 1) k))) (hD.s3 rfl) ?_
     clear hD hK'
     rintro V2 hD
     refine wpAnyIn_ready (rs := [4]) (by kernel_rfl) (by simp) (AllReadyIn.cons (o := ⟨none, _, _, _, _, none⟩) rfl (fun K' hK' => ?_) AllReadyIn.nil)
     refine (if_pos (by kernel_rfl)).mpr (operIn_store1 49 _ _ rfl (w.heap.size + 1 + 1 + 1 + 1) .i64 0 rfl rfl hD.r3.there (by kernel_rfl) (hK' _ _ ?_))
     refine gen_anyIn (DS w w9.heap.size bx W0.heap.size W (shK f (y - 1) (k - 1)) (shK f (y - 1) k) (tL (shK f (y - 1) (k - 1))) (tL (shK f (y - 1) k))) (hD.s4) ?_
     clear hD hK'
     rintro V3 hD
     refine wpAnyIn_done (by kernel_rfl) ?_ _
     gi_wp2
     exact ⟨hD.kf, rfl, hD.r1, hD.r2, hD.r3, hD.bel⟩
    ·
     refine (if_pos (by kernel_rfl)).mpr (operIn_store_mid 23 _ _ rfl (w.heap.size + 1 + 1) 0 (tL (shK f (y - 1) (k - 1))).toArray rfl rfl hD.r1.there (by kernel_rfl) (tL_one _) (hK' _ _ ?_))
     refine gen_anyIn (DS w w9.heap.size bx W0.heap.size W (shK f (y - 1) (k - 1)) (shK f (y - 1) k) (tL (shK f (y - 1) (k - 1))) z4) (hD.s2 rfl) ?_
     clear hD hK'
     rintro V4 hD
     refine wpAnyIn_ready (rs := [1]) (by kernel_rfl) (by simp) (AllReadyIn.cons (o := ⟨some 38, _, _, _, _, none⟩) rfl (fun K' hK' => ?_) AllReadyIn.nil)
     refine (if_pos (by kernel_rfl)).mpr (operIn_load_mid 23 _ rfl bx 0 rfl (tL (shK f (y - 1) k)) _ hD.cur.all Tryz.underlying23 rfl (by kernel_rfl) (hK' _ _ ?_))
     simp only [za, zb, zc, zd]
     refine wpAnyIn_ready (rs := [3]) (by kernel_rfl) (by simp) (AllReadyIn.cons (o := ⟨none, _, _, _, _, none⟩) rfl (fun K' hK' => ?_) AllReadyIn.nil)
     refine (if_pos (by kernel_rfl)).mpr (operIn_store_mid 23 _ _ rfl (w.heap.size + 1 + 1 + 1) 0 (tL (shK f (y - 1) k)).toArray rfl rfl hD.r2.there (by kernel_rfl) (tL_one _) (hK' _ _ ?_))
     refine gen_anyIn (DS w w9.heap.size bx W0.heap.size W (shK f (y - 1) (k - 1)) (shK f (y - 1) k) (tL (shK f (y - 1) (k - 1))) (tL (shK f (y - 1) k))) (hD.s3 rfl) ?_
     clear hD hK'
     rintro V5 hD
     refine wpAnyIn_ready (rs := [4]) (by kernel_rfl) (by simp) (AllReadyIn.cons (o := ⟨none, _, _, _, _, none⟩) rfl (fun K' hK' => ?_) AllReadyIn.nil)
     refine (if_pos (by kernel_rfl)).mpr (operIn_store1 49 _ _ rfl (w.heap.size + 1 + 1 + 1 + 1) .i64 0 rfl rfl hD.r3.there (by kernel_rfl) (hK' _ _ ?_))
     refine gen_anyIn (DS w w9.heap.size bx W0.heap.size W (shK f (y - 1) (k - 1)) (shK f (y - 1) k) (tL (shK f (y - 1) (k - 1))) (tL (shK f (y - 1) k))) (hD.s4) ?_
     clear hD hK'
     rintro V6 hD
     refine wpAnyIn_done (by kernel_rfl) ?_ _
     gi_wp2
     exact ⟨hD.kf, rfl, hD.r1, hD.r2, hD.r3, hD.bel⟩
   ·
    refine (if_pos (by kernel_rfl)).mpr (operIn_load_mid 23 _ rfl bx 0 rfl (tL (shK f (y - 1) k)) _ hD.cur.all Tryz.underlying23 rfl (by kernel_rfl) (hK' _ _ ?_))
    simp only [za, zb, zc, zd]
    refine wpAnyIn_ready (rs := [0]) (by kernel_rfl) (by simp) (AllReadyIn.cons (o := ⟨some 37, _, _, _, _, none⟩) rfl (fun K' hK' => ?_) AllReadyIn.nil)
    refine (if_pos (by kernel_rfl)).mpr (operIn_load_mid 23 _ rfl w9.heap.size 0 rfl (tL (shK f (y - 1) (k - 1))) _ hD.last.all Tryz.underlying23 rfl (by kernel_rfl) (hK' _ _ ?_))
    simp only [za, zb, zc, zd]
    refine wpAnyIn_ready (rs := [2]) (by kernel_rfl) (by simp) (AllReadyIn.cons (o := ⟨none, _, _, _, _, none⟩) rfl (fun K' hK' => ?_) AllReadyIn.nil)
    refine (if_pos (by kernel_rfl)).mpr (operIn_store_mid 23 _ _ rfl (w.heap.size + 1 + 1) 0 (tL (shK f (y - 1) (k - 1))).toArray rfl rfl hD.r1.there (by kernel_rfl) (tL_one _) (hK' _ _ ?_))
    refine gen_anyIn (DS w w9.heap.size bx W0.heap.size W (shK f (y - 1) (k - 1)) (shK f (y - 1) k) (tL (shK f (y - 1) (k - 1))) z4) (hD.s2 rfl) ?_
    clear hD hK'
    rintro V7 hD
    refine wpAnyIn_ready (rs := [3]) (by kernel_rfl) (by simp) (AllReadyIn.cons (o := ⟨none, _, _, _, _, none⟩) rfl (fun K' hK' => ?_) AllReadyIn.nil)
    refine (if_pos (by kernel_rfl)).mpr (operIn_store_mid 23 _ _ rfl (w.heap.size + 1 + 1 + 1) 0 (tL (shK f (y - 1) k)).toArray rfl rfl hD.r2.there (by kernel_rfl) (tL_one _) (hK' _ _ ?_))
    refine gen_anyIn (DS w w9.heap.size bx W0.heap.size W (shK f (y - 1) (k - 1)) (shK f (y - 1) k) (tL (shK f (y - 1) (k - 1))) (tL (shK f (y - 1) k))) (hD.s3 rfl) ?_
    clear hD hK'
    rintro V8 hD
    refine wpAnyIn_ready (rs := [4]) (by kernel_rfl) (by simp) (AllReadyIn.cons (o := ⟨none, _, _, _, _, none⟩) rfl (fun K' hK' => ?_) AllReadyIn.nil)
    refine (if_pos (by kernel_rfl)).mpr (operIn_store1 49 _ _ rfl (w.heap.size + 1 + 1 + 1 + 1) .i64 0 rfl rfl hD.r3.there (by kernel_rfl) (hK' _ _ ?_))
    refine gen_anyIn (DS w w9.heap.size bx W0.heap.size W (shK f (y - 1) (k - 1)) (shK f (y - 1) k) (tL (shK f (y - 1) (k - 1))) (tL (shK f (y - 1) k))) (hD.s4) ?_
    clear hD hK'
    rintro V9 hD
    refine wpAnyIn_done (by kernel_rfl) ?_ _
    gi_wp2
    exact ⟨hD.kf, rfl, hD.r1, hD.r2, hD.r3, hD.bel⟩
 case done =>
  rintro D W hD hI hK'
  exact absurd hI.le (by omega)
 case stop =>
  rintro D c k W hD hk ⟨rfl, hX⟩ hK'
  gi_wp2
  refine ⟨by simp, .inl ⟨_, _, rfl, run_takeDeferred hK', ?_⟩⟩
  have hX2 := hX.grown (grownBy_putObj' W D (.deferred none)) (fun r e => by cases e; omega)
  refine ⟨_, results_cell3 rfl _ _ _ _ _ _ _ _ rfl rfl rfl (run_loadVar_mid _ _ _ _ _ _ hX2.r1.all Tryz.underlying23 rfl (by kernel_rfl)) (run_loadVar_mid _ _ _ _ _ _ hX2.r2.all Tryz.underlying23 rfl (by kernel_rfl)) (run_loadVar1 (hX2.r3.c 0 rfl) Tryz.underlying49), rfl, hX2.bel⟩
theorem results_cell_t {P : Program} {fn : Func} {p q : Tmp} {t1 : TypeId} (h : fn.results = #[.cell p t1, .tmp q]) (tmps : Array Value) (w : World) (a : Addr) (u v : Value) (hp : tmps[p]?.getD undef = .pointer (some a)) (hq : tmps[q]?.getD undef = v)
  (h1 : (loadVar t1 a).run P w = .ok u w) : (results fn tmps).run P w = .ok (.tuple #[u, v]) w := by
 simp [results, h, hp, hq, asAddr, h1]
theorem z4_one : z4.toArray.all (·.oneCell') = true := all_oneCell_toArray (by intro v hv; simp [z4] at hv; rcases hv with rfl | rfl | rfl | rfl <;> rfl)
theorem around_arg (f : Ft) (t : Int) (hf : okF f = false) (w : World) (hL0 : Hid (Cvl.Lens w)) (hT0 : Hid (Clk.Tab w)) :
  Calls Tryz.prog 81 #[.agg #[.bool f.h, vi ki f.fr, vi ki f.off, vi ki f.A.m, vi ki f.A.k, vi ki f.A.d, vi ki f.A.n, vi ki f.A.s, .int .u8 f.A.z, vi ki f.A.v, .string f.A.t, vi ki f.B.m, vi ki f.B.k, vi ki f.B.d, vi ki f.B.n, vi ki f.B.s, .int .u8 f.B.z, vi ki f.B.v, .string f.B.t], vi ki t] w fun e w' => e = zr (.tuple #[.agg z4.toArray, .agg z4.toArray, vi ki 1]) ∧ Below w.heap.size w w' := by
 have HB : Hid (Below w.heap.size w (((((w.alloc (.cells #[.bool f.h, vi ki f.fr, vi ki f.off, vi ki f.A.m, vi ki f.A.k, vi ki f.A.d, vi ki f.A.n, vi ki f.A.s, .int .u8 f.A.z, vi ki f.A.v, .string f.A.t, vi ki f.B.m, vi ki f.B.k, vi ki f.B.d, vi ki f.B.n, vi ki f.B.s, .int .u8 f.B.z, vi ki f.B.v, .string f.B.t] 44)).alloc (.cells #[vi ki t] 2)).alloc (.cells #[vi ki 0, vi ki 0, .bool false, .string ⟨#[]⟩] 23)).alloc (.cells #[vi ki 0, vi ki 0, .bool false, .string ⟨#[]⟩] 23)).alloc (.cells #[vi ki 0] 49))) := ((((((Below.refl _ _).alloc (by simp <;> omega) _).alloc (by simp <;> omega) _).alloc (by simp <;> omega) _).alloc (by simp <;> omega) _).alloc (by simp <;> omega) _)
 have X0 : Hid (Bx (((((w.alloc (.cells #[.bool f.h, vi ki f.fr, vi ki f.off, vi ki f.A.m, vi ki f.A.k, vi ki f.A.d, vi ki f.A.n, vi ki f.A.s, .int .u8 f.A.z, vi ki f.A.v, .string f.A.t, vi ki f.B.m, vi ki f.B.k, vi ki f.B.d, vi ki f.B.n, vi ki f.B.s, .int .u8 f.B.z, vi ki f.B.v, .string f.B.t] 44)).alloc (.cells #[vi ki t] 2)).alloc (.cells #[vi ki 0, vi ki 0, .bool false, .string ⟨#[]⟩] 23)).alloc (.cells #[vi ki 0, vi ki 0, .bool false, .string ⟨#[]⟩] 23)).alloc (.cells #[vi ki 0] 49)) (w.heap.size) (fL f)) := (((((Bx.newAt w (fL f) _ _ (by simp)).alloc _).alloc _).alloc _).alloc _)
 have X1 : Hid (Bx (((((w.alloc (.cells #[.bool f.h, vi ki f.fr, vi ki f.off, vi ki f.A.m, vi ki f.A.k, vi ki f.A.d, vi ki f.A.n, vi ki f.A.s, .int .u8 f.A.z, vi ki f.A.v, .string f.A.t, vi ki f.B.m, vi ki f.B.k, vi ki f.B.d, vi ki f.B.n, vi ki f.B.s, .int .u8 f.B.z, vi ki f.B.v, .string f.B.t] 44)).alloc (.cells #[vi ki t] 2)).alloc (.cells #[vi ki 0, vi ki 0, .bool false, .string ⟨#[]⟩] 23)).alloc (.cells #[vi ki 0, vi ki 0, .bool false, .string ⟨#[]⟩] 23)).alloc (.cells #[vi ki 0] 49)) (w.heap.size + 1) ([vi ki t])) := ((((Bx.newAt (w.alloc (.cells #[.bool f.h, vi ki f.fr, vi ki f.off, vi ki f.A.m, vi ki f.A.k, vi ki f.A.d, vi ki f.A.n, vi ki f.A.s, .int .u8 f.A.z, vi ki f.A.v, .string f.A.t, vi ki f.B.m, vi ki f.B.k, vi ki f.B.d, vi ki f.B.n, vi ki f.B.s, .int .u8 f.B.z, vi ki f.B.v, .string f.B.t] 44)) ([vi ki t]) _ _ (by simp)).alloc _).alloc _).alloc _)
 have X2 : Hid (Bx (((((w.alloc (.cells #[.bool f.h, vi ki f.fr, vi ki f.off, vi ki f.A.m, vi ki f.A.k, vi ki f.A.d, vi ki f.A.n, vi ki f.A.s, .int .u8 f.A.z, vi ki f.A.v, .string f.A.t, vi ki f.B.m, vi ki f.B.k, vi ki f.B.d, vi ki f.B.n, vi ki f.B.s, .int .u8 f.B.z, vi ki f.B.v, .string f.B.t] 44)).alloc (.cells #[vi ki t] 2)).alloc (.cells #[vi ki 0, vi ki 0, .bool false, .string ⟨#[]⟩] 23)).alloc (.cells #[vi ki 0, vi ki 0, .bool false, .string ⟨#[]⟩] 23)).alloc (.cells #[vi ki 0] 49)) (w.heap.size + 2) (z4)) := (((Bx.newAt ((w.alloc (.cells #[.bool f.h, vi ki f.fr, vi ki f.off, vi ki f.A.m, vi ki f.A.k, vi ki f.A.d, vi ki f.A.n, vi ki f.A.s, .int .u8 f.A.z, vi ki f.A.v, .string f.A.t, vi ki f.B.m, vi ki f.B.k, vi ki f.B.d, vi ki f.B.n, vi ki f.B.s, .int .u8 f.B.z, vi ki f.B.v, .string f.B.t] 44)).alloc (.cells #[vi ki t] 2)) (z4) _ _ (by simp)).alloc _).alloc _)
 have X3 : Hid (Bx (((((w.alloc (.cells #[.bool f.h, vi ki f.fr, vi ki f.off, vi ki f.A.m, vi ki f.A.k, vi ki f.A.d, vi ki f.A.n, vi ki f.A.s, .int .u8 f.A.z, vi ki f.A.v, .string f.A.t, vi ki f.B.m, vi ki f.B.k, vi ki f.B.d, vi ki f.B.n, vi ki f.B.s, .int .u8 f.B.z, vi ki f.B.v, .string f.B.t] 44)).alloc (.cells #[vi ki t] 2)).alloc (.cells #[vi ki 0, vi ki 0, .bool false, .string ⟨#[]⟩] 23)).alloc (.cells #[vi ki 0, vi ki 0, .bool false, .string ⟨#[]⟩] 23)).alloc (.cells #[vi ki 0] 49)) (w.heap.size + 3) (z4)) := ((Bx.newAt (((w.alloc (.cells #[.bool f.h, vi ki f.fr, vi ki f.off, vi ki f.A.m, vi ki f.A.k, vi ki f.A.d, vi ki f.A.n, vi ki f.A.s, .int .u8 f.A.z, vi ki f.A.v, .string f.A.t, vi ki f.B.m, vi ki f.B.k, vi ki f.B.d, vi ki f.B.n, vi ki f.B.s, .int .u8 f.B.z, vi ki f.B.v, .string f.B.t] 44)).alloc (.cells #[vi ki t] 2)).alloc (.cells #[vi ki 0, vi ki 0, .bool false, .string ⟨#[]⟩] 23)) (z4) _ _ (by simp)).alloc _)
 have X4 : Hid (Bx (((((w.alloc (.cells #[.bool f.h, vi ki f.fr, vi ki f.off, vi ki f.A.m, vi ki f.A.k, vi ki f.A.d, vi ki f.A.n, vi ki f.A.s, .int .u8 f.A.z, vi ki f.A.v, .string f.A.t, vi ki f.B.m, vi ki f.B.k, vi ki f.B.d, vi ki f.B.n, vi ki f.B.s, .int .u8 f.B.z, vi ki f.B.v, .string f.B.t] 44)).alloc (.cells #[vi ki t] 2)).alloc (.cells #[vi ki 0, vi ki 0, .bool false, .string ⟨#[]⟩] 23)).alloc (.cells #[vi ki 0, vi ki 0, .bool false, .string ⟨#[]⟩] 23)).alloc (.cells #[vi ki 0] 49)) (w.heap.size + 4) ([vi ki 0])) := (Bx.newAt ((((w.alloc (.cells #[.bool f.h, vi ki f.fr, vi ki f.off, vi ki f.A.m, vi ki f.A.k, vi ki f.A.d, vi ki f.A.n, vi ki f.A.s, .int .u8 f.A.z, vi ki f.A.v, .string f.A.t, vi ki f.B.m, vi ki f.B.k, vi ki f.B.d, vi ki f.B.n, vi ki f.B.s, .int .u8 f.B.z, vi ki f.B.v, .string f.B.t] 44)).alloc (.cells #[vi ki t] 2)).alloc (.cells #[vi ki 0, vi ki 0, .bool false, .string ⟨#[]⟩] 23)).alloc (.cells #[vi ki 0, vi ki 0, .bool false, .string ⟨#[]⟩] 23)) ([vi ki 0]) _ _ (by simp))
 have L1 : Hid (Cvl.Lens (((((w.alloc (.cells #[.bool f.h, vi ki f.fr, vi ki f.off, vi ki f.A.m, vi ki f.A.k, vi ki f.A.d, vi ki f.A.n, vi ki f.A.s, .int .u8 f.A.z, vi ki f.A.v, .string f.A.t, vi ki f.B.m, vi ki f.B.k, vi ki f.B.d, vi ki f.B.n, vi ki f.B.s, .int .u8 f.B.z, vi ki f.B.v, .string f.B.t] 44)).alloc (.cells #[vi ki t] 2)).alloc (.cells #[vi ki 0, vi ki 0, .bool false, .string ⟨#[]⟩] 23)).alloc (.cells #[vi ki 0, vi ki 0, .bool false, .string ⟨#[]⟩] 23)).alloc (.cells #[vi ki 0] 49))) := Lens_below hL0.out HB.out (Lens_lt hL0.out)
 have T1 : Hid (Clk.Tab (((((w.alloc (.cells #[.bool f.h, vi ki f.fr, vi ki f.off, vi ki f.A.m, vi ki f.A.k, vi ki f.A.d, vi ki f.A.n, vi ki f.A.s, .int .u8 f.A.z, vi ki f.A.v, .string f.A.t, vi ki f.B.m, vi ki f.B.k, vi ki f.B.d, vi ki f.B.n, vi ki f.B.s, .int .u8 f.B.z, vi ki f.B.v, .string f.B.t] 44)).alloc (.cells #[vi ki t] 2)).alloc (.cells #[vi ki 0, vi ki 0, .bool false, .string ⟨#[]⟩] 23)).alloc (.cells #[vi ki 0, vi ki 0, .bool false, .string ⟨#[]⟩] 23)).alloc (.cells #[vi ki 0] 49))) := hT0.out.below HB.out
 have CA : Hid (Calls Tryz.prog 103 #[.agg #[.bool f.h, vi ki f.fr, vi ki f.off, vi ki f.A.m, vi ki f.A.k, vi ki f.A.d, vi ki f.A.n, vi ki f.A.s, .int .u8 f.A.z, vi ki f.A.v, .string f.A.t, vi ki f.B.m, vi ki f.B.k, vi ki f.B.d, vi ki f.B.n, vi ki f.B.s, .int .u8 f.B.z, vi ki f.B.v, .string f.B.t]] (((((w.alloc (.cells #[.bool f.h, vi ki f.fr, vi ki f.off, vi ki f.A.m, vi ki f.A.k, vi ki f.A.d, vi ki f.A.n, vi ki f.A.s, .int .u8 f.A.z, vi ki f.A.v, .string f.A.t, vi ki f.B.m, vi ki f.B.k, vi ki f.B.d, vi ki f.B.n, vi ki f.B.s, .int .u8 f.B.z, vi ki f.B.v, .string f.B.t] 44)).alloc (.cells #[vi ki t] 2)).alloc (.cells #[vi ki 0, vi ki 0, .bool false, .string ⟨#[]⟩] 23)).alloc (.cells #[vi ki 0, vi ki 0, .bool false, .string ⟨#[]⟩] 23)).alloc (.cells #[vi ki 0] 49)) fun e w' => e = zr (.bool false) ∧ Below (((((w.alloc (.cells #[.bool f.h, vi ki f.fr, vi ki f.off, vi ki f.A.m, vi ki f.A.k, vi ki f.A.d, vi ki f.A.n, vi ki f.A.s, .int .u8 f.A.z, vi ki f.A.v, .string f.A.t, vi ki f.B.m, vi ki f.B.k, vi ki f.B.d, vi ki f.B.n, vi ki f.B.s, .int .u8 f.B.z, vi ki f.B.v, .string f.B.t] 44)).alloc (.cells #[vi ki t] 2)).alloc (.cells #[vi ki 0, vi ki 0, .bool false, .string ⟨#[]⟩] 23)).alloc (.cells #[vi ki 0, vi ki 0, .bool false, .string ⟨#[]⟩] 23)).alloc (.cells #[vi ki 0] 49)).heap.size (((((w.alloc (.cells #[.bool f.h, vi ki f.fr, vi ki f.off, vi ki f.A.m, vi ki f.A.k, vi ki f.A.d, vi ki f.A.n, vi ki f.A.s, .int .u8 f.A.z, vi ki f.A.v, .string f.A.t, vi ki f.B.m, vi ki f.B.k, vi ki f.B.d, vi ki f.B.n, vi ki f.B.s, .int .u8 f.B.z, vi ki f.B.v, .string f.B.t] 44)).alloc (.cells #[vi ki t] 2)).alloc (.cells #[vi ki 0, vi ki 0, .bool false, .string ⟨#[]⟩] 23)).alloc (.cells #[vi ki 0, vi ki 0, .bool false, .string ⟨#[]⟩] 23)).alloc (.cells #[vi ki 0] 49)) w') := by
  have R := can_any f (((((w.alloc (.cells #[.bool f.h, vi ki f.fr, vi ki f.off, vi ki f.A.m, vi ki f.A.k, vi ki f.A.d, vi ki f.A.n, vi ki f.A.s, .int .u8 f.A.z, vi ki f.A.v, .string f.A.t, vi ki f.B.m, vi ki f.B.k, vi ki f.B.d, vi ki f.B.n, vi ki f.B.s, .int .u8 f.B.z, vi ki f.B.v, .string f.B.t] 44)).alloc (.cells #[vi ki t] 2)).alloc (.cells #[vi ki 0, vi ki 0, .bool false, .string ⟨#[]⟩] 23)).alloc (.cells #[vi ki 0, vi ki 0, .bool false, .string ⟨#[]⟩] 23)).alloc (.cells #[vi ki 0] 49)) L1.out T1.out
  rw [hf] at R
  exact R
 go_enter Tryz.func81, Tryz.ntmps81
 go_wp2_with (first | (refine wpList_load_mid rfl 44 _ rfl w.heap.size 0 rfl [.bool f.h, vi ki f.fr, vi ki f.off, vi ki f.A.m, vi ki f.A.k, vi ki f.A.d, vi ki f.A.n, vi ki f.A.s, .int .u8 f.A.z, vi ki f.A.v, .string f.A.t, vi ki f.B.m, vi ki f.B.k, vi ki f.B.d, vi ki f.B.n, vi ki f.B.s, .int .u8 f.B.z, vi ki f.B.v, .string f.B.t] _ X0.out.all Tryz.underlying44 rfl (by kernel_rfl) ?_) | fail)
 refine CA.out.mono ?_
 rintro e w1 ⟨rfl, hb⟩
 have HB1 : Hid (Below w.heap.size w w1) := HB.out.trans (hb.mono HB.out.size)
 have Y1 := X1.out.below hb
 have Y2 := X2.out.below hb
 have Y3 := X3.out.below hb
 have Y4 := X4.out.below hb
 have L2 : Hid (Cvl.Lens w1) := bel_lens HB1.out hL0.out
 clear hb HB X0 X1 X2 X3 X4 CA L1 T1
 go_wp2_with (first | (refine wpList_store_mid rfl 23 _ _ rfl (w.heap.size + 1 + 1) 0 z4.toArray rfl rfl Y2.there (by kernel_rfl) z4_one ?_; refine gen_list (fun V => Bx V (w.heap.size + 1 + 1) z4 ∧ Bx V (w.heap.size + 1 + 1 + 1) z4 ∧ Bx V (w.heap.size + 1 + 1 + 1 + 1) [vi ki 0] ∧ Below w.heap.size w V) ⟨Y2.setAll z4 rfl, Y3.setOther (by omega) z4, Y4.setOther (by omega) z4, below_setCells (by omega) _ _ _ HB1.out⟩ ?_; clear Y2 Y3 Y4 HB1; rintro V ⟨U2, U3, U4, UB⟩) | (refine wpList_store_mid rfl 23 _ _ rfl (w.heap.size + 1 + 1 + 1) 0 z4.toArray rfl rfl U3.there (by kernel_rfl) z4_one ?_; refine gen_list (fun V => Bx V (w.heap.size + 1 + 1) z4 ∧ Bx V (w.heap.size + 1 + 1 + 1) z4 ∧ Bx V (w.heap.size + 1 + 1 + 1 + 1) [vi ki 0] ∧ Below w.heap.size w V) ⟨U2.setOther (by omega) z4, U3.setAll z4 rfl, U4.setOther (by omega) z4, below_setCells (by omega) _ _ _ UB⟩ ?_; clear U2 U3 U4 UB; rintro V1 ⟨P2, P3, P4, PB⟩; have c4 := P4.c 0 rfl; have f4 := P4.f 0 rfl) | fail)
 have Q2 := P2.setOther (b := w.heap.size + 1 + 1 + 1 + 1) (by omega) [vi ki 1]
 have Q3 := P3.setOther (b := w.heap.size + 1 + 1 + 1 + 1) (by omega) [vi ki 1]
 have Q4 := P4.setAll [vi ki 1] rfl
 exact bodyPost_ret (v := .tuple #[.agg z4.toArray, .agg z4.toArray, vi ki 1]) (results_cell3 rfl _ _ _ _ _ _ _ _ rfl rfl rfl (run_loadVar_mid _ _ _ _ _ _ Q2.all Tryz.underlying23 rfl (by kernel_rfl)) (run_loadVar_mid _ _ _ _ _ _ Q3.all Tryz.underlying23 rfl (by kernel_rfl)) (run_loadVar1 (Q4.c 0 rfl) Tryz.underlying49)) rfl ⟨rfl, below_setCells (b := w.heap.size + 1 + 1 + 1 + 1) (by omega) [vi ki 1] V1 0 PB⟩
theorem around_range (f : Ft) (t : Int) (y : Int) (hf : okF f = true) (hy : YAt t y) (t1 : -9223372036854775808 ≤ t) (t2 : t ≤ 9223372036854775807) (h : y < -4714 ∨ (¬ y < -4714 ∧ 294278 < y)) (w : World) (hL0 : Hid (Cvl.Lens w)) (hT0 : Hid (Clk.Tab w)) :
  Calls Tryz.prog 81 #[.agg #[.bool f.h, vi ki f.fr, vi ki f.off, vi ki f.A.m, vi ki f.A.k, vi ki f.A.d, vi ki f.A.n, vi ki f.A.s, .int .u8 f.A.z, vi ki f.A.v, .string f.A.t, vi ki f.B.m, vi ki f.B.k, vi ki f.B.d, vi ki f.B.n, vi ki f.B.s, .int .u8 f.B.z, vi ki f.B.v, .string f.B.t], vi ki t] w fun e w' => e = zr (.tuple #[.agg z4.toArray, .agg z4.toArray, vi ki 10]) ∧ Below w.heap.size w w' := by
 have HB : Hid (Below w.heap.size w (((((w.alloc (.cells #[.bool f.h, vi ki f.fr, vi ki f.off, vi ki f.A.m, vi ki f.A.k, vi ki f.A.d, vi ki f.A.n, vi ki f.A.s, .int .u8 f.A.z, vi ki f.A.v, .string f.A.t, vi ki f.B.m, vi ki f.B.k, vi ki f.B.d, vi ki f.B.n, vi ki f.B.s, .int .u8 f.B.z, vi ki f.B.v, .string f.B.t] 44)).alloc (.cells #[vi ki t] 2)).alloc (.cells #[vi ki 0, vi ki 0, .bool false, .string ⟨#[]⟩] 23)).alloc (.cells #[vi ki 0, vi ki 0, .bool false, .string ⟨#[]⟩] 23)).alloc (.cells #[vi ki 0] 49))) := ((((((Below.refl _ _).alloc (by simp <;> omega) _).alloc (by simp <;> omega) _).alloc (by simp <;> omega) _).alloc (by simp <;> omega) _).alloc (by simp <;> omega) _)
 have X0 : Hid (Bx (((((w.alloc (.cells #[.bool f.h, vi ki f.fr, vi ki f.off, vi ki f.A.m, vi ki f.A.k, vi ki f.A.d, vi ki f.A.n, vi ki f.A.s, .int .u8 f.A.z, vi ki f.A.v, .string f.A.t, vi ki f.B.m, vi ki f.B.k, vi ki f.B.d, vi ki f.B.n, vi ki f.B.s, .int .u8 f.B.z, vi ki f.B.v, .string f.B.t] 44)).alloc (.cells #[vi ki t] 2)).alloc (.cells #[vi ki 0, vi ki 0, .bool false, .string ⟨#[]⟩] 23)).alloc (.cells #[vi ki 0, vi ki 0, .bool false, .string ⟨#[]⟩] 23)).alloc (.cells #[vi ki 0] 49)) (w.heap.size) (fL f)) := (((((Bx.newAt w (fL f) _ _ (by simp)).alloc _).alloc _).alloc _).alloc _)
 have X1 : Hid (Bx (((((w.alloc (.cells #[.bool f.h, vi ki f.fr, vi ki f.off, vi ki f.A.m, vi ki f.A.k, vi ki f.A.d, vi ki f.A.n, vi ki f.A.s, .int .u8 f.A.z, vi ki f.A.v, .string f.A.t, vi ki f.B.m, vi ki f.B.k, vi ki f.B.d, vi ki f.B.n, vi ki f.B.s, .int .u8 f.B.z, vi ki f.B.v, .string f.B.t] 44)).alloc (.cells #[vi ki t] 2)).alloc (.cells #[vi ki 0, vi ki 0, .bool false, .string ⟨#[]⟩] 23)).alloc (.cells #[vi ki 0, vi ki 0, .bool false, .string ⟨#[]⟩] 23)).alloc (.cells #[vi ki 0] 49)) (w.heap.size + 1) ([vi ki t])) := ((((Bx.newAt (w.alloc (.cells #[.bool f.h, vi ki f.fr, vi ki f.off, vi ki f.A.m, vi ki f.A.k, vi ki f.A.d, vi ki f.A.n, vi ki f.A.s, .int .u8 f.A.z, vi ki f.A.v, .string f.A.t, vi ki f.B.m, vi ki f.B.k, vi ki f.B.d, vi ki f.B.n, vi ki f.B.s, .int .u8 f.B.z, vi ki f.B.v, .string f.B.t] 44)) ([vi ki t]) _ _ (by simp)).alloc _).alloc _).alloc _)
 have X2 : Hid (Bx (((((w.alloc (.cells #[.bool f.h, vi ki f.fr, vi ki f.off, vi ki f.A.m, vi ki f.A.k, vi ki f.A.d, vi ki f.A.n, vi ki f.A.s, .int .u8 f.A.z, vi ki f.A.v, .string f.A.t, vi ki f.B.m, vi ki f.B.k, vi ki f.B.d, vi ki f.B.n, vi ki f.B.s, .int .u8 f.B.z, vi ki f.B.v, .string f.B.t] 44)).alloc (.cells #[vi ki t] 2)).alloc (.cells #[vi ki 0, vi ki 0, .bool false, .string ⟨#[]⟩] 23)).alloc (.cells #[vi ki 0, vi ki 0, .bool false, .string ⟨#[]⟩] 23)).alloc (.cells #[vi ki 0] 49)) (w.heap.size + 2) (z4)) := (((Bx.newAt ((w.alloc (.cells #[.bool f.h, vi ki f.fr, vi ki f.off, vi ki f.A.m, vi ki f.A.k, vi ki f.A.d, vi ki f.A.n, vi ki f.A.s, .int .u8 f.A.z, vi ki f.A.v, .string f.A.t, vi ki f.B.m, vi ki f.B.k, vi ki f.B.d, vi ki f.B.n, vi ki f.B.s, .int .u8 f.B.z, vi ki f.B.v, .string f.B.t] 44)).alloc (.cells #[vi ki t] 2)) (z4) _ _ (by simp)).alloc _).alloc _)
 have X3 : Hid (Bx (((((w.alloc (.cells #[.bool f.h, vi ki f.fr, vi ki f.off, vi ki f.A.m, vi ki f.A.k, vi ki f.A.d, vi ki f.A.n, vi ki f.A.s, .int .u8 f.A.z, vi ki f.A.v, .string f.A.t, vi ki f.B.m, vi ki f.B.k, vi ki f.B.d, vi ki f.B.n, vi ki f.B.s, .int .u8 f.B.z, vi ki f.B.v, .string f.B.t] 44)).alloc (.cells #[vi ki t] 2)).alloc (.cells #[vi ki 0, vi ki 0, .bool false, .string ⟨#[]⟩] 23)).alloc (.cells #[vi ki 0, vi ki 0, .bool false, .string ⟨#[]⟩] 23)).alloc (.cells #[vi ki 0] 49)) (w.heap.size + 3) (z4)) := ((Bx.newAt (((w.alloc (.cells #[.bool f.h, vi ki f.fr, vi ki f.off, vi ki f.A.m, vi ki f.A.k, vi ki f.A.d, vi ki f.A.n, vi ki f.A.s, .int .u8 f.A.z, vi ki f.A.v, .string f.A.t, vi ki f.B.m, vi ki f.B.k, vi ki f.B.d, vi ki f.B.n, vi ki f.B.s, .int .u8 f.B.z, vi ki f.B.v, .string f.B.t] 44)).alloc (.cells #[vi ki t] 2)).alloc (.cells #[vi ki 0, vi ki 0, .bool false, .string ⟨#[]⟩] 23)) (z4) _ _ (by simp)).alloc _)
 have X4 : Hid (Bx (((((w.alloc (.cells #[.bool f.h, vi ki f.fr, vi ki f.off, vi ki f.A.m, vi ki f.A.k, vi ki f.A.d, vi ki f.A.n, vi ki f.A.s, .int .u8 f.A.z, vi ki f.A.v, .string f.A.t, vi ki f.B.m, vi ki f.B.k, vi ki f.B.d, vi ki f.B.n, vi ki f.B.s, .int .u8 f.B.z, vi ki f.B.v, .string f.B.t] 44)).alloc (.cells #[vi ki t] 2)).alloc (.cells #[vi ki 0, vi ki 0, .bool false, .string ⟨#[]⟩] 23)).alloc (.cells #[vi ki 0, vi ki 0, .bool false, .string ⟨#[]⟩] 23)).alloc (.cells #[vi ki 0] 49)) (w.heap.size + 4) ([vi ki 0])) := (Bx.newAt ((((w.alloc (.cells #[.bool f.h, vi ki f.fr, vi ki f.off, vi ki f.A.m, vi ki f.A.k, vi ki f.A.d, vi ki f.A.n, vi ki f.A.s, .int .u8 f.A.z, vi ki f.A.v, .string f.A.t, vi ki f.B.m, vi ki f.B.k, vi ki f.B.d, vi ki f.B.n, vi ki f.B.s, .int .u8 f.B.z, vi ki f.B.v, .string f.B.t] 44)).alloc (.cells #[vi ki t] 2)).alloc (.cells #[vi ki 0, vi ki 0, .bool false, .string ⟨#[]⟩] 23)).alloc (.cells #[vi ki 0, vi ki 0, .bool false, .string ⟨#[]⟩] 23)) ([vi ki 0]) _ _ (by simp))
 have L1 : Hid (Cvl.Lens (((((w.alloc (.cells #[.bool f.h, vi ki f.fr, vi ki f.off, vi ki f.A.m, vi ki f.A.k, vi ki f.A.d, vi ki f.A.n, vi ki f.A.s, .int .u8 f.A.z, vi ki f.A.v, .string f.A.t, vi ki f.B.m, vi ki f.B.k, vi ki f.B.d, vi ki f.B.n, vi ki f.B.s, .int .u8 f.B.z, vi ki f.B.v, .string f.B.t] 44)).alloc (.cells #[vi ki t] 2)).alloc (.cells #[vi ki 0, vi ki 0, .bool false, .string ⟨#[]⟩] 23)).alloc (.cells #[vi ki 0, vi ki 0, .bool false, .string ⟨#[]⟩] 23)).alloc (.cells #[vi ki 0] 49))) := Lens_below hL0.out HB.out (Lens_lt hL0.out)
 have T1 : Hid (Clk.Tab (((((w.alloc (.cells #[.bool f.h, vi ki f.fr, vi ki f.off, vi ki f.A.m, vi ki f.A.k, vi ki f.A.d, vi ki f.A.n, vi ki f.A.s, .int .u8 f.A.z, vi ki f.A.v, .string f.A.t, vi ki f.B.m, vi ki f.B.k, vi ki f.B.d, vi ki f.B.n, vi ki f.B.s, .int .u8 f.B.z, vi ki f.B.v, .string f.B.t] 44)).alloc (.cells #[vi ki t] 2)).alloc (.cells #[vi ki 0, vi ki 0, .bool false, .string ⟨#[]⟩] 23)).alloc (.cells #[vi ki 0, vi ki 0, .bool false, .string ⟨#[]⟩] 23)).alloc (.cells #[vi ki 0] 49))) := hT0.out.below HB.out
 have CA : Hid (Calls Tryz.prog 103 #[.agg #[.bool f.h, vi ki f.fr, vi ki f.off, vi ki f.A.m, vi ki f.A.k, vi ki f.A.d, vi ki f.A.n, vi ki f.A.s, .int .u8 f.A.z, vi ki f.A.v, .string f.A.t, vi ki f.B.m, vi ki f.B.k, vi ki f.B.d, vi ki f.B.n, vi ki f.B.s, .int .u8 f.B.z, vi ki f.B.v, .string f.B.t]] (((((w.alloc (.cells #[.bool f.h, vi ki f.fr, vi ki f.off, vi ki f.A.m, vi ki f.A.k, vi ki f.A.d, vi ki f.A.n, vi ki f.A.s, .int .u8 f.A.z, vi ki f.A.v, .string f.A.t, vi ki f.B.m, vi ki f.B.k, vi ki f.B.d, vi ki f.B.n, vi ki f.B.s, .int .u8 f.B.z, vi ki f.B.v, .string f.B.t] 44)).alloc (.cells #[vi ki t] 2)).alloc (.cells #[vi ki 0, vi ki 0, .bool false, .string ⟨#[]⟩] 23)).alloc (.cells #[vi ki 0, vi ki 0, .bool false, .string ⟨#[]⟩] 23)).alloc (.cells #[vi ki 0] 49)) fun e w' => e = zr (.bool true) ∧ Below (((((w.alloc (.cells #[.bool f.h, vi ki f.fr, vi ki f.off, vi ki f.A.m, vi ki f.A.k, vi ki f.A.d, vi ki f.A.n, vi ki f.A.s, .int .u8 f.A.z, vi ki f.A.v, .string f.A.t, vi ki f.B.m, vi ki f.B.k, vi ki f.B.d, vi ki f.B.n, vi ki f.B.s, .int .u8 f.B.z, vi ki f.B.v, .string f.B.t] 44)).alloc (.cells #[vi ki t] 2)).alloc (.cells #[vi ki 0, vi ki 0, .bool false, .string ⟨#[]⟩] 23)).alloc (.cells #[vi ki 0, vi ki 0, .bool false, .string ⟨#[]⟩] 23)).alloc (.cells #[vi ki 0] 49)).heap.size (((((w.alloc (.cells #[.bool f.h, vi ki f.fr, vi ki f.off, vi ki f.A.m, vi ki f.A.k, vi ki f.A.d, vi ki f.A.n, vi ki f.A.s, .int .u8 f.A.z, vi ki f.A.v, .string f.A.t, vi ki f.B.m, vi ki f.B.k, vi ki f.B.d, vi ki f.B.n, vi ki f.B.s, .int .u8 f.B.z, vi ki f.B.v, .string f.B.t] 44)).alloc (.cells #[vi ki t] 2)).alloc (.cells #[vi ki 0, vi ki 0, .bool false, .string ⟨#[]⟩] 23)).alloc (.cells #[vi ki 0, vi ki 0, .bool false, .string ⟨#[]⟩] 23)).alloc (.cells #[vi ki 0] 49)) w') := by
  have R := can_any f (((((w.alloc (.cells #[.bool f.h, vi ki f.fr, vi ki f.off, vi ki f.A.m, vi ki f.A.k, vi ki f.A.d, vi ki f.A.n, vi ki f.A.s, .int .u8 f.A.z, vi ki f.A.v, .string f.A.t, vi ki f.B.m, vi ki f.B.k, vi ki f.B.d, vi ki f.B.n, vi ki f.B.s, .int .u8 f.B.z, vi ki f.B.v, .string f.B.t] 44)).alloc (.cells #[vi ki t] 2)).alloc (.cells #[vi ki 0, vi ki 0, .bool false, .string ⟨#[]⟩] 23)).alloc (.cells #[vi ki 0, vi ki 0, .bool false, .string ⟨#[]⟩] 23)).alloc (.cells #[vi ki 0] 49)) L1.out T1.out
  rw [hf] at R
  exact R
 go_enter Tryz.func81, Tryz.ntmps81
 go_wp2_with (first | (refine wpList_load_mid rfl 44 _ rfl w.heap.size 0 rfl [.bool f.h, vi ki f.fr, vi ki f.off, vi ki f.A.m, vi ki f.A.k, vi ki f.A.d, vi ki f.A.n, vi ki f.A.s, .int .u8 f.A.z, vi ki f.A.v, .string f.A.t, vi ki f.B.m, vi ki f.B.k, vi ki f.B.d, vi ki f.B.n, vi ki f.B.s, .int .u8 f.B.z, vi ki f.B.v, .string f.B.t] _ X0.out.all Tryz.underlying44 rfl (by kernel_rfl) ?_) | fail)
 refine CA.out.mono ?_
 rintro e w1 ⟨rfl, hb⟩
 have HB1 : Hid (Below w.heap.size w w1) := HB.out.trans (hb.mono HB.out.size)
 have Y1 := X1.out.below hb
 have Y2 := X2.out.below hb
 have Y3 := X3.out.below hb
 have Y4 := X4.out.below hb
 have L2 : Hid (Cvl.Lens w1) := bel_lens HB1.out hL0.out
 clear hb HB X0 X1 X2 X3 X4 CA L1 T1
 have ct := Y1.c 0 rfl
 go_wp2_with fail
 refine (yat_any t y hy t1 t2 _ L2.out).mono ?_
 rintro e w9 ⟨rfl, rfl⟩
 rcases h with h | ⟨h, h'⟩
 ·go_wp2_with (first | (refine wpList_store_mid rfl 23 _ _ rfl (w.heap.size + 1 + 1) 0 z4.toArray rfl rfl Y2.there (by kernel_rfl) z4_one ?_; refine gen_list (fun V => Bx V (w.heap.size + 1 + 1) z4 ∧ Bx V (w.heap.size + 1 + 1 + 1) z4 ∧ Bx V (w.heap.size + 1 + 1 + 1 + 1) [vi ki 0] ∧ Below w.heap.size w V) ⟨Y2.setAll z4 rfl, Y3.setOther (by omega) z4, Y4.setOther (by omega) z4, below_setCells (by omega) _ _ _ HB1.out⟩ ?_; clear Y2 Y3 Y4 HB1; rintro V ⟨U2, U3, U4, UB⟩) | (refine wpList_store_mid rfl 23 _ _ rfl (w.heap.size + 1 + 1 + 1) 0 z4.toArray rfl rfl U3.there (by kernel_rfl) z4_one ?_; refine gen_list (fun V => Bx V (w.heap.size + 1 + 1) z4 ∧ Bx V (w.heap.size + 1 + 1 + 1) z4 ∧ Bx V (w.heap.size + 1 + 1 + 1 + 1) [vi ki 0] ∧ Below w.heap.size w V) ⟨U2.setOther (by omega) z4, U3.setAll z4 rfl, U4.setOther (by omega) z4, below_setCells (by omega) _ _ _ UB⟩ ?_; clear U2 U3 U4 UB; rintro V1 ⟨P2, P3, P4, PB⟩; have c4 := P4.c 0 rfl; have f4 := P4.f 0 rfl) | fail)
  have Q2 := P2.setOther (b := w.heap.size + 1 + 1 + 1 + 1) (by omega) [vi ki 10]
  have Q3 := P3.setOther (b := w.heap.size + 1 + 1 + 1 + 1) (by omega) [vi ki 10]
  have Q4 := P4.setAll [vi ki 10] rfl
  exact bodyPost_ret (v := .tuple #[.agg z4.toArray, .agg z4.toArray, vi ki 10]) (results_cell3 rfl _ _ _ _ _ _ _ _ rfl rfl rfl (run_loadVar_mid _ _ _ _ _ _ Q2.all Tryz.underlying23 rfl (by kernel_rfl)) (run_loadVar_mid _ _ _ _ _ _ Q3.all Tryz.underlying23 rfl (by kernel_rfl)) (run_loadVar1 (Q4.c 0 rfl) Tryz.underlying49)) rfl ⟨rfl, below_setCells (b := w.heap.size + 1 + 1 + 1 + 1) (by omega) [vi ki 10] V1 0 PB⟩
 ·go_wp2_with (first | (refine wpList_store_mid rfl 23 _ _ rfl (w.heap.size + 1 + 1) 0 z4.toArray rfl rfl Y2.there (by kernel_rfl) z4_one ?_; refine gen_list (fun V => Bx V (w.heap.size + 1 + 1) z4 ∧ Bx V (w.heap.size + 1 + 1 + 1) z4 ∧ Bx V (w.heap.size + 1 + 1 + 1 + 1) [vi ki 0] ∧ Below w.heap.size w V) ⟨Y2.setAll z4 rfl, Y3.setOther (by omega) z4, Y4.setOther (by omega) z4, below_setCells (by omega) _ _ _ HB1.out⟩ ?_; clear Y2 Y3 Y4 HB1; rintro V ⟨U2, U3, U4, UB⟩) | (refine wpList_store_mid rfl 23 _ _ rfl (w.heap.size + 1 + 1 + 1) 0 z4.toArray rfl rfl U3.there (by kernel_rfl) z4_one ?_; refine gen_list (fun V => Bx V (w.heap.size + 1 + 1) z4 ∧ Bx V (w.heap.size + 1 + 1 + 1) z4 ∧ Bx V (w.heap.size + 1 + 1 + 1 + 1) [vi ki 0] ∧ Below w.heap.size w V) ⟨U2.setOther (by omega) z4, U3.setAll z4 rfl, U4.setOther (by omega) z4, below_setCells (by omega) _ _ _ UB⟩ ?_; clear U2 U3 U4 UB; rintro V1 ⟨P2, P3, P4, PB⟩; have c4 := P4.c 0 rfl; have f4 := P4.f 0 rfl) | fail)
  have Q2 := P2.setOther (b := w.heap.size + 1 + 1 + 1 + 1) (by omega) [vi ki 10]
  have Q3 := P3.setOther (b := w.heap.size + 1 + 1 + 1 + 1) (by omega) [vi ki 10]
  have Q4 := P4.setAll [vi ki 10] rfl
  exact bodyPost_ret (v := .tuple #[.agg z4.toArray, .agg z4.toArray, vi ki 10]) (results_cell3 rfl _ _ _ _ _ _ _ _ rfl rfl rfl (run_loadVar_mid _ _ _ _ _ _ Q2.all Tryz.underlying23 rfl (by kernel_rfl)) (run_loadVar_mid _ _ _ _ _ _ Q3.all Tryz.underlying23 rfl (by kernel_rfl)) (run_loadVar1 (Q4.c 0 rfl) Tryz.underlying49)) rfl ⟨rfl, below_setCells (b := w.heap.size + 1 + 1 + 1 + 1) (by omega) [vi ki 10] V1 0 PB⟩
theorem at_run (f : Ft) (t : Int) (p q : Tr) (er : Int)
  (AR : Hid (∀ w : World, Cvl.Lens w → Clk.Tab w → Calls Tryz.prog 81 #[.agg #[.bool f.h, vi ki f.fr, vi ki f.off, vi ki f.A.m, vi ki f.A.k, vi ki f.A.d, vi ki f.A.n, vi ki f.A.s, .int .u8 f.A.z, vi ki f.A.v, .string f.A.t, vi ki f.B.m, vi ki f.B.k, vi ki f.B.d, vi ki f.B.n, vi ki f.B.s, .int .u8 f.B.z, vi ki f.B.v, .string f.B.t], vi ki t] w fun e w' => e = zr (.tuple #[.agg #[vi ki p.t, vi ki p.o, .bool p.d, .string p.a], .agg #[vi ki q.t, vi ki q.o, .bool q.d, .string q.a], vi ki er]) ∧ Below w.heap.size w w'))
  (w : World) (hL0 : Hid (Cvl.Lens w)) (hT0 : Hid (Clk.Tab w)) :
  Calls Tryz.prog 57 #[.agg #[.bool f.h, vi ki f.fr, vi ki f.off, vi ki f.A.m, vi ki f.A.k, vi ki f.A.d, vi ki f.A.n, vi ki f.A.s, .int .u8 f.A.z, vi ki f.A.v, .string f.A.t, vi ki f.B.m, vi ki f.B.k, vi ki f.B.d, vi ki f.B.n, vi ki f.B.s, .int .u8 f.B.z, vi ki f.B.v, .string f.B.t], vi ki t] w fun e w' => e = zr (.tuple #[.agg #[vi ki p.t, vi ki p.o, .bool p.d, .string p.a], vi ki er]) ∧ Below w.heap.size w w' := by
 have HB : Hid (Below w.heap.size w ((w.alloc (.cells #[.bool f.h, vi ki f.fr, vi ki f.off, vi ki f.A.m, vi ki f.A.k, vi ki f.A.d, vi ki f.A.n, vi ki f.A.s, .int .u8 f.A.z, vi ki f.A.v, .string f.A.t, vi ki f.B.m, vi ki f.B.k, vi ki f.B.d, vi ki f.B.n, vi ki f.B.s, .int .u8 f.B.z, vi ki f.B.v, .string f.B.t] 44)).alloc (.cells #[vi ki 0, vi ki 0, .bool false, .string ⟨#[]⟩] 23))) := (((Below.refl _ _).alloc (by simp <;> omega) _).alloc (by simp <;> omega) _)
 have X0 : Hid (Bx ((w.alloc (.cells #[.bool f.h, vi ki f.fr, vi ki f.off, vi ki f.A.m, vi ki f.A.k, vi ki f.A.d, vi ki f.A.n, vi ki f.A.s, .int .u8 f.A.z, vi ki f.A.v, .string f.A.t, vi ki f.B.m, vi ki f.B.k, vi ki f.B.d, vi ki f.B.n, vi ki f.B.s, .int .u8 f.B.z, vi ki f.B.v, .string f.B.t] 44)).alloc (.cells #[vi ki 0, vi ki 0, .bool false, .string ⟨#[]⟩] 23)) (w.heap.size) ([.bool f.h, vi ki f.fr, vi ki f.off, vi ki f.A.m, vi ki f.A.k, vi ki f.A.d, vi ki f.A.n, vi ki f.A.s, .int .u8 f.A.z, vi ki f.A.v, .string f.A.t, vi ki f.B.m, vi ki f.B.k, vi ki f.B.d, vi ki f.B.n, vi ki f.B.s, .int .u8 f.B.z, vi ki f.B.v, .string f.B.t])) := ((Bx.newAt w ([.bool f.h, vi ki f.fr, vi ki f.off, vi ki f.A.m, vi ki f.A.k, vi ki f.A.d, vi ki f.A.n, vi ki f.A.s, .int .u8 f.A.z, vi ki f.A.v, .string f.A.t, vi ki f.B.m, vi ki f.B.k, vi ki f.B.d, vi ki f.B.n, vi ki f.B.s, .int .u8 f.B.z, vi ki f.B.v, .string f.B.t]) _ _ (by simp)).alloc _)
 have X1 : Hid (Bx ((w.alloc (.cells #[.bool f.h, vi ki f.fr, vi ki f.off, vi ki f.A.m, vi ki f.A.k, vi ki f.A.d, vi ki f.A.n, vi ki f.A.s, .int .u8 f.A.z, vi ki f.A.v, .string f.A.t, vi ki f.B.m, vi ki f.B.k, vi ki f.B.d, vi ki f.B.n, vi ki f.B.s, .int .u8 f.B.z, vi ki f.B.v, .string f.B.t] 44)).alloc (.cells #[vi ki 0, vi ki 0, .bool false, .string ⟨#[]⟩] 23)) (w.heap.size + 1) (z4)) := (Bx.newAt (w.alloc (.cells #[.bool f.h, vi ki f.fr, vi ki f.off, vi ki f.A.m, vi ki f.A.k, vi ki f.A.d, vi ki f.A.n, vi ki f.A.s, .int .u8 f.A.z, vi ki f.A.v, .string f.A.t, vi ki f.B.m, vi ki f.B.k, vi ki f.B.d, vi ki f.B.n, vi ki f.B.s, .int .u8 f.B.z, vi ki f.B.v, .string f.B.t] 44)) (z4) _ _ (by simp))
 have L1 : Hid (Cvl.Lens ((w.alloc (.cells #[.bool f.h, vi ki f.fr, vi ki f.off, vi ki f.A.m, vi ki f.A.k, vi ki f.A.d, vi ki f.A.n, vi ki f.A.s, .int .u8 f.A.z, vi ki f.A.v, .string f.A.t, vi ki f.B.m, vi ki f.B.k, vi ki f.B.d, vi ki f.B.n, vi ki f.B.s, .int .u8 f.B.z, vi ki f.B.v, .string f.B.t] 44)).alloc (.cells #[vi ki 0, vi ki 0, .bool false, .string ⟨#[]⟩] 23))) := Lens_below hL0.out HB.out (Lens_lt hL0.out)
 have T1 : Hid (Clk.Tab ((w.alloc (.cells #[.bool f.h, vi ki f.fr, vi ki f.off, vi ki f.A.m, vi ki f.A.k, vi ki f.A.d, vi ki f.A.n, vi ki f.A.s, .int .u8 f.A.z, vi ki f.A.v, .string f.A.t, vi ki f.B.m, vi ki f.B.k, vi ki f.B.d, vi ki f.B.n, vi ki f.B.s, .int .u8 f.B.z, vi ki f.B.v, .string f.B.t] 44)).alloc (.cells #[vi ki 0, vi ki 0, .bool false, .string ⟨#[]⟩] 23))) := hT0.out.below HB.out
 go_enter Tryz.func57, Tryz.ntmps57
 go_wp2_with (first | (refine wpList_load_mid rfl 44 _ rfl w.heap.size 0 rfl [.bool f.h, vi ki f.fr, vi ki f.off, vi ki f.A.m, vi ki f.A.k, vi ki f.A.d, vi ki f.A.n, vi ki f.A.s, .int .u8 f.A.z, vi ki f.A.v, .string f.A.t, vi ki f.B.m, vi ki f.B.k, vi ki f.B.d, vi ki f.B.n, vi ki f.B.s, .int .u8 f.B.z, vi ki f.B.v, .string f.B.t] _ X0.out.all Tryz.underlying44 rfl (by kernel_rfl) ?_) | fail)
 refine (AR.out _ L1.out T1.out).mono ?_
 rintro e w1 ⟨rfl, hb⟩
 have HB1 : Hid (Below w.heap.size w w1) := HB.out.trans (hb.mono HB.out.size)
 have Y1 : Hid (Bx w1 (w.heap.size + 1) z4) := X1.out.below hb
 clear hb HB X0 X1 L1 T1 AR
 have hlt := Y1.out.1
 have Z1 : Hid (Bx ((w1.alloc (.cells #[vi ki p.t, vi ki p.o, .bool p.d, .string p.a] 23)).alloc (.cells #[vi ki q.t, vi ki q.o, .bool q.d, .string q.a] 23)) (w.heap.size + 1) z4) := (Y1.out.alloc _).alloc _
 have ZB : Hid (Below w.heap.size w ((w1.alloc (.cells #[vi ki p.t, vi ki p.o, .bool p.d, .string p.a] 23)).alloc (.cells #[vi ki q.t, vi ki q.o, .bool q.d, .string q.a] 23))) := (HB1.out.alloc HB1.out.size _).alloc (by have := HB1.out.size; simp; omega) _
 go_wp2_with (first | (refine wpList_store_mid rfl 23 _ _ rfl (w.heap.size + 1) 0 #[vi ki p.t, vi ki p.o, .bool p.d, .string p.a] rfl rfl Z1.out.there (by kernel_rfl) (tL_one p) ?_; refine gen_list (fun V => Bx V (w.heap.size + 1) (tL p) ∧ Below w.heap.size w V) ⟨Z1.out.setAll (tL p) rfl, below_setCells (by omega) _ _ _ ZB.out⟩ ?_; rintro V ⟨U1, UB⟩) | fail)
 exact bodyPost_ret (v := .tuple #[.agg #[vi ki p.t, vi ki p.o, .bool p.d, .string p.a], vi ki er]) (results_cell_t rfl _ _ _ _ _ rfl rfl (run_loadVar_mid _ _ _ _ (tL p) _ U1.all Tryz.underlying23 rfl (by kernel_rfl))) rfl ⟨rfl, UB⟩
theorem next_run (f : Ft) (t : Int) (p q : Tr) (er : Int)
  (AR : Hid (∀ w : World, Cvl.Lens w → Clk.Tab w → Calls Tryz.prog 81 #[.agg #[.bool f.h, vi ki f.fr, vi ki f.off, vi ki f.A.m, vi ki f.A.k, vi ki f.A.d, vi ki f.A.n, vi ki f.A.s, .int .u8 f.A.z, vi ki f.A.v, .string f.A.t, vi ki f.B.m, vi ki f.B.k, vi ki f.B.d, vi ki f.B.n, vi ki f.B.s, .int .u8 f.B.z, vi ki f.B.v, .string f.B.t], vi ki t] w fun e w' => e = zr (.tuple #[.agg #[vi ki p.t, vi ki p.o, .bool p.d, .string p.a], .agg #[vi ki q.t, vi ki q.o, .bool q.d, .string q.a], vi ki er]) ∧ Below w.heap.size w w'))
  (w : World) (hL0 : Hid (Cvl.Lens w)) (hT0 : Hid (Clk.Tab w)) :
  Calls Tryz.prog 135 #[.agg #[.bool f.h, vi ki f.fr, vi ki f.off, vi ki f.A.m, vi ki f.A.k, vi ki f.A.d, vi ki f.A.n, vi ki f.A.s, .int .u8 f.A.z, vi ki f.A.v, .string f.A.t, vi ki f.B.m, vi ki f.B.k, vi ki f.B.d, vi ki f.B.n, vi ki f.B.s, .int .u8 f.B.z, vi ki f.B.v, .string f.B.t], vi ki t] w fun e w' => e = zr (.tuple #[.agg #[vi ki q.t, vi ki q.o, .bool q.d, .string q.a], vi ki er]) ∧ Below w.heap.size w w' := by
 have HB : Hid (Below w.heap.size w ((w.alloc (.cells #[.bool f.h, vi ki f.fr, vi ki f.off, vi ki f.A.m, vi ki f.A.k, vi ki f.A.d, vi ki f.A.n, vi ki f.A.s, .int .u8 f.A.z, vi ki f.A.v, .string f.A.t, vi ki f.B.m, vi ki f.B.k, vi ki f.B.d, vi ki f.B.n, vi ki f.B.s, .int .u8 f.B.z, vi ki f.B.v, .string f.B.t] 44)).alloc (.cells #[vi ki 0, vi ki 0, .bool false, .string ⟨#[]⟩] 23))) := (((Below.refl _ _).alloc (by simp <;> omega) _).alloc (by simp <;> omega) _)
 have X0 : Hid (Bx ((w.alloc (.cells #[.bool f.h, vi ki f.fr, vi ki f.off, vi ki f.A.m, vi ki f.A.k, vi ki f.A.d, vi ki f.A.n, vi ki f.A.s, .int .u8 f.A.z, vi ki f.A.v, .string f.A.t, vi ki f.B.m, vi ki f.B.k, vi ki f.B.d, vi ki f.B.n, vi ki f.B.s, .int .u8 f.B.z, vi ki f.B.v, .string f.B.t] 44)).alloc (.cells #[vi ki 0, vi ki 0, .bool false, .string ⟨#[]⟩] 23)) (w.heap.size) ([.bool f.h, vi ki f.fr, vi ki f.off, vi ki f.A.m, vi ki f.A.k, vi ki f.A.d, vi ki f.A.n, vi ki f.A.s, .int .u8 f.A.z, vi ki f.A.v, .string f.A.t, vi ki f.B.m, vi ki f.B.k, vi ki f.B.d, vi ki f.B.n, vi ki f.B.s, .int .u8 f.B.z, vi ki f.B.v, .string f.B.t])) := ((Bx.newAt w ([.bool f.h, vi ki f.fr, vi ki f.off, vi ki f.A.m, vi ki f.A.k, vi ki f.A.d, vi ki f.A.n, vi ki f.A.s, .int .u8 f.A.z, vi ki f.A.v, .string f.A.t, vi ki f.B.m, vi ki f.B.k, vi ki f.B.d, vi ki f.B.n, vi ki f.B.s, .int .u8 f.B.z, vi ki f.B.v, .string f.B.t]) _ _ (by simp)).alloc _)
 have X1 : Hid (Bx ((w.alloc (.cells #[.bool f.h, vi ki f.fr, vi ki f.off, vi ki f.A.m, vi ki f.A.k, vi ki f.A.d, vi ki f.A.n, vi ki f.A.s, .int .u8 f.A.z, vi ki f.A.v, .string f.A.t, vi ki f.B.m, vi ki f.B.k, vi ki f.B.d, vi ki f.B.n, vi ki f.B.s, .int .u8 f.B.z, vi ki f.B.v, .string f.B.t] 44)).alloc (.cells #[vi ki 0, vi ki 0, .bool false, .string ⟨#[]⟩] 23)) (w.heap.size + 1) (z4)) := (Bx.newAt (w.alloc (.cells #[.bool f.h, vi ki f.fr, vi ki f.off, vi ki f.A.m, vi ki f.A.k, vi ki f.A.d, vi ki f.A.n, vi ki f.A.s, .int .u8 f.A.z, vi ki f.A.v, .string f.A.t, vi ki f.B.m, vi ki f.B.k, vi ki f.B.d, vi ki f.B.n, vi ki f.B.s, .int .u8 f.B.z, vi ki f.B.v, .string f.B.t] 44)) (z4) _ _ (by simp))
 have L1 : Hid (Cvl.Lens ((w.alloc (.cells #[.bool f.h, vi ki f.fr, vi ki f.off, vi ki f.A.m, vi ki f.A.k, vi ki f.A.d, vi ki f.A.n, vi ki f.A.s, .int .u8 f.A.z, vi ki f.A.v, .string f.A.t, vi ki f.B.m, vi ki f.B.k, vi ki f.B.d, vi ki f.B.n, vi ki f.B.s, .int .u8 f.B.z, vi ki f.B.v, .string f.B.t] 44)).alloc (.cells #[vi ki 0, vi ki 0, .bool false, .string ⟨#[]⟩] 23))) := Lens_below hL0.out HB.out (Lens_lt hL0.out)
 have T1 : Hid (Clk.Tab ((w.alloc (.cells #[.bool f.h, vi ki f.fr, vi ki f.off, vi ki f.A.m, vi ki f.A.k, vi ki f.A.d, vi ki f.A.n, vi ki f.A.s, .int .u8 f.A.z, vi ki f.A.v, .string f.A.t, vi ki f.B.m, vi ki f.B.k, vi ki f.B.d, vi ki f.B.n, vi ki f.B.s, .int .u8 f.B.z, vi ki f.B.v, .string f.B.t] 44)).alloc (.cells #[vi ki 0, vi ki 0, .bool false, .string ⟨#[]⟩] 23))) := hT0.out.below HB.out
 go_enter Tryz.func135, Tryz.ntmps135
 go_wp2_with (first | (refine wpList_load_mid rfl 44 _ rfl w.heap.size 0 rfl [.bool f.h, vi ki f.fr, vi ki f.off, vi ki f.A.m, vi ki f.A.k, vi ki f.A.d, vi ki f.A.n, vi ki f.A.s, .int .u8 f.A.z, vi ki f.A.v, .string f.A.t, vi ki f.B.m, vi ki f.B.k, vi ki f.B.d, vi ki f.B.n, vi ki f.B.s, .int .u8 f.B.z, vi ki f.B.v, .string f.B.t] _ X0.out.all Tryz.underlying44 rfl (by kernel_rfl) ?_) | fail)
 refine (AR.out _ L1.out T1.out).mono ?_
 rintro e w1 ⟨rfl, hb⟩
 have HB1 : Hid (Below w.heap.size w w1) := HB.out.trans (hb.mono HB.out.size)
 have Y1 : Hid (Bx w1 (w.heap.size + 1) z4) := X1.out.below hb
 clear hb HB X0 X1 L1 T1 AR
 have hlt := Y1.out.1
 have Z1 : Hid (Bx ((w1.alloc (.cells #[vi ki p.t, vi ki p.o, .bool p.d, .string p.a] 23)).alloc (.cells #[vi ki q.t, vi ki q.o, .bool q.d, .string q.a] 23)) (w.heap.size + 1) z4) := (Y1.out.alloc _).alloc _
 have ZB : Hid (Below w.heap.size w ((w1.alloc (.cells #[vi ki p.t, vi ki p.o, .bool p.d, .string p.a] 23)).alloc (.cells #[vi ki q.t, vi ki q.o, .bool q.d, .string q.a] 23))) := (HB1.out.alloc HB1.out.size _).alloc (by have := HB1.out.size; simp; omega) _
 go_wp2_with (first | (refine wpList_store_mid rfl 23 _ _ rfl (w.heap.size + 1) 0 #[vi ki q.t, vi ki q.o, .bool q.d, .string q.a] rfl rfl Z1.out.there (by kernel_rfl) (tL_one q) ?_; refine gen_list (fun V => Bx V (w.heap.size + 1) (tL q) ∧ Below w.heap.size w V) ⟨Z1.out.setAll (tL q) rfl, below_setCells (by omega) _ _ _ ZB.out⟩ ?_; rintro V ⟨U1, UB⟩) | fail)
 exact bodyPost_ret (v := .tuple #[.agg #[vi ki q.t, vi ki q.o, .bool q.d, .string q.a], vi ki er]) (results_cell_t rfl _ _ _ _ _ rfl rfl (run_loadVar_mid _ _ _ _ (tL q) _ U1.all Tryz.underlying23 rfl (by kernel_rfl))) rfl ⟨rfl, UB⟩
theorem hL_one (a : Hf) : (hL a).toArray.all (·.oneCell') = true := all_oneCell_toArray (by intro v hv; simp only [hL, List.mem_cons, List.not_mem_nil, or_false] at hv; rcases hv with rfl | rfl | rfl | rfl | rfl | rfl | rfl | rfl <;> rfl)
theorem list2 {α : Type} {l : List α} (h : l.length = 2) : ∃ c0 c1, l = [c0, c1] := by
 match l, h with
 | [c0, c1], _ => exact ⟨c0, c1, rfl⟩
theorem list3 {α : Type} {l : List α} (h : l.length = 3) : ∃ c0 c1 c2, l = [c0, c1, c2] := by
 match l, h with
 | [c0, c1, c2], _ => exact ⟨c0, c1, c2, rfl⟩
theorem list5 {α : Type} {l : List α} (h : l.length = 5) : ∃ c0 c1 c2 c3 c4, l = [c0, c1, c2, c3, c4] := by
 match l, h with
 | [c0, c1, c2, c3, c4], _ => exact ⟨c0, c1, c2, c3, c4, rfl⟩
theorem list8 {α : Type} {l : List α} (h : l.length = 8) : ∃ c0 c1 c2 c3 c4 c5 c6 c7, l = [c0, c1, c2, c3, c4, c5, c6, c7] := by
 match l, h with
 | [c0, c1, c2, c3, c4, c5, c6, c7], _ => exact ⟨c0, c1, c2, c3, c4, c5, c6, c7, rfl⟩
theorem list19 {α : Type} {l : List α} (h : l.length = 19) : ∃ c0 c1 c2 c3 c4 c5 c6 c7 c8 c9 c10 c11 c12 c13 c14 c15 c16 c17 c18, l = [c0, c1, c2, c3, c4, c5, c6, c7, c8, c9, c10, c11, c12, c13, c14, c15, c16, c17, c18] := by
 match l, h with
 | [c0, c1, c2, c3, c4, c5, c6, c7, c8, c9, c10, c11, c12, c13, c14, c15, c16, c17, c18], _ => exact ⟨c0, c1, c2, c3, c4, c5, c6, c7, c8, c9, c10, c11, c12, c13, c14, c15, c16, c17, c18, rfl⟩
set_option maxRecDepth 100000
theorem laidOutP : laidOutB Tryz.prog = true := by kernel_rfl
section
variable {H : Type} {enc : TypeId × Value → H} {w : World} {base : Nat} {spare : Nat → Bool} {held : Bool}
open Go.ChangeShapes Go.WideShapes Go.ChangeAt Go.WideMaps Go.WideElems
theorem trod5 {P : Program} {t : TypeId} {f0 f1 f2 f3 f4 : Field} {fuel : Nat} {cs : List Value} {x : DataW H × List MemPlace} (ht : P.underlying t = some (.struct #[f0, f1, f2, f3, f4])) (h : DataW.trod enc P w base spare held fuel t cs = some x) :
  ∃ y0 y1 y2 y3 y4 n, cs.length = P.cellsOf t ∧ DataW.trod enc P w base spare held n f0.type ((cs.drop f0.offset).take (P.cellsOf f0.type)) = some y0 ∧
   DataW.trod enc P w base spare held n f1.type ((cs.drop f1.offset).take (P.cellsOf f1.type)) = some y1 ∧ DataW.trod enc P w base spare held n f2.type ((cs.drop f2.offset).take (P.cellsOf f2.type)) = some y2 ∧
   DataW.trod enc P w base spare held n f3.type ((cs.drop f3.offset).take (P.cellsOf f3.type)) = some y3 ∧ DataW.trod enc P w base spare held n f4.type ((cs.drop f4.offset).take (P.cellsOf f4.type)) = some y4 := by
 obtain ⟨xs, n, _, _, hl, hlen, hf⟩ := DataW.trod_struct ht h
 obtain ⟨y0, y1, y2, y3, y4, rfl⟩ := list5 hlen
 exact ⟨y0, y1, y2, y3, y4, n, hl, by simpa using hf 0 f0 rfl, by simpa using hf 1 f1 rfl, by simpa using hf 2 f2 rfl, by simpa using hf 3 f3 rfl, by simpa using hf 4 f4 rfl⟩
theorem on_open {n : Nat} {cs : List Value} {y : DataW H × List MemPlace} (h : DataW.trod enc Tryz.prog w base spare held n 26 cs = some y) :
  ∃ k d m : Int, cs = [vi ki k, vi ki d, vi ki m] ∧ (Lit.int .i64 k).wf = true ∧ (Lit.int .i64 d).wf = true ∧ (Lit.int .i64 m).wf = true := by
 obtain ⟨y0, y1, y2, n', _, hl, h0, h1, h2⟩ := Deep.trod_struct3 Tryz.underlying26 h
 have hc : cs.length = 3 := hl.trans (show Tryz.prog.cellsOf 26 = 3 by kernel_rfl)
 obtain ⟨c0, c1, c2, rfl⟩ := list3 hc
 ·obtain ⟨k, e0, _, w0⟩ := DataW.trod_int Tryz.underlying3 h0
  obtain ⟨d, e1, _, w1⟩ := DataW.trod_int Tryz.underlying2 h1
  obtain ⟨m, e2, _, w2⟩ := DataW.trod_int Tryz.underlying2 h2
  rw [show Tryz.prog.cellsOf 3 = 1 by kernel_rfl] at e0
  rw [show Tryz.prog.cellsOf 2 = 1 by kernel_rfl] at e1 e2
  simp at e0 e1 e2
  exact ⟨k, d, m, by rw [e0, e1, e2], w0, w1, w2⟩
theorem at_open {n : Nat} {cs : List Value} {y : DataW H × List MemPlace} (h : DataW.trod enc Tryz.prog w base spare held n 28 cs = some y) :
  ∃ s z : Int, cs = [vi ki s, .int .u8 z] ∧ (Lit.int .i64 s).wf = true ∧ (Lit.int .u8 z).wf = true := by
 obtain ⟨y0, y1, n', _, hl, h0, h1⟩ := trod_struct2 Tryz.underlying28 h
 have hc : cs.length = 2 := hl.trans (show Tryz.prog.cellsOf 28 = 2 by kernel_rfl)
 obtain ⟨c0, c1, rfl⟩ := list2 hc
 ·obtain ⟨k, e0, _, w0⟩ := DataW.trod_int Tryz.underlying2 h0
  obtain ⟨d, e1, _, w1⟩ := DataW.trod_int Tryz.underlying5 h1
  rw [show Tryz.prog.cellsOf 2 = 1 by kernel_rfl] at e0
  rw [show Tryz.prog.cellsOf 5 = 1 by kernel_rfl] at e1
  simp at e0 e1
  exact ⟨k, d, by rw [e0, e1], w0, w1⟩
def wfH (a : Hf) : Prop := (Lit.int .i64 a.m).wf = true ∧ (Lit.int .i64 a.k).wf = true ∧ (Lit.int .i64 a.d).wf = true ∧ (Lit.int .i64 a.n).wf = true ∧ (Lit.int .i64 a.s).wf = true ∧ (Lit.int .u8 a.z).wf = true ∧ (Lit.int .i64 a.v).wf = true
def wfF (f : Ft) : Prop := (Lit.int .i64 f.off).wf = true ∧ wfH f.A ∧ wfH f.B
theorem half_open {n : Nat} {cs : List Value} {y : DataW H × List MemPlace} (h : DataW.trod enc Tryz.prog w base spare held n 30 cs = some y) : ∃ a : Hf, cs = hL a ∧ wfH a := by
 obtain ⟨x0, x1, x2, x3, x4, n', hl, h0, h1, h2, h3, h4⟩ := trod5 Tryz.underlying30 h
 have hc : cs.length = 8 := hl.trans (show Tryz.prog.cellsOf 30 = 8 by kernel_rfl)
 obtain ⟨c0, c1, c2, c3, c4, c5, c6, c7, rfl⟩ := list8 hc
 · skip
   simp only [show Tryz.prog.cellsOf 2 = 1 by kernel_rfl, show Tryz.prog.cellsOf 26 = 3 by kernel_rfl, show Tryz.prog.cellsOf 28 = 2 by kernel_rfl, show Tryz.prog.cellsOf 9 = 1 by kernel_rfl, List.drop_succ_cons, List.drop_zero, List.take_succ_cons, List.take_zero] at h0 h1 h2 h3 h4
   obtain ⟨m, e0, _, w0⟩ := DataW.trod_int Tryz.underlying2 h0
   obtain ⟨k, d, n0, e1, w1, w2, w3⟩ := on_open h1
   obtain ⟨s, z, e2, w4, w5⟩ := at_open h2
   obtain ⟨v, e3, _, w6⟩ := DataW.trod_int Tryz.underlying2 h3
   obtain ⟨t, e4, _, w7⟩ := DataW.trod_string Tryz.underlying9 h4
   simp only [List.cons.injEq, and_true] at e0 e1 e2 e3 e4
   exact ⟨⟨m, k, d, n0, s, z, v, t⟩, by unfold hL; rw [e0, e1.1, e1.2.1, e1.2.2, e2.1, e2.2, e3, e4], w0, w1, w2, w3, w4, w5, w6⟩
end
def zF : List Value := [.bool false, vi ki 0, vi ki 0, vi ki 0, vi ki 0, vi ki 0, vi ki 0, vi ki 0, .int .u8 0, vi ki 0, .string ⟨#[]⟩, vi ki 0, vi ki 0, vi ki 0, vi ki 0, vi ki 0, .int .u8 0, vi ki 0, .string ⟨#[]⟩]
theorem fL_one (f : Ft) : (fL f).toArray.all (·.oneCell') = true := all_oneCell_toArray (by
 intro v hv
 simp only [fL, List.mem_cons, List.not_mem_nil, or_false] at hv
 repeat' (rcases hv with rfl | hv)
 all_goals first | rfl | (subst hv; rfl))
def GS (w : World) (f : Ft) (W : World) : Prop := Below w.heap.size w W ∧ Bx W w.heap.size (fL f) ∧ (Bx W (w.heap.size + 1) zF ∨ Bx W (w.heap.size + 1) (fL f))
theorem GS.below {w W V : World} {f : Ft} (h : GS w f W) (hb : Below W.heap.size W V) : GS w f V := ⟨h.1.trans (hb.mono h.1.size), h.2.1.below hb, h.2.2.imp (·.below hb) (·.below hb)⟩
theorem GS.there {w W : World} {f : Ft} (h : GS w f W) : W.there (w.heap.size + 1) 0 19 := by rcases h.2.2 with q | q <;> exact q.there
theorem GS.done {w W : World} {f : Ft} (h : GS w f W) : Bx (W.setCells (w.heap.size + 1) 0 (fL f)) (w.heap.size + 1) (fL f) := by rcases h.2.2 with q | q <;> exact q.setAll (fL f) rfl
theorem GS.put {w W : World} {f : Ft} (h : GS w f W) : GS w f (W.setCells (w.heap.size + 1) 0 (fL f)) := ⟨below_setCells (by omega) _ _ _ h.1, h.2.1.setOther (by omega) _, .inr h.done⟩
end Go.Proofs.YtpdmndlpgjjopaaGreatDoor.Fn
namespace Go.Proofs.YtpdmndlpgjjopaaGreatDoor
open Go.RowKit
structure TbR where
 nm : ByteArray
 first : TrR
 trs : List TrR
 foot : Fn.Ft
def tbL (t : TbR) (v : Value) : List Value := .string t.nm :: (trC t.first ++ (v :: Fn.fL t.foot))
def wfT (x : TrR) : Prop := (Lit.int .i64 x.at_).wf = true ∧ (Lit.int .i64 x.off).wf = true
def TransA (W : World) (v : Value) (L : List TrR) : Prop := (v = .slice none 0 0 ∧ L = []) ∨ ∃ a cap, v = .slice (some a) L.length cap ∧ L.length ≤ cap ∧ cap ≤ maxLen ∧ ∀ j u, (trCs L)[j]? = some u → W.cell? (a.add j) = some u
set_option maxRecDepth 100000
theorem cells30 : Tryz.prog.cellsOf 23 = 4 := by kernel_rfl
theorem bytes30 : Tryz.prog.bytesOf 23 = 40 := by kernel_rfl
theorem list4 {α : Type} {l : List α} (h : l.length = 4) : ∃ c0 c1 c2 c3, l = [c0, c1, c2, c3] := by
 match l, h with
 | [c0, c1, c2, c3], _ => exact ⟨c0, c1, c2, c3, rfl⟩
section
variable {H : Type} {enc : TypeId × Value → H} {w : World} {base : Nat} {spare : Nat → Bool} {held : Bool}
open Go.ChangeShapes Go.WideShapes Go.ChangeAt Go.WideMaps Go.WideElems
theorem trod4 {P : Program} {t : TypeId} {f0 f1 f2 f3 : Field} {fuel : Nat} {cs : List Value} {x : DataW H × List MemPlace} (ht : P.underlying t = some (.struct #[f0, f1, f2, f3])) (h : DataW.trod enc P w base spare held fuel t cs = some x) :
  ∃ y0 y1 y2 y3 n, x.1 = .agg [y0.1, y1.1, y2.1, y3.1] ∧ cs.length = P.cellsOf t ∧ DataW.trod enc P w base spare held n f0.type ((cs.drop f0.offset).take (P.cellsOf f0.type)) = some y0 ∧
   DataW.trod enc P w base spare held n f1.type ((cs.drop f1.offset).take (P.cellsOf f1.type)) = some y1 ∧ DataW.trod enc P w base spare held n f2.type ((cs.drop f2.offset).take (P.cellsOf f2.type)) = some y2 ∧
   DataW.trod enc P w base spare held n f3.type ((cs.drop f3.offset).take (P.cellsOf f3.type)) = some y3 := by
 obtain ⟨xs, n, _, hx, hl, hlen, hf⟩ := DataW.trod_struct ht h
 obtain ⟨y0, y1, y2, y3, rfl⟩ := list4 hlen
 exact ⟨y0, y1, y2, y3, n, by rw [hx]; rfl, hl, by simpa using hf 0 f0 rfl, by simpa using hf 1 f1 rfl, by simpa using hf 2 f2 rfl, by simpa using hf 3 f3 rfl⟩
theorem tran_open {n : Nat} {cs : List Value} {y : DataW H × List MemPlace} (h : DataW.trod enc Tryz.prog w base spare held n 23 cs = some y) : ∃ x : TrR, cs = trC x ∧ wfT x := by
 obtain ⟨y0, y1, y2, y3, n', _, hl, h0, h1, h2, h3⟩ := trod4 Tryz.underlying23 h
 have hc : cs.length = 4 := hl.trans cells30
 obtain ⟨c0, c1, c2, c3, rfl⟩ := list4 hc
 simp only [show Tryz.prog.cellsOf 2 = 1 by kernel_rfl, show Tryz.prog.cellsOf 4 = 1 by kernel_rfl, show Tryz.prog.cellsOf 9 = 1 by kernel_rfl, List.drop_succ_cons, List.drop_zero, List.take_succ_cons, List.take_zero] at h0 h1 h2 h3
 obtain ⟨a, e0, _, w0⟩ := DataW.trod_int Tryz.underlying2 h0
 obtain ⟨o, e1, _, w1⟩ := DataW.trod_int Tryz.underlying2 h1
 obtain ⟨d, e2, _⟩ := DataW.trod_bool Tryz.underlying4 h2
 obtain ⟨s, e3, _, w3⟩ := DataW.trod_string Tryz.underlying9 h3
 simp only [List.cons.injEq, and_true] at e0 e1 e2 e3
 exact ⟨⟨a, o, d, s⟩, by unfold trC; rw [e0, e1, e2, e3], w0, w1⟩
theorem trans_open {n : Nat} {v : Value} {y : DataW H × List MemPlace} (h : DataW.trod enc Tryz.prog w 0 (fun _ => true) held n 24 [v] = some y) :
  ∃ (L : List TrR), TransA w v L ∧ (∀ x ∈ L, wfT x) ∧ (y.1 = .nil ∧ L = [] ∨ ∃ es sp, y.1 = .slice es sp ∧ es.length = L.length) := by
 rcases DataW.trod_slice Tryz.underlying24 h with ⟨hcs, hx⟩ | ⟨a, len, cap, elems, rest, n', _, hcs, hx, _, hl, hm, hlen, hel, _, _⟩
 ·simp only [List.cons.injEq, and_true] at hcs
  exact ⟨[], .inl ⟨hcs, rfl⟩, fun x hx => by simp at hx, .inl ⟨by rw [hx], rfl⟩⟩
 ·simp only [List.cons.injEq, and_true] at hcs
  rw [cells30] at hel
  have each : ∀ k, k < len → ∃ x : TrR, w.cells? 0 (a.add (k * 4)) 4 = some (trC x) ∧ wfT x := by
   intro k hk
   have := hel k hk
   rw [List.getElem?_eq_getElem (by omega), Option.bind_eq_some_iff] at this
   obtain ⟨cs, h1, h2⟩ := this
   obtain ⟨x, rfl, hw⟩ := tran_open h2
   exact ⟨x, h1, hw⟩
  have build : ∀ k, k ≤ len → ∃ L : List TrR, L.length = k ∧ (∀ x ∈ L, wfT x) ∧ ∀ j u, (trCs L)[j]? = some u → w.cell? (a.add j) = some u := by
   intro k
   induction k with
   | zero => exact fun _ => ⟨[], rfl, fun x hx => by simp at hx, fun j u hj => by simp [trCs] at hj⟩
   | succ k ih =>
    intro hk
    obtain ⟨L, hL, hwf, hc⟩ := ih (by omega)
    obtain ⟨x, hx1, hx2⟩ := each k (by omega)
    refine ⟨L ++ [x], by simp [hL], fun z hz => ?_, fun j u hj => ?_⟩
    ·rcases List.mem_append.1 hz with hz | hz
     ·exact hwf z hz
     ·simp at hz; subst hz; exact hx2
    ·rw [trCs_app] at hj
     by_cases hlt : j < (trCs L).length
     ·rw [List.getElem?_append_left hlt] at hj; exact hc j u hj
     ·rw [List.getElem?_append_right (by omega), trCs_len, hL] at hj
      rw [trCs_len, hL] at hlt
      have hj' : (trC x)[j - k * 4]? = some u := by simpa [trCs] using hj
      have h4 : j - k * 4 < 4 := by have := (List.getElem?_eq_some_iff.1 hj').1; simpa [trC] using this
      have hcell : w.cell? ((a.add (k * 4)).add (j - k * 4)) = some u := by
       unfold World.cells? at hx1
       rw [if_pos (Nat.zero_le _)] at hx1
       have hm9 := hx1
       simp only [List.range, List.range.loop, List.mapM_cons, List.mapM_nil, Option.bind_eq_bind, Option.bind_eq_some_iff, Option.pure_def, Option.some.injEq, trC, List.cons.injEq] at hm9
       obtain ⟨u0, g0, _, ⟨u1, g1, _, ⟨u2, g2, _, ⟨u3, g3, _, rfl, rfl⟩, rfl⟩, rfl⟩, e⟩ := hm9
       simp only [List.cons.injEq, and_true] at e
       obtain ⟨e0, e1, e2, e3⟩ := e
       rcases (show j - k * 4 = 0 ∨ j - k * 4 = 1 ∨ j - k * 4 = 2 ∨ j - k * 4 = 3 by omega) with q | q | q | q <;> rw [q] at hj' ⊢ <;> simp [trC] at hj' <;> subst hj'
       ·rw [g0, e0]
       ·rw [g1, e1]
       ·rw [g2, e2]
       ·rw [g3, e3]
      have hadd : (a.add (k * 4)).add (j - k * 4) = a.add j := by rw [Addr.add_add, show k * 4 + (j - k * 4) = j by omega]
      rw [hadd] at hcell; exact hcell
  obtain ⟨L, hL, hwf, hc⟩ := build len (Nat.le_refl _)
  refine ⟨L, .inr ⟨a, cap, by rw [hL]; exact hcs, by rw [hL]; exact hl, hm, hc⟩, hwf, .inr ⟨elems.map (·.1), rest.map (·.1), by rw [hx], by simp [hlen, hL]⟩⟩
theorem foot_cells {n : Nat} {cs : List Value} {y : DataW H × List MemPlace} (h : DataW.trod enc Tryz.prog w base spare held n 32 cs = some y) : ∃ f : Fn.Ft, cs = Fn.fL f ∧ Fn.wfF f ∧ (Lit.int .i64 f.fr).wf = true := by
 obtain ⟨x0, x1, x2, x3, x4, n', hl, h0, h1, h2, h3, h4⟩ := Fn.trod5 Tryz.underlying32 h
 have hc : cs.length = 19 := hl.trans (show Tryz.prog.cellsOf 32 = 19 by kernel_rfl)
 obtain ⟨c0, c1, c2, c3, c4, c5, c6, c7, c8, c9, c10, c11, c12, c13, c14, c15, c16, c17, c18, rfl⟩ := Fn.list19 hc
 simp only [show Tryz.prog.cellsOf 4 = 1 by kernel_rfl, show Tryz.prog.cellsOf 2 = 1 by kernel_rfl, show Tryz.prog.cellsOf 30 = 8 by kernel_rfl, List.drop_succ_cons, List.drop_zero, List.take_succ_cons, List.take_zero] at h0 h1 h2 h3 h4
 obtain ⟨hs, e0, _⟩ := DataW.trod_bool Tryz.underlying4 h0
 obtain ⟨fr, e1, _, w1⟩ := DataW.trod_int Tryz.underlying2 h1
 obtain ⟨off, e2, _, w2⟩ := DataW.trod_int Tryz.underlying2 h2
 obtain ⟨A, e3, w3⟩ := Fn.half_open h3
 obtain ⟨B, e4, w4⟩ := Fn.half_open h4
 unfold Fn.hL at e3 e4
 simp only [List.cons.injEq, and_true] at e0 e1 e2 e3 e4
 obtain ⟨a0, a1, a2, a3, a4, a5, a6, a7⟩ := e3
 obtain ⟨b0, b1, b2, b3, b4, b5, b6, b7⟩ := e4
 exact ⟨⟨hs, fr, off, A, B⟩, by unfold Fn.fL; rw [e0, e1, e2, a0, a1, a2, a3, a4, a5, a6, a7, b0, b1, b2, b3, b4, b5, b6, b7], ⟨w2, w3, w4⟩, w1⟩
theorem split25 {l : List Value} (h : l.length = 25) : ∃ (c0 : Value) (f : List Value) (c5 : Value) (r : List Value), l = c0 :: (f ++ (c5 :: r)) ∧ f.length = 4 ∧ r.length = 19 := by
 refine ⟨l[0]'(by omega), (l.drop 1).take 4, l[5]'(by omega), l.drop 6, ?_, by simp; omega, by simp; omega⟩
 conv => lhs; rw [← List.take_append_drop 6 l]
 apply List.ext_getElem?
 intro i
 by_cases h6 : i < 6
 ·rw [List.getElem?_append_left (by simp; omega)]
  rcases (show i = 0 ∨ i = 1 ∨ i = 2 ∨ i = 3 ∨ i = 4 ∨ i = 5 by omega) with q | q | q | q | q | q <;> subst q <;> simp [h]
 ·rw [List.getElem?_append_right (by simp; omega)]
  obtain ⟨k, rfl⟩ : ∃ k, i = k + 6 := ⟨i - 6, by omega⟩
  simp [List.getElem?_append, h]
  rw [if_neg (by omega)]; congr 1; omega
theorem table_open {r : Reach} {b0 : Nat} {v : Value} {d : DataW H} {p : List MemPlace} (hv : Value.okWide Tryz.prog w r b0 34 v) (h : DataW.Trod enc Tryz.prog w 0 (fun _ => true) held 34 v d p) :
  ∃ (t : TbR) (sv : Value), v = .agg (tbL t sv).toArray ∧ TransA w sv t.trs ∧ (∀ x ∈ t.trs, wfT x) ∧ wfT t.first ∧ Fn.wfF t.foot ∧ (Lit.int .i64 t.foot.fr).wf = true ∧ ∃ e0 e1 e2 e3, d = .agg [e0, e1, e2, e3] ∧ (e2 = .nil ∧ t.trs = [] ∨ ∃ es sp, e2 = .slice es sp ∧ es.length = t.trs.length) := by
 obtain ⟨cs, rfl, hsz⟩ := okWide_struct Tryz.underlying34 hv
 obtain ⟨fuel, hq⟩ := h
 obtain ⟨y0, y1, y2, y3, n', hd, hl, h0, h1, h2, h3⟩ := trod4 Tryz.underlying34 hq
 obtain ⟨cs⟩ := cs
 have hc : cs.length = 25 := hsz.trans (show Tryz.prog.cellsOf 34 = 25 by kernel_rfl)
 obtain ⟨c0, f, c5, rr, rfl, hf, hr⟩ := split25 hc
 obtain ⟨f0, f1, f2, f3, rfl⟩ := list4 hf
 simp only [show Tryz.prog.cellsOf 9 = 1 by kernel_rfl, cells30, show Tryz.prog.cellsOf 24 = 1 by kernel_rfl, show Tryz.prog.cellsOf 32 = 19 by kernel_rfl, Value.cells, List.drop_succ_cons, List.drop_zero, List.take_succ_cons, List.take_zero, List.cons_append, List.nil_append] at h0 h1 h2 h3
 obtain ⟨nm, e0, _, _⟩ := DataW.trod_string Tryz.underlying9 h0
 obtain ⟨x, e1, w1⟩ := tran_open h1
 obtain ⟨L, hT, hwf, hy⟩ := trans_open h2
 rw [List.take_of_length_le (by omega)] at h3
 obtain ⟨ft, e3, w3, w4⟩ := foot_cells h3
 simp only [List.cons.injEq, and_true] at e0
 refine ⟨⟨nm, x, L, ft⟩, c5, ?_, hT, hwf, w1, w3, w4, y0.1, y1.1, y2.1, y3.1, hd, hy⟩
 unfold tbL
 rw [e0, ← e1, ← e3]
end
open Go.RowKit Sr
end Go.Proofs.YtpdmndlpgjjopaaGreatDoor
namespace Go.Proofs.YtpdmndlpgjjopaaGreatDoor.Fn
open Go.RowKit
theorem cum_lin (y m : Int) (h1 : 1 ≤ m) (h2 : m ≤ 12) : 152 * (m - 1) - 10 ≤ 5 * Cv.cum y m ∧ 5 * Cv.cum y m ≤ 152 * (m - 1) + 10 := by
 have l := Cv.lp_01 y
 rcases Cv.twelve h1 h2 with rfl | rfl | rfl | rfl | rfl | rfl | rfl | rfl | rfl | rfl | rfl | rfl <;> simp [Cv.cum] <;> omega
theorem day_bd {y m k d n : Int} (h : dyA m k d n) (hy : dyY y) : fst1 y m - 6 ≤ dyV y m k d n ∧ dyV y m k d n ≤ fst1 y m + 36 := by
 have l := Cv.len_01 y m h.2.1 h.2.2
 unfold dyV
 rw [if_pos h, if_pos hy]
 unfold dayN
 have b1 := bk_bd (fst1 y m + Cv.len y m - 1) d
 have b2 := bk_bd (fst1 y m + n - 1) d
 have b3 := bk_bd (fst1 y m + n - 1 + 7 - 1) d
 rcases h.1 with a | a | a
 ·rw [if_pos a.1]; omega
 ·rw [if_neg (by omega), if_pos a.1]; omega
 ·rw [if_neg (by omega), if_neg (by omega)]; split <;> omega
theorem inst_bd {d s k o v : Int} (s1 : 0 ≤ s) (s2 : s ≤ 86400) (o1 : -50400 ≤ o) (o2 : o ≤ 50400) (v1 : 0 ≤ v) (v2 : v ≤ 7200) :
  (d + 10957) * 86400 - 57600 ≤ inst d s k o v ∧ inst d s k o v ≤ (d + 10957) * 86400 + 136800 := by
 unfold inst
 split
 ·omega
 ·split <;> omega
theorem tr_bd {off : Int} {h g : Hf} {y : Int} (hh : okH h = true) (hg : okH g = true) (o1 : -50400 ≤ off) (o2 : off ≤ 50400) (hy : dyY y) :
  (Cv.S y + Cv.cum y h.m - 6 + 10957) * 86400 - 57600 ≤ (trOf off h g y).t ∧ (trOf off h g y).t ≤ (Cv.S y + Cv.cum y h.m + 36 + 10957) * 86400 + 136800 := by
 obtain ⟨a1, a2, a3, a4⟩ := okH_of hh
 obtain ⟨b1, b2, b3, b4⟩ := okH_of hg
 obtain ⟨s1, s2, _⟩ := a2
 have d := day_bd (y := y) a1 hy
 have i := inst_bd (d := dyV y h.m h.k h.d h.n) (k := h.z) s1 s2 o1 o2 b3 b4
 unfold fst1 at d
 show _ ≤ inst (dyV y h.m h.k h.d h.n) h.s h.z off g.v ∧ inst (dyV y h.m h.k h.d h.n) h.s h.z off g.v ≤ _
 omega
theorem far_of {m n : Int} (h : far m n = true) : (m + 2 ≤ n ∧ n ≤ m + 10) ∨ (n + 2 ≤ m ∧ m ≤ n + 10) := by
 have := of_decide_eq_true h
 split at this <;> omega
def lo (f : Ft) : Hf := if f.A.m < f.B.m then f.A else f.B
def hi (f : Ft) : Hf := if f.A.m < f.B.m then f.B else f.A
structure LH (f : Ft) : Prop where
 l : okH (lo f) = true
 h : okH (hi f) = true
 o1 : -50400 ≤ f.off
 o2 : f.off ≤ 50400
 a : (lo f).m + 2 ≤ (hi f).m
 b : (hi f).m ≤ (lo f).m + 10
 m1 : 1 ≤ (lo f).m
 m2 : (hi f).m ≤ 12
theorem lh_of {f : Ft} (hf : okF f = true) : LH f := by
 obtain ⟨o1, o2, hA, hB, hr, _⟩ := okF_of hf
 have a := (okH_of hA).1.2
 have b := (okH_of hB).1.2
 have r := far_of hr
 by_cases h : f.A.m < f.B.m
 ·have e1 : lo f = f.A := if_pos h
  have e2 : hi f = f.B := if_pos h
  exact ⟨by rw [e1]; exact hA, by rw [e2]; exact hB, o1, o2, by rw [e1, e2]; omega, by rw [e1, e2]; omega, by rw [e1]; omega, by rw [e2]; omega⟩
 ·have e1 : lo f = f.B := if_neg h
  have e2 : hi f = f.A := if_neg h
  exact ⟨by rw [e1]; exact hB, by rw [e2]; exact hA, o1, o2, by rw [e1, e2]; omega, by rw [e1, e2]; omega, by rw [e1]; omega, by rw [e2]; omega⟩
theorem lo_hi {f : Ft} (L : LH f) {y : Int} (hy : dyY y) : (trOf f.off (lo f) (hi f) y).t < (trOf f.off (hi f) (lo f) y).t ∧ (trOf f.off (hi f) (lo f) y).t < (trOf f.off (lo f) (hi f) y).t + 400 * 86400 := by
 have b1 := tr_bd (y := y) L.l L.h L.o1 L.o2 hy
 have b2 := tr_bd (y := y) L.h L.l L.o1 L.o2 hy
 have c1 := cum_lin y (lo f).m L.m1 (by have := L.a; have := L.m2; omega)
 have c2 := cum_lin y (hi f).m (by have := L.a; have := L.m1; omega) L.m2
 have := L.a
 have := L.b
 omega
theorem hi_lo {f : Ft} (L : LH f) {y : Int} (hy : dyY y) (hy' : dyY (y + 1)) : (trOf f.off (hi f) (lo f) y).t < (trOf f.off (lo f) (hi f) (y + 1)).t ∧ (trOf f.off (lo f) (hi f) (y + 1)).t < (trOf f.off (hi f) (lo f) y).t + 400 * 86400 := by
 have b1 := tr_bd (y := y + 1) L.l L.h L.o1 L.o2 hy'
 have b2 := tr_bd (y := y) L.h L.l L.o1 L.o2 hy
 have c1 := cum_lin (y + 1) (lo f).m L.m1 (by have := L.a; have := L.m2; omega)
 have c2 := cum_lin y (hi f).m (by have := L.a; have := L.m1; omega) L.m2
 have s := Cv.S_succ y
 have l := Cv.lp_01 y
 have := L.a
 have := L.b
 omega
theorem sh_is {f : Ft} (L : LH f) {y : Int} (hy : dyY y) : sh1 f y = trOf f.off (lo f) (hi f) y ∧ sh2 f y = trOf f.off (hi f) (lo f) y := by
 have h := (lo_hi L hy).1
 by_cases q : f.A.m < f.B.m
 ·have e1 : lo f = f.A := if_pos q
  have e2 : hi f = f.B := if_pos q
  rw [e1, e2] at h ⊢
  unfold sh1 sh2
  rw [if_neg (by omega), if_neg (by omega)]
  exact ⟨rfl, rfl⟩
 ·have e1 : lo f = f.B := if_neg q
  have e2 : hi f = f.A := if_neg q
  rw [e1, e2] at h ⊢
  unfold sh1 sh2
  rw [if_pos h, if_pos h]
  exact ⟨rfl, rfl⟩
def gs (f : Ft) (j : Int) : Tr := if j % 2 = 0 then sh1 f (j / 2) else sh2 f (j / 2)
theorem gs_0 (f : Ft) (y : Int) : gs f (2 * y) = sh1 f y := by unfold gs; rw [if_pos (by omega), show 2 * y / 2 = y by omega]
theorem gs_1 (f : Ft) (y : Int) : gs f (2 * y + 1) = sh2 f y := by unfold gs; rw [if_neg (by omega), show (2 * y + 1) / 2 = y by omega]
theorem shK_gs (f : Ft) (y0 : Int) (k : Nat) : shK f y0 k = gs f (2 * y0 + k) := by
 unfold shK gs
 by_cases h : k % 2 = 0
 ·rw [if_pos h, if_pos (by omega), show (2 * y0 + (k : Int)) / 2 = y0 + ((k / 2 : Nat) : Int) by omega]
 ·rw [if_neg h, if_neg (by omega), show (2 * y0 + (k : Int)) / 2 = y0 + ((k / 2 : Nat) : Int) by omega]
def inG (j : Int) : Prop := -9434 ≤ j ∧ j ≤ 588562
theorem gs_step {f : Ft} (L : LH f) {j : Int} (h : inG j) : (gs f j).t < (gs f (j + 1)).t ∧ (gs f (j + 1)).t < (gs f j).t + 400 * 86400 := by
 unfold inG at h
 obtain ⟨y, hy | hy⟩ : ∃ y, j = 2 * y ∨ j = 2 * y + 1 := ⟨j / 2, by omega⟩
 ·subst hy
  rw [gs_0, gs_1]
  have q : dyY y := by unfold dyY; omega
  rw [(sh_is L q).1, (sh_is L q).2]
  exact lo_hi L q
 ·subst hy
  rw [show 2 * y + 1 + 1 = 2 * (y + 1) by omega, gs_0, gs_1]
  have q : dyY y := by unfold dyY; omega
  have q' : dyY (y + 1) := by unfold dyY; omega
  rw [(sh_is L q).2, (sh_is L q').1]
  exact hi_lo L q q'
theorem gs_mono {f : Ft} (L : LH f) (i : Int) (h : -9434 ≤ i) : ∀ n : Nat, i + n ≤ 588562 → (gs f i).t < (gs f (i + n + 1)).t
 | 0, hn => by have := (gs_step L (j := i) ⟨h, by omega⟩).1; simpa using this
 | n + 1, hn => by
  have a := gs_mono L i h n (by omega)
  have b := (gs_step L (j := i + n + 1) ⟨by omega, by omega⟩).1
  rw [show i + ((n + 1 : Nat) : Int) + 1 = i + n + 1 + 1 by omega]
  omega
theorem gs_lt {f : Ft} (L : LH f) {i j : Int} (hi : -9434 ≤ i) (hij : i < j) (hj : j ≤ 588563) : (gs f i).t < (gs f j).t := by
 have := gs_mono L i hi (j - i - 1).toNat (by omega)
 rwa [show i + ((j - i - 1).toNat : Int) + 1 = j by omega] at this
def St (f : Ft) (t j : Int) : Prop := -9434 ≤ j ∧ j ≤ 588562 ∧ (gs f j).t ≤ t ∧ t < (gs f (j + 1)).t
theorem St.one {f : Ft} (L : LH f) {t i j : Int} (a : St f t i) (b : St f t j) : i = j := by
 obtain ⟨a1, a2, a3, a4⟩ := a
 obtain ⟨b1, b2, b3, b4⟩ := b
 rcases Int.lt_trichotomy i j with h | h | h
 ·exfalso
  have : (gs f (i + 1)).t ≤ (gs f j).t := by
   by_cases e : i + 1 = j
   ·rw [e]; exact Int.le_refl _
   ·have := gs_lt L (i := i + 1) (j := j) (by omega) (by omega) (by omega); omega
  omega
 ·exact h
 ·exfalso
  have : (gs f (j + 1)).t ≤ (gs f i).t := by
   by_cases e : j + 1 = i
   ·rw [e]; exact Int.le_refl _
   ·have := gs_lt L (i := j + 1) (j := i) (by omega) (by omega) (by omega); omega
  omega
theorem ends {f : Ft} (L : LH f) {t y : Int} (hy : YAt t y) (y1 : -4714 ≤ y) (y2 : y ≤ 294278) : (gs f (2 * (y - 1))).t ≤ t ∧ t < (gs f (2 * (y - 1) + 5)).t := by
 obtain ⟨hc, a, b⟩ : Cvl.can (t / 86400 - 10957) = true ∧ Cv.S y ≤ t / 86400 - 10957 ∧ t / 86400 - 10957 < Cv.S (y + 1) := by
  rcases hy with h | ⟨_, _, h⟩ | ⟨_, _, h⟩
  ·exact h
  ·omega
  ·omega
 have q0 : dyY (y - 1) := by unfold dyY; omega
 have q1 : dyY (y + 1) := by unfold dyY; omega
 have s := Cv.S_succ (y - 1)
 rw [show y - 1 + 1 = y by omega] at s
 have l := Cv.lp_01 (y - 1)
 have := L.a
 have := L.b
 have := L.m1
 have := L.m2
 constructor
 ·rw [gs_0, (sh_is L q0).1]
  have b1 := tr_bd (y := y - 1) L.l L.h L.o1 L.o2 q0
  have c1 := cum_lin (y - 1) (lo f).m L.m1 (by omega)
  omega
 ·rw [show 2 * (y - 1) + 5 = 2 * (y + 1) + 1 by omega, gs_1, (sh_is L q1).2]
  have b2 := tr_bd (y := y + 1) L.h L.l L.o1 L.o2 q1
  have c2 := cum_lin (y + 1) (hi f).m (by omega) L.m2
  omega
theorem findK {f : Ft} (L : LH f) {t y : Int} (hy : YAt t y) (y1 : -4714 ≤ y) (y2 : y ≤ 294278) :
  ∃ K : Nat, 1 ≤ K ∧ K < 6 ∧ t < (shK f (y - 1) K).t ∧ (∀ k, k < K → (shK f (y - 1) k).t ≤ t) ∧ St f t (2 * (y - 1) + K - 1) := by
 obtain ⟨e0, e5⟩ := ends L hy y1 y2
 have key : ∀ n : Nat, n ≤ 5 → (∃ K : Nat, 1 ≤ K ∧ K ≤ n ∧ t < (shK f (y - 1) K).t ∧ (∀ k, k < K → (shK f (y - 1) k).t ≤ t)) ∨ (∀ k, k ≤ n → (shK f (y - 1) k).t ≤ t) := by
  intro n
  induction n with
  | zero => exact fun _ => .inr (fun k hk => by obtain rfl : k = 0 := (by omega); rw [shK_gs]; simpa using e0)
  | succ n ih =>
   intro hn
   rcases ih (by omega) with ⟨K, a, b, c, d⟩ | h
   ·exact .inl ⟨K, a, by omega, c, d⟩
   ·by_cases q : t < (shK f (y - 1) (n + 1)).t
    ·exact .inl ⟨n + 1, by omega, Nat.le_refl _, q, fun k hk => h k (by omega)⟩
    ·exact .inr (fun k hk => by
      by_cases e : k = n + 1
      ·rw [e]; omega
      ·exact h k (by omega))
 rcases key 5 (Nat.le_refl _) with ⟨K, a, b, c, d⟩ | h
 ·refine ⟨K, a, by omega, c, d, by omega, by omega, ?_, ?_⟩
  ·have := d (K - 1) (by omega)
   rw [shK_gs, show 2 * (y - 1) + ((K - 1 : Nat) : Int) = 2 * (y - 1) + K - 1 by omega] at this
   exact this
  ·rw [shK_gs] at c
   rw [show 2 * (y - 1) + (K : Int) - 1 + 1 = 2 * (y - 1) + K by omega]
   exact c
 ·have := h 5 (Nat.le_refl _)
  rw [shK_gs] at this
  have e : 2 * (y - 1) + ((5 : Nat) : Int) = 2 * (y - 1) + 5 := rfl
  rw [e] at this
  omega
theorem stand_ok (f : Ft) (t y : Int) (hf : okF f = true) (hy : YAt t y) (y1 : -4714 ≤ y) (y2 : y ≤ 294278) (t1 : -9223372036854775808 ≤ t) (t2 : t ≤ 9223372036854775807) :
  ∃ j, St f t j ∧ (∀ w : World, Cvl.Lens w → Clk.Tab w → Calls Tryz.prog 57 #[.agg #[.bool f.h, vi ki f.fr, vi ki f.off, vi ki f.A.m, vi ki f.A.k, vi ki f.A.d, vi ki f.A.n, vi ki f.A.s, .int .u8 f.A.z, vi ki f.A.v, .string f.A.t, vi ki f.B.m, vi ki f.B.k, vi ki f.B.d, vi ki f.B.n, vi ki f.B.s, .int .u8 f.B.z, vi ki f.B.v, .string f.B.t], vi ki t] w fun e w' => e = zr (.tuple #[.agg #[vi ki (gs f j).t, vi ki (gs f j).o, .bool (gs f j).d, .string (gs f j).a], vi ki 0]) ∧ Below w.heap.size w w') ∧
   (∀ w : World, Cvl.Lens w → Clk.Tab w → Calls Tryz.prog 135 #[.agg #[.bool f.h, vi ki f.fr, vi ki f.off, vi ki f.A.m, vi ki f.A.k, vi ki f.A.d, vi ki f.A.n, vi ki f.A.s, .int .u8 f.A.z, vi ki f.A.v, .string f.A.t, vi ki f.B.m, vi ki f.B.k, vi ki f.B.d, vi ki f.B.n, vi ki f.B.s, .int .u8 f.B.z, vi ki f.B.v, .string f.B.t], vi ki t] w fun e w' => e = zr (.tuple #[.agg #[vi ki (gs f (j + 1)).t, vi ki (gs f (j + 1)).o, .bool (gs f (j + 1)).d, .string (gs f (j + 1)).a], vi ki 0]) ∧ Below w.heap.size w w') := by
 obtain ⟨K, k1, k2, hK, hlo, hS⟩ := findK (lh_of hf) hy y1 y2
 refine ⟨_, hS, ?_⟩
 have A : ∀ w : World, Cvl.Lens w → Clk.Tab w → Calls Tryz.prog 81 #[.agg #[.bool f.h, vi ki f.fr, vi ki f.off, vi ki f.A.m, vi ki f.A.k, vi ki f.A.d, vi ki f.A.n, vi ki f.A.s, .int .u8 f.A.z, vi ki f.A.v, .string f.A.t, vi ki f.B.m, vi ki f.B.k, vi ki f.B.d, vi ki f.B.n, vi ki f.B.s, .int .u8 f.B.z, vi ki f.B.v, .string f.B.t], vi ki t] w fun e w' => e = zr (.tuple #[.agg (tL (gs f (2 * (y - 1) + K - 1))).toArray, .agg (tL (gs f (2 * (y - 1) + K - 1 + 1))).toArray, vi ki 0]) ∧ Below w.heap.size w w' := fun w hL hT => by
  have R := around_ok f t y K hf hy y1 y2 t1 t2 k1 k2 hK hlo w hL hT
  have e1 : shK f (y - 1) (K - 1) = gs f (2 * (y - 1) + K - 1) := by rw [shK_gs]; congr 1; omega
  have e2 : shK f (y - 1) K = gs f (2 * (y - 1) + K - 1 + 1) := by rw [shK_gs]; congr 1; omega
  rw [e1, e2] at R
  exact R
 exact ⟨fun w hL hT => at_run f t _ _ 0 A w hL hT, fun w hL hT => next_run f t _ _ 0 A w hL hT⟩
def fK : Ft := ⟨true, 0, 3600, ⟨3, 1, 0, 0, 3600, 117, 3600, ⟨#[67, 69, 83, 84]⟩⟩, ⟨10, 1, 0, 0, 3600, 117, 0, ⟨#[67, 69, 84]⟩⟩⟩
theorem sK1 : (sh1 fK 2024).t = 1711846800 ∧ (sh1 fK 2024).o = 7200 ∧ (sh1 fK 2024).d = true ∧ (sh1 fK 2024).a = ⟨#[67, 69, 83, 84]⟩ := by decide +kernel
theorem sK2 : (sh2 fK 2024).t = 1729990800 ∧ (sh2 fK 2024).o = 3600 ∧ (sh2 fK 2024).d = false ∧ (sh2 fK 2024).a = ⟨#[67, 69, 84]⟩ := by decide +kernel
def trP : Tr := ⟨1711846800, 7200, true, ⟨#[67, 69, 83, 84]⟩⟩
def trQ : Tr := ⟨1729990800, 3600, false, ⟨#[67, 69, 84]⟩⟩
theorem tr_ext {x y : Tr} (h : x.t = y.t ∧ x.o = y.o ∧ x.d = y.d ∧ x.a = y.a) : x = y := by
 obtain ⟨a, b, c, d⟩ := x
 obtain ⟨a', b', c', d'⟩ := y
 obtain ⟨h1, h2, h3, h4⟩ := h
 subst h1 h2 h3 h4
 rfl
theorem eK1 : sh1 fK 2024 = trP := tr_ext sK1
theorem eK2 : sh2 fK 2024 = trQ := tr_ext sK2
theorem stK : St fK 1711846800 4048 := by
 refine ⟨by omega, by omega, ?_, ?_⟩
 ·rw [show (4048 : Int) = 2 * 2024 by omega, gs_0, eK1]; decide
 ·rw [show (4048 : Int) + 1 = 2 * 2024 + 1 by omega, gs_1, eK2]; decide
end Go.Proofs.YtpdmndlpgjjopaaGreatDoor.Fn
namespace Go.Proofs.YtpdmndlpgjjopaaGreatDoor
open Go.RowKit
open _root_.Go.Proofs.YtpdmndlpgjjopaaGreatDoor.Fn
def z9 : Tr := ⟨0, 0, false, ⟨#[]⟩⟩
def FAt (f : Ft) (t : Int) (p : Tr) (er : Int) : Prop :=
 (er = 0 ∧ okF f = true ∧ ∃ y j, YAt t y ∧ -4714 ≤ y ∧ y ≤ 294278 ∧ St f t j ∧ p = gs f j) ∨ (er ≠ 0 ∧ p = z9 ∧ (okF f = false ∨ ∃ y, YAt t y ∧ (y < -4714 ∨ 294278 < y)))
theorem fat_any (f : Ft) (t : Int) (t1 : -9223372036854775808 ≤ t) (t2 : t ≤ 9223372036854775807) :
  ∃ p er, FAt f t p er ∧ ∀ w : World, Cvl.Lens w → Clk.Tab w → Calls Tryz.prog 57 #[.agg #[.bool f.h, vi ki f.fr, vi ki f.off, vi ki f.A.m, vi ki f.A.k, vi ki f.A.d, vi ki f.A.n, vi ki f.A.s, .int .u8 f.A.z, vi ki f.A.v, .string f.A.t, vi ki f.B.m, vi ki f.B.k, vi ki f.B.d, vi ki f.B.n, vi ki f.B.s, .int .u8 f.B.z, vi ki f.B.v, .string f.B.t], vi ki t] w fun e w' => e = zr (.tuple #[.agg #[vi ki p.t, vi ki p.o, .bool p.d, .string p.a], vi ki er]) ∧ Below w.heap.size w w' := by
 cases hf : okF f with
 | false => exact ⟨z9, 1, .inr ⟨by decide, rfl, .inl hf⟩, fun w hL hT => at_run f t z9 z9 1 (fun w hL hT => around_arg f t hf w hL hT) w hL hT⟩
 | true =>
  obtain ⟨y, hy⟩ := yat_is t
  by_cases hr : y < -4714 ∨ 294278 < y
  ·exact ⟨z9, 10, .inr ⟨by decide, rfl, .inr ⟨y, hy, hr⟩⟩, fun w hL hT => at_run f t z9 z9 10 (fun w hL hT => around_range f t y hf hy t1 t2 (by omega) w hL hT) w hL hT⟩
  ·have y1 : -4714 ≤ y := by omega
   have y2 : y ≤ 294278 := by omega
   obtain ⟨K, k1, k2, hK, hlo, hS⟩ := findK (lh_of hf) hy y1 y2
   refine ⟨_, 0, .inl ⟨rfl, hf, y, _, hy, y1, y2, hS, rfl⟩, fun w hL hT => at_run f t _ (gs f (2 * (y - 1) + K - 1 + 1)) 0 (fun w hL hT => ?_) w hL hT⟩
   have R := around_ok f t y K hf hy y1 y2 t1 t2 k1 k2 hK hlo w hL hT
   have e1 : shK f (y - 1) (K - 1) = gs f (2 * (y - 1) + K - 1) := by rw [shK_gs]; congr 1; omega
   have e2 : shK f (y - 1) K = gs f (2 * (y - 1) + K - 1 + 1) := by rw [shK_gs]; congr 1; omega
   rw [e1, e2] at R
   exact R
end Go.Proofs.YtpdmndlpgjjopaaGreatDoor
namespace Go.Proofs.YtpdmndlpgjjopaaGreatDoor
open Go.RowKit Sr
theorem Bx.rng {W : World} {b : Nat} {l : List Value} (h : Bx W b l) (p cs q : List Value) (e : l = p ++ (cs ++ q)) : W.rangeAt b p.length cs := fun j v hv => by
 refine (h.2 (p.length + j) v ?_).1
 have hj : j < cs.length := (List.getElem?_eq_some_iff.1 hv).1
 rw [e, List.getElem?_append_right (by omega), show p.length + j - p.length = j by omega, List.getElem?_append_left hj]
 exact hv
open _root_.Go.Proofs.YtpdmndlpgjjopaaGreatDoor.Fn (bel_lens)
theorem rf_year (t : TbR) (sv : Value) (y : Int) (hy : y < 1800 ∨ 2110 < y) (YA : Hid (∀ w : World, Cvl.Lens w → Calls Tryz.prog 56 #[vi ki t.foot.fr] w fun e w' => e = zr (vi ki y) ∧ w' = w)) (w : World) (HL : Hid (Cvl.Lens w)) :
  Calls Tryz.prog 33 #[.agg (tbL t sv).toArray] w fun e w' => e = zr (.bool false) ∧ Below w.heap.size w w' := by
 have X1 : Hid (Bx (w.alloc (.cells (tbL t sv).toArray 46)) w.heap.size (tbL t sv)) := Bx.new w (tbL t sv) 46
 have B1 : Hid (Below w.heap.size w (w.alloc (.cells (tbL t sv).toArray 46))) := (Below.refl _ _).alloc (Nat.le_refl _) _
 have S1 : Hid ((w.alloc (.cells (tbL t sv).toArray 46)).heap.size = w.heap.size + 1) := World.size_alloc _ _
 obtain ⟨FL, hFL⟩ : ∃ FL, Fn.fL t.foot = FL := ⟨_, rfl⟩
 have hF19 : FL.length = 19 := by rw [← hFL]; rfl
 have hA19 : FL.toArray.size = 19 := by simp [hF19]
 have hone : FL.toArray.all (·.oneCell') = true := by rw [← hFL]; simp [Fn.fL, Value.oneCell']
 have hF1 : FL[1]? = some (vi ki t.foot.fr) := by rw [← hFL]; rfl
 go_enter Tryz.func33, Tryz.ntmps33
 generalize hUA : (tbL t sv).toArray = UA at *
 go_upto_region 1 with fail
 refine gen_code (fun V => Bx V w.heap.size (tbL t sv) ∧ Below w.heap.size w V ∧ V.heap.size = w.heap.size + 1) ⟨X1.out, B1.out, S1.out⟩ ?_
 clear X1 B1 S1
 rintro V ⟨XV, BV, SV⟩
 have HR : Hid (V.rangeAt w.heap.size 6 FL) := by
  show V.rangeAt _ _ _
  rw [← hFL]
  exact XV.rng (.string t.nm :: (trC t.first ++ [sv])) (Fn.fL t.foot) [] rfl
 have X2 : Hid (Bx (V.alloc (.cells [.bool false, vi ki 0, vi ki 0, vi ki 0, vi ki 0, vi ki 0, vi ki 0, vi ki 0, .int .u8 0, vi ki 0, .string ⟨#[]⟩, vi ki 0, vi ki 0, vi ki 0, vi ki 0, vi ki 0, .int .u8 0, vi ki 0, .string ⟨#[]⟩].toArray 44)) (w.heap.size + 1) [.bool false, vi ki 0, vi ki 0, vi ki 0, vi ki 0, vi ki 0, vi ki 0, vi ki 0, .int .u8 0, vi ki 0, .string ⟨#[]⟩, vi ki 0, vi ki 0, vi ki 0, vi ki 0, vi ki 0, .int .u8 0, vi ki 0, .string ⟨#[]⟩]) := Bx.newAt V _ 44 _ SV
 have HTH : Hid ((V.alloc (.cells [.bool false, vi ki 0, vi ki 0, vi ki 0, vi ki 0, vi ki 0, vi ki 0, vi ki 0, .int .u8 0, vi ki 0, .string ⟨#[]⟩, vi ki 0, vi ki 0, vi ki 0, vi ki 0, vi ki 0, .int .u8 0, vi ki 0, .string ⟨#[]⟩].toArray 44)).there (w.heap.size + 1) 0 FL.toArray.size) := by show World.there _ _ _ _; rw [hA19]; exact X2.out.there
 have B2 : Hid (Below w.heap.size w (V.alloc (.cells [.bool false, vi ki 0, vi ki 0, vi ki 0, vi ki 0, vi ki 0, vi ki 0, vi ki 0, .int .u8 0, vi ki 0, .string ⟨#[]⟩, vi ki 0, vi ki 0, vi ki 0, vi ki 0, vi ki 0, .int .u8 0, vi ki 0, .string ⟨#[]⟩].toArray 44))) := BV.alloc BV.size _
 have X3 : Hid (Bx (V.alloc (.cells [.bool false, vi ki 0, vi ki 0, vi ki 0, vi ki 0, vi ki 0, vi ki 0, vi ki 0, .int .u8 0, vi ki 0, .string ⟨#[]⟩, vi ki 0, vi ki 0, vi ki 0, vi ki 0, vi ki 0, .int .u8 0, vi ki 0, .string ⟨#[]⟩].toArray 44)) w.heap.size (tbL t sv)) := XV.alloc _
 clear XV BV
 go_upto_region 2 with (first | (refine wpList_load_mid rfl 44 _ rfl w.heap.size 6 rfl FL _ HR.out Tryz.underlying44 rfl (by rw [hF19]; kernel_rfl) ?_) | (refine wpList_store_mid rfl 44 _ _ rfl (w.heap.size + 1) 0 FL.toArray rfl rfl HTH.out (by rw [hA19]; kernel_rfl) hone ?_; refine gen_list (fun V => Bx V (w.heap.size + 1) FL ∧ Below w.heap.size w V ∧ Bx V w.heap.size (tbL t sv)) ⟨X2.out.setAll FL (by rw [hF19]; rfl), below_setCells (Nat.le_succ _) _ _ _ B2.out, X3.out.setOther (by omega) FL 0⟩ ?_; clear X2 B2 X3 HTH HR SV; rintro V2 ⟨XF, BV, XV⟩) | fail)
 have f1 := XF.c 1 hF1
 have HLV : Hid (Cvl.Lens V2) := bel_lens BV HL.out
 have HXF : Hid (Bx V2 (w.heap.size + 1) FL) := XF
 have HXV : Hid (Bx V2 w.heap.size (tbL t sv)) := XV
 have HBV : Hid (Below w.heap.size w V2) := BV
 clear XF XV BV
 go_wp2_with fail
 refine (YA.out V2 HLV.out).mono ?_
 rintro e w1 ⟨rfl, hw1⟩
 obtain rfl := hw1.symm
 clear hw1
 go_wp2
 all_goals (first | (go_ret; exact ⟨rfl, HBV.out⟩) | skip)
theorem rf_last (t : TbR) (sv : Value) (y : Int) (hy1 : 1800 ≤ y) (hy2 : y ≤ 2110) (YA : Hid (∀ w : World, Cvl.Lens w → Calls Tryz.prog 56 #[vi ki t.foot.fr] w fun e w' => e = zr (vi ki y) ∧ w' = w)) (x : TrR) (hx : t.trs[t.trs.length - 1]? = some x) (hle : t.foot.fr ≤ x.at_) (w : World) (HL : Hid (Cvl.Lens w)) (HT : Hid (TrAt w sv t.trs)) :
  Calls Tryz.prog 33 #[.agg (tbL t sv).toArray] w fun e w' => e = zr (.bool false) ∧ Below w.heap.size w w' := by
 obtain ⟨⟨ao, c, hsv⟩, hml, _⟩ := HT.out
 obtain ⟨n, hn⟩ : ∃ n, t.trs.length = n := ⟨_, rfl⟩
 rw [hn] at hsv hml
 subst hsv
 unfold maxLen at hml
 obtain ⟨g, o, c', hsv9, hrg⟩ := HT.out.row hx
 rw [hn] at hsv9 hrg
 simp only [Value.slice.injEq, true_and] at hsv9
 obtain ⟨rfl, rfl⟩ := hsv9
 have hnp : 0 < n := by have := (List.getElem?_eq_some_iff.1 hx).1; omega
 have hg : g < w.heap.size := by
  rcases HT.out.2.2 with h0 | ⟨g', o', c9, e9, h9, _⟩
  ·rw [h0] at hn; simp at hn; omega
  ·simp only [Value.slice.injEq, Option.some.injEq, Addr.mk.injEq] at e9; omega
 have hwr : IntKind.i64.wrap ((n : Int) - 1) = (n : Int) - 1 := by rw [IntKind.wrap_i64]; omega
 have X1 : Hid (Bx (w.alloc (.cells (tbL t (.slice (some ⟨g, o, none⟩) n c)).toArray 46)) w.heap.size (tbL t (.slice (some ⟨g, o, none⟩) n c))) := Bx.new w (tbL t (.slice (some ⟨g, o, none⟩) n c)) 46
 have B1 : Hid (Below w.heap.size w (w.alloc (.cells (tbL t (.slice (some ⟨g, o, none⟩) n c)).toArray 46))) := (Below.refl _ _).alloc (Nat.le_refl _) _
 have S1 : Hid ((w.alloc (.cells (tbL t (.slice (some ⟨g, o, none⟩) n c)).toArray 46)).heap.size = w.heap.size + 1) := World.size_alloc _ _
 obtain ⟨FL, hFL⟩ : ∃ FL, Fn.fL t.foot = FL := ⟨_, rfl⟩
 have hF19 : FL.length = 19 := by rw [← hFL]; rfl
 have hA19 : FL.toArray.size = 19 := by simp [hF19]
 have hone : FL.toArray.all (·.oneCell') = true := by rw [← hFL]; simp [Fn.fL, Value.oneCell']
 have hF1 : FL[1]? = some (vi ki t.foot.fr) := by rw [← hFL]; rfl
 go_enter Tryz.func33, Tryz.ntmps33
 generalize hUA : (tbL t (.slice (some ⟨g, o, none⟩) n c)).toArray = UA at *
 go_upto_region 1 with fail
 refine gen_code (fun V => Bx V w.heap.size (tbL t (.slice (some ⟨g, o, none⟩) n c)) ∧ Below w.heap.size w V ∧ V.heap.size = w.heap.size + 1) ⟨X1.out, B1.out, S1.out⟩ ?_
 clear X1 B1 S1
 rintro V ⟨XV, BV, SV⟩
 have HR : Hid (V.rangeAt w.heap.size 6 FL) := by
  show V.rangeAt _ _ _
  rw [← hFL]
  exact XV.rng (.string t.nm :: (trC t.first ++ [.slice (some ⟨g, o, none⟩) n c])) (Fn.fL t.foot) [] rfl
 have X2 : Hid (Bx (V.alloc (.cells [.bool false, vi ki 0, vi ki 0, vi ki 0, vi ki 0, vi ki 0, vi ki 0, vi ki 0, .int .u8 0, vi ki 0, .string ⟨#[]⟩, vi ki 0, vi ki 0, vi ki 0, vi ki 0, vi ki 0, .int .u8 0, vi ki 0, .string ⟨#[]⟩].toArray 44)) (w.heap.size + 1) [.bool false, vi ki 0, vi ki 0, vi ki 0, vi ki 0, vi ki 0, vi ki 0, vi ki 0, .int .u8 0, vi ki 0, .string ⟨#[]⟩, vi ki 0, vi ki 0, vi ki 0, vi ki 0, vi ki 0, .int .u8 0, vi ki 0, .string ⟨#[]⟩]) := Bx.newAt V _ 44 _ SV
 have HTH : Hid ((V.alloc (.cells [.bool false, vi ki 0, vi ki 0, vi ki 0, vi ki 0, vi ki 0, vi ki 0, vi ki 0, .int .u8 0, vi ki 0, .string ⟨#[]⟩, vi ki 0, vi ki 0, vi ki 0, vi ki 0, vi ki 0, .int .u8 0, vi ki 0, .string ⟨#[]⟩].toArray 44)).there (w.heap.size + 1) 0 FL.toArray.size) := by show World.there _ _ _ _; rw [hA19]; exact X2.out.there
 have B2 : Hid (Below w.heap.size w (V.alloc (.cells [.bool false, vi ki 0, vi ki 0, vi ki 0, vi ki 0, vi ki 0, vi ki 0, vi ki 0, .int .u8 0, vi ki 0, .string ⟨#[]⟩, vi ki 0, vi ki 0, vi ki 0, vi ki 0, vi ki 0, .int .u8 0, vi ki 0, .string ⟨#[]⟩].toArray 44))) := BV.alloc BV.size _
 have X3 : Hid (Bx (V.alloc (.cells [.bool false, vi ki 0, vi ki 0, vi ki 0, vi ki 0, vi ki 0, vi ki 0, vi ki 0, .int .u8 0, vi ki 0, .string ⟨#[]⟩, vi ki 0, vi ki 0, vi ki 0, vi ki 0, vi ki 0, .int .u8 0, vi ki 0, .string ⟨#[]⟩].toArray 44)) w.heap.size (tbL t (.slice (some ⟨g, o, none⟩) n c))) := XV.alloc _
 clear XV BV
 go_upto_region 2 with (first | (refine wpList_load_mid rfl 44 _ rfl w.heap.size 6 rfl FL _ HR.out Tryz.underlying44 rfl (by rw [hF19]; kernel_rfl) ?_) | (refine wpList_store_mid rfl 44 _ _ rfl (w.heap.size + 1) 0 FL.toArray rfl rfl HTH.out (by rw [hA19]; kernel_rfl) hone ?_; refine gen_list (fun V => Bx V (w.heap.size + 1) FL ∧ Below w.heap.size w V ∧ Bx V w.heap.size (tbL t (.slice (some ⟨g, o, none⟩) n c))) ⟨X2.out.setAll FL (by rw [hF19]; rfl), below_setCells (Nat.le_succ _) _ _ _ B2.out, X3.out.setOther (by omega) FL 0⟩ ?_; clear X2 B2 X3 HTH HR SV; rintro V2 ⟨XF, BV, XV⟩) | fail)
 have f1 := XF.c 1 hF1
 have HLV : Hid (Cvl.Lens V2) := bel_lens BV HL.out
 have HXF : Hid (Bx V2 (w.heap.size + 1) FL) := XF
 have HXV : Hid (Bx V2 w.heap.size (tbL t (.slice (some ⟨g, o, none⟩) n c))) := XV
 have HBV : Hid (Below w.heap.size w V2) := BV
 clear XF XV BV
 go_wp2_with fail
 refine (YA.out V2 HLV.out).mono ?_
 rintro e w1 ⟨rfl, hw1⟩
 obtain rfl := hw1.symm
 clear hw1
 have v5 := HXV.out.c 5 (v := .slice (some ⟨g, o, none⟩) n c) rfl
 go_upto_region 6 with fail
 have HS6 : Hid ((fun W : World => W.cell? ⟨w.heap.size + 1, 1, none⟩ = some (vi ki t.foot.fr) ∧ W.cell? ⟨w.heap.size, 5, none⟩ = some (.slice (some ⟨g, o, none⟩) n c) ∧ W.cell? ⟨g, o + (n - 1) * 4, none⟩ = some (vi ki x.at_)) V2) := ⟨f1, v5, (HBV.out.cell (p := ⟨g, o + (n - 1) * 4, none⟩) hg).trans (hrg 0 _ rfl)⟩
 refine wp_region_held_drew (S := (fun W : World => W.cell? ⟨w.heap.size + 1, 1, none⟩ = some (vi ki t.foot.fr) ∧ W.cell? ⟨w.heap.size, 5, none⟩ = some (.slice (some ⟨g, o, none⟩) n c) ∧ W.cell? ⟨g, o + (n - 1) * 4, none⟩ = some (vi ki x.at_))) (by kernel_rfl) (by simpa [go_sem] using HS6.out) (fun hHeld => ?_)
 refine tks 0 ⟨some 22, _, _, _, _, none⟩ rfl ?_
 simp only [za, zb, zc, zd]
 refine tks 1 ⟨some 23, _, _, _, _, none⟩ rfl ?_
 simp only [za, zb, zc, zd]
 refine tks 2 ⟨some 24, _, _, _, _, none⟩ rfl ?_
 simp only [za, zb, zc, zd]
 refine tks 3 ⟨some 25, _, _, _, _, some (2, true)⟩ rfl ?_
 simp only [za, zb, zc, zd]
 refine tk (v := ?_) 4 ⟨some 26, _, _, _, _, some (2, true)⟩ rfl ?_ ?_
 case refine_2 => (intro w9 hSw; obtain ⟨s1, s2, s3⟩ := hSw; go_simp; try with_reducible rfl)
 simp only [za, zb, zc, zd]
 refine tks 5 ⟨some 27, _, _, _, _, some (2, true)⟩ rfl ?_
 simp only [za, zb, zc, zd]
 refine tk (v := ?_) 6 ⟨some 28, _, _, _, _, some (2, true)⟩ rfl ?_ ?_
 case refine_2 => (intro w9 hSw; obtain ⟨s1, s2, s3⟩ := hSw; go_simp; try with_reducible rfl)
 simp only [za, zb, zc, zd]
 refine tks 7 ⟨some 29, _, _, _, _, some (2, true)⟩ rfl ?_
 simp only [za, zb, zc, zd]
 refine tks 8 ⟨some 30, _, _, _, _, some (2, true)⟩ rfl ?_
 simp only [za, zb, zc, zd]
 refine wpAnyH_take (i := 9) (v := .pointer (some ⟨g, o + (n - 1) * 4, none⟩)) (oi := ⟨some 31, _, _, _, _, some (2, true)⟩) rfl (by kernel_rfl) (by kernel_rfl) (by kernel_rfl) (fun _ _ _ h => h) (Or.inl ⟨by kernel_rfl, ?_⟩) (by assumption) ?_
 case refine_1 => (rintro w9 -; go_simp; intro h9; exact absurd (h9 (by omega)) (by omega))
 simp only [za, zb, zc, zd]
 refine tks 10 ⟨some 32, _, _, _, _, some (2, true)⟩ rfl ?_
 simp only [za, zb, zc, zd]
 refine tk (v := ?_) 11 ⟨some 33, _, _, _, _, some (2, true)⟩ rfl ?_ ?_
 case refine_2 => (intro w9 hSw; obtain ⟨s1, s2, s3⟩ := hSw; go_simp; try with_reducible rfl)
 simp only [za, zb, zc, zd]
 refine tks 12 ⟨some 34, _, _, _, _, some (2, true)⟩ rfl ?_
 simp only [za, zb, zc, zd]
 refine tks 13 ⟨some 35, _, _, _, _, none⟩ rfl ?_
 simp only [za, zb, zc, zd]
 clear hHeld
 refine wpAnyH_done (by kernel_rfl) ?_ _
 go_wp2
 go_ret
 exact ⟨rfl, (HBV.out.trans (((Below.refl _ _).drew).mono HBV.out.size))⟩
theorem rf_some (t : TbR) (sv : Value) (y : Int) (hy1 : 1800 ≤ y) (hy2 : y ≤ 2110) (YA : Hid (∀ w : World, Cvl.Lens w → Calls Tryz.prog 56 #[vi ki t.foot.fr] w fun e w' => e = zr (vi ki y) ∧ w' = w)) (p : Fn.Tr) (er : Int) (FA : Hid (∀ w : World, Cvl.Lens w → Clk.Tab w → Calls Tryz.prog 57 #[.agg (Fn.fL t.foot).toArray, vi ki t.foot.fr] w fun e w' => e = zr (.tuple #[.agg #[vi ki p.t, vi ki p.o, .bool p.d, .string p.a], vi ki er]) ∧ Below w.heap.size w w')) (x : TrR) (hx : t.trs[t.trs.length - 1]? = some x) (hle : ¬ t.foot.fr ≤ x.at_) (w : World) (HL : Hid (Cvl.Lens w)) (HTb : Hid (Clk.Tab w)) (HT : Hid (TrAt w sv t.trs)) :
  Calls Tryz.prog 33 #[.agg (tbL t sv).toArray] w fun e w' => e = zr (.bool (decide (er = 0) && decide (p.t = t.foot.fr))) ∧ Below w.heap.size w w' := by
 obtain ⟨⟨ao, c, hsv⟩, hml, _⟩ := HT.out
 obtain ⟨n, hn⟩ : ∃ n, t.trs.length = n := ⟨_, rfl⟩
 rw [hn] at hsv hml
 subst hsv
 unfold maxLen at hml
 obtain ⟨g, o, c', hsv9, hrg⟩ := HT.out.row hx
 rw [hn] at hsv9 hrg
 simp only [Value.slice.injEq, true_and] at hsv9
 obtain ⟨rfl, rfl⟩ := hsv9
 have hnp : 0 < n := by have := (List.getElem?_eq_some_iff.1 hx).1; omega
 have hg : g < w.heap.size := by
  rcases HT.out.2.2 with h0 | ⟨g', o', c9, e9, h9, _⟩
  ·rw [h0] at hn; simp at hn; omega
  ·simp only [Value.slice.injEq, Option.some.injEq, Addr.mk.injEq] at e9; omega
 have hwr : IntKind.i64.wrap ((n : Int) - 1) = (n : Int) - 1 := by rw [IntKind.wrap_i64]; omega
 have X1 : Hid (Bx (w.alloc (.cells (tbL t (.slice (some ⟨g, o, none⟩) n c)).toArray 46)) w.heap.size (tbL t (.slice (some ⟨g, o, none⟩) n c))) := Bx.new w (tbL t (.slice (some ⟨g, o, none⟩) n c)) 46
 have B1 : Hid (Below w.heap.size w (w.alloc (.cells (tbL t (.slice (some ⟨g, o, none⟩) n c)).toArray 46))) := (Below.refl _ _).alloc (Nat.le_refl _) _
 have S1 : Hid ((w.alloc (.cells (tbL t (.slice (some ⟨g, o, none⟩) n c)).toArray 46)).heap.size = w.heap.size + 1) := World.size_alloc _ _
 obtain ⟨FL, hFL⟩ : ∃ FL, Fn.fL t.foot = FL := ⟨_, rfl⟩
 have hF19 : FL.length = 19 := by rw [← hFL]; rfl
 have hA19 : FL.toArray.size = 19 := by simp [hF19]
 have hone : FL.toArray.all (·.oneCell') = true := by rw [← hFL]; simp [Fn.fL, Value.oneCell']
 have hF1 : FL[1]? = some (vi ki t.foot.fr) := by rw [← hFL]; rfl
 go_enter Tryz.func33, Tryz.ntmps33
 generalize hUA : (tbL t (.slice (some ⟨g, o, none⟩) n c)).toArray = UA at *
 go_upto_region 1 with fail
 refine gen_code (fun V => Bx V w.heap.size (tbL t (.slice (some ⟨g, o, none⟩) n c)) ∧ Below w.heap.size w V ∧ V.heap.size = w.heap.size + 1) ⟨X1.out, B1.out, S1.out⟩ ?_
 clear X1 B1 S1
 rintro V ⟨XV, BV, SV⟩
 have HR : Hid (V.rangeAt w.heap.size 6 FL) := by
  show V.rangeAt _ _ _
  rw [← hFL]
  exact XV.rng (.string t.nm :: (trC t.first ++ [.slice (some ⟨g, o, none⟩) n c])) (Fn.fL t.foot) [] rfl
 have X2 : Hid (Bx (V.alloc (.cells [.bool false, vi ki 0, vi ki 0, vi ki 0, vi ki 0, vi ki 0, vi ki 0, vi ki 0, .int .u8 0, vi ki 0, .string ⟨#[]⟩, vi ki 0, vi ki 0, vi ki 0, vi ki 0, vi ki 0, .int .u8 0, vi ki 0, .string ⟨#[]⟩].toArray 44)) (w.heap.size + 1) [.bool false, vi ki 0, vi ki 0, vi ki 0, vi ki 0, vi ki 0, vi ki 0, vi ki 0, .int .u8 0, vi ki 0, .string ⟨#[]⟩, vi ki 0, vi ki 0, vi ki 0, vi ki 0, vi ki 0, .int .u8 0, vi ki 0, .string ⟨#[]⟩]) := Bx.newAt V _ 44 _ SV
 have HTH : Hid ((V.alloc (.cells [.bool false, vi ki 0, vi ki 0, vi ki 0, vi ki 0, vi ki 0, vi ki 0, vi ki 0, .int .u8 0, vi ki 0, .string ⟨#[]⟩, vi ki 0, vi ki 0, vi ki 0, vi ki 0, vi ki 0, .int .u8 0, vi ki 0, .string ⟨#[]⟩].toArray 44)).there (w.heap.size + 1) 0 FL.toArray.size) := by show World.there _ _ _ _; rw [hA19]; exact X2.out.there
 have B2 : Hid (Below w.heap.size w (V.alloc (.cells [.bool false, vi ki 0, vi ki 0, vi ki 0, vi ki 0, vi ki 0, vi ki 0, vi ki 0, .int .u8 0, vi ki 0, .string ⟨#[]⟩, vi ki 0, vi ki 0, vi ki 0, vi ki 0, vi ki 0, .int .u8 0, vi ki 0, .string ⟨#[]⟩].toArray 44))) := BV.alloc BV.size _
 have X3 : Hid (Bx (V.alloc (.cells [.bool false, vi ki 0, vi ki 0, vi ki 0, vi ki 0, vi ki 0, vi ki 0, vi ki 0, .int .u8 0, vi ki 0, .string ⟨#[]⟩, vi ki 0, vi ki 0, vi ki 0, vi ki 0, vi ki 0, .int .u8 0, vi ki 0, .string ⟨#[]⟩].toArray 44)) w.heap.size (tbL t (.slice (some ⟨g, o, none⟩) n c))) := XV.alloc _
 clear XV BV
 go_upto_region 2 with (first | (refine wpList_load_mid rfl 44 _ rfl w.heap.size 6 rfl FL _ HR.out Tryz.underlying44 rfl (by rw [hF19]; kernel_rfl) ?_) | (refine wpList_store_mid rfl 44 _ _ rfl (w.heap.size + 1) 0 FL.toArray rfl rfl HTH.out (by rw [hA19]; kernel_rfl) hone ?_; refine gen_list (fun V => Bx V (w.heap.size + 1) FL ∧ Below w.heap.size w V ∧ Bx V w.heap.size (tbL t (.slice (some ⟨g, o, none⟩) n c))) ⟨X2.out.setAll FL (by rw [hF19]; rfl), below_setCells (Nat.le_succ _) _ _ _ B2.out, X3.out.setOther (by omega) FL 0⟩ ?_; clear X2 B2 X3 HTH HR SV; rintro V2 ⟨XF, BV, XV⟩) | fail)
 have f1 := XF.c 1 hF1
 have HLV : Hid (Cvl.Lens V2) := bel_lens BV HL.out
 have HXF : Hid (Bx V2 (w.heap.size + 1) FL) := XF
 have HXV : Hid (Bx V2 w.heap.size (tbL t (.slice (some ⟨g, o, none⟩) n c))) := XV
 have HBV : Hid (Below w.heap.size w V2) := BV
 clear XF XV BV
 go_wp2_with fail
 refine (YA.out V2 HLV.out).mono ?_
 rintro e w1 ⟨rfl, hw1⟩
 obtain rfl := hw1.symm
 clear hw1
 have v5 := HXV.out.c 5 (v := .slice (some ⟨g, o, none⟩) n c) rfl
 go_upto_region 6 with fail
 have HS6 : Hid ((fun W : World => W.cell? ⟨w.heap.size + 1, 1, none⟩ = some (vi ki t.foot.fr) ∧ W.cell? ⟨w.heap.size, 5, none⟩ = some (.slice (some ⟨g, o, none⟩) n c) ∧ W.cell? ⟨g, o + (n - 1) * 4, none⟩ = some (vi ki x.at_)) V2) := ⟨f1, v5, (HBV.out.cell (p := ⟨g, o + (n - 1) * 4, none⟩) hg).trans (hrg 0 _ rfl)⟩
 refine wp_region_held_drew (S := (fun W : World => W.cell? ⟨w.heap.size + 1, 1, none⟩ = some (vi ki t.foot.fr) ∧ W.cell? ⟨w.heap.size, 5, none⟩ = some (.slice (some ⟨g, o, none⟩) n c) ∧ W.cell? ⟨g, o + (n - 1) * 4, none⟩ = some (vi ki x.at_))) (by kernel_rfl) (by simpa [go_sem] using HS6.out) (fun hHeld => ?_)
 refine tks 0 ⟨some 22, _, _, _, _, none⟩ rfl ?_
 simp only [za, zb, zc, zd]
 refine tks 1 ⟨some 23, _, _, _, _, none⟩ rfl ?_
 simp only [za, zb, zc, zd]
 refine tks 2 ⟨some 24, _, _, _, _, none⟩ rfl ?_
 simp only [za, zb, zc, zd]
 refine tks 3 ⟨some 25, _, _, _, _, some (2, true)⟩ rfl ?_
 simp only [za, zb, zc, zd]
 refine tk (v := ?_) 4 ⟨some 26, _, _, _, _, some (2, true)⟩ rfl ?_ ?_
 case refine_2 => (intro w9 hSw; obtain ⟨s1, s2, s3⟩ := hSw; go_simp; try with_reducible rfl)
 simp only [za, zb, zc, zd]
 refine tks 5 ⟨some 27, _, _, _, _, some (2, true)⟩ rfl ?_
 simp only [za, zb, zc, zd]
 refine tk (v := ?_) 6 ⟨some 28, _, _, _, _, some (2, true)⟩ rfl ?_ ?_
 case refine_2 => (intro w9 hSw; obtain ⟨s1, s2, s3⟩ := hSw; go_simp; try with_reducible rfl)
 simp only [za, zb, zc, zd]
 refine tks 7 ⟨some 29, _, _, _, _, some (2, true)⟩ rfl ?_
 simp only [za, zb, zc, zd]
 refine tks 8 ⟨some 30, _, _, _, _, some (2, true)⟩ rfl ?_
 simp only [za, zb, zc, zd]
 refine wpAnyH_take (i := 9) (v := .pointer (some ⟨g, o + (n - 1) * 4, none⟩)) (oi := ⟨some 31, _, _, _, _, some (2, true)⟩) rfl (by kernel_rfl) (by kernel_rfl) (by kernel_rfl) (fun _ _ _ h => h) (Or.inl ⟨by kernel_rfl, ?_⟩) (by assumption) ?_
 case refine_1 => (rintro w9 -; go_simp; intro h9; exact absurd (h9 (by omega)) (by omega))
 simp only [za, zb, zc, zd]
 refine tks 10 ⟨some 32, _, _, _, _, some (2, true)⟩ rfl ?_
 simp only [za, zb, zc, zd]
 refine tk (v := ?_) 11 ⟨some 33, _, _, _, _, some (2, true)⟩ rfl ?_ ?_
 case refine_2 => (intro w9 hSw; obtain ⟨s1, s2, s3⟩ := hSw; go_simp; try with_reducible rfl)
 simp only [za, zb, zc, zd]
 refine tks 12 ⟨some 34, _, _, _, _, some (2, true)⟩ rfl ?_
 simp only [za, zb, zc, zd]
 refine tks 13 ⟨some 35, _, _, _, _, none⟩ rfl ?_
 simp only [za, zb, zc, zd]
 clear hHeld
 refine wpAnyH_done (by kernel_rfl) ?_ _
 go_upto_region 8 with fail
 refine gen_code (fun V => Bx V (w.heap.size + 1) FL ∧ Below w.heap.size w V) ⟨HXF.out.below ((Below.refl _ _).drew), (HBV.out.trans (((Below.refl _ _).drew).mono HBV.out.size))⟩ ?_
 clear HXF HXV HBV HLV f1 v5
 rintro V3 ⟨XF3, B3⟩
 have f1 := XF3.c 1 hF1
 have HX3 : Hid (Bx V3 (w.heap.size + 1) FL) := XF3
 have HB3 : Hid (Below w.heap.size w V3) := B3
 have FA3 := FA.out V3 (bel_lens B3 HL.out) (HTb.out.below B3)
 rw [hFL] at FA3
 clear XF3 B3 FA
 go_upto_region 9 with (first | (refine wpList_load_mid rfl 44 _ rfl (w.heap.size + 1) 0 rfl FL _ HX3.out.all Tryz.underlying44 rfl (by rw [hF19]; kernel_rfl) ?_) | (refine FA3.mono ?_; clear FA3; rintro e w4 ⟨rfl, hb4⟩) | fail)
 refine gen_code (fun V => V.cell? ⟨w.heap.size + 1, 1, none⟩ = some (vi ki t.foot.fr) ∧ V.cell? ⟨w4.heap.size, 0, none⟩ = some (vi ki p.t) ∧ Below w.heap.size w V) ⟨((HX3.out.below hb4).alloc _).c 1 hF1, (Bx.new w4 [vi ki p.t, vi ki p.o, .bool p.d, .string p.a] 23).c 0 rfl, (HB3.out.trans (hb4.mono HB3.out.size)).alloc (HB3.out.trans (hb4.mono HB3.out.size)).size _⟩ ?_
 clear hb4 HX3 HB3 f1
 rintro V5 ⟨k1, k2, k3⟩
 have HB5 : Hid (Below w.heap.size w V5) := k3
 clear k3
 by_cases her : er = 0
 ·go_wp2
  go_ret
  exact ⟨ret_b9 (by first | (simp [her]; done) | (simp [her]; rfl)), HB5.out⟩
 ·go_wp2
  go_ret
  exact ⟨ret_b9 (by first | (simp [her]; done) | (simp [her]; rfl)), HB5.out⟩
theorem rf_none (t : TbR) (sv : Value) (y : Int) (hy1 : 1800 ≤ y) (hy2 : y ≤ 2110) (YA : Hid (∀ w : World, Cvl.Lens w → Calls Tryz.prog 56 #[vi ki t.foot.fr] w fun e w' => e = zr (vi ki y) ∧ w' = w)) (p : Fn.Tr) (er : Int) (FA : Hid (∀ w : World, Cvl.Lens w → Clk.Tab w → Calls Tryz.prog 57 #[.agg (Fn.fL t.foot).toArray, vi ki t.foot.fr] w fun e w' => e = zr (.tuple #[.agg #[vi ki p.t, vi ki p.o, .bool p.d, .string p.a], vi ki er]) ∧ Below w.heap.size w w')) (hx : t.trs = []) (w : World) (HL : Hid (Cvl.Lens w)) (HTb : Hid (Clk.Tab w)) (HT : Hid (TrAt w sv t.trs)) :
  Calls Tryz.prog 33 #[.agg (tbL t sv).toArray] w fun e w' => e = zr (.bool (decide (er = 0) && decide (p.t = t.foot.fr))) ∧ Below w.heap.size w w' := by
 obtain ⟨⟨ao, c, hsv⟩, hml, _⟩ := HT.out
 obtain ⟨n, hn⟩ : ∃ n, t.trs.length = n := ⟨_, rfl⟩
 rw [hn] at hsv hml
 subst hsv
 unfold maxLen at hml
 have hn0 : n = 0 := by rw [← hn, hx]; rfl
 subst hn0
 have X1 : Hid (Bx (w.alloc (.cells (tbL t (.slice ao 0 c)).toArray 46)) w.heap.size (tbL t (.slice ao 0 c))) := Bx.new w (tbL t (.slice ao 0 c)) 46
 have B1 : Hid (Below w.heap.size w (w.alloc (.cells (tbL t (.slice ao 0 c)).toArray 46))) := (Below.refl _ _).alloc (Nat.le_refl _) _
 have S1 : Hid ((w.alloc (.cells (tbL t (.slice ao 0 c)).toArray 46)).heap.size = w.heap.size + 1) := World.size_alloc _ _
 obtain ⟨FL, hFL⟩ : ∃ FL, Fn.fL t.foot = FL := ⟨_, rfl⟩
 have hF19 : FL.length = 19 := by rw [← hFL]; rfl
 have hA19 : FL.toArray.size = 19 := by simp [hF19]
 have hone : FL.toArray.all (·.oneCell') = true := by rw [← hFL]; simp [Fn.fL, Value.oneCell']
 have hF1 : FL[1]? = some (vi ki t.foot.fr) := by rw [← hFL]; rfl
 go_enter Tryz.func33, Tryz.ntmps33
 generalize hUA : (tbL t (.slice ao 0 c)).toArray = UA at *
 go_upto_region 1 with fail
 refine gen_code (fun V => Bx V w.heap.size (tbL t (.slice ao 0 c)) ∧ Below w.heap.size w V ∧ V.heap.size = w.heap.size + 1) ⟨X1.out, B1.out, S1.out⟩ ?_
 clear X1 B1 S1
 rintro V ⟨XV, BV, SV⟩
 have HR : Hid (V.rangeAt w.heap.size 6 FL) := by
  show V.rangeAt _ _ _
  rw [← hFL]
  exact XV.rng (.string t.nm :: (trC t.first ++ [.slice ao 0 c])) (Fn.fL t.foot) [] rfl
 have X2 : Hid (Bx (V.alloc (.cells [.bool false, vi ki 0, vi ki 0, vi ki 0, vi ki 0, vi ki 0, vi ki 0, vi ki 0, .int .u8 0, vi ki 0, .string ⟨#[]⟩, vi ki 0, vi ki 0, vi ki 0, vi ki 0, vi ki 0, .int .u8 0, vi ki 0, .string ⟨#[]⟩].toArray 44)) (w.heap.size + 1) [.bool false, vi ki 0, vi ki 0, vi ki 0, vi ki 0, vi ki 0, vi ki 0, vi ki 0, .int .u8 0, vi ki 0, .string ⟨#[]⟩, vi ki 0, vi ki 0, vi ki 0, vi ki 0, vi ki 0, .int .u8 0, vi ki 0, .string ⟨#[]⟩]) := Bx.newAt V _ 44 _ SV
 have HTH : Hid ((V.alloc (.cells [.bool false, vi ki 0, vi ki 0, vi ki 0, vi ki 0, vi ki 0, vi ki 0, vi ki 0, .int .u8 0, vi ki 0, .string ⟨#[]⟩, vi ki 0, vi ki 0, vi ki 0, vi ki 0, vi ki 0, .int .u8 0, vi ki 0, .string ⟨#[]⟩].toArray 44)).there (w.heap.size + 1) 0 FL.toArray.size) := by show World.there _ _ _ _; rw [hA19]; exact X2.out.there
 have B2 : Hid (Below w.heap.size w (V.alloc (.cells [.bool false, vi ki 0, vi ki 0, vi ki 0, vi ki 0, vi ki 0, vi ki 0, vi ki 0, .int .u8 0, vi ki 0, .string ⟨#[]⟩, vi ki 0, vi ki 0, vi ki 0, vi ki 0, vi ki 0, .int .u8 0, vi ki 0, .string ⟨#[]⟩].toArray 44))) := BV.alloc BV.size _
 have X3 : Hid (Bx (V.alloc (.cells [.bool false, vi ki 0, vi ki 0, vi ki 0, vi ki 0, vi ki 0, vi ki 0, vi ki 0, .int .u8 0, vi ki 0, .string ⟨#[]⟩, vi ki 0, vi ki 0, vi ki 0, vi ki 0, vi ki 0, .int .u8 0, vi ki 0, .string ⟨#[]⟩].toArray 44)) w.heap.size (tbL t (.slice ao 0 c))) := XV.alloc _
 clear XV BV
 go_upto_region 2 with (first | (refine wpList_load_mid rfl 44 _ rfl w.heap.size 6 rfl FL _ HR.out Tryz.underlying44 rfl (by rw [hF19]; kernel_rfl) ?_) | (refine wpList_store_mid rfl 44 _ _ rfl (w.heap.size + 1) 0 FL.toArray rfl rfl HTH.out (by rw [hA19]; kernel_rfl) hone ?_; refine gen_list (fun V => Bx V (w.heap.size + 1) FL ∧ Below w.heap.size w V ∧ Bx V w.heap.size (tbL t (.slice ao 0 c))) ⟨X2.out.setAll FL (by rw [hF19]; rfl), below_setCells (Nat.le_succ _) _ _ _ B2.out, X3.out.setOther (by omega) FL 0⟩ ?_; clear X2 B2 X3 HTH HR SV; rintro V2 ⟨XF, BV, XV⟩) | fail)
 have f1 := XF.c 1 hF1
 have HLV : Hid (Cvl.Lens V2) := bel_lens BV HL.out
 have HXF : Hid (Bx V2 (w.heap.size + 1) FL) := XF
 have HXV : Hid (Bx V2 w.heap.size (tbL t (.slice ao 0 c))) := XV
 have HBV : Hid (Below w.heap.size w V2) := BV
 clear XF XV BV
 go_wp2_with fail
 refine (YA.out V2 HLV.out).mono ?_
 rintro e w1 ⟨rfl, hw1⟩
 obtain rfl := hw1.symm
 clear hw1
 have v5 := HXV.out.c 5 (v := .slice ao 0 c) rfl
 go_upto_region 6 with fail
 refine wp_region_held_drew (S := (fun W : World => True)) (by kernel_rfl) trivial (fun hHeld => ?_)
 refine tks 0 ⟨some 22, _, _, _, _, none⟩ rfl ?_
 simp only [za, zb, zc, zd]
 refine tks 1 ⟨some 23, _, _, _, _, none⟩ rfl ?_
 simp only [za, zb, zc, zd]
 refine tks 2 ⟨some 24, _, _, _, _, none⟩ rfl ?_
 simp only [za, zb, zc, zd]
 refine tku 3 ⟨some 25, _, _, _, _, some (2, true)⟩ rfl ?_
 simp only [za, zb, zc, zd]
 refine tku 4 ⟨some 26, _, _, _, _, some (2, true)⟩ rfl ?_
 simp only [za, zb, zc, zd]
 refine tku 5 ⟨some 27, _, _, _, _, some (2, true)⟩ rfl ?_
 simp only [za, zb, zc, zd]
 refine tku 6 ⟨some 28, _, _, _, _, some (2, true)⟩ rfl ?_
 simp only [za, zb, zc, zd]
 refine tku 7 ⟨some 29, _, _, _, _, some (2, true)⟩ rfl ?_
 simp only [za, zb, zc, zd]
 refine tku 8 ⟨some 30, _, _, _, _, some (2, true)⟩ rfl ?_
 simp only [za, zb, zc, zd]
 refine tku 9 ⟨some 31, _, _, _, _, some (2, true)⟩ rfl ?_
 simp only [za, zb, zc, zd]
 refine tku 10 ⟨some 32, _, _, _, _, some (2, true)⟩ rfl ?_
 simp only [za, zb, zc, zd]
 refine tku 11 ⟨some 33, _, _, _, _, some (2, true)⟩ rfl ?_
 simp only [za, zb, zc, zd]
 refine tku 12 ⟨some 34, _, _, _, _, some (2, true)⟩ rfl ?_
 simp only [za, zb, zc, zd]
 refine tks 13 ⟨some 35, _, _, _, _, none⟩ rfl ?_
 simp only [za, zb, zc, zd]
 clear hHeld
 refine wpAnyH_done (by kernel_rfl) ?_ _
 go_upto_region 8 with fail
 refine gen_code (fun V => Bx V (w.heap.size + 1) FL ∧ Below w.heap.size w V) ⟨HXF.out.below ((Below.refl _ _).drew), (HBV.out.trans (((Below.refl _ _).drew).mono HBV.out.size))⟩ ?_
 clear HXF HXV HBV HLV f1 v5
 rintro V3 ⟨XF3, B3⟩
 have f1 := XF3.c 1 hF1
 have HX3 : Hid (Bx V3 (w.heap.size + 1) FL) := XF3
 have HB3 : Hid (Below w.heap.size w V3) := B3
 have FA3 := FA.out V3 (bel_lens B3 HL.out) (HTb.out.below B3)
 rw [hFL] at FA3
 clear XF3 B3 FA
 go_upto_region 9 with (first | (refine wpList_load_mid rfl 44 _ rfl (w.heap.size + 1) 0 rfl FL _ HX3.out.all Tryz.underlying44 rfl (by rw [hF19]; kernel_rfl) ?_) | (refine FA3.mono ?_; clear FA3; rintro e w4 ⟨rfl, hb4⟩) | fail)
 refine gen_code (fun V => V.cell? ⟨w.heap.size + 1, 1, none⟩ = some (vi ki t.foot.fr) ∧ V.cell? ⟨w4.heap.size, 0, none⟩ = some (vi ki p.t) ∧ Below w.heap.size w V) ⟨((HX3.out.below hb4).alloc _).c 1 hF1, (Bx.new w4 [vi ki p.t, vi ki p.o, .bool p.d, .string p.a] 23).c 0 rfl, (HB3.out.trans (hb4.mono HB3.out.size)).alloc (HB3.out.trans (hb4.mono HB3.out.size)).size _⟩ ?_
 clear hb4 HX3 HB3 f1
 rintro V5 ⟨k1, k2, k3⟩
 have HB5 : Hid (Below w.heap.size w V5) := k3
 clear k3
 by_cases her : er = 0
 ·go_wp2
  go_ret
  exact ⟨ret_b9 (by first | (simp [her]; done) | (simp [her]; rfl)), HB5.out⟩
 ·go_wp2
  go_ret
  exact ⟨ret_b9 (by first | (simp [her]; done) | (simp [her]; rfl)), HB5.out⟩
def lastB (L : List TrR) (fr : Int) : Bool := match L[L.length - 1]? with
 | none => true
 | some x => decide (x.at_ < fr)
def RfIs (t : TbR) (b : Bool) : Prop := ∃ y p er, Fn.YAt t.foot.fr y ∧ FAt t.foot t.foot.fr p er ∧ b = (decide (1800 ≤ y) && decide (y ≤ 2110) && lastB t.trs t.foot.fr && (decide (er = 0) && decide (p.t = t.foot.fr)))
theorem rf_any (t : TbR) (sv : Value) (h1 : -9223372036854775808 ≤ t.foot.fr) (h2 : t.foot.fr ≤ 9223372036854775807) :
  ∃ b, RfIs t b ∧ ∀ w : World, Cvl.Lens w → Clk.Tab w → TrAt w sv t.trs → Calls Tryz.prog 33 #[.agg (tbL t sv).toArray] w fun e w' => e = zr (.bool b) ∧ Below w.heap.size w w' := by
 obtain ⟨y, hy⟩ := Fn.yat_is t.foot.fr
 obtain ⟨p, er, hp, FA⟩ := fat_any t.foot t.foot.fr h1 h2
 refine ⟨_, ⟨y, p, er, hy, hp, rfl⟩, fun w hL hT hA => ?_⟩
 have YA : Hid (∀ w : World, Cvl.Lens w → Calls Tryz.prog 56 #[vi ki t.foot.fr] w fun e w' => e = zr (vi ki y) ∧ w' = w) := fun w hw => Fn.yat_any t.foot.fr y hy h1 h2 w hw
 by_cases hr : y < 1800 ∨ 2110 < y
 ·rw [show (decide (1800 ≤ y) && decide (y ≤ 2110)) = false by simp; omega, Bool.false_and, Bool.false_and]
  exact rf_year t sv y hr YA w hL
 ·have y1 : 1800 ≤ y := by omega
  have y2 : y ≤ 2110 := by omega
  rw [show (decide (1800 ≤ y) && decide (y ≤ 2110)) = true by simp [y1, y2], Bool.true_and]
  cases hx : t.trs[t.trs.length - 1]? with
  | none =>
   have h0 : t.trs = [] := by
    have := List.getElem?_eq_none_iff.1 hx
    exact List.eq_nil_of_length_eq_zero (by omega)
   rw [show lastB t.trs t.foot.fr = true by unfold lastB; rw [hx], Bool.true_and]
   exact rf_none t sv y y1 y2 YA p er FA h0 w hL hT hA
  | some x =>
   by_cases hle : t.foot.fr ≤ x.at_
   ·rw [show lastB t.trs t.foot.fr = false by unfold lastB; rw [hx]; simp; omega, Bool.false_and]
    exact rf_last t sv y y1 y2 YA x hx hle w hL hA
   ·rw [show lastB t.trs t.foot.fr = true by unfold lastB; rw [hx]; simp; omega, Bool.true_and]
    exact rf_some t sv y y1 y2 YA p er FA x hx hle w hL hT hA
def zerF : List Value := [.bool false, vi ki 0, vi ki 0, vi ki 0, vi ki 0, vi ki 0, vi ki 0, vi ki 0, .int .u8 0, vi ki 0, .string ⟨#[]⟩, vi ki 0, vi ki 0, vi ki 0, vi ki 0, vi ki 0, .int .u8 0, vi ki 0, .string ⟨#[]⟩]
def halfZ (a : Fn.Hf) : Bool := a.m == 0 && a.k == 0 && a.d == 0 && a.n == 0 && a.s == 0 && a.z == 0 && a.v == 0 && (a.t.toList == [])
def footZ (f : Fn.Ft) : Bool := !f.h && f.fr == 0 && f.off == 0 && halfZ f.A && halfZ f.B
theorem ite_ok {c : Prop} [Decidable c] (r : Bool) (w : World) : (if c then Result.ok r w else Result.ok false w) = Result.ok (decide c && r) w := by split <;> simp [*]
theorem ite_ok' {c : Prop} [Decidable c] (r : Bool) (w : World) : (if c then Result.ok false w else Result.ok r w) = Result.ok (decide (¬ c) && r) w := by split <;> simp [*]
theorem foot_eq (f : Fn.Ft) (w : World) : (Op.equalIn 10000 44 (.agg (Fn.fL f).toArray) (.agg zerF.toArray)).run Tryz.prog w = .ok (footZ f) w := by
 rw [run_equalIn_struct w 9999 44 _ _ (by kernel_rfl) (by kernel_rfl)]
 unfold Fn.fL zerF
 go_simp
 simp only [ite_ok, ite_ok']
 congr 1
 rw [Bool.eq_iff_iff]
 simp only [footZ, halfZ, Bool.and_eq_true, decide_eq_true_eq, beq_iff_eq, Bool.not_eq_true', Bool.not_eq_true, and_assoc, and_true]
open _root_.Go.Proofs.YtpdmndlpgjjopaaGreatDoor.Fn (bel_lens)
theorem right_run (t : TbR) (sv : Value) (b r : Bool) (h1 : t.first.at_ = 0) (h2 : offB t.first.off = true) (h3 : t.trs.length ≤ 4096) (hno : (∃ j, j < t.trs.length ∧ ¬ OkTr t.trs j) → b = false)
  (hyes : (∀ j, j < t.trs.length → OkTr t.trs j) → b = (footZ t.foot || r)) (w : World) (HL : Hid (Cvl.Lens w)) (HTb : Hid (Clk.Tab w)) (HT : Hid (TrAt w sv t.trs))
  (RF : Hid (∀ w : World, Cvl.Lens w → Clk.Tab w → TrAt w sv t.trs → Calls Tryz.prog 33 #[.agg (tbL t sv).toArray] w fun e w' => e = zr (.bool r) ∧ Below w.heap.size w w')) :
  Calls Tryz.prog 16 #[.agg (tbL t sv).toArray] w fun e w' => e = zr (.bool b) ∧ Below w.heap.size w w' :=
 right_gen t.nm t.first sv (Fn.fL t.foot) rfl t.trs (footZ t.foot) b r h1 h2 h3 hno hyes (fun W => foot_eq t.foot W) w HT (fun _ W hb => RF.out W (bel_lens hb HL.out) (HTb.out.below hb) (HT.out.mv hb))
theorem right_no1 (t : TbR) (sv : Value) (h1 : ¬ t.first.at_ = 0) (w : World) (HT : Hid (TrAt w sv t.trs)) :
  Calls Tryz.prog 16 #[.agg (tbL t sv).toArray] w fun e w' => e = zr (.bool false) ∧ Below w.heap.size w w' := by
 have X1 : Hid (Bx (w.alloc (.cells (tbL t sv).toArray 46)) w.heap.size (tbL t sv)) := Bx.new w (tbL t sv) 46
 have B1 : Hid (Below w.heap.size w (w.alloc (.cells (tbL t sv).toArray 46))) := (Below.refl _ _).alloc (Nat.le_refl _) _
 obtain ⟨⟨ao, c, hsv⟩, hml, _⟩ := HT.out
 obtain ⟨n, hn⟩ : ∃ n, t.trs.length = n := ⟨_, rfl⟩
 rw [hn] at hsv hml
 try rw [hn] at h3
 subst hsv
 unfold maxLen at hml
 go_enter Tryz.func16, Tryz.ntmps16
 generalize hUA : (tbL t (.slice ao n c)).toArray = UA at *
 go_upto_region 1 with fail
 refine gen_code (fun V => Bx V w.heap.size (tbL t (.slice ao n c)) ∧ Below w.heap.size w V) ⟨X1.out, B1.out⟩ ?_
 clear X1 B1
 rintro V ⟨XV, BV⟩
 have c1 := XV.c 1 (v := vi ki t.first.at_) rfl
 have c2 := XV.c 2 (v := vi ki t.first.off) rfl
 have c5 := XV.c 5 (v := .slice ao n c) rfl
 have HB : Hid (Below w.heap.size w V) := BV
 clear XV BV
 go_wp2_with fail
 go_ret
 exact ⟨rfl, HB.out⟩
theorem right_no2 (t : TbR) (sv : Value) (h1 : t.first.at_ = 0) (h2 : offB t.first.off = false) (w : World) (HT : Hid (TrAt w sv t.trs)) :
  Calls Tryz.prog 16 #[.agg (tbL t sv).toArray] w fun e w' => e = zr (.bool false) ∧ Below w.heap.size w w' := by
 have X1 : Hid (Bx (w.alloc (.cells (tbL t sv).toArray 46)) w.heap.size (tbL t sv)) := Bx.new w (tbL t sv) 46
 have B1 : Hid (Below w.heap.size w (w.alloc (.cells (tbL t sv).toArray 46))) := (Below.refl _ _).alloc (Nat.le_refl _) _
 obtain ⟨⟨ao, c, hsv⟩, hml, _⟩ := HT.out
 obtain ⟨n, hn⟩ : ∃ n, t.trs.length = n := ⟨_, rfl⟩
 rw [hn] at hsv hml
 try rw [hn] at h3
 subst hsv
 unfold maxLen at hml
 go_enter Tryz.func16, Tryz.ntmps16
 generalize hUA : (tbL t (.slice ao n c)).toArray = UA at *
 go_upto_region 1 with fail
 refine gen_code (fun V => Bx V w.heap.size (tbL t (.slice ao n c)) ∧ Below w.heap.size w V) ⟨X1.out, B1.out⟩ ?_
 clear X1 B1
 rintro V ⟨XV, BV⟩
 have c1 := XV.c 1 (v := vi ki t.first.at_) rfl
 have c2 := XV.c 2 (v := vi ki t.first.off) rfl
 have c5 := XV.c 5 (v := .slice ao n c) rfl
 have HB : Hid (Below w.heap.size w V) := BV
 clear XV BV
 go_wp2_with fail
 refine (isOff_any _ _).mono ?_
 rintro e v1 ⟨rfl, hv1⟩
 obtain rfl := hv1.symm
 clear hv1
 rw [h2]
 go_wp2_with fail
 go_ret
 exact ⟨rfl, HB.out⟩
theorem right_no3 (t : TbR) (sv : Value) (h1 : t.first.at_ = 0) (h2 : offB t.first.off = true) (h3 : 4096 < t.trs.length) (w : World) (HT : Hid (TrAt w sv t.trs)) :
  Calls Tryz.prog 16 #[.agg (tbL t sv).toArray] w fun e w' => e = zr (.bool false) ∧ Below w.heap.size w w' := by
 have X1 : Hid (Bx (w.alloc (.cells (tbL t sv).toArray 46)) w.heap.size (tbL t sv)) := Bx.new w (tbL t sv) 46
 have B1 : Hid (Below w.heap.size w (w.alloc (.cells (tbL t sv).toArray 46))) := (Below.refl _ _).alloc (Nat.le_refl _) _
 obtain ⟨⟨ao, c, hsv⟩, hml, _⟩ := HT.out
 obtain ⟨n, hn⟩ : ∃ n, t.trs.length = n := ⟨_, rfl⟩
 rw [hn] at hsv hml
 try rw [hn] at h3
 subst hsv
 unfold maxLen at hml
 go_enter Tryz.func16, Tryz.ntmps16
 generalize hUA : (tbL t (.slice ao n c)).toArray = UA at *
 go_upto_region 1 with fail
 refine gen_code (fun V => Bx V w.heap.size (tbL t (.slice ao n c)) ∧ Below w.heap.size w V) ⟨X1.out, B1.out⟩ ?_
 clear X1 B1
 rintro V ⟨XV, BV⟩
 have c1 := XV.c 1 (v := vi ki t.first.at_) rfl
 have c2 := XV.c 2 (v := vi ki t.first.off) rfl
 have c5 := XV.c 5 (v := .slice ao n c) rfl
 have HB : Hid (Below w.heap.size w V) := BV
 clear XV BV
 go_wp2_with fail
 refine (isOff_any _ _).mono ?_
 rintro e v1 ⟨rfl, hv1⟩
 obtain rfl := hv1.symm
 clear hv1
 rw [h2]
 go_wp2_with fail
 go_ret
 exact ⟨rfl, HB.out⟩
def RightIs (t : TbR) (b : Bool) : Prop := ∃ r, RfIs t r ∧ (b = true ↔ t.first.at_ = 0 ∧ offB t.first.off = true ∧ t.trs.length ≤ 4096 ∧ (∀ j, j < t.trs.length → OkTr t.trs j) ∧ (footZ t.foot = true ∨ r = true))
theorem right_any (t : TbR) (sv : Value) (f1 : -9223372036854775808 ≤ t.foot.fr) (f2 : t.foot.fr ≤ 9223372036854775807) :
  ∃ b, RightIs t b ∧ ∀ w : World, Cvl.Lens w → Clk.Tab w → TrAt w sv t.trs → Calls Tryz.prog 16 #[.agg (tbL t sv).toArray] w fun e w' => e = zr (.bool b) ∧ Below w.heap.size w w' := by
 obtain ⟨r, hr, RF⟩ := rf_any t sv f1 f2
 by_cases h1 : t.first.at_ = 0
 ·cases h2 : offB t.first.off
  ·exact ⟨false, ⟨r, hr, by simp [h2]⟩, fun w _ _ hA => right_no2 t sv h1 h2 w hA⟩
  ·by_cases h3 : t.trs.length ≤ 4096
   ·by_cases h4 : ∀ j, j < t.trs.length → OkTr t.trs j
    ·refine ⟨footZ t.foot || r, ⟨r, hr, ?_⟩, fun w hL hT hA => right_run t sv _ r h1 h2 h3 (fun ⟨j, a, k⟩ => absurd (h4 j a) k) (fun _ => rfl) w hL hT hA RF⟩
     rw [Bool.or_eq_true]
     exact ⟨fun h => ⟨h1, h2, h3, h4, h⟩, fun h => h.2.2.2.2⟩
    ·refine ⟨false, ⟨r, hr, ?_⟩, fun w hL hT hA => right_run t sv _ r h1 h2 h3 (fun _ => rfl) (fun h => absurd h h4) w hL hT hA RF⟩
     exact ⟨fun h => (nomatch h), fun h => absurd h.2.2.2.1 h4⟩
   ·refine ⟨false, ⟨r, hr, ?_⟩, fun w _ _ hA => right_no3 t sv h1 h2 (by omega) w hA⟩
    exact ⟨fun h => (nomatch h), fun h => absurd h.2.2.1 h3⟩
 ·refine ⟨false, ⟨r, hr, ?_⟩, fun w _ _ hA => right_no1 t sv h1 w hA⟩
  exact ⟨fun h => (nomatch h), fun h => absurd h.1 h1⟩
def trT (p : Fn.Tr) : TrR := ⟨p.t, p.o, p.d, p.a⟩
def ftL (f : Fn.Ft) (js : Int) (n : Nat) : List TrR := (List.range n).map fun i : Nat => trT (Fn.gs f (js + 1 + (i : Int)))
theorem ftL_len (f : Fn.Ft) (js : Int) (n : Nat) : (ftL f js n).length = n := by simp [ftL]
theorem ftL_get {f : Fn.Ft} {js : Int} {n k : Nat} (h : k < n) : (ftL f js n)[k]? = some (trT (Fn.gs f (js + 1 + (k : Int)))) := by simp [ftL, h]
theorem stK_ft {f : Fn.Ft} {st js : Int} {n k : Nat} (h : k < n) : stK st (ftL f js n) (k + 1) = (Fn.gs f (js + 1 + (k : Int))).t := stK_succ (ftL_get h)
theorem gs_off {f : Fn.Ft} (hf : Fn.okF f = true) (j : Int) : -57600 ≤ (Fn.gs f j).o ∧ (Fn.gs f j).o ≤ 57600 := by
 obtain ⟨o1, o2, hA, hB, _⟩ := Fn.okF_of hf
 have a := of_decide_eq_true hA
 have b := of_decide_eq_true hB
 have ka : ∀ y, -57600 ≤ (Fn.trOf f.off f.A f.B y).o ∧ (Fn.trOf f.off f.A f.B y).o ≤ 57600 := fun y => by
  show -57600 ≤ f.off + f.A.v ∧ f.off + f.A.v ≤ 57600
  have := a.2.2; omega
 have kb : ∀ y, -57600 ≤ (Fn.trOf f.off f.B f.A y).o ∧ (Fn.trOf f.off f.B f.A y).o ≤ 57600 := fun y => by
  show -57600 ≤ f.off + f.B.v ∧ f.off + f.B.v ≤ 57600
  have := b.2.2; omega
 unfold Fn.gs Fn.sh1 Fn.sh2
 split <;> split <;> first | exact ka _ | exact kb _
theorem st_le {f : Fn.Ft} (L : Fn.LH f) {s b i j : Int} (a : Fn.St f s i) (c : Fn.St f b j) (h : s ≤ b) : i ≤ j := by
 obtain ⟨a1, a2, a3, a4⟩ := a
 obtain ⟨c1, c2, c3, c4⟩ := c
 rcases Int.lt_or_le j i with g | g
 ·exfalso
  rcases Int.lt_or_eq_of_le (show j + 1 ≤ i by omega) with k | k
  ·have := Fn.gs_lt L (i := j + 1) (j := i) (by omega) k (by omega); omega
  ·rw [k] at c4; omega
 ·exact g
theorem gs_le {f : Fn.Ft} (L : Fn.LH f) {i j : Int} (hi : -9434 ≤ i) (h : i ≤ j) (hj : j ≤ 588563) : (Fn.gs f i).t ≤ (Fn.gs f j).t := by
 rcases Int.lt_or_eq_of_le h with k | k
 ·exact Int.le_of_lt (Fn.gs_lt L hi k hj)
 ·rw [k]; exact Int.le_refl _
theorem ft_at {f : Fn.Ft} (L : Fn.LH f) {st b js jb : Int} (hS : Fn.St f st js) (hB : Fn.St f b jb) (hsb : st < b) {k : Nat} (hk : k ≤ (jb - js).toNat) :
  Fn.St f (stK st (ftL f js (jb - js).toNat) k) (js + k) ∧ st ≤ stK st (ftL f js (jb - js).toNat) k ∧ (stK st (ftL f js (jb - js).toNat) k) ≤ b := by
 have hle := st_le L hS hB (by omega)
 cases k with
 | zero =>
  rw [show stK st (ftL f js (jb - js).toNat) 0 = st from rfl, show js + ((0 : Nat) : Int) = js by omega]
  exact ⟨hS, by omega, by omega⟩
 | succ k =>
  rw [stK_ft (by omega), show js + ((k + 1 : Nat) : Int) = js + 1 + (k : Int) by omega]
  obtain ⟨s1, s2, s3, s4⟩ := hS
  obtain ⟨b1, b2, b3, b4⟩ := hB
  have e1 := Fn.gs_lt L (i := js + 1 + (k : Int)) (j := js + 1 + (k : Int) + 1) (by omega) (by omega) (by omega)
  have e2 := gs_le L (i := js + 1) (j := js + 1 + (k : Int)) (by omega) (by omega) (by omega)
  have e3 := gs_le L (i := js + 1 + (k : Int)) (j := jb) (by omega) (by omega) (by omega)
  exact ⟨⟨by omega, by omega, Int.le_refl _, e1⟩, by omega, by omega⟩
theorem ask_mid {a b t : Int} (ha : ask a) (hb : ask b) (h1 : a ≤ t) (h2 : t ≤ b) : ask t := by
 obtain ⟨a1, a2, ya, hya, ka⟩ := ha
 obtain ⟨b1, b2, yb, hyb, kb⟩ := hb
 obtain ⟨y, hy⟩ := Fn.yat_is t
 have ka' : -4714 ≤ ya ∧ ya ≤ 294278 := of_decide_eq_true ka
 have kb' : -4714 ≤ yb ∧ yb ≤ 294278 := of_decide_eq_true kb
 refine ⟨by omega, by omega, y, hy, ?_⟩
 rcases hya with ⟨ca, pa, qa⟩ | ⟨_, _, rfl⟩ | ⟨_, _, rfl⟩
 ·rcases hyb with ⟨cb, pb, qb⟩ | ⟨_, _, rfl⟩ | ⟨_, _, rfl⟩
  ·have na := Cvl.of_can ca
   have nb := Cvl.of_can cb
   have ct : Cvl.can (t / 86400 - 10957) = true := by unfold Cvl.can; exact decide_eq_true (by omega)
   rcases hy with ⟨_, p, q⟩ | ⟨c, _⟩ | ⟨c, _⟩
   ·have l1 := Cv.S_lt (show Cv.S ya < Cv.S (y + 1) by omega)
    have l2 := Cv.S_lt (show Cv.S y < Cv.S (yb + 1) by omega)
    exact decide_eq_true (by omega)
   ·rw [ct] at c; cases c
   ·rw [ct] at c; cases c
  ·omega
  ·omega
 ·omega
 ·omega
theorem ask_y {t : Int} (h : ask t) : ∃ y, Fn.YAt t y ∧ -4714 ≤ y ∧ y ≤ 294278 ∧ -9223372036854775808 ≤ t ∧ t ≤ 9223372036854775807 := by
 obtain ⟨t1, t2, y, hy, k⟩ := h
 have := of_decide_eq_true k
 exact ⟨y, hy, this.1, this.2, t1, t2⟩
theorem gTab9 : Tryz.prog.globalNamed "internal/strconv.uint64pow10" = some 1 := by kernel_rfl
theorem tab_keep {W W' : World} (h : Clk.Tab W) (hk : W'.heap[(1 : Nat)]? = W.heap[(1 : Nat)]?) : Clk.Tab W' := by
 unfold Clk.Tab Lib.TabIs World.var? at *
 rw [gTab9] at h ⊢
 simp only [Option.bind_some] at h ⊢
 rw [hk]
 exact h
theorem tab_lt {W : World} (h : Clk.Tab W) : (1 : Nat) < W.heap.size := by
 unfold Clk.Tab Lib.TabIs World.var? at h
 rw [gTab9] at h
 simp only [Option.bind_some] at h
 rcases Nat.lt_or_ge (1 : Nat) W.heap.size with h' | h'
 ·exact h'
 ·rw [Array.getElem?_eq_none h'] at h; simp at h
def OkF (sv : Value) (L : List TrR) (W : World) : Prop := OkN sv L W ∧ Clk.Tab W
theorem OkF.okS (sv : Value) (L : List TrR) : OkS ((1 : Nat) :: 0 :: bkS sv L) (OkF sv L) := by
 have h := OkN.okS sv L
 refine ⟨fun W W' hW hs hk => ⟨h.keep W W' hW.1 hs (fun k hk' => hk k (List.mem_cons_of_mem _ hk')), tab_keep hW.2 (hk _ List.mem_cons_self)⟩, fun W hW k hk => ?_, fun W hW => hW⟩
 rcases List.mem_cons.1 hk with rfl | hk
 ·exact tab_lt hW.2
 ·exact h.lt W hW.1 k hk
theorem OkF.below {sv : Value} {L : List TrR} {W W' : World} (h : OkF sv L W) (hb : Below W.heap.size W W') : OkF sv L W' := (OkF.okS sv L).below h hb
def Near (x : Int) (g : Zm.Gr) : Prop := 0 ≤ g.n ∧ (0 < g.n → x - 57600 ≤ g.f ∧ g.f ≤ x + 57600 ∧ x - 57600 ≤ g.l ∧ g.l ≤ x + 57600)
theorem Near.more {x : Int} {g : Zm.Gr} (h : Near x g) {o : Int} (h1 : -57600 ≤ o) (h2 : o ≤ 57600) : Near x (g.more (x - o)) ∧ 0 < (g.more (x - o)).n := by
 unfold Near Zm.Gr.more at *
 obtain ⟨a, b⟩ := h
 refine ⟨⟨by show 0 ≤ g.n + 1; omega, fun _ => ?_⟩, by show 0 < g.n + 1; omega⟩
 simp only []
 by_cases k : g.n = 0
 ·rw [if_pos k]; omega
 ·rw [if_neg k]; have := b (by omega); omega
theorem pGo_near (x : Int) : ∀ (l : List Zm.St) (gl gs : Zm.Gr), (∀ s ∈ l, -57600 ≤ s.o ∧ s.o ≤ 57600) → Near x gl → Near x gs → Near x (Zm.pGo x l (gl, gs)).1 ∧ Near x (Zm.pGo x l (gl, gs)).2 ∧ (0 < gl.n ∨ 0 < gs.n → 0 < (Zm.pGo x l (gl, gs)).1.n ∨ 0 < (Zm.pGo x l (gl, gs)).2.n)
 | [], gl, gs, _, h1, h2 => ⟨h1, h2, fun h => h⟩
 | s :: l, gl, gs, ho, h1, h2 => by
  have os := ho s List.mem_cons_self
  have ol : ∀ s ∈ l, -57600 ≤ s.o ∧ s.o ≤ 57600 := fun s hs => ho s (List.mem_cons_of_mem _ hs)
  unfold Zm.pGo
  by_cases k1 : Zm.less x s
  ·rw [if_pos k1]
   obtain ⟨a, b⟩ := h1.more os.1 os.2
   obtain ⟨p, q, r⟩ := pGo_near x l _ gs ol a h2
   exact ⟨p, q, fun _ => r (.inl b)⟩
  ·rw [if_neg k1]
   by_cases k2 : Zm.says x s
   ·rw [if_pos k2]
    obtain ⟨a, b⟩ := h2.more os.1 os.2
    obtain ⟨p, q, r⟩ := pGo_near x l gl _ ol h1 a
    exact ⟨p, q, fun _ => r (.inr b)⟩
   ·rw [if_neg k2]
    exact pGo_near x l gl gs ol h1 h2
theorem inV_near {x e o : Int} {r : List Zm.St} (he : x - 57600 ≤ e) (ho : ∀ s ∈ (⟨x - 57600, e, o⟩ : Zm.St) :: r, -57600 ≤ s.o ∧ s.o ≤ 57600) : x - 57600 ≤ inV (Zm.pGo x (⟨x - 57600, e, o⟩ :: r) (⟨0, 0, 0⟩, ⟨0, 0, 0⟩)) ∧ inV (Zm.pGo x (⟨x - 57600, e, o⟩ :: r) (⟨0, 0, 0⟩, ⟨0, 0, 0⟩)) ≤ x + 57600 := by
 have z : Near x ⟨0, 0, 0⟩ := ⟨Int.le_refl _, fun h => absurd h (by decide)⟩
 have oo := ho _ List.mem_cons_self
 have ol : ∀ s ∈ r, -57600 ≤ s.o ∧ s.o ≤ 57600 := fun s hs => ho s (List.mem_cons_of_mem _ hs)
 simp only [] at oo
 have key : ∀ gl gs : Zm.Gr, Near x gl → Near x gs → (0 < gl.n ∨ 0 < gs.n) → x - 57600 ≤ inV (Zm.pGo x r (gl, gs)) ∧ inV (Zm.pGo x r (gl, gs)) ≤ x + 57600 := fun gl gs h1 h2 h3 => by
  obtain ⟨p, q, k⟩ := pGo_near x r gl gs ol h1 h2
  have k := k h3
  unfold inV
  split
  ·have := p.2 (by have := q.1; omega); omega
  ·have := q.2 (by have := q.1; omega); omega
 unfold Zm.pGo
 by_cases k1 : Zm.less x ⟨x - 57600, e, o⟩
 ·rw [if_pos k1]
  obtain ⟨a, b⟩ := z.more oo.1 oo.2
  exact key _ _ a z (.inl b)
 ·rw [if_neg k1]
  have k2 : Zm.says x ⟨x - 57600, e, o⟩ := by unfold Zm.says; unfold Zm.less at k1; simp only [] at k1 ⊢; omega
  rw [if_pos k2]
  obtain ⟨a, b⟩ := z.more oo.1 oo.2
  exact key _ _ z a (.inr b)
theorem strs_head (a e o : Int) (l : List (Int × Int)) (ha : a ≤ e) (hl : ∀ c ∈ l, a ≤ c.1) : ∃ e' r, Zm.strs a e o l = ⟨a, e', o⟩ :: r ∧ a ≤ e' := by
 cases l with
 | nil => exact ⟨e, [], rfl, ha⟩
 | cons c l => exact ⟨c.1, _, rfl, hl c List.mem_cons_self⟩
def stsC (x0 : TrR) (ch : List TrR) (x : Int) : List Zm.St := Zm.strs (x - 57600) (x + 57600 + 1) x0.off (ch.map fun c => (c.at_, c.off))
theorem fin_ (nm : ByteArray) (f : TrR) (ft : Fn.Ft) (ao : Option Addr) (n c : Nat) (hnc : n ≤ c) (L : List TrR) (hn : L.length = n) (h : NoF f L) (hf : Fn.okF ft = true) (hla : ∀ x ∈ L, x.at_ < ft.fr) (f1 : -1000000000000000000 ≤ ft.fr) (f2 : ft.fr ≤ 1000000000000000000)
  (RT : ∀ w : World, OkF (.slice ao n c) L w → Calls Tryz.prog 16 #[.agg (tbF nm f (.slice ao n c) (Fn.fL ft)).toArray] w fun r' w' => r' = zr (.bool true) ∧ Below w.heap.size w w')
  (x : Int) (h0 : ask x) (h1 : ask (x - 57600)) (h2 : ask (x + 57600)) (x1 : -1000000000000000 ≤ x) (x2 : x ≤ 1000000000000000) :
  ∃ (x0 : TrR) (ch : List TrR), (-57600 ≤ x0.off ∧ x0.off ≤ 57600) ∧ (∀ c ∈ ch, (-57600 ≤ c.off ∧ c.off ≤ 57600) ∧ x - 57600 < c.at_) ∧ ∀ w : World, OkF (.slice ao n c) L w →
   Calls Tryz.prog 80 #[.agg (tbF nm f (.slice ao n c) (Fn.fL ft)).toArray, vi ki x] w fun r w' => r = zr (.tuple #[vi ki (inV (Zm.pGo x (stsC x0 ch x) (⟨0, 0, 0⟩, ⟨0, 0, 0⟩))), vi ki (inH (Zm.pGo x (stsC x0 ch x) (⟨0, 0, 0⟩, ⟨0, 0, 0⟩))), vi ki 0]) ∧ Below w.heap.size w w' := by
 have LHf := Fn.lh_of hf
 have hh : ft.h = true := by have := hf; unfold Fn.okF at this; simp at this; exact this.1.1.1.1.1
 have hS := OkF.okS (.slice ao n c) L
 have hF : (Fn.fL ft).length = 19 := rfl
 obtain ⟨ya, hya, ya1, ya2, ta1, ta2⟩ := ask_y h1
 obtain ⟨ja, hja, FA, _⟩ := Fn.stand_ok ft (x - 57600) ya hf hya ya1 ya2 ta1 ta2
 obtain ⟨yb, hyb, yb1, yb2, tb1, tb2⟩ := ask_y h2
 obtain ⟨jb, hjb, _, _⟩ := Fn.stand_ok ft (x + 57600) yb hf hyb yb1 yb2 tb1 tb2
 have hx0 : ∃ x0 : TrR, (-57600 ≤ x0.off ∧ x0.off ≤ 57600) ∧ ∀ w : World, OkF (.slice ao n c) L w → Calls Tryz.prog 97 #[.agg (tbF nm f (.slice ao n c) (Fn.fL ft)).toArray, vi ki (x - 57600)] w fun r w' => r = zr (.agg #[vi ki x0.at_, vi ki x0.off, .bool x0.dst, .string x0.ab]) ∧ Below w.heap.size w w' := by
  refine ⟨if ft.h = true ∧ ft.fr ≤ x - 57600 then trT (Fn.gs ft ja) else curT f L (Zm.cntLe (x - 57600) (L.map (·.at_))), ?_, fun w hw => ?_⟩
  ·split
   ·exact gs_off hf ja
   ·exact h.cur _
  ·exact stand_any nm f (.slice ao n c) (Fn.fL ft) hF ft.h ft.fr (x - 57600) rfl rfl L h.rises h.h3 (trT (Fn.gs ft ja)) 0 w hw.1.1 (fun _ _ W hb => FA W (hw.below hb).1.2 (hw.below hb).2)
 obtain ⟨x0, hx0o, ST⟩ := hx0
 have hFT : ∃ FT : List TrR, (∀ c ∈ FT, (-57600 ≤ c.off ∧ c.off ≤ 57600) ∧ x - 57600 < c.at_) ∧ FT.length ≤ 600000 ∧ (∀ y ∈ L, x + 57600 < y.at_ → FT = []) ∧ (∀ k, k < FT.length → stK (max (x - 57600) (ft.fr - 1)) FT k < x + 57600) ∧
   (∀ k, k ≤ FT.length → stK (max (x - 57600) (ft.fr - 1)) FT k < x + 57600 → ∃ (y : TrR) (er : Int), (∀ V : World, OkF (.slice ao n c) L V → Calls Tryz.prog 135 #[.agg (Fn.fL ft).toArray, vi ki (stK (max (x - 57600) (ft.fr - 1)) FT k)] V fun r w' => r = zr (.tuple #[.agg #[vi ki y.at_, vi ki y.off, .bool y.dst, .string y.ab], vi ki er]) ∧ Below V.heap.size V w') ∧ stK (max (x - 57600) (ft.fr - 1)) FT k < y.at_ ∧ (k < FT.length → FT[k]? = some y ∧ y.at_ ≤ x + 57600) ∧ (k = FT.length → x + 57600 < y.at_)) := by
  obtain ⟨st, hst⟩ : ∃ st, max (x - 57600) (ft.fr - 1) = st := ⟨_, rfl⟩
  rw [hst]
  have hst1 : x - 57600 ≤ st ∧ ft.fr - 1 ≤ st ∧ (st = x - 57600 ∨ st = ft.fr - 1) := by omega
  by_cases hsb : st < x + 57600
  ·obtain ⟨ys, hys, ys1, ys2, ts1, ts2⟩ := ask_y (ask_mid h1 h2 hst1.1 (by omega))
   obtain ⟨js, hjs, _, _⟩ := Fn.stand_ok ft st ys hf hys ys1 ys2 ts1 ts2
   have hle := st_le LHf hjs hjb (by omega)
   have A : ∀ k, k ≤ (jb - js).toNat → _ := fun k hk => ft_at LHf hjs hjb hsb (k := k) hk
   have b3 := hjb.2.2.1
   have b4 := hjb.2.2.2
   have jr : -9434 ≤ js ∧ jb ≤ 588562 := ⟨hjs.1, hjb.2.1⟩
   refine ⟨ftL ft js (jb - js).toNat, ?_, by rw [ftL_len]; omega, fun y hy hgt => ?_, fun k hk => ?_, fun k hk hlt => ?_⟩
   ·intro c hc
    obtain ⟨k, hk⟩ := List.getElem?_of_mem hc
    have hk2 : k < (jb - js).toNat := by have := (List.getElem?_eq_some_iff.1 hk).1; rwa [ftL_len] at this
    rw [ftL_get hk2] at hk
    obtain rfl : trT (Fn.gs ft (js + 1 + (k : Int))) = c := by simpa using hk
    have e := A (k + 1) (by omega)
    rw [stK_ft hk2] at e
    have e2 := (A 0 (by omega)).1.2.2.2
    rw [show stK st (ftL ft js (jb - js).toNat) 0 = st from rfl, show js + ((0 : Nat) : Int) + 1 = js + 1 by omega] at e2
    have e3 := gs_le LHf (i := js + 1) (j := js + 1 + (k : Int)) (by omega) (by omega) (by omega)
    exact ⟨gs_off hf _, by show x - 57600 < (Fn.gs ft (js + 1 + (k : Int))).t; omega⟩
   ·have := hla y hy; omega
   ·rw [ftL_len] at hk
    cases k with
    | zero => exact hsb
    | succ k =>
     rw [stK_ft (by omega)]
     have := Fn.gs_lt LHf (i := js + 1 + (k : Int)) (j := jb) (by omega) (by omega) (by omega)
     omega
   ·rw [ftL_len] at hk
    obtain ⟨a1, a2, a3⟩ := A k hk
    obtain ⟨s, hs⟩ : ∃ s, stK st (ftL ft js (jb - js).toNat) k = s := ⟨_, rfl⟩
    rw [hs] at a1 a2 a3 hlt ⊢
    obtain ⟨y9, hy9, q1, q2, q3, q4⟩ := ask_y (ask_mid h1 h2 (show x - 57600 ≤ s by omega) a3)
    obtain ⟨j, hj, _, NXT⟩ := Fn.stand_ok ft s y9 hf hy9 q1 q2 q3 q4
    obtain rfl := Fn.St.one LHf hj a1
    refine ⟨trT (Fn.gs ft (js + (k : Int) + 1)), 0, fun V hV => NXT V hV.1.2 hV.2, hj.2.2.2, fun hkl => ?_, fun hke => ?_⟩
    ·rw [ftL_len] at hkl
     rw [ftL_get hkl, show js + (k : Int) + 1 = js + 1 + (k : Int) by omega]
     refine ⟨rfl, ?_⟩
     have := gs_le LHf (i := js + 1 + (k : Int)) (j := jb) (by omega) (by omega) (by omega)
     show (Fn.gs ft (js + 1 + (k : Int))).t ≤ _
     omega
    ·rw [ftL_len] at hke
     show _ < (Fn.gs ft (js + (k : Int) + 1)).t
     rw [show js + (k : Int) + 1 = jb + 1 by omega]
     exact b4
  ·refine ⟨[], (fun c hc => by cases hc), by simp, (fun _ _ _ => rfl), (fun k hk => by simp at hk), fun k hk hlt => ?_⟩
   have hk0 : k = 0 := by simpa using hk
   subst hk0
   exact absurd hlt hsb
 obtain ⟨FT, hFTo, hFTl, hLF, hlt, NX⟩ := hFT
 have hcl : (Zm.chg (x - 57600) (x + 57600) L).length ≤ L.length := Nat.le_trans (tw_sub _).1 (by rw [List.length_drop]; omega)
 have hcm : ∀ c ∈ Zm.chg (x - 57600) (x + 57600) L, c ∈ L := fun c hc => List.mem_of_mem_drop ((tw_sub _).2 c hc)
 have hcg : ∀ c ∈ Zm.chg (x - 57600) (x + 57600) L, x - 57600 < c.at_ := fun c hc => by
  unfold Zm.chg at hc
  rw [Zm.drop_take (fun y : TrR => y.at_) _ _ L h.rises] at hc
  have := (List.mem_filter.1 hc).2
  simp at this
  exact this.1
 have hch : ∀ c ∈ Zm.chg (x - 57600) (x + 57600) L ++ FT, (-57600 ≤ c.off ∧ c.off ≤ 57600) ∧ x - 57600 < c.at_ := fun c hc => by
  rcases List.mem_append.1 hc with hc | hc
  ·exact ⟨h.off (hcm c hc), hcg c hc⟩
  ·exact hFTo c hc
 refine ⟨x0, Zm.chg (x - 57600) (x + 57600) L ++ FT, hx0o, hch, fun w HO => ?_⟩
 have AS : ∀ t, ask t → ∀ W : World, Below w.heap.size w W → Calls Tryz.prog 96 #[vi ki t] W fun r w' => r = zr (.bool true) ∧ w' = W := fun t ⟨t1, t2, y, hy, ha⟩ W hb => by
  have R := asked_any t y W (Fn.yat_any t y hy t1 t2 W (HO.below hb).1.2)
  rw [ha] at R
  exact R
 refine zin_yes _ (tbF_len hF) x x1 x2 _ w (fun W hb => RT W (HO.below hb)) (AS _ h0) (AS _ h1) (AS _ h2) (fun W hb => ?_)
 have hl : (stsC x0 (Zm.chg (x - 57600) (x + 57600) L ++ FT) x).length = (Zm.chg (x - 57600) (x + 57600) L ++ FT).length + 1 := by unfold stsC; rw [strs_len, List.length_map]
 refine hear_any _ (tbF_len hF) _ _ hS x x1 x2 (stsC x0 (Zm.chg (x - 57600) (x + 57600) L ++ FT) x) (by rw [hl, List.length_append]; have := h.h3; omega) ?_ ?_ W (HO.below hb)
 ·exact strs_off _ (fun o => -57600 ≤ o ∧ o ≤ 57600) _ _ _ hx0o (fun c hc => by obtain ⟨d, hd, rfl⟩ := List.mem_map.1 hc; exact (hch d hd).1)
 ·intro V b m hm hV X1 X2 X3
  rw [hl]
  refine strs_seq _ (tbF_len hF) _ _ hS (x - 57600) (x + 57600 + 1) (by omega) (by omega) x0 (Zm.chg (x - 57600) (x + 57600) L ++ FT) (fun U hU => ST U hU) (fun U b m hU Z1 Z2 Z3 => ?_) V m hm _ _ _ X1 X2 X3 hV
  rw [show x + 57600 + 1 - 1 = x + 57600 by omega] at Z3
  exact chs_ft _ (tbF_len hF) _ _ hS (x - 57600) (x + 57600) ao n c hnc L rfl (by rw [← hh]; rfl) ft.fr rfl f1 f2 (Fn.fL ft) rfl hF h.rises h.h3 hn (fun V hV => hV.1.1) _ rfl FT hLF hlt NX U m b (b + 1) (b + 2) Z1 Z2 Z3 hU
structure ZF (Ok : World → Prop) (T : List Value) : Prop where
 len : T.length = 25
 lens : ∀ W, Ok W → Cvl.Lens W
 below : ∀ W V : World, Ok W → Below W.heap.size W V → Ok V
 right : ∀ w : World, Ok w → Calls Tryz.prog 16 #[.agg T.toArray] w fun r' w' => r' = zr (.bool true) ∧ Below w.heap.size w w'
 at_ : ∀ t, ask t → ∃ x : TrR, (-57600 ≤ x.off ∧ x.off ≤ 57600) ∧ ∀ w : World, Ok w → Calls Tryz.prog 77 #[.agg T.toArray, vi ki t] w fun r w' => r = zr (.tuple #[trV x, vi ki 0]) ∧ Below w.heap.size w w'
 inst : ∀ x, ask x → ask (x - 57600) → ask (x + 57600) → -1000000000000000 ≤ x → x ≤ 1000000000000000 → ∃ a how : Int, (x - 57600 ≤ a ∧ a ≤ x + 57600) ∧ ∀ w : World, Ok w → Calls Tryz.prog 80 #[.agg T.toArray, vi ki x] w fun r w' => r = zr (.tuple #[vi ki a, vi ki how, vi ki 0]) ∧ Below w.heap.size w w'
theorem inV_sts {x : Int} {x0 : TrR} {ch : List TrR} (h0 : -57600 ≤ x0.off ∧ x0.off ≤ 57600) (hc : ∀ c ∈ ch, (-57600 ≤ c.off ∧ c.off ≤ 57600) ∧ x - 57600 < c.at_) : x - 57600 ≤ inV (Zm.pGo x (stsC x0 ch x) (⟨0, 0, 0⟩, ⟨0, 0, 0⟩)) ∧ inV (Zm.pGo x (stsC x0 ch x) (⟨0, 0, 0⟩, ⟨0, 0, 0⟩)) ≤ x + 57600 := by
 have ho : ∀ s ∈ stsC x0 ch x, -57600 ≤ s.o ∧ s.o ≤ 57600 := strs_off _ (fun o => -57600 ≤ o ∧ o ≤ 57600) _ _ _ h0 (fun c hc' => by obtain ⟨d, hd, rfl⟩ := List.mem_map.1 hc'; exact (hc d hd).1)
 obtain ⟨e, r, hs, he⟩ := strs_head (x - 57600) (x + 57600 + 1) x0.off (ch.map fun c => (c.at_, c.off)) (by omega) (fun c hc' => by obtain ⟨d, hd, rfl⟩ := List.mem_map.1 hc'; have := (hc d hd).2; simp only []; omega)
 have hs' : stsC x0 ch x = ⟨x - 57600, e, x0.off⟩ :: r := hs
 rw [hs'] at ho ⊢
 exact inV_near he ho
theorem zf_none (nm : ByteArray) (f : TrR) (ao : Option Addr) (n c : Nat) (hnc : n ≤ c) (L : List TrR) (hn : L.length = n) (h : NoF f L) : ZF (OkF (.slice ao n c) L) (tbF nm f (.slice ao n c) zeF) := by
 refine ⟨rfl, fun W h => h.1.2, fun W V hW hb => hW.below hb, fun w hw => nright nm f _ L h w hw.1.1, fun t ht => ⟨_, h.cur _, fun w hw => nat_ nm f _ L h t ht w hw.1⟩, fun x h0 h1 h2 x1 x2 => ?_⟩
 refine ⟨_, _, ?_, fun w hw => nin_ nm f ao n c hnc L hn h x h0 h1 h2 x1 x2 w hw.1⟩
 have hcm : ∀ c ∈ Zm.chg (x - 57600) (x + 57600) L, c ∈ L := fun c hc => List.mem_of_mem_drop ((tw_sub _).2 c hc)
 refine inV_sts (x0 := curT f L (Zm.cntLe (x - 57600) (L.map (·.at_)))) (ch := Zm.chg (x - 57600) (x + 57600) L) (h.cur _) (fun c hc => ⟨h.off (hcm c hc), ?_⟩)
 unfold Zm.chg at hc
 rw [Zm.drop_take (fun y : TrR => y.at_) _ _ L h.rises] at hc
 have := (List.mem_filter.1 hc).2
 simp at this
 exact this.1
theorem zf_foot (nm : ByteArray) (f : TrR) (ft : Fn.Ft) (ao : Option Addr) (n c : Nat) (hnc : n ≤ c) (L : List TrR) (hn : L.length = n) (h : NoF f L) (hf : Fn.okF ft = true) (hla : ∀ x ∈ L, x.at_ < ft.fr) (f1 : -1000000000000000000 ≤ ft.fr) (f2 : ft.fr ≤ 1000000000000000000)
  (RT : ∀ w : World, OkF (.slice ao n c) L w → Calls Tryz.prog 16 #[.agg (tbF nm f (.slice ao n c) (Fn.fL ft)).toArray] w fun r' w' => r' = zr (.bool true) ∧ Below w.heap.size w w') : ZF (OkF (.slice ao n c) L) (tbF nm f (.slice ao n c) (Fn.fL ft)) := by
 refine ⟨rfl, fun W h => h.1.2, fun W V hW hb => hW.below hb, RT, fun t ht => ?_, fun x h0 h1 h2 x1 x2 => ?_⟩
 ·obtain ⟨t1, t2, y, hy, ha⟩ := ht
  have hk := of_decide_eq_true ha
  obtain ⟨j, hj, FA, _⟩ := Fn.stand_ok ft t y hf hy hk.1 hk.2 t1 t2
  refine ⟨if ft.h = true ∧ ft.fr ≤ t then trT (Fn.gs ft j) else curT f L (Zm.cntLe t (L.map (·.at_))), ?_, fun w hw => ?_⟩
  ·split
   ·exact gs_off hf j
   ·exact h.cur _
  ·have R := zat_any nm f (.slice ao n c) (Fn.fL ft) rfl ft.h ft.fr t rfl rfl L true (fun _ => ⟨h.rises, h.h3⟩) y (trT (Fn.gs ft j)) 0 w hw.1.1
    (fun W hb => RT W (hw.below hb)) (fun W hb => Fn.yat_any t y hy t1 t2 W (hw.below hb).1.2) (fun _ _ _ _ W hb => FA W (hw.below hb).1.2 (hw.below hb).2)
   unfold atP atE at R
   rw [if_pos rfl, if_pos rfl, if_pos ha, if_pos ha] at R
   exact R
 ·obtain ⟨x0, ch, hx0, hch, C⟩ := fin_ nm f ft ao n c hnc L hn h hf hla f1 f2 RT x h0 h1 h2 x1 x2
  exact ⟨_, _, inV_sts hx0 hch, C⟩
theorem ba_nil {x : ByteArray} (h : x.toList = []) : x = ⟨#[]⟩ := by
 rw [ByteArray.toList_eq] at h
 obtain ⟨⟨l⟩⟩ := x
 simp at h
 rw [h]
theorem footZ_is {f : Fn.Ft} (h : footZ f = true) : Fn.fL f = zeF := by
 unfold footZ halfZ at h
 simp only [Bool.and_eq_true, Bool.not_eq_true', beq_iff_eq] at h
 obtain ⟨⟨⟨⟨a, b⟩, c⟩, ⟨⟨⟨⟨⟨⟨⟨d1, d2⟩, d3⟩, d4⟩, d5⟩, d6⟩, d7⟩, d8⟩⟩, ⟨⟨⟨⟨⟨⟨e1, e2⟩, e3⟩, e4⟩, e5⟩, e6⟩, e7⟩, e8⟩ := h
 unfold Fn.fL
 rw [a, b, c, d1, d2, d3, d4, d5, d6, d7, ba_nil d8, e1, e2, e3, e4, e5, e6, e7, ba_nil e8]
 rfl
theorem rises_last : ∀ {l : List TrR}, Zm.Rises (l.map (·.at_)) → ∀ {z : TrR}, l[l.length - 1]? = some z → ∀ x ∈ l, x.at_ ≤ z.at_ := by
 intro l hr z hz x hx
 obtain ⟨k, hk⟩ := List.getElem?_of_mem hx
 have hkl := (List.getElem?_eq_some_iff.1 hk).1
 have h1 := (Zm.cntLe_iff (x := z.at_) hr (l.length - 1) z.at_ (by simp [hz])).1 (Int.le_refl _)
 exact (Zm.cntLe_iff (x := z.at_) hr k x.at_ (by simp [hk])).2 (by omega)
theorem zf_any (t : TbR) (ao : Option Addr) (n c : Nat) (hnc : n ≤ c) (hn : t.trs.length = n) (hR : RightIs t true)
  (RT : ∀ w : World, Cvl.Lens w → Clk.Tab w → TrAt w (.slice ao n c) t.trs → Calls Tryz.prog 16 #[.agg (tbL t (.slice ao n c)).toArray] w fun e w' => e = zr (.bool true) ∧ Below w.heap.size w w') : ZF (OkF (.slice ao n c) t.trs) (tbL t (.slice ao n c)) := by
 obtain ⟨r, hrf, hiff⟩ := hR
 obtain ⟨h1, h2, h3, h4, h5⟩ := hiff.1 rfl
 have h : NoF t.first t.trs := ⟨h1, h2, h3, h4⟩
 rcases h5 with h5 | h5
 ·have e : tbL t (.slice ao n c) = tbF t.nm t.first (.slice ao n c) zeF := by unfold tbL tbF; rw [footZ_is h5]
  rw [e]
  exact zf_none t.nm t.first ao n c hnc t.trs hn h
 ·subst h5
  obtain ⟨y, p, er, hy, hfa, hb⟩ := hrf
  have hb2 : (decide (1800 ≤ y) && decide (y ≤ 2110) && lastB t.trs t.foot.fr && (decide (er = 0) && decide (p.t = t.foot.fr))) = true := hb.symm
  simp only [Bool.and_eq_true, decide_eq_true_eq] at hb2
  obtain ⟨⟨⟨y1, y2⟩, hl⟩, he, hp⟩ := hb2
  have hf : Fn.okF t.foot = true := by
   rcases hfa with ⟨_, k, _⟩ | ⟨k, _⟩
   ·exact k
   ·exact absurd he k
  have hfr : -1000000000000000000 ≤ t.foot.fr ∧ t.foot.fr ≤ 1000000000000000000 := by
   rcases hy with ⟨k, _⟩ | ⟨_, _, k⟩ | ⟨_, _, k⟩
   ·have := Cvl.of_can k; omega
   ·omega
   ·omega
  have hla : ∀ x ∈ t.trs, x.at_ < t.foot.fr := fun x hx => by
   unfold lastB at hl
   cases hz : t.trs[t.trs.length - 1]? with
   | none => have := List.getElem?_eq_none_iff.1 hz; have := List.length_pos_of_mem hx; omega
   | some z =>
    rw [hz] at hl
    have := of_decide_eq_true hl
    have := rises_last h.rises hz x hx
    omega
  exact zf_foot t.nm t.first t.foot ao n c hnc t.trs hn h hf hla hfr.1 hfr.2 (fun w hw => RT w hw.1.2 hw.2 hw.1.1)
theorem ask_st {u t : Int} (h : Dy.dok (u / 86400000000) = true) (h1 : u / 1000000 + 946684800 - 57600 ≤ t) (h2 : t ≤ u / 1000000 + 946684800 + 57600) : ask t := by
 have k := Dy.dok_yes h
 have e : -2451508 ≤ t / 86400 - 10957 ∧ t / 86400 - 10957 ≤ 106751983 := by omega
 obtain ⟨y, hy⟩ := Fn.yat_is t
 refine ⟨by omega, by omega, y, hy, ?_⟩
 have c1 : Cvl.can (t / 86400 - 10957) = true := by unfold Cvl.can; exact decide_eq_true (by omega)
 rcases hy with ⟨_, b, c⟩ | ⟨a, _⟩ | ⟨a, _⟩
 ·unfold askY
  refine decide_eq_true ⟨?_, ?_⟩
  ·have : Cv.S (-4714) ≤ t / 86400 - 10957 := by rw [show Cv.S (-4714) = -2452237 by decide +kernel]; omega
   have := Cv.S_lt (show Cv.S (-4714) < Cv.S (y + 1) by omega)
   omega
  ·have : t / 86400 - 10957 < Cv.S 294279 := by rw [show Cv.S 294279 = 106752713 by decide +kernel]; omega
   have := Cv.S_lt (show Cv.S y < Cv.S 294279 by omega)
   omega
 ·rw [c1] at a; cases a
 ·rw [c1] at a; cases a
theorem mo_val {u n : Int} (h : moE u n = 0) : Dy.dok (moV u n / 86400000000) = true := by
 unfold moE at h
 unfold moV
 by_cases k : Dy.dok ((u + n) / 86400000000) = true
 ·rw [if_pos k]; exact k
 ·rw [if_neg k] at h; omega
theorem zlocal {Ok : World → Prop} {T : List Value} (Z : ZF Ok T) (u : Int) (hu : Dy.dok (u / 86400000000) = true) : ∃ V E : Int, (E = 0 → Dy.dok (V / 86400000000) = true) ∧ ∀ w : World, Ok w → Calls Tryz.prog 52 #[.agg T.toArray, .agg #[vi ki 0, vi ki u]] w fun r w' => r = zr (.tuple #[.agg #[vi ki 0, vi ki V], vi ki E]) ∧ Below w.heap.size w w' := by
 obtain ⟨u1, u2⟩ := dok_bd hu
 obtain ⟨x, hx, AT⟩ := Z.at_ (u / 1000000 + 946684800) (ask_st hu (by omega) (by omega))
 exact ⟨moV u (x.off * 1000000), moE u (x.off * 1000000), mo_val, fun w hw => lo_ok Ok T Z.len u _ _ x.off (x.off * 1000000) _ _ x.dst x.ab (by rw [IntKind.wrap_i64]; omega) Z.right (fun w hw => rst_yes hu w (Z.lens w hw)) (fun w => sec_any 0 u u1 u2 w) AT (fun w hw => more_any 0 u _ u1 u2 (by omega) (by omega) w (Z.lens w hw)) w (fun W hb => Z.below w W hw hb)⟩
theorem zinst {Ok : World → Prop} {T : List Value} (Z : ZF Ok T) (u : Int) (hu : Dy.dok (u / 86400000000) = true) : ∃ V how E : Int, (E = 0 → Dy.dok (V / 86400000000) = true) ∧ ∀ w : World, Ok w → Calls Tryz.prog 54 #[.agg T.toArray, .agg #[vi ki 0, vi ki u]] w fun r w' => r = zr (.tuple #[.agg #[vi ki 0, vi ki V], vi ki how, vi ki E]) ∧ Below w.heap.size w w' := by
 obtain ⟨u1, u2⟩ := dok_bd hu
 have k := Dy.dok_yes hu
 obtain ⟨a9, how, ha, IN⟩ := Z.inst (u / 1000000 + 946684800) (ask_st hu (by omega) (by omega)) (ask_st hu (by omega) (by omega)) (ask_st hu (by omega) (by omega)) (by omega) (by omega)
 obtain ⟨s, hs⟩ : ∃ s, u / 1000000 + 946684800 = s := ⟨_, rfl⟩
 have SE := fun w => sec_any 0 u u1 u2 w
 rw [hs] at ha IN SE
 have MO := fun w (hw : Ok w) => more_any 0 u ((a9 - s) * 1000000) u1 u2 (by omega) (by omega) w (Z.lens w hw)
 by_cases hE : moE u ((a9 - s) * 1000000) = 0
 ·rw [hE] at MO
  exact ⟨_, how, 0, fun _ => mo_val hE, fun w hw => in_ok Ok T Z.len u s a9 how (a9 - s) ((a9 - s) * 1000000) _ 0 (by rw [IntKind.wrap_i64]; omega) (by rw [IntKind.wrap_i64]; omega) Z.right (fun w hw => rst_yes hu w (Z.lens w hw)) SE IN MO w (fun W hb => Z.below w W hw hb)⟩
 ·exact ⟨0, 0, moE u ((a9 - s) * 1000000), fun h => absurd h hE, fun w hw => in_err2 Ok T Z.len u s a9 how (a9 - s) ((a9 - s) * 1000000) _ _ (by rw [IntKind.wrap_i64]; omega) (by rw [IntKind.wrap_i64]; omega) hE Z.right (fun w hw => rst_yes hu w (Z.lens w hw)) SE IN MO w (fun W hb => Z.below w W hw hb)⟩
theorem add_fn {x M D U : Int} (hx : Dy.dok (x / 86400000000) = true) (hp : Sp.pR 0 M D U = true) : ∃ V E, AddIs 0 x 0 M D U 0 V E ∧ (E = 0 → Dy.dok (V / 86400000000) = true) := by
 obtain ⟨y, p, q, hq⟩ := Cv.is_date (x / 86400000000)
 refine ⟨_, _, .inr (.inr ⟨rfl, rfl, hx, hp, y, p, q, hq, rfl, rfl, rfl⟩), fun h => ?_⟩
 by_cases k : mdk (x / 86400000000) y p q M D = true
 ·rw [if_pos k] at h ⊢
  exact mo_val h
 ·rw [if_neg k] at h; omega
theorem zadd {Ok : World → Prop} {T : List Value} (Z : ZF Ok T) (M D U : Int) (hp : Sp.pR 0 M D U = true) (u : Int) (hu : Dy.dok (u / 86400000000) = true) : ∃ V E : Int, (E = 0 → Dy.dok (V / 86400000000) = true) ∧ ∀ w : World, Ok w → Calls Tryz.prog 10 #[.agg T.toArray, .agg #[vi ki 0, vi ki u], .agg #[vi ki 0, vi ki M, vi ki D, vi ki U]] w fun r w' => r = zr (.tuple #[.agg #[vi ki 0, vi ki V], vi ki E]) ∧ Below w.heap.size w w' := by
 obtain ⟨u1, u2⟩ := dok_bd hu
 have b := pR_bd hp
 have RS := fun w (hw : Ok w) => rst_yes hu w (Z.lens w hw)
 have PR := fun w => pr_yes hp w
 have K0 := fun w => kind_b 0 w
 have TG := fun w => tog_any 0 0 (.inr (.inl rfl)) (.inr (.inl rfl)) w
 by_cases hz : M = 0 ∧ D = 0
 ·obtain ⟨rfl, rfl⟩ := hz
  exact ⟨_, _, mo_val, fun w hw => az_none Ok T Z.len 0 u 0 U _ _ (kdV 0) (kdV 0) Z.right RS PR K0 K0 TG (fun w hw => more_any 0 u U u1 u2 (by omega) (by omega) w (Z.lens w hw)) w (fun W hb => Z.below w W hw hb)⟩
 ·have hMB : ∃ V e : Int, (e = 0 → Dy.dok (V / 86400000000) = true) ∧ ∀ w : World, Ok w → Calls Tryz.prog 29 #[.agg T.toArray, .agg #[vi ki 0, vi ki u], .agg #[vi ki 0, vi ki M, vi ki D, vi ki U]] w fun r w' => r = zr (.tuple #[.agg #[vi ki 0, vi ki V], vi ki e]) ∧ Below w.heap.size w w' := by
   obtain ⟨V1, E1, hV1, LO⟩ := zlocal Z u hu
   by_cases k1 : E1 = 0
   ·subst k1
    have v1 := hV1 rfl
    obtain ⟨p1, p2⟩ := dok_bd v1
    obtain ⟨V2, E2, hA, hV2⟩ := add_fn v1 (show Sp.pR 0 M D 0 = true from pR_of (by omega))
    have AD := fun w (hw : Ok w) => sadd_any 0 V1 0 M D 0 0 V2 E2 hA p1 p2 (by decide) (by decide) w (Z.lens w hw)
    by_cases k2 : E2 = 0
    ·subst k2
     obtain ⟨V3, how, E3, hV3, IN⟩ := zinst Z V2 (hV2 rfl)
     exact ⟨V3, E3, hV3, fun w hw => mb_ok Ok T Z.len u 0 M D U V1 V2 V3 how E3 LO AD IN w (fun W hb => Z.below w W hw hb)⟩
    ·exact ⟨0, E2, fun h => absurd h k2, fun w hw => mb_err2 Ok T Z.len u 0 M D U V1 V2 E2 k2 LO AD w (fun W hb => Z.below w W hw hb)⟩
   ·exact ⟨0, E1, fun h => absurd h k1, fun w hw => mb_err1 Ok T Z.len u 0 M D U V1 E1 k1 LO w (fun W hb => Z.below w W hw hb)⟩
  obtain ⟨V, e, hV, MB⟩ := hMB
  by_cases ke : e = 0
  ·subst ke
   obtain ⟨v1, v2⟩ := dok_bd (hV rfl)
   have MO := fun w (hw : Ok w) => more_any 0 V U v1 v2 (by omega) (by omega) w (Z.lens w hw)
   by_cases hM : M = 0
   ·subst hM
    exact ⟨_, _, mo_val, fun w hw => az_okd Ok T Z.len 0 u 0 D U V _ _ (kdV 0) (kdV 0) (fun h => hz ⟨rfl, h⟩) Z.right RS PR K0 K0 TG MB MO w (fun W hb => Z.below w W hw hb)⟩
   ·exact ⟨_, _, mo_val, fun w hw => az_okm Ok T Z.len 0 u 0 M D U V _ _ (kdV 0) (kdV 0) hM Z.right RS PR K0 K0 TG MB MO w (fun W hb => Z.below w W hw hb)⟩
  ·by_cases hM : M = 0
   ·subst hM
    exact ⟨0, e, fun h => absurd h ke, fun w hw => az_errd Ok T Z.len 0 u 0 D U V e (kdV 0) (kdV 0) ke (fun h => hz ⟨rfl, h⟩) Z.right RS PR K0 K0 TG MB w (fun W hb => Z.below w W hw hb)⟩
   ·exact ⟨0, e, fun h => absurd h ke, fun w hw => az_errm Ok T Z.len 0 u 0 M D U V e (kdV 0) (kdV 0) ke hM Z.right RS PR K0 K0 TG MB w (fun W hb => Z.below w W hw hb)⟩
end Go.Proofs.YtpdmndlpgjjopaaGreatDoor
namespace Go.Proofs.YtpdmndlpgjjopaaGreatDoor.Fn
open Go.RowKit
theorem h17_any (a : Hf) (w : World) :
  Calls Tryz.prog 14 #[.agg (hL a).toArray] w fun e w' => e = zr (.agg (hL a).toArray) ∧ Below w.heap.size w w' := by
 have Z1 : Hid (Bx (w.alloc (.cells #[vi ki a.m, vi ki a.k, vi ki a.d, vi ki a.n, vi ki a.s, .int .u8 a.z, vi ki a.v, .string a.t] 30) |>.alloc (.cells #[vi ki 0, vi ki 0, vi ki 0, vi ki 0, vi ki 0, .int .u8 0, vi ki 0, .string ⟨#[]⟩] 42)) (w.heap.size + 1) [vi ki 0, vi ki 0, vi ki 0, vi ki 0, vi ki 0, .int .u8 0, vi ki 0, .string ⟨#[]⟩]) := Bx.newAt _ [vi ki 0, vi ki 0, vi ki 0, vi ki 0, vi ki 0, .int .u8 0, vi ki 0, .string ⟨#[]⟩] _ _ (by simp)
 have ZB : Hid (Below w.heap.size w (w.alloc (.cells #[vi ki a.m, vi ki a.k, vi ki a.d, vi ki a.n, vi ki a.s, .int .u8 a.z, vi ki a.v, .string a.t] 30) |>.alloc (.cells #[vi ki 0, vi ki 0, vi ki 0, vi ki 0, vi ki 0, .int .u8 0, vi ki 0, .string ⟨#[]⟩] 42))) := ((Below.refl _ _).alloc (by simp) _).alloc (by simp) _
 show Calls Tryz.prog 14 #[.agg #[vi ki a.m, vi ki a.k, vi ki a.d, vi ki a.n, vi ki a.s, .int .u8 a.z, vi ki a.v, .string a.t]] w _
 go_enter Tryz.func14, Tryz.ntmps14
 go_wp2_with (first | (refine wpList_store_mid rfl 42 _ _ rfl (w.heap.size + 1) 0 #[vi ki a.m, vi ki a.k, vi ki a.d, vi ki a.n, vi ki a.s, .int .u8 a.z, vi ki a.v, .string a.t] rfl rfl Z1.out.there (by kernel_rfl) (hL_one a) ?_; refine gen_list (fun V => Bx V (w.heap.size + 1) (hL a) ∧ Below w.heap.size w V) ⟨Z1.out.setAll (hL a) rfl, below_setCells (by omega) _ _ _ ZB.out⟩ ?_; rintro V ⟨U1, UB⟩) | fail)
 exact bodyPost_ret (v := .agg (hL a).toArray) (results_cell1 rfl _ _ _ _ rfl (run_loadVar_mid _ _ _ _ (hL a) _ U1.all Tryz.underlying42 rfl (by kernel_rfl))) rfl ⟨rfl, UB⟩
end Go.Proofs.YtpdmndlpgjjopaaGreatDoor.Fn
namespace Go.Proofs.YtpdmndlpgjjopaaGreatDoor
open Go.RowKit Sr
theorem one_tb (nm : ByteArray) (f : TrR) (ao : Option Addr) (n c : Nat) : (tbF nm f (.slice ao n c) zeF).toArray.all (·.oneCell') = true := by
 simp [tbF, trC, zeF, Value.oneCell']
theorem TrAt.setC {W : World} {b i : Nat} {v sv : Value} {L : List TrR} (h : TrAt W sv L) (hg : ∀ a n c, sv = .slice (some a) n c → a.block ≠ b) : TrAt (W.setCell ⟨b, i, none⟩ v) sv L := by
 obtain ⟨h1, h2, h3⟩ := h
 refine ⟨h1, h2, h3.imp_right ?_⟩
 rintro ⟨g', o', c', e, hg', hc⟩
 have hne := hg _ _ _ e
 exact ⟨_, _, _, e, by simpa using hg', fun j u hj => (World.cell?_setCell_other _ _ _ _ (fun q => hne (by cases q; rfl))).trans (hc j u hj)⟩
theorem trat_setCells {W : World} {b i : Nat} {vs : List Value} {sv : Value} {L : List TrR} (h : TrAt W sv L) (hg : ∀ (a : Addr) (m k : Nat), sv = .slice (some a) m k → a.block ≠ b) : TrAt (W.setCells b i vs) sv L := by
 obtain ⟨h1, h2, h3⟩ := h
 refine ⟨h1, h2, h3.imp_right ?_⟩
 rintro ⟨g', o', c', e, hg', hc⟩
 have hne := hg _ _ _ e
 exact ⟨_, _, _, e, by rw [setCells_size]; exact hg', fun j u hj => (setCells_off b vs W i ⟨g', o' + j, none⟩ hne).trans (hc j u hj)⟩
theorem bx_tail {W : World} {b : Nat} {p cs : List Value} (h : Bx W b (p ++ cs)) (vs : List Value) (hl : cs.length = vs.length) : W.there b p.length cs.length ∧ Bx (W.setCells b p.length vs) b (p ++ vs) := by
 have ht : W.there b p.length cs.length := fun j hj => by
  have hj2 : (p ++ cs)[p.length + j]? = some cs[j] := by rw [List.getElem?_append_right (by omega), show p.length + j - p.length = j by omega, List.getElem?_eq_getElem hj]
  have := h.2 (p.length + j) _ hj2
  exact ⟨by rw [this.1]; rfl, this.2⟩
 refine ⟨ht, by rw [setCells_size]; exact h.1, fun i v e => ?_⟩
 have hi := (List.getElem?_eq_some_iff.1 e).1
 rw [List.length_append] at hi
 have hf : W.frozen? ⟨b, i, none⟩ = false := (h.2 i _ (List.getElem?_eq_getElem (by rw [List.length_append]; omega))).2
 refine ⟨?_, by rw [World.frozen?_setCells]; exact hf⟩
 by_cases hip : i < p.length
 ·rw [List.getElem?_append_left hip] at e
  refine (World.cell?_setCells_out b vs p.length W ⟨b, i, none⟩ (fun _ _ => .inl hip)).trans ?_
  exact (h.2 i v (by rw [List.getElem?_append_left hip]; exact e)).1
 ·rw [List.getElem?_append_right (by omega)] at e
  have := World.rangeAt_setCells_same W b p.length vs (hl ▸ ht) (i - p.length) v e
  rwa [show p.length + (i - p.length) = i by omega] at this
def Cap (sv : Value) : Prop := ∀ ao n c, sv = .slice ao n c → n ≤ c
theorem cap_own {W : World} {base : Nat} {e : TypeId} {size : Nat} {v : Value} {n : Nat} {xs : List Value} (h : W.ownsRow base e size v n xs) : Cap v := fun ao m c hv => by
 rcases h.2 with ⟨e, z⟩ | ⟨g, cap, cur, e, _, _, h5, _⟩
 ·rw [e] at hv; cases hv; exact Nat.le_refl _
 ·rw [e] at hv; cases hv; exact h5
def GT (w : World) (T T1 T2 : List Value) (b2 : Nat) (sv : Value) (L : List TrR) (W : World) : Prop := Below w.heap.size w W ∧ Bx W w.heap.size T ∧ Bx W (w.heap.size + 1) zeT ∧ TrAt W sv L ∧ (Bx W b2 T1 ∨ Bx W b2 T2)
section
variable {w W V : World} {T T1 T2 : List Value} {b2 : Nat} {sv : Value} {L : List TrR}
theorem GT.below (h : GT w T T1 T2 b2 sv L W) (hb : Below W.heap.size W V) : GT w T T1 T2 b2 sv L V := ⟨h.1.trans (hb.mono h.1.size), h.2.1.below hb, h.2.2.1.below hb, h.2.2.2.1.mv hb, h.2.2.2.2.imp (·.below hb) (·.below hb)⟩
theorem GT.tail (h : GT w T T1 T2 b2 sv L W) {p c1 vs : List Value} (e1 : T1 = p ++ c1) (e2 : T2 = p ++ vs) (hl : c1.length = vs.length) : W.there b2 p.length vs.length ∧ Bx (W.setCells b2 p.length vs) b2 T2 := by
 subst e1 e2
 rcases h.2.2.2.2 with q | q
 ·have := bx_tail q vs hl; rw [hl] at this; exact this
 ·exact bx_tail q vs rfl
theorem GT.put (h : GT w T T1 T2 b2 sv L W) {p c1 vs : List Value} (e1 : T1 = p ++ c1) (e2 : T2 = p ++ vs) (hl : c1.length = vs.length) (hg : ∀ (a : Addr) (m k : Nat), sv = .slice (some a) m k → a.block ≠ b2) (h2 : w.heap.size + 1 < b2) : GT w T T1 T2 b2 sv L (W.setCells b2 p.length vs) :=
 ⟨below_setCells (by omega) _ _ _ h.1, h.2.1.setOther (by omega) _ _, h.2.2.1.setOther (by omega) _ _, trat_setCells h.2.2.2.1 hg, .inr (h.tail e1 e2 hl).2⟩
end
theorem one_tf (nm : ByteArray) (f : TrR) (ao : Option Addr) (n c : Nat) (ft : Fn.Ft) : (tbF nm f (.slice ao n c) (Fn.fL ft)).toArray.all (·.oneCell') = true := by
 simp [tbF, trC, Fn.fL, Value.oneCell']
theorem given17 (nm : ByteArray) (f : TrR) (L : List TrR) (ft : Fn.Ft) (g o n c : Nat) (hn : L.length = n) (w : World) (HT : Hid (TrAt w (.slice (some ⟨g, o, none⟩) n c) L)) (hg : g < w.heap.size) (hcs : Hid (∀ j u, (trCs L)[j]? = some u → w.cell? ⟨g, o + j, none⟩ = some u)) (h40 : n * 40 ≤ 140737488355328) (hm : n ≤ maxLen) (T : List Value) (hT : T = tbF nm f (.slice (some ⟨g, o, none⟩) n c) (Fn.fL ft)) :
  Calls Tryz.prog 5 #[.agg T.toArray] w fun e w' => ∃ sv', e = zr (.agg (tbF nm f sv' (Fn.fL ft)).toArray) ∧ TrAt w' sv' L ∧ Below w.heap.size w w' ∧ Cap sv' := by
 have X0 : Hid (Bx ((w.alloc (.cells T.toArray 34)).alloc (.cells zeT.toArray 46)) w.heap.size T) := (Bx.new w T _).alloc _
 have X1 : Hid (Bx ((w.alloc (.cells T.toArray 34)).alloc (.cells zeT.toArray 46)) (w.heap.size + 1) zeT) := Bx.newAt _ zeT _ _ (by simp)
 have B1 : Hid (Below w.heap.size w ((w.alloc (.cells T.toArray 34)).alloc (.cells zeT.toArray 46))) := ((Below.refl _ _).alloc (Nat.le_refl _) _).alloc (by simp) _
 go_enter Tryz.func5, Tryz.ntmps5
 generalize hUA : T.toArray = UA at *
 go_upto_region 1 with fail
 refine gen_code (fun V => Bx V w.heap.size T ∧ Bx V (w.heap.size + 1) zeT ∧ Below w.heap.size w V) ⟨X0.out, X1.out, B1.out⟩ ?_
 clear X0 X1 B1
 rintro V ⟨X0', X1', B1'⟩
 have X0 : Hid (Bx V w.heap.size T) := X0'
 have X1 : Hid (Bx V (w.heap.size + 1) zeT) := X1'
 have B1 : Hid (Below w.heap.size w V) := B1'
 clear X0' X1' B1'
 have d0 : V.cell? ⟨w.heap.size, 0, none⟩ = some (.string nm) := X0.out.c 0 (by rw [hT]; rfl)
 have d1 : V.cell? ⟨w.heap.size, 1, none⟩ = some (vi ki f.at_) := X0.out.c 1 (by rw [hT]; rfl)
 have d2 : V.cell? ⟨w.heap.size, 2, none⟩ = some (vi ki f.off) := X0.out.c 2 (by rw [hT]; rfl)
 have d3 : V.cell? ⟨w.heap.size, 3, none⟩ = some (.bool f.dst) := X0.out.c 3 (by rw [hT]; rfl)
 have d4 : V.cell? ⟨w.heap.size, 4, none⟩ = some (.string f.ab) := X0.out.c 4 (by rw [hT]; rfl)
 have Y2 : Hid (Bx (V.alloc (.cells zeT.toArray 46)) V.heap.size zeT) := Bx.new V zeT _
 have Y0 : Hid (Bx (V.alloc (.cells zeT.toArray 46)) w.heap.size T) := X0.out.alloc _
 have Y1 : Hid (Bx (V.alloc (.cells zeT.toArray 46)) (w.heap.size + 1) zeT) := X1.out.alloc _
 have YB : Hid (Below w.heap.size w (V.alloc (.cells zeT.toArray 46))) := B1.out.alloc (B1.out.size) _
 have hV1 := X1.out.1
 go_upto_region 2 with (refine wpList_store_mid rfl 46 _ _ rfl V.heap.size 0 (tbF nm f (.slice none 0 0) zeF).toArray rfl rfl Y2.out.there (by kernel_rfl) (one_tb _ _ _ _ _) ?_; refine gen_list (fun U => Bx U w.heap.size T ∧ Bx U (w.heap.size + 1) zeT ∧ Bx U V.heap.size (tbF nm f (.slice none 0 0) zeF) ∧ Below w.heap.size w U) ⟨Y0.out.setOther (by omega) _, Y1.out.setOther (by omega) _, Y2.out.setAll _ rfl, below_setCells (by omega) _ _ _ YB.out⟩ ?_; clear X0 X1 B1 Y0 Y1 Y2 YB d0 d1 d2 d3 d4; rintro U ⟨X0', X1', X2', B1'⟩; have X0 : Hid (Bx U w.heap.size T) := X0'; have X1 : Hid (Bx U (w.heap.size + 1) zeT) := X1'; have X2 : Hid (Bx U V.heap.size (tbF nm f (.slice none 0 0) zeF)) := X2'; have B1 : Hid (Below w.heap.size w U) := B1'; clear X0' X1' X2' B1')
 obtain ⟨b2, hb2⟩ : ∃ b2, V.heap.size = b2 := ⟨_, rfl⟩
 rw [hb2] at X2 hV1 ⊢
 clear hb2 V
 obtain ⟨i1, hi1, hy0, hy1, hy2⟩ := info_parts infoT9
 have c5 : U.cell? ⟨b2, 5, none⟩ = some (.slice none 0 0) := X2.out.c 5 rfl
 have d5 : U.cell? ⟨w.heap.size, 5, none⟩ = some (.slice (some ⟨g, o, none⟩) n c) := X0.out.c 5 (by rw [hT]; rfl)
 have hN : Hid (∀ j u, (trCs L)[j]? = some u → U.cell? ((⟨g, o, none⟩ : Addr).add j) = some u) := fun j u hu => by
  have h1 := (B1.out.cell (p := ⟨g, o + j, none⟩) hg).trans (hcs.out j u hu)
  unfold Addr.add
  split
  ·rename_i h; subst h; simpa using h1
  ·exact h1
 have hbs := B1.out.size
 have hu2 := X2.out.1
 go_upto_region 3 with (at_builtin; refine wpList_append_own _ rfl _ _ 24 rfl U.heap.size 23 i1 (.agg #[vi ki 0, vi ki 0, .bool false, .string ⟨#[]⟩]) 4 40 Tryz.underlying24 hi1 hy0 hy1 hy2 rfl (by decide) (.slice none 0 0) 0 [] rfl (World.ownsRow_nil _ _ _ _) ⟨g, o, none⟩ n c (trCs L) rfl (by rw [trCs_len, hn]) hN.out (trCs_one L) (by omega) (by omega) (Nat.le_refl _) ?_; intro v' w9 hown' hgrow' _; rw [Nat.zero_add] at hown'; obtain ⟨ao', c', hv'⟩ := tr_len hown'; subst hv'; have hb9 : Below U.heap.size U w9 := ⟨hgrow'.os, hgrow'.tape, hgrow'.output, hgrow'.size, fun k hk => hgrow'.block k hk (by simp [Value.ownBlock])⟩; have X9 := X2.out.below hb9; have c9 := X9.c 5 rfl; have z9 := X9.f 5 (v := .slice none 0 0) rfl)
 rw [List.nil_append] at hown'
 have HCAP : Hid (Cap (.slice ao' n c')) := cap_own hown'
 have HTR : TrAt w9 (.slice ao' n c') L := TrAt.of_own (L := L) (by rw [hn]; exact hown')
 have hne : ∀ (a : Addr) (m k : Nat), Value.slice ao' n c' = .slice (some a) m k → a.block ≠ b2 := by
  rcases hown'.2 with ⟨e, _⟩ | ⟨g', cap', cur, e, hb, _⟩
  ·intro a m k h; rw [e] at h; cases h
  ·intro a m k h; rw [e] at h; cases h; simp; omega
 have hne1 : ∀ (a : Addr) (m k : Nat), Value.slice ao' n c' = .slice (some a) m k → a.block ≠ w.heap.size + 1 := by
  rcases hown'.2 with ⟨e, _⟩ | ⟨g', cap', cur, e, hb, _⟩
  ·intro a m k h; rw [e] at h; cases h
  ·intro a m k h; rw [e] at h; cases h; simp; omega
 refine gen_code (fun Z => Bx Z w.heap.size T ∧ Bx Z (w.heap.size + 1) zeT ∧ Bx Z b2 (tbF nm f (.slice ao' n c') zeF) ∧ TrAt Z (.slice ao' n c') L ∧ Below w.heap.size w Z) ⟨bx_turns (X0.out.below hb9) (Turns.setCell (M := [b2]) _ _ _ (by simp)) (by simp; omega), bx_turns (X1.out.below hb9) (Turns.setCell (M := [b2]) _ _ _ (by simp)) (by simp; omega), bx_set1 X9 5 (.slice ao' n c') (by rw [tbF_len rfl]; decide), HTR.setC hne, (B1.out.trans (hb9.mono hbs)).setCell (p := ⟨b2, 5, none⟩) (by simp; omega) _⟩ ?_
 clear HTR X9 c9 z9 hb9 hgrow' hown' c5 d5 hN X0 X1 X2 B1 hu2 hbs
 rintro Z ⟨X0', X1', X2', HT', B1'⟩
 have CA : Hid (∀ w : World, Calls Tryz.prog 14 #[.agg #[vi ki ft.A.m, vi ki ft.A.k, vi ki ft.A.d, vi ki ft.A.n, vi ki ft.A.s, .int .u8 ft.A.z, vi ki ft.A.v, .string ft.A.t]] w fun e w' => e = zr (.agg #[vi ki ft.A.m, vi ki ft.A.k, vi ki ft.A.d, vi ki ft.A.n, vi ki ft.A.s, .int .u8 ft.A.z, vi ki ft.A.v, .string ft.A.t]) ∧ Below w.heap.size w w') := fun w => Fn.h17_any ft.A w
 have CB : Hid (∀ w : World, Calls Tryz.prog 14 #[.agg #[vi ki ft.B.m, vi ki ft.B.k, vi ki ft.B.d, vi ki ft.B.n, vi ki ft.B.s, .int .u8 ft.B.z, vi ki ft.B.v, .string ft.B.t]] w fun e w' => e = zr (.agg #[vi ki ft.B.m, vi ki ft.B.k, vi ki ft.B.d, vi ki ft.B.n, vi ki ft.B.s, .int .u8 ft.B.z, vi ki ft.B.v, .string ft.B.t]) ∧ Below w.heap.size w w') := fun w => Fn.h17_any ft.B w
 go_wp2_with fail
 refine wp_region_held_drew (S := GT w T (tbF nm f (.slice ao' n c') zeF) (tbF nm f (.slice ao' n c') (Fn.fL ft)) b2 (.slice ao' n c') L) (by kernel_rfl) (show GT w T _ _ b2 _ L Z.drew from ⟨B1'.drew, X0', X1', HT', .inl X2'⟩) (fun hHeld => ?_)
 refine tks 0 ⟨some 15, _, _, _, _, none⟩ rfl ?_
 simp only [za, zb, zc, zd]
 refine tks 1 ⟨some 16, _, _, _, _, none⟩ rfl ?_
 simp only [za, zb, zc, zd]
 refine tk (v := ?_) 2 ⟨some 17, _, _, _, _, none⟩ rfl ?_ ?_
 case refine_2 => (intro w9 hSw; have g6 : w9.cell? ⟨w.heap.size, 6, none⟩ = some (.bool ft.h) := hSw.2.1.c 6 (by rw [hT]; rfl); have g7 : w9.cell? ⟨w.heap.size, 7, none⟩ = some (vi ki ft.fr) := hSw.2.1.c 7 (by rw [hT]; rfl); have g8 : w9.cell? ⟨w.heap.size, 8, none⟩ = some (vi ki ft.off) := hSw.2.1.c 8 (by rw [hT]; rfl); clear hSw; go_simp; try with_reducible rfl)
 simp only [za, zb, zc, zd]
 refine tks 3 ⟨some 18, _, _, _, _, none⟩ rfl ?_
 simp only [za, zb, zc, zd]
 refine tks 4 ⟨some 19, _, _, _, _, none⟩ rfl ?_
 simp only [za, zb, zc, zd]
 refine tk (v := ?_) 5 ⟨some 20, _, _, _, _, none⟩ rfl ?_ ?_
 case refine_2 => (intro w9 hSw; have g6 : w9.cell? ⟨w.heap.size, 6, none⟩ = some (.bool ft.h) := hSw.2.1.c 6 (by rw [hT]; rfl); have g7 : w9.cell? ⟨w.heap.size, 7, none⟩ = some (vi ki ft.fr) := hSw.2.1.c 7 (by rw [hT]; rfl); have g8 : w9.cell? ⟨w.heap.size, 8, none⟩ = some (vi ki ft.off) := hSw.2.1.c 8 (by rw [hT]; rfl); clear hSw; go_simp; try with_reducible rfl)
 simp only [za, zb, zc, zd]
 refine tks 6 ⟨some 21, _, _, _, _, none⟩ rfl ?_
 simp only [za, zb, zc, zd]
 refine tks 7 ⟨some 22, _, _, _, _, none⟩ rfl ?_
 simp only [za, zb, zc, zd]
 refine tk (v := ?_) 8 ⟨some 23, _, _, _, _, none⟩ rfl ?_ ?_
 case refine_2 => (intro w9 hSw; have g6 : w9.cell? ⟨w.heap.size, 6, none⟩ = some (.bool ft.h) := hSw.2.1.c 6 (by rw [hT]; rfl); have g7 : w9.cell? ⟨w.heap.size, 7, none⟩ = some (vi ki ft.fr) := hSw.2.1.c 7 (by rw [hT]; rfl); have g8 : w9.cell? ⟨w.heap.size, 8, none⟩ = some (vi ki ft.off) := hSw.2.1.c 8 (by rw [hT]; rfl); clear hSw; go_simp; try with_reducible rfl)
 simp only [za, zb, zc, zd]
 refine tks 9 ⟨some 24, _, _, _, _, none⟩ rfl ?_
 simp only [za, zb, zc, zd]
 refine tks 10 ⟨some 25, _, _, _, _, none⟩ rfl ?_
 simp only [za, zb, zc, zd]
 refine wpAnyH_take (i := 11) (v := .agg #[vi ki ft.A.m, vi ki ft.A.k, vi ki ft.A.d, vi ki ft.A.n, vi ki ft.A.s, .int .u8 ft.A.z, vi ki ft.A.v, .string ft.A.t]) (oi := ⟨some 26, _, _, _, _, none⟩) rfl (by kernel_rfl) (by kernel_rfl) (by kernel_rfl) (fun _ _ _ h => h) (Or.inl ⟨by kernel_rfl, ?_⟩) (by assumption) ?_
 case refine_1 => (intro w9 hSw; exact exec_row (off := 9) rfl rfl (hSw.2.1.rng [.string nm, vi ki f.at_, vi ki f.off, .bool f.dst, .string f.ab, (.slice (some ⟨g, o, none⟩) n c), .bool ft.h, vi ki ft.fr, vi ki ft.off] [vi ki ft.A.m, vi ki ft.A.k, vi ki ft.A.d, vi ki ft.A.n, vi ki ft.A.s, .int .u8 ft.A.z, vi ki ft.A.v, .string ft.A.t] [vi ki ft.B.m, vi ki ft.B.k, vi ki ft.B.d, vi ki ft.B.n, vi ki ft.B.s, .int .u8 ft.B.z, vi ki ft.B.v, .string ft.B.t] (by rw [hT]; rfl)) Tryz.underlying30 rfl (by kernel_rfl))
 simp only [za, zb, zc, zd]
 refine tks 13 ⟨some 28, _, _, _, _, none⟩ rfl ?_
 simp only [za, zb, zc, zd]
 refine tks 14 ⟨some 29, _, _, _, _, none⟩ rfl ?_
 simp only [za, zb, zc, zd]
 refine wpAnyH_take (i := 15) (v := .agg #[vi ki ft.B.m, vi ki ft.B.k, vi ki ft.B.d, vi ki ft.B.n, vi ki ft.B.s, .int .u8 ft.B.z, vi ki ft.B.v, .string ft.B.t]) (oi := ⟨some 30, _, _, _, _, none⟩) rfl (by kernel_rfl) (by kernel_rfl) (by kernel_rfl) (fun _ _ _ h => h) (Or.inl ⟨by kernel_rfl, ?_⟩) (by assumption) ?_
 case refine_1 => (intro w9 hSw; exact exec_row (off := 17) rfl rfl (hSw.2.1.rng [.string nm, vi ki f.at_, vi ki f.off, .bool f.dst, .string f.ab, (.slice (some ⟨g, o, none⟩) n c), .bool ft.h, vi ki ft.fr, vi ki ft.off, vi ki ft.A.m, vi ki ft.A.k, vi ki ft.A.d, vi ki ft.A.n, vi ki ft.A.s, .int .u8 ft.A.z, vi ki ft.A.v, .string ft.A.t] [vi ki ft.B.m, vi ki ft.B.k, vi ki ft.B.d, vi ki ft.B.n, vi ki ft.B.s, .int .u8 ft.B.z, vi ki ft.B.v, .string ft.B.t] [] (by rw [hT]; rfl)) Tryz.underlying30 rfl (by kernel_rfl))
 simp only [za, zb, zc, zd]
 refine rd 12 ⟨some 27, _, _, _, _, none⟩ rfl (fun K hK => ?_)
 go_simp
 refine (CA.out _).mono ?_
 rintro e v1 ⟨rfl, hb1⟩
 refine hK.out _ _ (hHeld.below hb1) (fun hHeld => ?_)
 clear hK K hb1
 refine rd 16 ⟨some 31, _, _, _, _, none⟩ rfl (fun K hK => ?_)
 go_simp
 refine (CB.out _).mono ?_
 rintro e v2 ⟨rfl, hb2⟩
 refine hK.out _ _ (hHeld.below hb2) (fun hHeld => ?_)
 clear hK K hb2
 refine tks 17 ⟨some 32, _, _, _, _, none⟩ rfl ?_
 simp only [za, zb, zc, zd]
 refine tks 18 ⟨some 33, _, _, _, _, none⟩ rfl ?_
 simp only [za, zb, zc, zd]
 refine rd 19 ⟨none, _, _, _, _, none⟩ rfl (fun K hK => ?_)
 refine (if_pos (by kernel_rfl)).mpr (wp_store_mid 44 _ _ rfl b2 6 #[.bool ft.h, vi ki ft.fr, vi ki ft.off, vi ki ft.A.m, vi ki ft.A.k, vi ki ft.A.d, vi ki ft.A.n, vi ki ft.A.s, .int .u8 ft.A.z, vi ki ft.A.v, .string ft.A.t, vi ki ft.B.m, vi ki ft.B.k, vi ki ft.B.d, vi ki ft.B.n, vi ki ft.B.s, .int .u8 ft.B.z, vi ki ft.B.v, .string ft.B.t] rfl rfl ((hHeld.tail (p := [.string nm, vi ki f.at_, vi ki f.off, .bool f.dst, .string f.ab, .slice ao' n c']) (c1 := zeF) (vs := Fn.fL ft) rfl rfl rfl).1) (by kernel_rfl) (Fn.fL_one ft) ?_)
 have hD := (hHeld.tail (p := [.string nm, vi ki f.at_, vi ki f.off, .bool f.dst, .string f.ab, .slice ao' n c']) (c1 := zeF) (vs := Fn.fL ft) rfl rfl rfl).2
 have hP := hHeld.put (p := [.string nm, vi ki f.at_, vi ki f.off, .bool f.dst, .string f.ab, .slice ao' n c']) (c1 := zeF) (vs := Fn.fL ft) rfl rfl rfl hne hV1
 refine hK.out _ _ hP (fun hHeld2 => ?_)
 refine gen_any (fun Z => Bx Z (w.heap.size + 1) zeT ∧ Bx Z b2 (tbF nm f (.slice ao' n c') (Fn.fL ft)) ∧ TrAt Z (.slice ao' n c') L ∧ Below w.heap.size w Z) ⟨hP.2.2.1, hD, hP.2.2.2.1, hP.1⟩ ?_
 clear hK K hHeld hP hHeld2 hD
 rintro Z9 ⟨X1', X2', HT', B1'⟩
 refine wpAnyH_done (by kernel_rfl) ?_ _
 have X1 : Hid (Bx Z9 (w.heap.size + 1) zeT) := X1'
 have X2 : Hid (Bx Z9 b2 (tbF nm f (.slice ao' n c') (Fn.fL ft))) := X2'
 have B1 : Hid (Below w.heap.size w Z9 ∧ TrAt Z9 (.slice ao' n c') L) := ⟨B1', HT'⟩
 clear X1' X2' HT' B1'
 obtain ⟨T2, hT2⟩ : ∃ T2, tbF nm f (.slice ao' n c') (Fn.fL ft) = T2 := ⟨_, rfl⟩
 have hl2 : T2.length = 25 := by rw [← hT2]; rfl
 have h12 : T2.toArray.all (·.oneCell') = true := by rw [← hT2]; exact one_tf nm f ao' n c' ft
 rw [hT2] at X2
 have hs9 : T2.toArray.size = 25 := by rw [List.size_toArray, hl2]
 have ht9 : Z9.there (w.heap.size + 1) 0 T2.toArray.size := by rw [hs9]; exact X1.out.there
 have hi9 : (Tryz.prog.info? 46).map (·.size) = some T2.toArray.size := by rw [hs9]; kernel_rfl
 have hg9 : Bx (Z9.setCells (w.heap.size + 1) 0 T2.toArray.toList) (w.heap.size + 1) T2 ∧ TrAt (Z9.setCells (w.heap.size + 1) 0 T2.toArray.toList) (.slice ao' n c') L ∧ Below w.heap.size w (Z9.setCells (w.heap.size + 1) 0 T2.toArray.toList) := ⟨X1.out.setAll T2 (by rw [hl2]; rfl), trat_setCells B1.out.2 hne1, below_setCells (by omega) _ _ _ B1.out.1⟩
 go_wp2_with (first | (refine wpList_load_mid rfl 46 _ rfl b2 0 rfl T2 _ X2.out.all Tryz.underlying46 rfl (by rw [hl2]; kernel_rfl) ?_) | (refine wpList_store_mid rfl 46 _ _ rfl (w.heap.size + 1) 0 T2.toArray rfl rfl ht9 hi9 h12 ?_; refine gen_list (fun V => Bx V (w.heap.size + 1) T2 ∧ TrAt V (.slice ao' n c') L ∧ Below w.heap.size w V) hg9 ?_; clear X1 X2 B1 ht9 hg9 hs9; rintro V ⟨XV, TV, BV⟩) | fail)
 exact bodyPost_ret (v := .agg T2.toArray) (results_c1 rfl _ _ _ _ rfl (run_loadVar_mid _ _ _ _ _ _ XV.all Tryz.underlying46 rfl (by rw [hl2]; kernel_rfl))) rfl ⟨_, by rw [hT2], TV, BV, HCAP.out⟩
theorem given17n (nm : ByteArray) (f : TrR) (ft : Fn.Ft) (w : World) (T : List Value) (hT : T = tbF nm f (.slice none 0 0) (Fn.fL ft)) :
  Calls Tryz.prog 5 #[.agg T.toArray] w fun e w' => ∃ sv', e = zr (.agg (tbF nm f sv' (Fn.fL ft)).toArray) ∧ TrAt w' sv' [] ∧ Below w.heap.size w w' ∧ Cap sv' := by
 have X0 : Hid (Bx ((w.alloc (.cells T.toArray 34)).alloc (.cells zeT.toArray 46)) w.heap.size T) := (Bx.new w T _).alloc _
 have X1 : Hid (Bx ((w.alloc (.cells T.toArray 34)).alloc (.cells zeT.toArray 46)) (w.heap.size + 1) zeT) := Bx.newAt _ zeT _ _ (by simp)
 have B1 : Hid (Below w.heap.size w ((w.alloc (.cells T.toArray 34)).alloc (.cells zeT.toArray 46))) := ((Below.refl _ _).alloc (Nat.le_refl _) _).alloc (by simp) _
 go_enter Tryz.func5, Tryz.ntmps5
 generalize hUA : T.toArray = UA at *
 go_upto_region 1 with fail
 refine gen_code (fun V => Bx V w.heap.size T ∧ Bx V (w.heap.size + 1) zeT ∧ Below w.heap.size w V) ⟨X0.out, X1.out, B1.out⟩ ?_
 clear X0 X1 B1
 rintro V ⟨X0', X1', B1'⟩
 have X0 : Hid (Bx V w.heap.size T) := X0'
 have X1 : Hid (Bx V (w.heap.size + 1) zeT) := X1'
 have B1 : Hid (Below w.heap.size w V) := B1'
 clear X0' X1' B1'
 have d0 : V.cell? ⟨w.heap.size, 0, none⟩ = some (.string nm) := X0.out.c 0 (by rw [hT]; rfl)
 have d1 : V.cell? ⟨w.heap.size, 1, none⟩ = some (vi ki f.at_) := X0.out.c 1 (by rw [hT]; rfl)
 have d2 : V.cell? ⟨w.heap.size, 2, none⟩ = some (vi ki f.off) := X0.out.c 2 (by rw [hT]; rfl)
 have d3 : V.cell? ⟨w.heap.size, 3, none⟩ = some (.bool f.dst) := X0.out.c 3 (by rw [hT]; rfl)
 have d4 : V.cell? ⟨w.heap.size, 4, none⟩ = some (.string f.ab) := X0.out.c 4 (by rw [hT]; rfl)
 have Y2 : Hid (Bx (V.alloc (.cells zeT.toArray 46)) V.heap.size zeT) := Bx.new V zeT _
 have Y0 : Hid (Bx (V.alloc (.cells zeT.toArray 46)) w.heap.size T) := X0.out.alloc _
 have Y1 : Hid (Bx (V.alloc (.cells zeT.toArray 46)) (w.heap.size + 1) zeT) := X1.out.alloc _
 have YB : Hid (Below w.heap.size w (V.alloc (.cells zeT.toArray 46))) := B1.out.alloc (B1.out.size) _
 have hV1 := X1.out.1
 go_upto_region 2 with (refine wpList_store_mid rfl 46 _ _ rfl V.heap.size 0 (tbF nm f (.slice none 0 0) zeF).toArray rfl rfl Y2.out.there (by kernel_rfl) (one_tb _ _ _ _ _) ?_; refine gen_list (fun U => Bx U w.heap.size T ∧ Bx U (w.heap.size + 1) zeT ∧ Bx U V.heap.size (tbF nm f (.slice none 0 0) zeF) ∧ Below w.heap.size w U) ⟨Y0.out.setOther (by omega) _, Y1.out.setOther (by omega) _, Y2.out.setAll _ rfl, below_setCells (by omega) _ _ _ YB.out⟩ ?_; clear X0 X1 B1 Y0 Y1 Y2 YB d0 d1 d2 d3 d4; rintro U ⟨X0', X1', X2', B1'⟩; have X0 : Hid (Bx U w.heap.size T) := X0'; have X1 : Hid (Bx U (w.heap.size + 1) zeT) := X1'; have X2 : Hid (Bx U V.heap.size (tbF nm f (.slice none 0 0) zeF)) := X2'; have B1 : Hid (Below w.heap.size w U) := B1'; clear X0' X1' X2' B1')
 obtain ⟨b2, hb2⟩ : ∃ b2, V.heap.size = b2 := ⟨_, rfl⟩
 rw [hb2] at X2 hV1 ⊢
 clear hb2 V
 obtain ⟨i1, hi1, hy0, hy1, hy2⟩ := info_parts infoT9
 have c5 : U.cell? ⟨b2, 5, none⟩ = some (.slice none 0 0) := X2.out.c 5 rfl
 have d5 : U.cell? ⟨w.heap.size, 5, none⟩ = some (.slice none 0 0) := X0.out.c 5 (by rw [hT]; rfl)
 have hbs := B1.out.size
 have hu2 := X2.out.1
 have z5 : U.frozen? ⟨b2, 5, none⟩ = false := X2.out.f 5 (v := .slice none 0 0) rfl
 go_upto_region 3 with (at_builtin; refine wpList_append_own_none rfl _ _ 24 rfl U.heap.size 23 i1 4 Tryz.underlying24 hi1 (.slice none 0 0) 0 [] rfl (World.ownsRow_nil _ _ _ _) rfl ?_)
 have HCAP : Hid (Cap (.slice none 0 0)) := fun ao n c h => by cases h; exact Nat.le_refl _
 have HTR : TrAt U (.slice none 0 0) ([] : List TrR) := ⟨⟨none, 0, rfl⟩, by simp, .inl rfl⟩
 have hne : ∀ (a : Addr) (m k : Nat), Value.slice none 0 0 = .slice (some a) m k → a.block ≠ b2 := fun a m k h => by cases h
 have hne1 : ∀ (a : Addr) (m k : Nat), Value.slice none 0 0 = .slice (some a) m k → a.block ≠ w.heap.size + 1 := fun a m k h => by cases h
 refine gen_code (fun Z => Bx Z w.heap.size T ∧ Bx Z (w.heap.size + 1) zeT ∧ Bx Z b2 (tbF nm f (.slice none 0 0) zeF) ∧ TrAt Z (.slice none 0 0) [] ∧ Below w.heap.size w Z) ⟨bx_turns X0.out (Turns.setCell (M := [b2]) _ _ _ (by simp)) (by simp; omega), bx_turns X1.out (Turns.setCell (M := [b2]) _ _ _ (by simp)) (by simp; omega), bx_set1 X2.out 5 (.slice none 0 0) (by rw [tbF_len rfl]; decide), HTR.setC hne, B1.out.setCell (p := ⟨b2, 5, none⟩) (by simp; omega) _⟩ ?_
 clear HTR z5 c5 d5 X0 X1 X2 B1 hu2 hbs
 rintro Z ⟨X0', X1', X2', HT', B1'⟩
 have CA : Hid (∀ w : World, Calls Tryz.prog 14 #[.agg #[vi ki ft.A.m, vi ki ft.A.k, vi ki ft.A.d, vi ki ft.A.n, vi ki ft.A.s, .int .u8 ft.A.z, vi ki ft.A.v, .string ft.A.t]] w fun e w' => e = zr (.agg #[vi ki ft.A.m, vi ki ft.A.k, vi ki ft.A.d, vi ki ft.A.n, vi ki ft.A.s, .int .u8 ft.A.z, vi ki ft.A.v, .string ft.A.t]) ∧ Below w.heap.size w w') := fun w => Fn.h17_any ft.A w
 have CB : Hid (∀ w : World, Calls Tryz.prog 14 #[.agg #[vi ki ft.B.m, vi ki ft.B.k, vi ki ft.B.d, vi ki ft.B.n, vi ki ft.B.s, .int .u8 ft.B.z, vi ki ft.B.v, .string ft.B.t]] w fun e w' => e = zr (.agg #[vi ki ft.B.m, vi ki ft.B.k, vi ki ft.B.d, vi ki ft.B.n, vi ki ft.B.s, .int .u8 ft.B.z, vi ki ft.B.v, .string ft.B.t]) ∧ Below w.heap.size w w') := fun w => Fn.h17_any ft.B w
 go_wp2_with fail
 refine wp_region_held_drew (S := GT w T (tbF nm f (.slice none 0 0) zeF) (tbF nm f (.slice none 0 0) (Fn.fL ft)) b2 (.slice none 0 0) []) (by kernel_rfl) (show GT w T _ _ b2 _ [] Z.drew from ⟨B1'.drew, X0', X1', HT', .inl X2'⟩) (fun hHeld => ?_)
 refine tks 0 ⟨some 15, _, _, _, _, none⟩ rfl ?_
 simp only [za, zb, zc, zd]
 refine tks 1 ⟨some 16, _, _, _, _, none⟩ rfl ?_
 simp only [za, zb, zc, zd]
 refine tk (v := ?_) 2 ⟨some 17, _, _, _, _, none⟩ rfl ?_ ?_
 case refine_2 => (intro w9 hSw; have g6 : w9.cell? ⟨w.heap.size, 6, none⟩ = some (.bool ft.h) := hSw.2.1.c 6 (by rw [hT]; rfl); have g7 : w9.cell? ⟨w.heap.size, 7, none⟩ = some (vi ki ft.fr) := hSw.2.1.c 7 (by rw [hT]; rfl); have g8 : w9.cell? ⟨w.heap.size, 8, none⟩ = some (vi ki ft.off) := hSw.2.1.c 8 (by rw [hT]; rfl); clear hSw; go_simp; try with_reducible rfl)
 simp only [za, zb, zc, zd]
 refine tks 3 ⟨some 18, _, _, _, _, none⟩ rfl ?_
 simp only [za, zb, zc, zd]
 refine tks 4 ⟨some 19, _, _, _, _, none⟩ rfl ?_
 simp only [za, zb, zc, zd]
 refine tk (v := ?_) 5 ⟨some 20, _, _, _, _, none⟩ rfl ?_ ?_
 case refine_2 => (intro w9 hSw; have g6 : w9.cell? ⟨w.heap.size, 6, none⟩ = some (.bool ft.h) := hSw.2.1.c 6 (by rw [hT]; rfl); have g7 : w9.cell? ⟨w.heap.size, 7, none⟩ = some (vi ki ft.fr) := hSw.2.1.c 7 (by rw [hT]; rfl); have g8 : w9.cell? ⟨w.heap.size, 8, none⟩ = some (vi ki ft.off) := hSw.2.1.c 8 (by rw [hT]; rfl); clear hSw; go_simp; try with_reducible rfl)
 simp only [za, zb, zc, zd]
 refine tks 6 ⟨some 21, _, _, _, _, none⟩ rfl ?_
 simp only [za, zb, zc, zd]
 refine tks 7 ⟨some 22, _, _, _, _, none⟩ rfl ?_
 simp only [za, zb, zc, zd]
 refine tk (v := ?_) 8 ⟨some 23, _, _, _, _, none⟩ rfl ?_ ?_
 case refine_2 => (intro w9 hSw; have g6 : w9.cell? ⟨w.heap.size, 6, none⟩ = some (.bool ft.h) := hSw.2.1.c 6 (by rw [hT]; rfl); have g7 : w9.cell? ⟨w.heap.size, 7, none⟩ = some (vi ki ft.fr) := hSw.2.1.c 7 (by rw [hT]; rfl); have g8 : w9.cell? ⟨w.heap.size, 8, none⟩ = some (vi ki ft.off) := hSw.2.1.c 8 (by rw [hT]; rfl); clear hSw; go_simp; try with_reducible rfl)
 simp only [za, zb, zc, zd]
 refine tks 9 ⟨some 24, _, _, _, _, none⟩ rfl ?_
 simp only [za, zb, zc, zd]
 refine tks 10 ⟨some 25, _, _, _, _, none⟩ rfl ?_
 simp only [za, zb, zc, zd]
 refine wpAnyH_take (i := 11) (v := .agg #[vi ki ft.A.m, vi ki ft.A.k, vi ki ft.A.d, vi ki ft.A.n, vi ki ft.A.s, .int .u8 ft.A.z, vi ki ft.A.v, .string ft.A.t]) (oi := ⟨some 26, _, _, _, _, none⟩) rfl (by kernel_rfl) (by kernel_rfl) (by kernel_rfl) (fun _ _ _ h => h) (Or.inl ⟨by kernel_rfl, ?_⟩) (by assumption) ?_
 case refine_1 => (intro w9 hSw; exact exec_row (off := 9) rfl rfl (hSw.2.1.rng [.string nm, vi ki f.at_, vi ki f.off, .bool f.dst, .string f.ab, (.slice none 0 0), .bool ft.h, vi ki ft.fr, vi ki ft.off] [vi ki ft.A.m, vi ki ft.A.k, vi ki ft.A.d, vi ki ft.A.n, vi ki ft.A.s, .int .u8 ft.A.z, vi ki ft.A.v, .string ft.A.t] [vi ki ft.B.m, vi ki ft.B.k, vi ki ft.B.d, vi ki ft.B.n, vi ki ft.B.s, .int .u8 ft.B.z, vi ki ft.B.v, .string ft.B.t] (by rw [hT]; rfl)) Tryz.underlying30 rfl (by kernel_rfl))
 simp only [za, zb, zc, zd]
 refine tks 13 ⟨some 28, _, _, _, _, none⟩ rfl ?_
 simp only [za, zb, zc, zd]
 refine tks 14 ⟨some 29, _, _, _, _, none⟩ rfl ?_
 simp only [za, zb, zc, zd]
 refine wpAnyH_take (i := 15) (v := .agg #[vi ki ft.B.m, vi ki ft.B.k, vi ki ft.B.d, vi ki ft.B.n, vi ki ft.B.s, .int .u8 ft.B.z, vi ki ft.B.v, .string ft.B.t]) (oi := ⟨some 30, _, _, _, _, none⟩) rfl (by kernel_rfl) (by kernel_rfl) (by kernel_rfl) (fun _ _ _ h => h) (Or.inl ⟨by kernel_rfl, ?_⟩) (by assumption) ?_
 case refine_1 => (intro w9 hSw; exact exec_row (off := 17) rfl rfl (hSw.2.1.rng [.string nm, vi ki f.at_, vi ki f.off, .bool f.dst, .string f.ab, (.slice none 0 0), .bool ft.h, vi ki ft.fr, vi ki ft.off, vi ki ft.A.m, vi ki ft.A.k, vi ki ft.A.d, vi ki ft.A.n, vi ki ft.A.s, .int .u8 ft.A.z, vi ki ft.A.v, .string ft.A.t] [vi ki ft.B.m, vi ki ft.B.k, vi ki ft.B.d, vi ki ft.B.n, vi ki ft.B.s, .int .u8 ft.B.z, vi ki ft.B.v, .string ft.B.t] [] (by rw [hT]; rfl)) Tryz.underlying30 rfl (by kernel_rfl))
 simp only [za, zb, zc, zd]
 refine rd 12 ⟨some 27, _, _, _, _, none⟩ rfl (fun K hK => ?_)
 go_simp
 refine (CA.out _).mono ?_
 rintro e v1 ⟨rfl, hb1⟩
 refine hK.out _ _ (hHeld.below hb1) (fun hHeld => ?_)
 clear hK K hb1
 refine rd 16 ⟨some 31, _, _, _, _, none⟩ rfl (fun K hK => ?_)
 go_simp
 refine (CB.out _).mono ?_
 rintro e v2 ⟨rfl, hb2⟩
 refine hK.out _ _ (hHeld.below hb2) (fun hHeld => ?_)
 clear hK K hb2
 refine tks 17 ⟨some 32, _, _, _, _, none⟩ rfl ?_
 simp only [za, zb, zc, zd]
 refine tks 18 ⟨some 33, _, _, _, _, none⟩ rfl ?_
 simp only [za, zb, zc, zd]
 refine rd 19 ⟨none, _, _, _, _, none⟩ rfl (fun K hK => ?_)
 refine (if_pos (by kernel_rfl)).mpr (wp_store_mid 44 _ _ rfl b2 6 #[.bool ft.h, vi ki ft.fr, vi ki ft.off, vi ki ft.A.m, vi ki ft.A.k, vi ki ft.A.d, vi ki ft.A.n, vi ki ft.A.s, .int .u8 ft.A.z, vi ki ft.A.v, .string ft.A.t, vi ki ft.B.m, vi ki ft.B.k, vi ki ft.B.d, vi ki ft.B.n, vi ki ft.B.s, .int .u8 ft.B.z, vi ki ft.B.v, .string ft.B.t] rfl rfl ((hHeld.tail (p := [.string nm, vi ki f.at_, vi ki f.off, .bool f.dst, .string f.ab, .slice none 0 0]) (c1 := zeF) (vs := Fn.fL ft) rfl rfl rfl).1) (by kernel_rfl) (Fn.fL_one ft) ?_)
 have hD := (hHeld.tail (p := [.string nm, vi ki f.at_, vi ki f.off, .bool f.dst, .string f.ab, .slice none 0 0]) (c1 := zeF) (vs := Fn.fL ft) rfl rfl rfl).2
 have hP := hHeld.put (p := [.string nm, vi ki f.at_, vi ki f.off, .bool f.dst, .string f.ab, .slice none 0 0]) (c1 := zeF) (vs := Fn.fL ft) rfl rfl rfl hne hV1
 refine hK.out _ _ hP (fun hHeld2 => ?_)
 refine gen_any (fun Z => Bx Z (w.heap.size + 1) zeT ∧ Bx Z b2 (tbF nm f (.slice none 0 0) (Fn.fL ft)) ∧ TrAt Z (.slice none 0 0) [] ∧ Below w.heap.size w Z) ⟨hP.2.2.1, hD, hP.2.2.2.1, hP.1⟩ ?_
 clear hK K hHeld hP hHeld2 hD
 rintro Z9 ⟨X1', X2', HT', B1'⟩
 refine wpAnyH_done (by kernel_rfl) ?_ _
 have X1 : Hid (Bx Z9 (w.heap.size + 1) zeT) := X1'
 have X2 : Hid (Bx Z9 b2 (tbF nm f (.slice none 0 0) (Fn.fL ft))) := X2'
 have B1 : Hid (Below w.heap.size w Z9 ∧ TrAt Z9 (.slice none 0 0) []) := ⟨B1', HT'⟩
 clear X1' X2' HT' B1'
 obtain ⟨T2, hT2⟩ : ∃ T2, tbF nm f (.slice none 0 0) (Fn.fL ft) = T2 := ⟨_, rfl⟩
 have hl2 : T2.length = 25 := by rw [← hT2]; rfl
 have h12 : T2.toArray.all (·.oneCell') = true := by rw [← hT2]; exact one_tf nm f none 0 0 ft
 rw [hT2] at X2
 have hs9 : T2.toArray.size = 25 := by rw [List.size_toArray, hl2]
 have ht9 : Z9.there (w.heap.size + 1) 0 T2.toArray.size := by rw [hs9]; exact X1.out.there
 have hi9 : (Tryz.prog.info? 46).map (·.size) = some T2.toArray.size := by rw [hs9]; kernel_rfl
 have hg9 : Bx (Z9.setCells (w.heap.size + 1) 0 T2.toArray.toList) (w.heap.size + 1) T2 ∧ TrAt (Z9.setCells (w.heap.size + 1) 0 T2.toArray.toList) (.slice none 0 0) [] ∧ Below w.heap.size w (Z9.setCells (w.heap.size + 1) 0 T2.toArray.toList) := ⟨X1.out.setAll T2 (by rw [hl2]; rfl), trat_setCells B1.out.2 hne1, below_setCells (by omega) _ _ _ B1.out.1⟩
 go_wp2_with (first | (refine wpList_load_mid rfl 46 _ rfl b2 0 rfl T2 _ X2.out.all Tryz.underlying46 rfl (by rw [hl2]; kernel_rfl) ?_) | (refine wpList_store_mid rfl 46 _ _ rfl (w.heap.size + 1) 0 T2.toArray rfl rfl ht9 hi9 h12 ?_; refine gen_list (fun V => Bx V (w.heap.size + 1) T2 ∧ TrAt V (.slice none 0 0) [] ∧ Below w.heap.size w V) hg9 ?_; clear X1 X2 B1 ht9 hg9 hs9; rintro V ⟨XV, TV, BV⟩) | fail)
 exact bodyPost_ret (v := .agg T2.toArray) (results_c1 rfl _ _ _ _ rfl (run_loadVar_mid _ _ _ _ _ _ XV.all Tryz.underlying46 rfl (by rw [hl2]; kernel_rfl))) rfl ⟨_, by rw [hT2], TV, BV, HCAP.out⟩
theorem given_any17 (t : TbR) (sv : Value) (w : World) (HT : TransA w sv t.trs) (h40 : t.trs.length * 40 ≤ 140737488355328) (hg : ∀ a n c, sv = .slice (some a) n c → a.block < w.heap.size ∧ a.spot = none) :
  Calls Tryz.prog 5 #[.agg (tbL t sv).toArray] w fun e w' => ∃ sv', e = zr (.agg (tbL t sv').toArray) ∧ TrAt w' sv' t.trs ∧ Below w.heap.size w w' ∧ Cap sv' := by
 rcases HT with ⟨rfl, hL⟩ | ⟨a, cap, rfl, h1, h2, hc⟩
 ·rw [hL]
  exact given17n t.nm t.first t.foot w _ rfl
 ·obtain ⟨h3, h4⟩ := hg _ _ _ rfl
  obtain ⟨g, o, s⟩ := a
  simp only at h3 h4
  subst h4
  have hcs : ∀ j u, (trCs t.trs)[j]? = some u → w.cell? ⟨g, o + j, none⟩ = some u := fun j u hu => by
   have := hc j u hu
   unfold Addr.add at this
   split at this
   ·rename_i h; subst h; simpa using this
   ·exact this
  have hm : t.trs.length ≤ maxLen := by omega
  exact given17 t.nm t.first t.trs t.foot g o t.trs.length cap rfl w ⟨⟨_, _, rfl⟩, hm, .inr ⟨g, o, cap, rfl, h3, hcs⟩⟩ h3 hcs h40 hm _ rfl
def GR (W : World) (g : Nat) (L : List Int) : Prop := ∀ j x, L[j]? = some x → W.cell? ⟨g, j * 2, none⟩ = some (vi ki 0) ∧ W.cell? ⟨g, j * 2 + 1, none⟩ = some (vi ki x)
theorem GR.below {W V : World} {g : Nat} {L : List Int} (h : GR W g L) (hb : Below W.heap.size W V) : GR V g L := fun j x hj =>
 ⟨(hb.cell (World.block_lt_of_cell? W _ (h j x hj).1)).trans (h j x hj).1, (hb.cell (World.block_lt_of_cell? W _ (h j x hj).2)).trans (h j x hj).2⟩
structure SR (w : World) (l : List (Nat × List Value)) (B : World) (W : World) : Prop where
 bs : BS w l W
 bel : Below B.heap.size B W
theorem SR.below {w : World} {l : List (Nat × List Value)} {B W V : World} (h : SR w l B W) (hb : Below W.heap.size W V) : SR w l B V := ⟨h.bs.below hb, h.bel.trans (hb.mono h.bel.size)⟩
theorem SR.drew {w : World} {l : List (Nat × List Value)} {B W : World} (h : SR w l B W) : SR w l B W.drew := ⟨h.bs.drew, h.bel.drew⟩
theorem SR.off {w : World} {l : List (Nat × List Value)} {B W : World} (h : SR w l B W) {b : Nat} (hw : w.heap.size ≤ b) (hB : B.heap.size ≤ b) (hn : ∀ x ∈ l, x.1 ≠ b) (vs : List Value) : SR w l B (W.setCells b 0 vs) := ⟨h.bs.off hw hn vs, below_setCells hB vs W 0 h.bel⟩
def NB9 (w : World) (l : List (Nat × List Value)) (B : World) (b : Nat) (W : World) : Prop := Bx W b [vi ki 0, vi ki 0] ∧ w.heap.size ≤ b ∧ B.heap.size ≤ b ∧ ∀ x ∈ l, x.1 ≠ b
theorem NB9.below {w : World} {l : List (Nat × List Value)} {B : World} {b : Nat} {W V : World} (h : NB9 w l B b W) (hb : Below W.heap.size W V) : NB9 w l B b V := ⟨h.1.below hb, h.2⟩
theorem nb9_new {w : World} {l : List (Nat × List Value)} {B V : World} (h : SR w l B V) (t : TypeId) : NB9 w l B V.heap.size (V.alloc (.cells #[vi ki 0, vi ki 0] t)) :=
 ⟨Bx.new V [vi ki 0, vi ki 0] t, h.bs.1.size, h.bel.size, fun x hx => Nat.ne_of_lt (h.bs.2 x hx).2.1⟩
def S14 (w : World) (l : List (Nat × List Value)) (B : World) (nb : Nat) (y : Int) (W : World) : Prop := SR w l B W ∧ Bx W nb [vi ki 0, vi ki y]
theorem S14.below {w : World} {l : List (Nat × List Value)} {B : World} {nb : Nat} {y : Int} {W V : World} (h : S14 w l B nb y W) (hb : Below W.heap.size W V) : S14 w l B nb y V := ⟨h.1.below hb, h.2.below hb⟩
structure Rose (T : List Value) (Ok : World → Prop) (a j b d M D U : Int) (L : List Int) (n : Nat) (z y : Int) : Prop where
 len : L.length = n + 1
 short : n ≤ 1000
 head : L[0]? = some a
 last : L[n]? = some z
 within : ∀ (k : Nat) (x : Int), L[k]? = some x → ∃ c p : Int, IntKind.i64.wrap (c * d) = p ∧ p ≤ 0 ∧ ∀ w : World, Calls Tryz.prog 9 #[.agg #[vi ki 0, vi ki x], .agg #[vi ki j, vi ki b]] w fun r w' => r = zr (vi ki c) ∧ Below w.heap.size w w'
 leads : ∀ (k : Nat) (x x' : Int), L[k]? = some x → L[k + 1]? = some x' → ∃ c p : Int, IntKind.i64.wrap (c * d) = p ∧ 0 < p ∧ ∀ w : World, Calls Tryz.prog 9 #[.agg #[vi ki 0, vi ki x'], .agg #[vi ki 0, vi ki x]] w fun r w' => r = zr (vi ki c) ∧ Below w.heap.size w w'
 next : ∀ w : World, Ok w → Calls Tryz.prog 10 #[.agg T.toArray, .agg #[vi ki 0, vi ki z], .agg #[vi ki 0, vi ki M, vi ki D, vi ki U]] w fun r w' => r = zr (.tuple #[.agg #[vi ki 0, vi ki y], vi ki 0]) ∧ Below w.heap.size w w'
 beyond : ∃ c p : Int, IntKind.i64.wrap (c * d) = p ∧ 0 < p ∧ ∀ w : World, Calls Tryz.prog 9 #[.agg #[vi ki 0, vi ki y], .agg #[vi ki j, vi ki b]] w fun r w' => r = zr (vi ki c) ∧ Below w.heap.size w w'
def Out (T : List Value) (Ok : World → Prop) (i a j b q M D U m d : Int) : Prop :=
 ∃ (E : Int) (L : List Int), (∀ w : World, Ok w → Calls Tryz.prog 6 #[.agg T.toArray, .agg #[vi ki i, vi ki a], .agg #[vi ki j, vi ki b], .agg #[vi ki q, vi ki M, vi ki D, vi ki U], vi ki m] w fun r' w' => ∃ v, r' = zr (.tuple #[v, vi ki E]) ∧ Below w.heap.size w w' ∧ TRow w' v L) ∧
  ((E ≠ 0 ∧ L = []) ∨ (E = 0 ∧ L = [] ∧ ∃ c p : Int, IntKind.i64.wrap (c * d) = p ∧ 0 < p ∧ ∀ w : World, Calls Tryz.prog 9 #[.agg #[vi ki i, vi ki a], .agg #[vi ki j, vi ki b]] w fun r w' => r = zr (vi ki c) ∧ Below w.heap.size w w') ∨
   (E = 0 ∧ i = 0 ∧ q = 0 ∧ ∃ n z y, Rose T Ok a j b d M D U L n z y))
theorem sr_run (P0 : World → Prop) (Z : List Value) (hZ : Z.length = 25) (i a j b q M D U m d : Int)
  (GV : Hid (∀ w : World, P0 w → Calls Tryz.prog 5 #[.agg Z.toArray] w fun e w' => ∃ (T : List Value) (Ok : World → Prop), e = zr (.agg T.toArray) ∧ T.length = 25 ∧ T.toArray.all (·.oneCell') = true ∧ Ok w' ∧ (∀ A B : World, Ok A → Below A.heap.size A B → Ok B) ∧ (∀ A : World, Ok A → Ok A.drew) ∧ Below w.heap.size w w' ∧ Out T Ok i a j b q M D U m d))
  (SG : Hid (∀ w : World, Calls Tryz.prog 8 #[.agg #[vi ki q, vi ki M, vi ki D, vi ki U]] w fun r w' => r = zr (vi ki d) ∧ Below w.heap.size w w'))
  (KN : Hid (∀ w : World, Cvl.Lens w → Calls Tryz.prog 7 #[] w fun r w' => r = zr (.bool true) ∧ Below w.heap.size w w')) (w : World) (hL : Hid (∀ W : World, Below w.heap.size w W → P0 W)) (hLL : ∀ W, P0 W → Cvl.Lens W) :
  Calls Tryz.prog 3 #[.agg Z.toArray, .agg #[vi ki i, vi ki a], .agg #[vi ki j, vi ki b], .agg #[vi ki q, vi ki M, vi ki D, vi ki U], vi ki m] w fun r w' => r = zr (.bool true) ∧ Below w.heap.size w w' := by
 have K0 := bsn4 w Z 34 [vi ki i, vi ki a] 36 [vi ki j, vi ki b] 36 [vi ki q, vi ki M, vi ki D, vi ki U] 38
 go_enter Tryz.func3, Tryz.ntmps3
 generalize hZA : Z.toArray = ZA at *
 go_upto_region 1 with fail
 refine bs_to K0 ?_
 clear K0
 intro W0 K0
 go_wp2_with (first | (refine wpList_load_mid rfl 34 _ rfl (w.heap.size) 0 rfl Z _ (K0.out.at (w.heap.size) Z (by simp)).all Tryz.underlying34 rfl (by rw [hZ]; kernel_rfl) ?_; rw [hZA]) | fail)
 refine (GV.out _ (hL.out _ K0.out.1)).mono ?_
 rintro e W1 ⟨T, Ok, rfl, hTl, hT1, hok, hokb, hokd, hb, hout⟩
 have K1 := bsb K0 hb
 have HOK : Hid (Ok W1) := hok
 have HOB : Hid (∀ A B : World, Ok A → Below A.heap.size A B → Ok B) := hokb
 have HOD : Hid (∀ A : World, Ok A → Ok A.drew) := hokd
 have HOUT : Hid (Out T Ok i a j b q M D U m d) := hout
 clear hb K0 hok hokb hokd hout
 have X2 : Hid (Bx (W1.alloc (.cells zeT.toArray 46)) W1.heap.size zeT) := Bx.new W1 zeT _
 have Y2 : Hid (BS w [(w.heap.size + 3, [vi ki q, vi ki M, vi ki D, vi ki U]), (w.heap.size + 2, [vi ki j, vi ki b]), (w.heap.size + 1, [vi ki i, vi ki a]), (w.heap.size, Z)] (W1.alloc (.cells zeT.toArray 46))) := K1.out.alloc _
 have hsz := K1.out.1.size
 have lt0 := (K1.out.at (w.heap.size) Z (by simp)).1
 have lt1 := (bo3 K1).1
 have lt2 := (bo2 K1).1
 have lt3 := (bo1 K1).1
 have HO2 : Hid (Ok (W1.alloc (.cells zeT.toArray 46))) := HOB.out _ _ HOK.out ((Below.refl _ W1).alloc (Nat.le_refl _) _)
 generalize hTA : T.toArray = TA at *
 have hTs : TA.size = 25 := by rw [← hTA]; exact hTl
 have hgo : BS w ((W1.heap.size, T) :: [(w.heap.size + 3, [vi ki q, vi ki M, vi ki D, vi ki U]), (w.heap.size + 2, [vi ki j, vi ki b]), (w.heap.size + 1, [vi ki i, vi ki a]), (w.heap.size, Z)]) ((W1.alloc (.cells zeT.toArray 46)).setCells W1.heap.size 0 TA.toList) ∧ Ok ((W1.alloc (.cells zeT.toArray 46)).setCells W1.heap.size 0 TA.toList) := by
  have ht : TA.toList = T := by rw [← hTA]
  rw [ht]
  refine ⟨K1.out.push zeT T 46 (by rw [hTl]; rfl), HOB.out _ _ HOK.out ?_⟩
  exact below_setCells (w := W1) (Nat.le_refl _) T _ 0 ((Below.refl _ W1).alloc (Nat.le_refl _) _)
 go_upto_region 2 with (refine wpList_store_mid rfl 46 _ _ rfl W1.heap.size 0 TA rfl rfl (by rw [hTs]; exact X2.out.there) (by rw [hTs]; kernel_rfl) hT1 ?_; refine gen_list (fun V => BS w ((W1.heap.size, T) :: [(w.heap.size + 3, [vi ki q, vi ki M, vi ki D, vi ki U]), (w.heap.size + 2, [vi ki j, vi ki b]), (w.heap.size + 1, [vi ki i, vi ki a]), (w.heap.size, Z)]) V ∧ Ok V) hgo ?_; rintro V ⟨KV', OV'⟩)
 have K2 : Hid (BS w ((W1.heap.size, T) :: [(w.heap.size + 3, [vi ki q, vi ki M, vi ki D, vi ki U]), (w.heap.size + 2, [vi ki j, vi ki b]), (w.heap.size + 1, [vi ki i, vi ki a]), (w.heap.size, Z)]) V) := KV'
 have HV : Hid (Ok V) := OV'
 clear KV' OV' hgo X2 Y2 HO2 K1 HOK hTs
 obtain ⟨ob, hob⟩ : ∃ ob, W1.heap.size = ob := ⟨_, rfl⟩
 rw [hob] at K2 lt0 lt1 lt2 lt3 ⊢
 clear hob
 obtain ⟨c0, c1, c2, c3⟩ := (bo2 K2).c4
 obtain ⟨d0, d1⟩ := (bo3 K2).c2
 obtain ⟨e0, e1⟩ := (bo4 K2).c2
 obtain ⟨E, L, hTZ, hcs⟩ := HOUT.out
 have TZ : Hid (∀ w : World, Ok w → Calls Tryz.prog 6 #[.agg TA, .agg #[vi ki i, vi ki a], .agg #[vi ki j, vi ki b], .agg #[vi ki q, vi ki M, vi ki D, vi ki U], vi ki m] w fun r' w' => ∃ v, r' = zr (.tuple #[v, vi ki E]) ∧ Below w.heap.size w w' ∧ TRow w' v L) := by rw [← hTA]; exact hTZ
 clear hTZ HOUT
 go_wp2_with (first | (refine wpList_load_mid rfl 46 _ rfl ob 0 rfl T _ (K2.out.at ob T (by simp)).all Tryz.underlying46 rfl (by rw [hTl]; kernel_rfl) ?_; rw [hTA]) | fail)
 refine (TZ.out _ HV.out).mono ?_
 rintro e W3 ⟨v, rfl, hb, ht⟩
 have K3 := bsb K2 hb
 have HO3 : Hid (Ok W3) := HOB.out _ _ HV.out hb
 have HT3 : Hid (TRow W3 v L) := ht
 clear hb ht K2 HV TZ c0 c1 c2 c3 d0 d1 e0 e1
 rcases hcs with ⟨hE, rfl⟩ | ⟨rfl, rfl, c, p, hp, hp0, hC⟩ | ⟨rfl, rfl, rfl, n, z, y, hR⟩
 ·obtain ⟨ao, c, hv, _⟩ := HT3.out
  simp only [List.length_nil] at hv
  subst hv
  have hE1 : (E != 0) = true := by simpa using hE
  clear HT3
  go_wp2_with fail
  refine (KN.out _ (hLL _ (hL.out _ K3.out.1))).mono ?_
  rintro e W9 ⟨rfl, hb⟩
  have K9 := bsb K3 hb
  clear hb
  go_wp2_with fail
  go_ret
  exact ⟨rfl, K9.out.1⟩
 ·obtain ⟨ao, cc, hv, _⟩ := HT3.out
  simp only [List.length_nil] at hv
  subst hv
  have CP : Hid (∀ w : World, Calls Tryz.prog 9 #[.agg #[vi ki i, vi ki a], .agg #[vi ki j, vi ki b]] w fun r w' => r = zr (vi ki c) ∧ Below w.heap.size w w') := hC
  clear HT3 hC
  obtain ⟨c0, c1, c2, c3⟩ := (bo2 K3).c4
  go_wp2_with fail
  refine (SG.out _).mono ?_
  rintro e W4 ⟨rfl, hb⟩
  have K4 := bsb K3 hb
  clear hb K3 c0 c1 c2 c3
  obtain ⟨d0, d1⟩ := (bo3 K4).c2
  obtain ⟨e0, e1⟩ := (bo4 K4).c2
  go_wp2_with fail
  refine (CP.out _).mono ?_
  rintro e W5 ⟨rfl, hb⟩
  have K5 := bsb K4 hb
  clear hb K4 d0 d1 e0 e1
  go_wp2_with fail
  refine (KN.out _ (hLL _ (hL.out _ K5.out.1))).mono ?_
  rintro e W9 ⟨rfl, hb⟩
  have K9 := bsb K5 hb
  clear hb
  go_wp2_with fail
  go_ret
  exact ⟨rfl, K9.out.1⟩
 ·have HR : Hid (Rose T Ok a j b d M D U L n z y) := hR
  have hn := hR.short
  clear hR
  obtain ⟨ao, cc, hv, hrow⟩ := HT3.out
  rw [HR.out.len] at hv
  subst hv
  obtain ⟨g, hg, _, _⟩ := hrow 0 a HR.out.head
  subst hg
  have HG3 : Hid (GR W3 g L) := fun k x hk => by
   obtain ⟨g', e, h1, h2⟩ := hrow k x hk
   cases e
   exact ⟨h1, h2⟩
  have hn0 : ((n : Int) + 1 == 0) = false := by rw [beq_eq_false_iff_ne]; omega
  clear hrow HT3
  obtain ⟨c0, c1, c2, c3⟩ := (bo2 K3).c4
  go_wp2_with fail
  refine (SG.out _).mono ?_
  rintro e W4 ⟨rfl, hb⟩
  have HG4 : Hid (GR W4 g L) := HG3.out.below hb
  have HO4 : Hid (Ok W4) := HOB.out _ _ HO3.out hb
  have HS4 : Hid (SR w ((ob, T) :: [(w.heap.size + 3, [vi ki 0, vi ki M, vi ki D, vi ki U]), (w.heap.size + 2, [vi ki j, vi ki b]), (w.heap.size + 1, [vi ki 0, vi ki a]), (w.heap.size, Z)]) W4 W4) := ⟨K3.out.below hb, Below.refl _ _⟩
  clear hb K3 HO3 HG3 c0 c1 c2 c3
  go_wp2_with fail
  go_loopw [15] (fun iv W => ∃ k : Nat, k ≤ n + 1 ∧ iv = vi ki (k : Int) ∧ Hid (SR w ((ob, T) :: [(w.heap.size + 3, [vi ki 0, vi ki M, vi ki D, vi ki U]), (w.heap.size + 2, [vi ki j, vi ki b]), (w.heap.size + 1, [vi ki 0, vi ki a]), (w.heap.size, Z)]) W4 W)) (fun iv _ => n + 1 - (intOf iv).toNat)
  case atStart => exact ⟨0, Nat.zero_le _, rfl, HS4⟩
  case round =>
   clear HS4
   obtain ⟨k, hk, rfl, HS⟩ := hrel
   by_cases hlt : k < n + 1
   ·obtain ⟨x, hx⟩ : ∃ x, L[k]? = some x := ⟨L[k]'(by rw [HR.out.len]; exact hlt), List.getElem?_eq_getElem (by rw [HR.out.len]; exact hlt)⟩
    have HX : Hid (L[k]? = some x) := hx
    obtain ⟨c, p, hp, hp0, hC⟩ := HR.out.within k x hx
    have C1 : Hid (∀ w : World, Calls Tryz.prog 9 #[.agg #[vi ki 0, vi ki x], .agg #[vi ki j, vi ki b]] w fun r w' => r = zr (vi ki c) ∧ Below w.heap.size w w') := hC
    have hpf : decide (0 < p) = false := decide_eq_false (by omega)
    clear hx hC hp0
    by_cases hk0 : k = 0
    ·subst hk0
     go_wp2_with fail
     refine wp_region_held_drew (S := SR w ((ob, T) :: [(w.heap.size + 3, [vi ki 0, vi ki M, vi ki D, vi ki U]), (w.heap.size + 2, [vi ki j, vi ki b]), (w.heap.size + 1, [vi ki 0, vi ki a]), (w.heap.size, Z)]) W4) (by kernel_rfl) HS.out.drew (fun hHeld => ?_)
     refine tks 0 ⟨some 57, _, _, _, _, none⟩ rfl ?_
     simp only [za, zb, zc, zd]
     refine tks 1 ⟨some 58, _, _, _, _, none⟩ rfl ?_
     simp only [za, zb, zc, zd]
     refine tks 2 ⟨some 59, _, _, _, _, none⟩ rfl ?_
     simp only [za, zb, zc, zd]
     refine tk (v := ?_) 3 ⟨some 60, _, _, _, _, none⟩ rfl ?_ ?_
     case refine_2 => (intro w9 hSw; obtain ⟨l0_0, l0_1, l0_2, l0_3⟩ := (hSw.bs.at (w.heap.size + 3) [vi ki 0, vi ki M, vi ki D, vi ki U] (by simp)).c4; obtain ⟨l1_0, l1_1⟩ := (hSw.bs.at (w.heap.size + 2) [vi ki j, vi ki b] (by simp)).c2; obtain ⟨l2_0, l2_1⟩ := (hSw.bs.at (w.heap.size + 1) [vi ki 0, vi ki a] (by simp)).c2; have gg := HG4.out.below hSw.bel; have la := (gg 0 x HX.out).1; have lb := (gg 0 x HX.out).2; clear gg; simp only [Nat.zero_mul, Nat.zero_add] at la lb; clear hSw; go_simp; try with_reducible rfl)
     simp only [za, zb, zc, zd]
     refine tk (v := ?_) 4 ⟨some 61, _, _, _, _, none⟩ rfl ?_ ?_
     case refine_2 => (intro w9 hSw; obtain ⟨l0_0, l0_1, l0_2, l0_3⟩ := (hSw.bs.at (w.heap.size + 3) [vi ki 0, vi ki M, vi ki D, vi ki U] (by simp)).c4; obtain ⟨l1_0, l1_1⟩ := (hSw.bs.at (w.heap.size + 2) [vi ki j, vi ki b] (by simp)).c2; obtain ⟨l2_0, l2_1⟩ := (hSw.bs.at (w.heap.size + 1) [vi ki 0, vi ki a] (by simp)).c2; have gg := HG4.out.below hSw.bel; have la := (gg 0 x HX.out).1; have lb := (gg 0 x HX.out).2; clear gg; simp only [Nat.zero_mul, Nat.zero_add] at la lb; clear hSw; go_simp; try with_reducible rfl)
     simp only [za, zb, zc, zd]
     refine tks 6 ⟨some 63, _, _, _, _, none⟩ rfl ?_
     simp only [za, zb, zc, zd]
     refine rd 5 ⟨some 62, _, _, _, _, none⟩ rfl (fun K hK => ?_)
     go_simp
     refine (C1.out _).mono ?_
     rintro e v1 ⟨rfl, hb1⟩
     refine hK.out _ _ (hHeld.below hb1) (fun hHeld => ?_)
     clear hK K hb1
     refine tks 7 ⟨some 64, _, _, _, _, none⟩ rfl ?_
     simp only [za, zb, zc, zd]
     refine tks 8 ⟨some 65, _, _, _, _, none⟩ rfl ?_
     simp only [za, zb, zc, zd]
     refine tks 9 ⟨some 66, _, _, _, _, none⟩ rfl ?_
     simp only [za, zb, zc, zd]
     refine tks 10 ⟨some 67, _, _, _, _, some (9, false)⟩ rfl ?_
     simp only [za, zb, zc, zd]
     refine tks 11 ⟨some 68, _, _, _, _, some (9, false)⟩ rfl ?_
     simp only [za, zb, zc, zd]
     refine tks 12 ⟨some 69, _, _, _, _, some (9, false)⟩ rfl ?_
     simp only [za, zb, zc, zd]
     refine tku 13 ⟨some 70, _, _, _, _, some (12, true)⟩ rfl ?_
     simp only [za, zb, zc, zd]
     refine tku 14 ⟨some 71, _, _, _, _, some (12, true)⟩ rfl ?_
     simp only [za, zb, zc, zd]
     refine tku 15 ⟨some 72, _, _, _, _, some (12, true)⟩ rfl ?_
     simp only [za, zb, zc, zd]
     refine tku 16 ⟨some 73, _, _, _, _, some (12, true)⟩ rfl ?_
     simp only [za, zb, zc, zd]
     refine tku 17 ⟨some 74, _, _, _, _, some (12, true)⟩ rfl ?_
     simp only [za, zb, zc, zd]
     refine tku 18 ⟨some 75, _, _, _, _, some (12, true)⟩ rfl ?_
     simp only [za, zb, zc, zd]
     refine tku 19 ⟨some 76, _, _, _, _, some (12, true)⟩ rfl ?_
     simp only [za, zb, zc, zd]
     refine tku 20 ⟨some 77, _, _, _, _, some (12, true)⟩ rfl ?_
     simp only [za, zb, zc, zd]
     refine tku 21 ⟨some 78, _, _, _, _, some (12, true)⟩ rfl ?_
     simp only [za, zb, zc, zd]
     refine tku 22 ⟨some 79, _, _, _, _, some (12, true)⟩ rfl ?_
     simp only [za, zb, zc, zd]
     refine tku 23 ⟨some 80, _, _, _, _, some (12, true)⟩ rfl ?_
     simp only [za, zb, zc, zd]
     refine tku 24 ⟨some 81, _, _, _, _, some (12, true)⟩ rfl ?_
     simp only [za, zb, zc, zd]
     refine tku 25 ⟨some 82, _, _, _, _, some (12, true)⟩ rfl ?_
     simp only [za, zb, zc, zd]
     refine tks 26 ⟨some 83, _, _, _, _, some (9, false)⟩ rfl ?_
     simp only [za, zb, zc, zd]
     refine tks 27 ⟨some 84, _, _, _, _, none⟩ rfl ?_
     simp only [za, zb, zc, zd]
     refine wpAnyH_done (by kernel_rfl) ?_ _
     go_wp2_with fail
     go_roundw
     case rel => exact ⟨0 + 1, by omega, by go_num, hHeld⟩
     case measure => first | (simp [intOf]; done) | (simp [intOf]; omega)
    ·obtain ⟨k1, hk1⟩ : ∃ k1, k = k1 + 1 := ⟨k - 1, by omega⟩
     obtain ⟨x1, hx1⟩ : ∃ x1, L[k1]? = some x1 := ⟨L[k1]'(by rw [HR.out.len]; omega), List.getElem?_eq_getElem (by rw [HR.out.len]; omega)⟩
     have HX1 : Hid (L[k1]? = some x1) := hx1
     obtain ⟨c9, p9, hp9, hq0, hC9⟩ := HR.out.leads k1 x1 x hx1 (by rw [← hk1]; exact HX.out)
     have C2 : Hid (∀ w : World, Calls Tryz.prog 9 #[.agg #[vi ki 0, vi ki x], .agg #[vi ki 0, vi ki x1]] w fun r w' => r = zr (vi ki c9) ∧ Below w.heap.size w w') := hC9
     have wk : IntKind.i64.wrap ((k : Int) - 1) = (k1 : Int) := by rw [IntKind.wrap_i64]; omega
     have hk2 : (k1 : Int) < (n : Int) + 1 := by omega
     have hkp : 0 < k := by omega
     have hpg : decide (p9 ≤ 0) = false := decide_eq_false (by omega)
     clear hx1 hC9 hk1 hk0 hq0
     go_wp2_with fail
     refine wp_region_held_drew (S := SR w ((ob, T) :: [(w.heap.size + 3, [vi ki 0, vi ki M, vi ki D, vi ki U]), (w.heap.size + 2, [vi ki j, vi ki b]), (w.heap.size + 1, [vi ki 0, vi ki a]), (w.heap.size, Z)]) W4) (by kernel_rfl) HS.out.drew (fun hHeld => ?_)
     refine tks 0 ⟨some 57, _, _, _, _, none⟩ rfl ?_
     simp only [za, zb, zc, zd]
     refine tks 1 ⟨some 58, _, _, _, _, none⟩ rfl ?_
     simp only [za, zb, zc, zd]
     refine tks 2 ⟨some 59, _, _, _, _, none⟩ rfl ?_
     simp only [za, zb, zc, zd]
     refine tk (v := ?_) 3 ⟨some 60, _, _, _, _, none⟩ rfl ?_ ?_
     case refine_2 => (intro w9 hSw; obtain ⟨l0_0, l0_1, l0_2, l0_3⟩ := (hSw.bs.at (w.heap.size + 3) [vi ki 0, vi ki M, vi ki D, vi ki U] (by simp)).c4; obtain ⟨l1_0, l1_1⟩ := (hSw.bs.at (w.heap.size + 2) [vi ki j, vi ki b] (by simp)).c2; obtain ⟨l2_0, l2_1⟩ := (hSw.bs.at (w.heap.size + 1) [vi ki 0, vi ki a] (by simp)).c2; have gg := HG4.out.below hSw.bel; have la := (gg k x HX.out).1; have lb := (gg k x HX.out).2; have lc := (gg k1 x1 HX1.out).1; have ld := (gg k1 x1 HX1.out).2; clear gg; clear hSw; go_simp; try with_reducible rfl)
     simp only [za, zb, zc, zd]
     refine tk (v := ?_) 4 ⟨some 61, _, _, _, _, none⟩ rfl ?_ ?_
     case refine_2 => (intro w9 hSw; obtain ⟨l0_0, l0_1, l0_2, l0_3⟩ := (hSw.bs.at (w.heap.size + 3) [vi ki 0, vi ki M, vi ki D, vi ki U] (by simp)).c4; obtain ⟨l1_0, l1_1⟩ := (hSw.bs.at (w.heap.size + 2) [vi ki j, vi ki b] (by simp)).c2; obtain ⟨l2_0, l2_1⟩ := (hSw.bs.at (w.heap.size + 1) [vi ki 0, vi ki a] (by simp)).c2; have gg := HG4.out.below hSw.bel; have la := (gg k x HX.out).1; have lb := (gg k x HX.out).2; have lc := (gg k1 x1 HX1.out).1; have ld := (gg k1 x1 HX1.out).2; clear gg; clear hSw; go_simp; try with_reducible rfl)
     simp only [za, zb, zc, zd]
     refine tks 6 ⟨some 63, _, _, _, _, none⟩ rfl ?_
     simp only [za, zb, zc, zd]
     refine rd 5 ⟨some 62, _, _, _, _, none⟩ rfl (fun K hK => ?_)
     go_simp
     refine (C1.out _).mono ?_
     rintro e v1 ⟨rfl, hb1⟩
     refine hK.out _ _ (hHeld.below hb1) (fun hHeld => ?_)
     clear hK K hb1
     refine tks 7 ⟨some 64, _, _, _, _, none⟩ rfl ?_
     simp only [za, zb, zc, zd]
     refine tks 8 ⟨some 65, _, _, _, _, none⟩ rfl ?_
     simp only [za, zb, zc, zd]
     refine tks 9 ⟨some 66, _, _, _, _, none⟩ rfl ?_
     simp only [za, zb, zc, zd]
     refine tks 10 ⟨some 67, _, _, _, _, some (9, false)⟩ rfl ?_
     simp only [za, zb, zc, zd]
     refine tks 11 ⟨some 68, _, _, _, _, some (9, false)⟩ rfl ?_
     simp only [za, zb, zc, zd]
     refine tks 12 ⟨some 69, _, _, _, _, some (9, false)⟩ rfl ?_
     simp only [za, zb, zc, zd]
     refine tks 13 ⟨some 70, _, _, _, _, some (12, true)⟩ rfl ?_
     simp only [za, zb, zc, zd]
     refine tks 14 ⟨some 71, _, _, _, _, some (12, true)⟩ rfl ?_
     simp only [za, zb, zc, zd]
     refine tks 15 ⟨some 72, _, _, _, _, some (12, true)⟩ rfl ?_
     simp only [za, zb, zc, zd]
     refine tk (v := ?_) 16 ⟨some 73, _, _, _, _, some (12, true)⟩ rfl ?_ ?_
     case refine_2 => (intro w9 hSw; obtain ⟨l0_0, l0_1, l0_2, l0_3⟩ := (hSw.bs.at (w.heap.size + 3) [vi ki 0, vi ki M, vi ki D, vi ki U] (by simp)).c4; obtain ⟨l1_0, l1_1⟩ := (hSw.bs.at (w.heap.size + 2) [vi ki j, vi ki b] (by simp)).c2; obtain ⟨l2_0, l2_1⟩ := (hSw.bs.at (w.heap.size + 1) [vi ki 0, vi ki a] (by simp)).c2; have gg := HG4.out.below hSw.bel; have la := (gg k x HX.out).1; have lb := (gg k x HX.out).2; have lc := (gg k1 x1 HX1.out).1; have ld := (gg k1 x1 HX1.out).2; clear gg; clear hSw; go_simp; try with_reducible rfl)
     simp only [za, zb, zc, zd]
     refine tks 17 ⟨some 74, _, _, _, _, some (12, true)⟩ rfl ?_
     simp only [za, zb, zc, zd]
     refine tks 18 ⟨some 75, _, _, _, _, some (12, true)⟩ rfl ?_
     simp only [za, zb, zc, zd]
     refine tks 19 ⟨some 76, _, _, _, _, some (12, true)⟩ rfl ?_
     simp only [za, zb, zc, zd]
     refine tks 20 ⟨some 77, _, _, _, _, some (12, true)⟩ rfl ?_
     simp only [za, zb, zc, zd]
     refine tk (v := ?_) 21 ⟨some 78, _, _, _, _, some (12, true)⟩ rfl ?_ ?_
     case refine_2 => (intro w9 hSw; obtain ⟨l0_0, l0_1, l0_2, l0_3⟩ := (hSw.bs.at (w.heap.size + 3) [vi ki 0, vi ki M, vi ki D, vi ki U] (by simp)).c4; obtain ⟨l1_0, l1_1⟩ := (hSw.bs.at (w.heap.size + 2) [vi ki j, vi ki b] (by simp)).c2; obtain ⟨l2_0, l2_1⟩ := (hSw.bs.at (w.heap.size + 1) [vi ki 0, vi ki a] (by simp)).c2; have gg := HG4.out.below hSw.bel; have la := (gg k x HX.out).1; have lb := (gg k x HX.out).2; have lc := (gg k1 x1 HX1.out).1; have ld := (gg k1 x1 HX1.out).2; clear gg; clear hSw; go_simp; try with_reducible rfl)
     simp only [za, zb, zc, zd]
     refine tks 23 ⟨some 80, _, _, _, _, some (12, true)⟩ rfl ?_
     simp only [za, zb, zc, zd]
     refine rd 22 ⟨some 79, _, _, _, _, some (12, true)⟩ rfl (fun K hK => ?_)
     go_simp
     refine (C2.out _).mono ?_
     rintro e v2 ⟨rfl, hb2⟩
     refine hK.out _ _ (hHeld.below hb2) (fun hHeld => ?_)
     clear hK K hb2
     refine tks 24 ⟨some 81, _, _, _, _, some (12, true)⟩ rfl ?_
     simp only [za, zb, zc, zd]
     refine tks 25 ⟨some 82, _, _, _, _, some (12, true)⟩ rfl ?_
     simp only [za, zb, zc, zd]
     refine tks 26 ⟨some 83, _, _, _, _, some (9, false)⟩ rfl ?_
     simp only [za, zb, zc, zd]
     refine tks 27 ⟨some 84, _, _, _, _, none⟩ rfl ?_
     simp only [za, zb, zc, zd]
     refine wpAnyH_done (by kernel_rfl) ?_ _
     go_wp2_with fail
     go_roundw
     case rel => exact ⟨k + 1, by omega, by go_num, hHeld⟩
     case measure => first | (simp [intOf]; done) | (simp [intOf]; omega)
   ·have hkn : ¬ (k : Int) < (n : Int) + 1 := by omega
    clear hlt
    have HZz := HR.out.last
    have HN : Hid (∀ w : World, Ok w → Calls Tryz.prog 10 #[.agg TA, .agg #[vi ki 0, vi ki z], .agg #[vi ki 0, vi ki M, vi ki D, vi ki U]] w fun r w' => r = zr (.tuple #[.agg #[vi ki 0, vi ki y], vi ki 0]) ∧ Below w.heap.size w w') := by rw [← hTA]; exact HR.out.next
    obtain ⟨c, p, hp, hp0, hC⟩ := HR.out.beyond
    have C3 : Hid (∀ w : World, Calls Tryz.prog 9 #[.agg #[vi ki 0, vi ki y], .agg #[vi ki j, vi ki b]] w fun r w' => r = zr (vi ki c) ∧ Below w.heap.size w w') := hC
    have HZL : Hid (L[n]? = some z) := HZz
    have H0L : Hid (L[0]? = some a) := HR.out.head
    have hnn : (n : Int) < (n : Int) + 1 := by omega
    have wn : IntKind.i64.wrap ((n : Int) + 1 - 1) = (n : Int) := by rw [IntKind.wrap_i64]; omega
    have wn2 : IntKind.i64.wrap (n : Int) = (n : Int) := by rw [IntKind.wrap_i64]; omega
    clear hC HZz
    go_upto_region 13 with fail
    go_cut [16, 17] (fun v16 v17 wx => ∃ nb, v16 = .pointer (some ⟨nb, 0, none⟩) ∧ v17 = vi ki 0 ∧ Hid (SR w ((ob, T) :: [(w.heap.size + 3, [vi ki 0, vi ki M, vi ki D, vi ki U]), (w.heap.size + 2, [vi ki j, vi ki b]), (w.heap.size + 1, [vi ki 0, vi ki a]), (w.heap.size, Z)]) W4 wx) ∧ Hid (Bx wx nb [vi ki 0, vi ki y]))
    case first =>
     refine wp_region_held_drew (S := SR w ((ob, T) :: [(w.heap.size + 3, [vi ki 0, vi ki M, vi ki D, vi ki U]), (w.heap.size + 2, [vi ki j, vi ki b]), (w.heap.size + 1, [vi ki 0, vi ki a]), (w.heap.size, Z)]) W4) (by kernel_rfl) HS.out.drew (fun hHeld => ?_)
     refine wpAnyH_take (i := 0) (v := .agg TA) (oi := ⟨some 86, _, _, _, _, none⟩) rfl (by kernel_rfl) (by kernel_rfl) (by kernel_rfl) (fun _ _ _ h => h) (Or.inl ⟨by kernel_rfl, ?_⟩) (by assumption) ?_
     case refine_1 => (intro w9 hSw; rw [← hTA]; exact exec_row9 rfl rfl (hSw.bs.at ob T (by simp)).all Tryz.underlying46 rfl (by rw [hTl]; kernel_rfl))
     simp only [za, zb, zc, zd]
     refine tks 1 ⟨some 87, _, _, _, _, none⟩ rfl ?_
     simp only [za, zb, zc, zd]
     refine tks 2 ⟨some 88, _, _, _, _, none⟩ rfl ?_
     simp only [za, zb, zc, zd]
     refine tks 3 ⟨some 89, _, _, _, _, none⟩ rfl ?_
     simp only [za, zb, zc, zd]
     refine tks 4 ⟨some 90, _, _, _, _, none⟩ rfl ?_
     simp only [za, zb, zc, zd]
     refine tks 5 ⟨some 91, _, _, _, _, none⟩ rfl ?_
     simp only [za, zb, zc, zd]
     refine tk (v := ?_) 6 ⟨some 92, _, _, _, _, none⟩ rfl ?_ ?_
     case refine_2 => (intro w9 hSw; obtain ⟨l0_0, l0_1, l0_2, l0_3⟩ := (hSw.bs.at (w.heap.size + 3) [vi ki 0, vi ki M, vi ki D, vi ki U] (by simp)).c4; obtain ⟨l1_0, l1_1⟩ := (hSw.bs.at (w.heap.size + 2) [vi ki j, vi ki b] (by simp)).c2; obtain ⟨l2_0, l2_1⟩ := (hSw.bs.at (w.heap.size + 1) [vi ki 0, vi ki a] (by simp)).c2; have gg := HG4.out.below hSw.bel; have la := (gg n z HZL.out).1; have lb := (gg n z HZL.out).2; clear gg; clear hSw; go_simp; try with_reducible rfl)
     simp only [za, zb, zc, zd]
     refine tk (v := ?_) 7 ⟨some 93, _, _, _, _, none⟩ rfl ?_ ?_
     case refine_2 => (intro w9 hSw; obtain ⟨l0_0, l0_1, l0_2, l0_3⟩ := (hSw.bs.at (w.heap.size + 3) [vi ki 0, vi ki M, vi ki D, vi ki U] (by simp)).c4; obtain ⟨l1_0, l1_1⟩ := (hSw.bs.at (w.heap.size + 2) [vi ki j, vi ki b] (by simp)).c2; obtain ⟨l2_0, l2_1⟩ := (hSw.bs.at (w.heap.size + 1) [vi ki 0, vi ki a] (by simp)).c2; have gg := HG4.out.below hSw.bel; have la := (gg n z HZL.out).1; have lb := (gg n z HZL.out).2; clear gg; clear hSw; go_simp; try with_reducible rfl)
     simp only [za, zb, zc, zd]
     refine wpAnyH_ready (rs := [8, 12]) (by kernel_rfl) (by simp) (AllReadyH.cons (o := ⟨some 94, _, _, _, _, none⟩) rfl (fun K hK => ?_) (AllReadyH.cons (o := ⟨some 16, _, _, _, _, none⟩) rfl (fun K hK => ?_) AllReadyH.nil))
     ·
      go_simp
      refine (HN.out _ (HOB.out _ _ HO4.out hHeld.bel)).mono ?_
      rintro e v1 ⟨rfl, hb1⟩
      refine hK.out _ _ (hHeld.below hb1) (fun hHeld => ?_)
      try (have HNn := HNB.out.below hb1; clear HNB; have HNB : Hid (NB9 _ _ _ _ _) := HNn; clear HNn)
      clear hK K hb1
      refine tks 9 ⟨some 85, _, _, _, _, none⟩ rfl ?_
      simp only [za, zb, zc, zd]
      refine tks 10 ⟨some 95, _, _, _, _, none⟩ rfl ?_
      simp only [za, zb, zc, zd]
      refine tks 11 ⟨some 96, _, _, _, _, none⟩ rfl ?_
      simp only [za, zb, zc, zd]
      refine rd 12 ⟨some 16, _, _, _, _, none⟩ rfl (fun K hK => ?_)
      go_simp
      have hH0 := hHeld
      refine hK.out _ _ (hHeld.below ((Below.refl _ _).alloc (Nat.le_refl _) _)) (fun hHeld => ?_)
      have HNB : Hid (NB9 w ((ob, T) :: [(w.heap.size + 3, [vi ki 0, vi ki M, vi ki D, vi ki U]), (w.heap.size + 2, [vi ki j, vi ki b]), (w.heap.size + 1, [vi ki 0, vi ki a]), (w.heap.size, Z)]) W4 _ _) := nb9_new hH0 36
      clear hK K hH0
      refine rd 13 ⟨none, _, _, _, _, none⟩ rfl (fun K hK => ?_)
      refine (if_pos (by kernel_rfl)).mpr (wp_store_mid 36 _ _ rfl _ 0 #[vi ki 0, vi ki y] rfl rfl HNB.out.1.there (by kernel_rfl) (by simp [Value.oneCell']) (hK.out _ _ (hHeld.off HNB.out.2.1 HNB.out.2.2.1 HNB.out.2.2.2 _) (fun hHeld => ?_)))
      have HB2 : Hid (Bx _ _ [vi ki 0, vi ki y]) := HNB.out.1.setAll _ rfl
      clear hK K HNB
      refine tks 14 ⟨some 17, _, _, _, _, none⟩ rfl ?_
      simp only [za, zb, zc, zd]
      refine wpAnyH_done (by kernel_rfl) ?_ _
      go_wp2_with fail
      go_meet
      case rel => exact ⟨_, rfl, rfl, hHeld, HB2⟩
     ·
      go_simp
      have hH0 := hHeld
      refine hK.out _ _ (hHeld.below ((Below.refl _ _).alloc (Nat.le_refl _) _)) (fun hHeld => ?_)
      have HNB : Hid (NB9 w ((ob, T) :: [(w.heap.size + 3, [vi ki 0, vi ki M, vi ki D, vi ki U]), (w.heap.size + 2, [vi ki j, vi ki b]), (w.heap.size + 1, [vi ki 0, vi ki a]), (w.heap.size, Z)]) W4 _ _) := nb9_new hH0 36
      clear hK K hH0
      refine rd 8 ⟨some 94, _, _, _, _, none⟩ rfl (fun K hK => ?_)
      go_simp
      refine (HN.out _ (HOB.out _ _ HO4.out hHeld.bel)).mono ?_
      rintro e v5 ⟨rfl, hb5⟩
      refine hK.out _ _ (hHeld.below hb5) (fun hHeld => ?_)
      try (have HNn := HNB.out.below hb5; clear HNB; have HNB : Hid (NB9 _ _ _ _ _) := HNn; clear HNn)
      clear hK K hb5
      refine tks 9 ⟨some 85, _, _, _, _, none⟩ rfl ?_
      simp only [za, zb, zc, zd]
      refine tks 10 ⟨some 95, _, _, _, _, none⟩ rfl ?_
      simp only [za, zb, zc, zd]
      refine tks 11 ⟨some 96, _, _, _, _, none⟩ rfl ?_
      simp only [za, zb, zc, zd]
      refine rd 13 ⟨none, _, _, _, _, none⟩ rfl (fun K hK => ?_)
      refine (if_pos (by kernel_rfl)).mpr (wp_store_mid 36 _ _ rfl _ 0 #[vi ki 0, vi ki y] rfl rfl HNB.out.1.there (by kernel_rfl) (by simp [Value.oneCell']) (hK.out _ _ (hHeld.off HNB.out.2.1 HNB.out.2.2.1 HNB.out.2.2.2 _) (fun hHeld => ?_)))
      have HB2 : Hid (Bx _ _ [vi ki 0, vi ki y]) := HNB.out.1.setAll _ rfl
      clear hK K HNB
      refine tks 14 ⟨some 17, _, _, _, _, none⟩ rfl ?_
      simp only [za, zb, zc, zd]
      refine wpAnyH_done (by kernel_rfl) ?_ _
      go_wp2_with fail
      go_meet
      case rel => exact ⟨_, rfl, rfl, hHeld, HB2⟩
    case rest =>
     obtain ⟨nb, rfl, rfl, HS5, HB5⟩ := hcut
     clear HS HN wn wn2 HZL
     have EQ : ∀ w : World, (Op.equalIn 10000 36 (.agg #[vi ki 0, vi ki a]) (.agg #[vi ki 0, vi ki a])).run Tryz.prog w = .ok true w := fun w => by rw [stamp_eq]; simp
     go_wp2_with fail
     refine wp_region_held_drew (S := S14 w ((ob, T) :: [(w.heap.size + 3, [vi ki 0, vi ki M, vi ki D, vi ki U]), (w.heap.size + 2, [vi ki j, vi ki b]), (w.heap.size + 1, [vi ki 0, vi ki a]), (w.heap.size, Z)]) W4 nb y) (by kernel_rfl) (show S14 _ _ _ _ _ _ from ⟨HS5.out.drew, HB5.out⟩) (fun hHeld => ?_)
     refine tks 0 ⟨some 97, _, _, _, _, none⟩ rfl ?_
     simp only [za, zb, zc, zd]
     refine tks 1 ⟨some 98, _, _, _, _, none⟩ rfl ?_
     simp only [za, zb, zc, zd]
     refine tk (v := ?_) 2 ⟨some 99, _, _, _, _, none⟩ rfl ?_ ?_
     case refine_2 => (intro w9 hSw; obtain ⟨l0_0, l0_1, l0_2, l0_3⟩ := (hSw.1.bs.at (w.heap.size + 3) [vi ki 0, vi ki M, vi ki D, vi ki U] (by simp)).c4; obtain ⟨l1_0, l1_1⟩ := (hSw.1.bs.at (w.heap.size + 2) [vi ki j, vi ki b] (by simp)).c2; obtain ⟨l2_0, l2_1⟩ := (hSw.1.bs.at (w.heap.size + 1) [vi ki 0, vi ki a] (by simp)).c2; have gg := HG4.out.below hSw.1.bel; have la := (gg 0 a H0L.out).1; have lb := (gg 0 a H0L.out).2; clear gg; simp only [Nat.zero_mul, Nat.zero_add] at la lb; have lc := hSw.2.c 0 rfl; have ld := hSw.2.c 1 rfl; clear hSw; go_simp; try with_reducible rfl)
     simp only [za, zb, zc, zd]
     refine tk (v := ?_) 3 ⟨some 100, _, _, _, _, none⟩ rfl ?_ ?_
     case refine_2 => (intro w9 hSw; obtain ⟨l0_0, l0_1, l0_2, l0_3⟩ := (hSw.1.bs.at (w.heap.size + 3) [vi ki 0, vi ki M, vi ki D, vi ki U] (by simp)).c4; obtain ⟨l1_0, l1_1⟩ := (hSw.1.bs.at (w.heap.size + 2) [vi ki j, vi ki b] (by simp)).c2; obtain ⟨l2_0, l2_1⟩ := (hSw.1.bs.at (w.heap.size + 1) [vi ki 0, vi ki a] (by simp)).c2; have gg := HG4.out.below hSw.1.bel; have la := (gg 0 a H0L.out).1; have lb := (gg 0 a H0L.out).2; clear gg; simp only [Nat.zero_mul, Nat.zero_add] at la lb; have lc := hSw.2.c 0 rfl; have ld := hSw.2.c 1 rfl; clear hSw; go_simp; try with_reducible rfl)
     simp only [za, zb, zc, zd]
     refine tks 4 ⟨some 101, _, _, _, _, none⟩ rfl ?_
     simp only [za, zb, zc, zd]
     refine tks 5 ⟨some 102, _, _, _, _, none⟩ rfl ?_
     simp only [za, zb, zc, zd]
     refine tks 6 ⟨some 103, _, _, _, _, some (5, true)⟩ rfl ?_
     simp only [za, zb, zc, zd]
     refine tks 7 ⟨some 104, _, _, _, _, some (5, true)⟩ rfl ?_
     simp only [za, zb, zc, zd]
     refine tks 8 ⟨some 105, _, _, _, _, none⟩ rfl ?_
     simp only [za, zb, zc, zd]
     refine tks 9 ⟨some 106, _, _, _, _, none⟩ rfl ?_
     simp only [za, zb, zc, zd]
     refine tk (v := ?_) 10 ⟨some 107, _, _, _, _, some (9, true)⟩ rfl ?_ ?_
     case refine_2 => (intro w9 hSw; obtain ⟨l0_0, l0_1, l0_2, l0_3⟩ := (hSw.1.bs.at (w.heap.size + 3) [vi ki 0, vi ki M, vi ki D, vi ki U] (by simp)).c4; obtain ⟨l1_0, l1_1⟩ := (hSw.1.bs.at (w.heap.size + 2) [vi ki j, vi ki b] (by simp)).c2; obtain ⟨l2_0, l2_1⟩ := (hSw.1.bs.at (w.heap.size + 1) [vi ki 0, vi ki a] (by simp)).c2; have gg := HG4.out.below hSw.1.bel; have la := (gg 0 a H0L.out).1; have lb := (gg 0 a H0L.out).2; clear gg; simp only [Nat.zero_mul, Nat.zero_add] at la lb; have lc := hSw.2.c 0 rfl; have ld := hSw.2.c 1 rfl; clear hSw; go_simp; try with_reducible rfl)
     simp only [za, zb, zc, zd]
     refine tk (v := ?_) 11 ⟨some 108, _, _, _, _, some (9, true)⟩ rfl ?_ ?_
     case refine_2 => (intro w9 hSw; obtain ⟨l0_0, l0_1, l0_2, l0_3⟩ := (hSw.1.bs.at (w.heap.size + 3) [vi ki 0, vi ki M, vi ki D, vi ki U] (by simp)).c4; obtain ⟨l1_0, l1_1⟩ := (hSw.1.bs.at (w.heap.size + 2) [vi ki j, vi ki b] (by simp)).c2; obtain ⟨l2_0, l2_1⟩ := (hSw.1.bs.at (w.heap.size + 1) [vi ki 0, vi ki a] (by simp)).c2; have gg := HG4.out.below hSw.1.bel; have la := (gg 0 a H0L.out).1; have lb := (gg 0 a H0L.out).2; clear gg; simp only [Nat.zero_mul, Nat.zero_add] at la lb; have lc := hSw.2.c 0 rfl; have ld := hSw.2.c 1 rfl; clear hSw; go_simp; try with_reducible rfl)
     simp only [za, zb, zc, zd]
     refine tks 13 ⟨some 110, _, _, _, _, some (9, true)⟩ rfl ?_
     simp only [za, zb, zc, zd]
     refine rd 12 ⟨some 109, _, _, _, _, some (9, true)⟩ rfl (fun K hK => ?_)
     go_simp
     refine (C3.out _).mono ?_
     rintro e v1 ⟨rfl, hb1⟩
     refine hK.out _ _ (hHeld.below hb1) (fun hHeld => ?_)
     clear hK K hb1
     refine tks 14 ⟨some 111, _, _, _, _, some (9, true)⟩ rfl ?_
     simp only [za, zb, zc, zd]
     refine tks 15 ⟨some 112, _, _, _, _, some (9, true)⟩ rfl ?_
     simp only [za, zb, zc, zd]
     refine tks 16 ⟨some 113, _, _, _, _, none⟩ rfl ?_
     simp only [za, zb, zc, zd]
     refine tks 17 ⟨some 114, _, _, _, _, none⟩ rfl ?_
     simp only [za, zb, zc, zd]
     refine rd 18 ⟨some 115, _, _, _, _, some (17, true)⟩ rfl (fun K hK => ?_)
     go_simp
     refine (KN.out _ (hLL _ (hL.out _ hHeld.1.bs.1))).mono ?_
     rintro e v2 ⟨rfl, hb2⟩
     refine hK.out _ _ (hHeld.below hb2) (fun hHeld => ?_)
     clear hK K hb2
     refine tks 19 ⟨some 116, _, _, _, _, none⟩ rfl ?_
     simp only [za, zb, zc, zd]
     refine tks 20 ⟨some 10, _, _, _, _, none⟩ rfl ?_
     simp only [za, zb, zc, zd]
     refine wpAnyH_done (by kernel_rfl) ?_ _
     have HB : Hid (Below w.heap.size w _) := hHeld.1.bs.1
     clear hHeld
     go_wp2_with fail
     go_ret
     exact ⟨rfl, HB.out⟩
end Go.Proofs.YtpdmndlpgjjopaaGreatDoor
