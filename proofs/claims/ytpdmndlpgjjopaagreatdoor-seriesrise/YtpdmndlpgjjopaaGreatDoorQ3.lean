import Derived.Test.YtpdmndlpgjjopaaGreatDoorQz
import Derived.RangeFuncNested
import Derived.RangeFuncLeaves
import Derived.RangeFuncBox
import Derived.OrdersHeld
import Derived.OrdersIn
import Derived.Deep.RegionHeld
import Derived.Maps.OwnIn
import Derived.Maps.AppendAt
import Derived.Test.YtpdmndlpgjjopaaGreatDoorQ2
import Derived.Deep.Cut
import Derived.Deep.RegionHeld3
import Derived.Deep.MidRow
import Derived.Deep.DeepCutAuto
import Derived.Deep.CutRange
import Derived.OwnWalkIn
import Derived.TacticsInMore
import Derived.LoopNIn
import Derived.LoopIn
import Derived.RangeFuncBound
import Derived.RangeFuncCalls
import Derived.Shelf.Abstract
import Derived.Shelf.RegionOpen
import Derived.Test.YtpdmndlpgjjopaaGreatDoorQ0
import Derived.Laws.AppendOwn
import Derived.Test.YtpdmndlpgjjopaaGreatDoorQ1
open Go.Value renaming int → vi
open Go.IntKind renaming i64 → ki
open List renaming setIfInBounds_toArray → zb, set_cons_zero → zc, set_cons_succ → zd
open Go.Act renaming put → za
open Go.Ending renaming returned → zr
set_option maxRecDepth 100000
set_option maxHeartbeats 16000000
set_option linter.unusedVariables false
namespace Go.Proofs.YtpdmndlpgjjopaaGreatDoor
open Go Go.RowKit
structure Turns (M : List Nat) (W W' : World) : Prop where
 os : W'.os = W.os
 tape : W'.tape = W.tape
 output : W'.output = W.output
 size : W.heap.size ≤ W'.heap.size
 block : ∀ k, k < W.heap.size → k ∉ M → W'.heap[k]? = W.heap[k]?
theorem Turns.refl (M : List Nat) (W : World) : Turns M W W := ⟨rfl, rfl, rfl, Nat.le_refl _, fun _ _ _ => rfl⟩
theorem Turns.trans {M : List Nat} {A B C : World} (h : Turns M A B) (k : Turns M B C) : Turns M A C :=
 ⟨k.os.trans h.os, k.tape.trans h.tape, k.output.trans h.output, Nat.le_trans h.size k.size, fun i hi hm => (k.block i (Nat.lt_of_lt_of_le hi h.size) hm).trans (h.block i hi hm)⟩
theorem Turns.mono {M M' : List Nat} {A B : World} (h : Turns M A B) (hm : ∀ k ∈ M, k ∈ M') : Turns M' A B := ⟨h.os, h.tape, h.output, h.size, fun k hk h' => h.block k hk (fun q => h' (hm k q))⟩
theorem Turns.of_below {M : List Nat} {A B : World} (h : Below A.heap.size A B) : Turns M A B := ⟨h.os, h.tape, h.output, h.size, fun k hk _ => h.block k hk⟩
theorem Turns.grown {M : List Nat} {A B : World} {r : Nat} (h : A.grownBy B (some r)) (hr : r ∈ M) : Turns M A B := ⟨h.os, h.tape, h.output, h.size, fun k hk hm => h.block k hk (fun q => hm (by cases q; exact hr))⟩
theorem Turns.putObj {M : List Nat} (W : World) {l : Nat} (o : Obj) (hl : l ∈ M) : Turns M W (W.putObj l o) :=
 ⟨rfl, rfl, rfl, by simp, fun k _ hm => World.putObj_heap_other (by intro e; subst e; exact hm hl)⟩
theorem Turns.setCell {M : List Nat} (W : World) (a : Addr) (v : Value) (hl : a.block ∈ M) : Turns M W (W.setCell a v) :=
 ⟨rfl, rfl, rfl, by show W.heap.size ≤ (W.heap.modify _ _).size; rw [Array.size_modify]; exact Nat.le_refl _, fun k _ hm => Below.heap_setCell W a v k (by intro e; subst e; exact hm hl)⟩
theorem Turns.alloc (M : List Nat) (W : World) (o : Obj) : Turns M W (W.alloc o) := .of_below ((Below.refl _ W).alloc (Nat.le_refl _) o)
theorem Turns.below {M : List Nat} {A B : World} {n : Nat} (h : Turns M A B) (hn : n ≤ A.heap.size) (hm : ∀ k ∈ M, n ≤ k) : Below n A B :=
 ⟨h.os, h.tape, h.output, h.size, fun k hk => h.block k (by omega) (fun q => by have := hm k q; omega)⟩
def SeqB (n : Nat) (P : Program) (gf : Nat) (lb : Array Value) (S : List Nat) (vs : Nat → Value) (N : Nat) (w : World) : Prop :=
 ∀ (l : Nat) (M : List Nat) (J : Nat → World → Prop) (W : World), Below w.heap.size w W → (∀ k ∈ M, k < W.heap.size) → (∀ k ∈ S, k ∉ M) →
  (∀ k A A', J k A → Below W.heap.size A A' → J k A') →
  (∀ k W1, k < N → W.heap.size ≤ W1.heap.size → J k W1 → YieldAt Fence.wide (n - 1) P l #[vs k] W1 fun e W' => e = zr (.bool true) ∧ J (k + 1) W' ∧ Turns M W1 W') →
  J 0 W →
  CallsIn Fence.wide n P gf (#[.func (.yield l) #[] #[]] ++ lb) W fun e W' => (∃ v, e = .returned v) ∧ J N W'
def roundB (M : List Nat) (I : World → Prop) (W : World) : Exit → Act → World → Prop
 | .normal, _, W' => Turns M W W' ∧ I W'
 | _, _, _ => False
theorem rangeB {n : Nat} {P : Program} {g : Operand} {ps : Array Tmp} {assign body : Code} {Q : Exit → Act → World → Prop} {a : Act} {w : World}
  (h1 : 1 ≤ n) {gf : Nat} {lb : Array Value} (hg : a.eval g = .func (.func gf) #[] lb) (eg : ∀ args w, (callFunc gf args).run P w = .ok (.enter gf args) w)
  {S : List Nat} {vs : Nat → Value} {N : Nat} (hseq : SeqB (n - 1) P gf lb S vs N w) (M : List Nat) (hM : ∀ k ∈ M, k < w.heap.size) (hS : ∀ k ∈ S, k < w.heap.size) (hSM : ∀ k ∈ S, k ∉ M) (hps : ps.size = 1)
  (I : Nat → World → Prop) (hI : ∀ k A A', I k A → Below w.heap.size A A' → I k A') (h0 : I 0 w) (Ax : Nat → Act → World → Prop)
  (hAx : ∀ k a' W l o o', Ax k a' W → W.heap[l]? = some o → o.isCells = false → Ax k a' (W.putObj l o'))
  (hassign : ∀ (l k : Nat) (W : World) (K : Act → World → Prop), w.heap.size < W.heap.size → (∀ a' W', Below W.heap.size W W' → Ax k a' W' → K a' W') →
   assign.wpIn (Fence.wide.inRound l) (n - 1 - 1) P (Exit.then K (fun _ _ _ => False)) { tmps := (ps.zip #[vs k]).foldl (fun t (p, v) => t.setIfInBounds p v) a.tmps, defers := [] } W)
  (hbody : ∀ (l k : Nat) (a' : Act) (W : World), I k W → Ax k a' W → k < N → w.heap.size < W.heap.size → body.wpIn (Fence.wide.inRound l) (n - 1 - 1) P (roundB M (I (k + 1)) W) a' W)
  (hdone : ∀ (D : Nat) (W : World), w.heap.size ≤ D → I N W → W.heap[D]? = some (.deferred (some [])) → Q .normal { a with defers := { target := .collected D, args := #[] } :: a.defers } W) :
  (Code.rangeFunc g ps assign body).wpIn Fence.wide n P Q a w := by
 refine wpIn_rangeFunc ?_
 intro fn hfn
 rw [show Fence.wide.round = none from rfl]
 let rec' : LoopState → Option Code → Loop := fun st pe => { state := st, pending := pe, fn, tmps := a.tmps, params := ps, assign, body, defers := w.heap.size }
 obtain ⟨W1, hW1⟩ : ∃ W1, (w.alloc (.deferred (some []))).alloc (.loop (rec' .ready none)) = W1 := ⟨_, rfl⟩
 have hz1 : W1.heap.size = w.heap.size + 2 := by rw [← hW1]; simp
 have hL1 : W1.heap[w.heap.size + 1]? = some (.loop (rec' .ready none)) := by
  rw [← hW1]; have := World.alloc_heap_new (w.alloc (.deferred (some []))) (.loop (rec' .ready none)); rwa [World.size_alloc] at this
 have hK1 : W1.heap[w.heap.size]? = some (.deferred (some [])) := by
  rw [← hW1]; exact (Below.heap_alloc _ _ _ (by simp)).trans (World.alloc_heap_new w _)
 have hb1 : Below w.heap.size w W1 := by
  rw [← hW1]; exact ((Below.refl _ w).alloc (Nat.le_refl _) _).alloc (by simp) _
 have hI1 : I 0 W1 := hI _ _ _ h0 hb1
 refine ⟨w.heap.size + 1, [{ target := .collected w.heap.size, args := #[] }], W1, { target := .fn (.func gf) lb, args := #[.func (.yield (w.heap.size + 1)) #[] #[]] }, W1, gf,
  #[.func (.yield (w.heap.size + 1)) #[] #[]] ++ lb, W1, ?_, ?_, ?_, ?_, fun _ => h1, ?_⟩
 ·rw [← hW1]; exact run_enterLoop_outer _ _ _ _ _
 ·simp only [resolve, hg]
  simp [go_sem]
 ·intro f' hf'; simp [Target.leads] at hf'; subst hf'; trivial
 ·simp [invoke, go_sem, eg]
 ·refine (hseq (w.heap.size + 1) ((w.heap.size + 1) :: M)
   (fun k W => I k W ∧ W.heap[w.heap.size + 1]? = some (.loop (rec' .ready none)) ∧ W.heap[w.heap.size]? = some (.deferred (some [])))
   W1 hb1
   (fun k hk => by rcases List.mem_cons.1 hk with rfl | hk; omega; have := hM k hk; omega)
   (fun k hk q => by rcases List.mem_cons.1 q with e | q; have := hS k hk; omega; exact hSM k hk q)
   (fun k A B hs hb => ⟨hI _ _ _ hs.1 (hb.mono (by omega)), (hb.block _ (by omega)).trans hs.2.1, (hb.block _ (by omega)).trans hs.2.2⟩)
   ?_ ⟨hI1, hL1, hK1⟩).mono ?_
  ·rintro k W hkN hsW ⟨hi, hl, hk⟩
   have hlt : w.heap.size + 1 < W.heap.size := (Array.getElem?_eq_some_iff.1 hl).1
   have hy := run_yield (P := P) (args := #[vs k]) hl (by simp [rec', hps])
   refine ⟨fn, _, assign, body, hy, roundIn_of_wpIn hfn (hassign _ k W _ (by omega) (fun a' Wa hba hxa => ?_))⟩
   have hbt : Turns ((w.heap.size + 1) :: M) W Wa := .of_below hba
   replace hi := hI _ _ _ hi (hba.mono (by omega))
   replace hl := (hba.block _ hlt).trans hl
   replace hk := (hba.block _ (by omega)).trans hk
   replace hlt : w.heap.size + 1 < Wa.heap.size := Nat.lt_of_lt_of_le hlt hba.size
   clear hba hy
   revert hbt
   generalize W = Wb
   intro hbt
   obtain ⟨W, rfl⟩ : ∃ W, W = Wa := ⟨_, rfl⟩
   refine ⟨_, run_beginRound hl rfl, ?_⟩
   have hl2 : (W.putObj (w.heap.size + 1) (.loop { rec' .ready none with state := .busy })).heap[w.heap.size + 1]? = some (.loop { rec' .ready none with state := .busy }) := World.putObj_heap_same hlt
   have hk2 : (W.putObj (w.heap.size + 1) (.loop { rec' .ready none with state := .busy })).heap[w.heap.size]? = some (.deferred (some [])) := (World.putObj_heap_other (by omega)).trans hk
   have hb2 : Below w.heap.size W (W.putObj (w.heap.size + 1) (.loop { rec' .ready none with state := .busy })) := (Turns.putObj (M := [w.heap.size + 1]) W _ (by simp)).below (by omega) (fun k hk => by simp at hk; omega)
   refine wpIn_mono (hbody _ k _ _ (hI _ _ _ hi hb2) (hAx _ _ _ _ _ _ hxa hl rfl) hkN (by simp; omega)) ?_
   rintro e a3 W3 hp
   cases e with
   | normal =>
    obtain ⟨ht, hi3⟩ := hp
    have hnM : w.heap.size + 1 ∉ M := fun q => by have := hM _ q; omega
    have hnD : w.heap.size ∉ M := fun q => by have := hM _ q; omega
    have hl3 := (ht.block (w.heap.size + 1) (by simp; omega) hnM).trans hl2
    have hk3 := (ht.block w.heap.size (by simp; omega) hnD).trans hk2
    have hlt3 := (Array.getElem?_eq_some_iff.1 hl3).1
    refine ⟨_, _, run_endRound (P := P) none hl3, rfl, ⟨?_, World.putObj_heap_same hlt3, (World.putObj_heap_other (by omega)).trans hk3⟩, ?_⟩
    ·exact hI _ _ _ hi3 ((Turns.putObj (M := [w.heap.size + 1]) W3 _ (by simp)).below (by omega) (fun k hk => by simp at hk; omega))
    ·exact hbt.trans <| ((Turns.putObj W _ (by simp)).trans (ht.mono (fun k hk => by simp [hk]))).trans (Turns.putObj W3 _ (by simp))
   | ret => exact hp.elim
   | exit id => exact hp.elim
   | goto t => exact hp.elim
   | panic ch => exact hp.elim
   | outgrown => exact hp.elim
  ·rintro e W2 ⟨⟨v, rfl⟩, hi, hl, hk⟩
   exact ⟨none, _, run_endLoop (P := P) hl (by simp [rec']), hdone _ _ (Nat.le_refl _) (hI _ _ _ hi ((Turns.putObj (M := [w.heap.size + 1]) W2 _ (by simp)).below (by have := (Array.getElem?_eq_some_iff.1 hl).1; omega) (fun k hk => by simp at hk; omega))) ((World.putObj_heap_other (by omega)).trans hk)⟩
theorem CallsIn_round {l n : Nat} {P : Program} {f : FuncId} {args : Array Value} {w : World} {R : Ending → World → Prop} (h : Calls P f args w R) : CallsIn (Fence.wide.inRound l) n P f args w R :=
 (callsIn_wide (n := n)).2 h
theorem oper_round {l n : Nat} {P : Program} {o : Oper} {a : Act} {w : World} {K : Act → World → Prop} {Q : Exit → Act → World → Prop} (hd : ∀ c, o.op ≠ .defer c) (h : o.wp P a w K Q) : o.wpIn (Fence.wide.inRound l) n P a w K Q := by
 refine ⟨fun _ _ => trivial, ?_⟩
 rw [Oper.semAt_eq _ _ _ hd]
 unfold Oper.wp at h
 revert h
 cases (execOp a.eval o).run P w with
 | ok nx w' =>
  cases nx with
  | enter f args => exact fun h => ⟨fun q => by simp [Fence.wide, Fence.inRound] at q, CallsIn_round h⟩
  | row r args => exact fun h => ⟨fun q => by simp [Fence.wide, Fence.inRound] at q, fun c cs _ => let ⟨v, w', r, s⟩ := h c cs; ⟨v, w', r, stepsIn_wide.2 s⟩⟩
  | _ => first | exact fun h => h | exact fun h => h.elim
 | halt x w' => cases x <;> exact fun h => h
theorem op_round {l n : Nat} {P : Program} {ops : Array Oper} {i : Nat} {a : Act} {w : World} {K : Act → World → Prop} {Q : Exit → Act → World → Prop} (hd : ∀ o ∈ ops.toList, ∀ c, o.op ≠ .defer c) (hQ : ¬ LetsOut Q) (h : wpOp P ops Q i K a w) : wpOpIn (Fence.wide.inRound l) n P ops Q i K a w := by
 unfold wpOp at h
 unfold wpOpIn
 cases ho : ops[i]? with
 | none => rw [ho] at h; exact h
 | some o =>
  rw [ho] at h
  have hm : o ∈ ops.toList := by rw [← Array.getElem?_toList] at ho; exact List.mem_of_getElem? ho
  simp only [] at h ⊢
  split
  ·rename_i hw
   rw [if_pos hw] at h
   rcases h with h | ⟨_, h⟩
   ·exact oper_round (hd o hm) h
   ·exact absurd h hQ
  ·rename_i hw
   rw [if_neg hw] at h
   exact ⟨fun _ _ => trivial, h⟩
theorem any_round {l n : Nat} {P : Program} {md : Region.Mode} {ops : Array Oper} {Q : Exit → Act → World → Prop} (hd : ∀ o ∈ ops.toList, ∀ c, o.op ≠ .defer c) (hQ : ¬ LetsOut Q) :
  ∀ (fuel : Nat) (listed : Array Bool) (a : Act) (w : World), wpAny P md ops Q fuel listed a w → wpAnyIn (Fence.wide.inRound l) n P md ops Q fuel listed a w
 | 0, _, _, _, h => h
 | fuel + 1, _, _, _, h => ⟨h.1, fun i hi => op_round hd hQ (wpOp_mono (fun a' w' h' => any_round hd hQ fuel _ a' w' h') (h.2 i hi))⟩
def noDefer (ops : Array Oper) : Bool := ops.toList.all fun o => match o.op with | .defer _ => false | _ => true
theorem noDefer_spec {ops : Array Oper} (h : noDefer ops = true) : ∀ o ∈ ops.toList, ∀ c, o.op ≠ .defer c := fun o ho c hc => by
 have := List.all_eq_true.1 h o ho
 rw [hc] at this
 cases this
theorem region_round {l n : Nat} {P : Program} {ops : Array Oper} {S : World → Prop} {Q : Exit → Act → World → Prop} {id : Nat} {a : Act} {w : World} (hm : P.follows .mixedOrders = true) (hd : noDefer ops = true) (hQ : ¬ LetsOut Q) (hS : S w.drew)
  (h : S w.drew → wpAnyH P .any ops Q S ops.size (Array.replicate ops.size false) a w.drew) : (Code.region id ops true).wpIn (Fence.wide.inRound l) n P Q a w :=
 wpIn_region_any hm (any_round (noDefer_spec hd) hQ _ _ _ _ (wpAny_of_held _ _ _ _ (h hS)))
theorem YieldAt_round {l2 m m' : Nat} {P : Program} {l : Nat} {args : Array Value} {W : World} {R : Ending → World → Prop} (h : YieldAt Fence.wide m P l args W R) : YieldAt (Fence.wide.inRound l2) m' P l args W R := by
 obtain ⟨fn, tmps, assign, body, hy, hR⟩ := h
 exact ⟨fn, tmps, assign, body, hy, hR.1, fun c cs _ => hR.2 c cs (room_wide _)⟩
theorem YieldAt_wide {m m' : Nat} {P : Program} {l : Nat} {args : Array Value} {W : World} {R : Ending → World → Prop} (h : YieldAt Fence.wide m P l args W R) : YieldAt Fence.wide m' P l args W R := by
 obtain ⟨fn, tmps, assign, body, hy, hR⟩ := h
 exact ⟨fn, tmps, assign, body, hy, hR.1, fun c cs _ => hR.2 c cs (room_wide _)⟩
open Go.ChangeMaps (setBlock heap_setBlock_same heap_setBlock_other)
def MapZ (W : World) (b : Nat) (z : Value) (f : Int → Value) : Prop :=
 ∃ es clock, W.heap[b]? = some (.map es clock) ∧ (∀ e ∈ es.toList, ∃ k : Int, e.key = vi ki k ∧ e.val = f k) ∧ (∀ k : Int, (∀ e ∈ es.toList, e.key ≠ vi ki k) → f k = z) ∧ (es.toList.map (·.key)).Nodup
theorem findNow_Z {f : Int → Value} (y : Int) : ∀ (es : List MapEntry) (i : Nat), (∀ e ∈ es, ∃ k : Int, e.key = vi ki k ∧ e.val = f k) →
  (Instr.findNow (.int .i64) (vi ki y) es i = some none ∧ ∀ e ∈ es, e.key ≠ vi ki y) ∨ ∃ j, Instr.findNow (.int .i64) (vi ki y) es i = some (some (j, f y)) ∧ j - i < es.length ∧ i ≤ j ∧ (es[j - i]?).map (·.key) = some (vi ki y)
 | [], i, _ => .inl ⟨rfl, by simp⟩
 | e :: es, i, h => by
  obtain ⟨k, hk, hv⟩ := h e (by simp)
  by_cases hy : y = k
  ·subst hy
   exact .inr ⟨i, by simp [Instr.findNow, Instr.sameNow, hk, hv], by simp, Nat.le_refl _, by simp [hk]⟩
  ·have hyb : (y == k) = false := by simpa using hy
   rcases findNow_Z y es (i + 1) (fun e' he' => h e' (by simp [he'])) with ⟨h1, h2⟩ | ⟨j, h1, h2, h3, h4⟩
   ·refine .inl ⟨by simp [Instr.findNow, Instr.sameNow, hk, hyb, h1], ?_⟩
    intro e' he'
    rcases List.mem_cons.1 he' with rfl | he'
    ·rw [hk]; intro q; injection q with _ q; exact hy q.symm
    ·exact h2 e' he'
   ·refine .inr ⟨j, by simp [Instr.findNow, Instr.sameNow, hk, hyb, h1], ?_, by omega, ?_⟩
    ·simp; omega
    ·have : j - i = (j - (i + 1)) + 1 := by omega
     rw [this]; simpa using h4
theorem lookup_Z {P : Program} {t K E : TypeId} (ht : P.underlying t = some (.map K E)) (hK : P.underlying K = some (.int .i64)) {z : Value} {W : World} (hz : (zeroValue E).run P W = .ok z W)
  {b : Nat} {f : Int → Value} (h : MapZ W b z f) (y : Int) :
  (Instr.lookup t (.map (some b)) (vi ki y) false).run P W = .ok (f y) W := by
 obtain ⟨es, clock, hb, hes, hno, _⟩ := h
 have hc : ∀ e, (Instr.checkKey e 10000 K (vi ki y)).run P W = .ok () W := fun e => MapKept.run_checkKey hK (by trivial) e 9999
 rcases findNow_Z y es.toList 0 hes with ⟨h1, h2⟩ | ⟨j, h1, _⟩
 ·rw [hno y h2]
  simp [Instr.lookup, Instr.findKey, run_underlying ht, run_underlying hK, MapKept.run_getObj_map hb, hc, h1, hz, Result.andThen]
 ·simp [Instr.lookup, Instr.findKey, run_underlying ht, run_underlying hK, MapKept.run_getObj_map hb, hc, h1, Result.andThen]
theorem sameBits_z (y : Int) : Instr.sameBits 10000 (vi ki y) (vi ki y) = true := by
 unfold Instr.sameBits; simp
theorem nodup_at {l : List Value} (h : l.Nodup) {i j : Nat} {v : Value} (hi : l[i]? = some v) (hj : l[j]? = some v) : i = j := by
 obtain ⟨a, ha⟩ := List.getElem?_eq_some_iff.1 hi
 obtain ⟨b, hb⟩ := List.getElem?_eq_some_iff.1 hj
 exact (List.getElem_inj h).1 (ha.trans hb.symm)
theorem update_Z {P : Program} {t K E : TypeId} (ht : P.underlying t = some (.map K E)) (hK : P.underlying K = some (.int .i64)) {W : World} {z : Value}
  {b : Nat} {f : Int → Value} (h : MapZ W b z f) (y : Int) (v : Value) :
  ∃ W', (Instr.mapUpdate t (.map (some b)) (vi ki y) v).run P W = .ok () W' ∧ MapZ W' b z (fun k => if k = y then v else f k) ∧ W.grownBy W' (some b) := by
 obtain ⟨es, clock, hb, hes, hno, hnd⟩ := h
 have hc : ∀ e, (Instr.checkKey e 10000 K (vi ki y)).run P W = .ok () W := fun e => MapKept.run_checkKey hK (by trivial) e 9999
 rcases findNow_Z y es.toList 0 hes with ⟨h1, hn⟩ | ⟨j, h1, h2, h3, h4⟩
 ·refine ⟨setBlock W b (.map (es.push ⟨vi ki y, v, clock⟩) (clock + 1)), ?_, ⟨_, _, heap_setBlock_same hb _, ?_, ?_, ?_⟩, ⟨rfl, rfl, rfl, by simp [setBlock], fun i _ hi => heap_setBlock_other hb _ (fun e => hi (by rw [e]))⟩⟩
  ·simp [Instr.mapUpdate, Instr.findKey, run_underlying ht, run_underlying hK, MapKept.run_getObj_map hb, hc, h1, MapKept.run_setObj_map _ hb, Result.andThen, setBlock]
  ·intro e he
   simp only [Array.toList_push, List.mem_append, List.mem_singleton] at he
   rcases he with he | rfl
   ·obtain ⟨k, hk, hv⟩ := hes e he
    refine ⟨k, hk, ?_⟩
    exact hv.trans (if_neg (fun q => hn e he (by rw [hk, q]))).symm
   ·exact ⟨y, rfl, (if_pos rfl).symm⟩
  ·intro k hk
   have hky : k ≠ y := fun q => hk ⟨vi ki y, v, clock⟩ (by simp) (by rw [q])
   refine (if_neg hky).trans ?_
   exact hno k (fun e he => hk e (by simp only [Array.toList_push, List.mem_append]; exact .inl he))
  ·simp only [Array.toList_push, List.map_append, List.map_cons, List.map_nil]
   rw [List.nodup_append]
   refine ⟨hnd, by simp, ?_⟩
   intro a ha c hc2
   simp only [List.mem_singleton] at hc2
   subst hc2
   obtain ⟨e, he, rfl⟩ := List.mem_map.1 ha
   exact hn e he
 ·have hk : ((es[j]?).map (·.key)).getD (vi ki y) = vi ki y := by
   rw [Nat.sub_zero, Array.getElem?_toList] at h4; rw [h4]; rfl
  have hkeys : (es.modify j fun e => { e with key := vi ki y, val := v }).toList.map (·.key) = es.toList.map (·.key) := by
   apply List.ext_getElem?
   intro i
   rw [Array.toList_modify, List.getElem?_map, List.getElem?_map, List.getElem?_modify]
   by_cases hij : j = i
   ·subst hij
    rw [Nat.sub_zero] at h4
    cases hx : es.toList[j]? with
    | none => simp
    | some e => rw [hx] at h4; simp at h4; simp [h4]
   ·cases hx : es.toList[i]? <;> simp [hij]
  refine ⟨setBlock W b (.map (es.modify j fun e => { e with key := vi ki y, val := v }) clock), ?_, ⟨_, _, heap_setBlock_same hb _, ?_, ?_, ?_⟩, ⟨rfl, rfl, rfl, by simp [setBlock], fun i _ hi => heap_setBlock_other hb _ (fun e => hi (by rw [e]))⟩⟩
  ·simp [Instr.mapUpdate, Instr.findKey, run_underlying ht, run_underlying hK, MapKept.run_getObj_map hb, hc, h1, hk, Instr.keyThatStays, sameBits_z, MapKept.run_setObj_map _ hb, Result.andThen, setBlock]
  ·intro e he
   rw [Array.toList_modify] at he
   obtain ⟨i, hi, rfl⟩ := List.mem_iff_getElem.1 he
   have hi0 : i < es.toList.length := by rw [List.length_modify] at hi; exact hi
   rw [List.getElem_modify]
   split
   ·exact ⟨y, rfl, (if_pos rfl).symm⟩
   ·rename_i hij
    obtain ⟨k, hk2, hv2⟩ := hes _ (List.getElem_mem hi0)
    refine ⟨k, hk2, ?_⟩
    refine hv2.trans (if_neg ?_).symm
    ·intro q
     subst q
     rw [Nat.sub_zero] at h4
     have e1 : (es.toList.map (·.key))[j]? = some (vi ki k) := by rw [List.getElem?_map]; exact h4
     have e2 : (es.toList.map (·.key))[i]? = some (vi ki k) := by rw [List.getElem?_map, List.getElem?_eq_getElem hi0]; exact congrArg some hk2
     exact hij (nodup_at hnd e1 e2)
  ·intro k hk2
   have hh : ∀ e ∈ es.toList, e.key ≠ vi ki k := fun e he q => by
    have m1 : e.key ∈ es.toList.map (·.key) := List.mem_map_of_mem he
    rw [← hkeys] at m1
    obtain ⟨e', he', hq⟩ := List.mem_map.1 m1
    exact hk2 e' he' (hq.trans q)
   have hky : k ≠ y := fun q => by
    subst q
    rw [Nat.sub_zero] at h4
    cases hx : es.toList[j]? with
    | none => rw [hx] at h4; simp at h4
    | some e => rw [hx] at h4; simp at h4; exact hh e (List.mem_of_getElem? hx) h4
   exact (if_neg hky).trans (hno k hh)
  ·rw [hkeys]; exact hnd
theorem MapZ.kept {W W' : World} {row : Option Nat} {b : Nat} {z : Value} {f : Int → Value} (h : MapZ W b z f) (hg : W.grownBy W' row) (hne : row ≠ some b) : MapZ W' b z f := by
 obtain ⟨es, clock, hb, hes⟩ := h
 exact ⟨es, clock, (hg.block b (Array.getElem?_eq_some_iff.1 hb).1 (fun e => hne e.symm)).trans hb, hes⟩
theorem MapZ.same {W W' : World} {b : Nat} {z : Value} {f : Int → Value} (h : MapZ W b z f) (hg : W'.heap[b]? = W.heap[b]?) : MapZ W' b z f := by
 obtain ⟨es, clock, hb, hes⟩ := h
 exact ⟨es, clock, hg.trans hb, hes⟩
theorem MapZ.lt {W : World} {b : Nat} {z : Value} {f : Int → Value} (h : MapZ W b z f) : b < W.heap.size := by
 obtain ⟨es, clock, hb, _⟩ := h
 exact (Array.getElem?_eq_some_iff.1 hb).1
theorem MapZ.made (W : World) (z : Value) : MapZ (W.alloc (.map #[] 0)) W.heap.size z (fun _ => z) :=
 ⟨#[], 0, World.alloc_heap_new W _, by simp, fun _ _ => rfl, by simp⟩
open Go.RowKit Sr
theorem changes_mk (T : List Value) (hT : T.length = 25) (a b : Int) (w : World) :
  Calls Tryz.prog 129 #[.agg T.toArray, vi ki a, vi ki b] w fun e w' => e = zr (.func (.func 134) #[] #[.pointer (some ⟨w.heap.size, 0, none⟩), .pointer (some ⟨w.heap.size + 1, 0, none⟩), .pointer (some ⟨w.heap.size + 2, 0, none⟩)]) ∧ w' = ((w.alloc (.cells T.toArray 46)).alloc (.cells #[vi ki a] 2)).alloc (.cells #[vi ki b] 2) := by
 have hmf : ∀ (fn : Fn) (first cap : Array Value) (w : World), (Instr.makeFunc fn first cap).run Tryz.prog w = .ok (.func fn first cap) w := fun _ _ _ _ => rfl
 go_enter Tryz.func129, Tryz.ntmps129
 generalize hUA : T.toArray = UA at *
 go_wp2
 go_ret
 exact ⟨rfl, rfl⟩
theorem strs_mk (T : List Value) (hT : T.length = 25) (a b : Int) (w : World) :
  Calls Tryz.prog 118 #[.agg T.toArray, vi ki a, vi ki b] w fun e w' => e = zr (.func (.func 128) #[] #[.pointer (some ⟨w.heap.size + 1, 0, none⟩), .pointer (some ⟨w.heap.size, 0, none⟩), .pointer (some ⟨w.heap.size + 2, 0, none⟩)]) ∧ w' = ((w.alloc (.cells T.toArray 46)).alloc (.cells #[vi ki a] 2)).alloc (.cells #[vi ki b] 2) := by
 have hmf : ∀ (fn : Fn) (first cap : Array Value) (w : World), (Instr.makeFunc fn first cap).run Tryz.prog w = .ok (.func fn first cap) w := fun _ _ _ _ => rfl
 go_enter Tryz.func118, Tryz.ntmps118
 generalize hUA : T.toArray = UA at *
 go_wp2
 go_ret
 exact ⟨rfl, rfl⟩
def sdV (x : Int) (s : Zm.St) : Int := if Zm.less x s then 0 else if Zm.says x s then 1 else 2
def stC (s : Zm.St) : List Value := [vi ki s.a, vi ki s.b, vi ki s.o]
theorem side_any (x : Int) (s : Zm.St) (h1 : -9223372036854775808 ≤ x - s.o) (h2 : x - s.o ≤ 9223372036854775807) (w : World) :
  Calls Tryz.prog 119 #[.agg #[vi ki s.a, vi ki s.b, vi ki s.o], vi ki x] w fun e w' => e = zr (vi ki (sdV x s)) ∧ Below w.heap.size w w' := by
 have HB : Hid (Below w.heap.size w (w.alloc (.cells #[vi ki s.a, vi ki s.b, vi ki s.o] 174))) := (Below.refl _ _).alloc (Nat.le_refl _) _
 obtain ⟨a, b, o⟩ := s
 simp only [] at h1 h2 HB ⊢
 by_cases k1 : b ≤ x - o
 ·rw [show sdV x ⟨a, b, o⟩ = 0 from if_pos k1]
  go_enter Tryz.func119, Tryz.ntmps119
  go_wp2
  go_ret
  exact ⟨rfl, HB.out⟩
 ·by_cases k2 : a ≤ x - o
  ·rw [show sdV x ⟨a, b, o⟩ = 1 from (if_neg k1).trans (if_pos ⟨k2, by show x - o < b; omega⟩)]
   go_enter Tryz.func119, Tryz.ntmps119
   go_wp2
   go_ret
   exact ⟨rfl, HB.out⟩
  ·rw [show sdV x ⟨a, b, o⟩ = 2 from (if_neg k1).trans (if_neg (fun q => k2 q.1))]
   go_enter Tryz.func119, Tryz.ntmps119
   go_wp2
   go_ret
   exact ⟨rfl, HB.out⟩
attribute [local go_sem] Oper.semAt_some
theorem exec_row {P : Program} {ρ : Operand → Value} {o : Oper} {w : World} {b off : Nat} {ty : TypeId} {x : Operand} {cs : List Value} {d : TypeDesc} (ho : o.op = .load ty x) (hx : ρ x = .pointer (some ⟨b, off, none⟩)) (hc : w.rangeAt b off cs)
    (hu : P.underlying ty = some d) (hd : d.isRow = true) (hi : (P.info? ty).map (·.size) = some cs.length) : (execOp ρ o).run P w = .ok (.value (.agg cs.toArray)) w := by
  simp only [execOp, ho, hx, Sem.run_bind, run_loadAt_mid w b off ty cs d hc hu hd hi, Sem.run_pure, Result.andThen_ok]
def np (Q : Exit → Act → World → Prop) : Exit → Act → World → Prop
  | .panic _, _, _ => False
  | .outgrown, _, _ => False
  | .normal, a, w => Q .normal a w
  | .ret, a, w => Q .ret a w
  | .exit i, a, w => Q (.exit i) a w
  | .goto i, a, w => Q (.goto i) a w
theorem np_out {Q : Exit → Act → World → Prop} : ∀ (e : Exit) (a : Act) (w : World), np Q e a w → Q e a w
  | .panic _, _, _, h => h.elim
  | .outgrown, _, _, h => h.elim
  | .normal, _, _, h => h
  | .ret, _, _, h => h
  | .exit _, _, _, h => h
  | .goto _, _, _, h => h
structure OkS (S : List Nat) (Ok : World → Prop) : Prop where
  keep : ∀ W W', Ok W → W.heap.size ≤ W'.heap.size → (∀ k ∈ S, W'.heap[k]? = W.heap[k]?) → Ok W'
  lt : ∀ W, Ok W → ∀ k ∈ S, k < W.heap.size
  drew : ∀ W : World, Ok W → Ok W.drew
theorem OkS.below {S : List Nat} {Ok : World → Prop} (h : OkS S Ok) {W W' : World} (hW : Ok W) (hb : Below W.heap.size W W') : Ok W' := h.keep W W' hW hb.size (fun k hk => hb.block k (h.lt W hW k hk))
theorem OkS.turns {S : List Nat} {Ok : World → Prop} (h : OkS S Ok) {M : List Nat} {W W' : World} (hW : Ok W) (ht : Turns M W W') (hM : ∀ k ∈ S, k ∉ M) : Ok W' := h.keep W W' hW ht.size (fun k hk => ht.block k (h.lt W hW k hk) (hM k hk))
theorem bx_turns {M : List Nat} {W W' : World} {b : Nat} {l : List Value} (h : Bx W b l) (ht : Turns M W W') (hb : b ∉ M) : Bx W' b l :=
  ⟨Nat.lt_of_lt_of_le h.1 ht.size, fun i v e => ⟨(World.cell?_of_block (w := W) (ht.block b h.1 hb)).trans (h.2 i v e).1, (World.frozen?_of_block (w := W) (ht.block b h.1 hb)).trans (h.2 i v e).2⟩⟩
structure StS (W : World) (T : List Value) (bt bf bo yb : Nat) (a e : Int) (l : Nat) (Ok : World → Prop) (S : List Nat) (V : World) : Prop where
  xt : Bx V bt T
  xf : Bx V bf [vi ki a]
  xo : Bx V bo [vi ki e]
  xy : Bx V yb [.func (.yield l) #[] #[]]
  okS : OkS S Ok
  ok : Ok V
  bel : Below W.heap.size W V
  slt : ∀ k ∈ S, k < W.heap.size
  blt : bt < W.heap.size ∧ bf < W.heap.size ∧ bo < W.heap.size ∧ W.heap.size ≤ yb
theorem StS.below {W : World} {T : List Value} {bt bf bo yb : Nat} {a e : Int} {l : Nat} {Ok : World → Prop} {S : List Nat} {V V' : World} (h : StS W T bt bf bo yb a e l Ok S V) (hb : Below V.heap.size V V') : StS W T bt bf bo yb a e l Ok S V' :=
  ⟨h.xt.below hb, h.xf.below hb, h.xo.below hb, h.xy.below hb, h.okS, h.okS.below h.ok hb, h.bel.trans (hb.mono h.bel.size), h.slt, h.blt⟩
theorem StS.drew {W : World} {T : List Value} {bt bf bo yb : Nat} {a e : Int} {l : Nat} {Ok : World → Prop} {S : List Nat} {V : World} (h : StS W T bt bf bo yb a e l Ok S V) : StS W T bt bf bo yb a e l Ok S V.drew :=
  ⟨h.xt, h.xf, h.xo, h.xy, h.okS, h.okS.drew _ h.ok, h.bel.drew, h.slt, h.blt⟩
theorem StS.turns {W : World} {T : List Value} {bt bf bo yb : Nat} {a e : Int} {l : Nat} {Ok : World → Prop} {S : List Nat} {V V' : World} {M : List Nat} (h : StS W T bt bf bo yb a e l Ok S V) (ht : Turns M V V') (hM : ∀ k ∈ M, yb < k) : StS W T bt bf bo yb a e l Ok S V' :=
  have b4 := h.blt
  have no : ∀ k, k ≤ yb → k ∉ M := fun k hk q => by have := hM k q; omega
  ⟨bx_turns h.xt ht (no _ (by omega)), bx_turns h.xf ht (no _ (by omega)), bx_turns h.xo ht (no _ (by omega)), bx_turns h.xy ht (no _ (Nat.le_refl _)), h.okS, h.okS.turns h.ok ht (fun k hk => no k (by have := h.slt k hk; omega)), h.bel.trans (ht.below h.bel.size (fun k hk => by have := hM k hk; omega)), h.slt, h.blt⟩
theorem turns_setCells (b : Nat) : ∀ (vs : List Value) (W : World) (i : Nat), Turns [b] W (W.setCells b i vs)
  | [], W, _ => Turns.refl _ W
  | v :: vs, W, i => (Turns.setCell W ⟨b, i, none⟩ v (by simp)).trans (turns_setCells b vs _ _)
theorem StS.pair {W : World} {T : List Value} {bt bf bo yb : Nat} {a e : Int} {l : Nat} {Ok : World → Prop} {S : List Nat} {V : World} {cs : List Value} {t : TypeId} (h0 : StS W T bt bf bo yb a e l Ok S V) (h : StS W T bt bf bo yb a e l Ok S (V.alloc (.cells cs.toArray t))) : Bx (V.alloc (.cells cs.toArray t)) V.heap.size cs ∧ yb < V.heap.size := ⟨Bx.new V cs t, h0.xy.1⟩
theorem bx_mv {n : Nat} {V V' : World} {b : Nat} {l : List Value} (h : Bx V b l) (hn : b < n) (hb : Below n V V') : Bx V' b l :=
  ⟨Nat.lt_of_lt_of_le h.1 hb.size, fun i v e => ⟨(hb.cell (p := ⟨b, i, none⟩) hn).trans (h.2 i v e).1, (hb.frozen (p := ⟨b, i, none⟩) hn).trans (h.2 i v e).2⟩⟩
structure InS (W : World) (T : List Value) (bt bf bo yb : Nat) (a e : Int) (l : Nat) (Ok : World → Prop) (S : List Nat) (nb cb : Nat) (V : World) : Prop where
  xt : Bx V bt T
  xf : Bx V bf [vi ki a]
  xo : Bx V bo [vi ki e]
  xy : Bx V yb [.func (.yield l) #[] #[]]
  okS : OkS S Ok
  ok : Ok V
  slt : ∀ k ∈ S, k < W.heap.size
  blt : bt < W.heap.size ∧ bf < W.heap.size ∧ bo < W.heap.size ∧ W.heap.size ≤ yb
  y1 : Bx V cb T
  y2 : Bx V (cb + 1) [vi ki a]
  y3 : Bx V (cb + 2) [vi ki (e - 1)]
  hnb : yb < nb
  hcb : nb < cb
theorem InS.mv {W : World} {T : List Value} {bt bf bo yb : Nat} {a e : Int} {l : Nat} {Ok : World → Prop} {S : List Nat} {nb cb : Nat} {n : Nat} {V V' : World} (h : InS W T bt bf bo yb a e l Ok S nb cb V) (hn : cb + 2 < n) (hb : Below n V V') : InS W T bt bf bo yb a e l Ok S nb cb V' :=
  have b4 := h.blt
  have b5 := h.hnb
  have b6 := h.hcb
  ⟨bx_mv h.xt (by omega) hb, bx_mv h.xf (by omega) hb, bx_mv h.xo (by omega) hb, bx_mv h.xy (by omega) hb, h.okS, h.okS.keep _ _ h.ok hb.size (fun k hk => hb.block k (by have := h.slt k hk; omega)), h.slt, h.blt,
   bx_mv h.y1 (by omega) hb, bx_mv h.y2 (by omega) hb, bx_mv h.y3 (by omega) hb, h.hnb, h.hcb⟩
theorem InS.turns {W : World} {T : List Value} {bt bf bo yb : Nat} {a e : Int} {l : Nat} {Ok : World → Prop} {S : List Nat} {nb cb : Nat} {M : List Nat} {V V' : World} (h : InS W T bt bf bo yb a e l Ok S nb cb V) (ht : Turns M V V') (hM : ∀ k ∈ M, k = nb ∨ (k < W.heap.size ∧ ¬ (k = bt ∨ k = bf ∨ k = bo ∨ k ∈ S))) : InS W T bt bf bo yb a e l Ok S nb cb V' :=
  have b4 := h.blt
  have b5 := h.hnb
  have b6 := h.hcb
  have no : ∀ k, k ≠ nb → (W.heap.size ≤ k ∨ k = bt ∨ k = bf ∨ k = bo ∨ k ∈ S) → k ∉ M := fun k h1 h2 q => by
    rcases hM k q with h3 | ⟨h3, h4⟩
    · exact h1 h3
    · rcases h2 with h5 | h5
      · omega
      · exact h4 h5
  ⟨bx_turns h.xt ht (no _ (by omega) (.inr (.inl rfl))), bx_turns h.xf ht (no _ (by omega) (.inr (.inr (.inl rfl)))), bx_turns h.xo ht (no _ (by omega) (.inr (.inr (.inr (.inl rfl))))), bx_turns h.xy ht (no _ (by omega) (.inl (by omega))), h.okS, h.okS.turns h.ok ht (fun k hk => no k (by have := h.slt k hk; omega) (.inr (.inr (.inr (.inr hk))))), h.slt, h.blt,
   bx_turns h.y1 ht (no _ (by omega) (.inl (by omega))), bx_turns h.y2 ht (no _ (by omega) (.inl (by omega))), bx_turns h.y3 ht (no _ (by omega) (.inl (by omega))), h.hnb, h.hcb⟩
theorem bx_set1 {V : World} {b : Nat} {l : List Value} (h : Bx V b l) (i : Nat) (v : Value) (hi : i < l.length) : Bx (V.setCell ⟨b, i, none⟩ v) b (l.set i v) :=
  ⟨by simpa using h.1, fun j x e => by
    by_cases hj : i = j
    · subst hj
      rw [List.getElem?_set_self hi] at e
      cases e
      exact ⟨World.cell?_setCell_same _ _ _ (h.2 i l[i] (List.getElem?_eq_getElem hi)).1, by rw [World.frozen?_setCell]; exact (h.2 i l[i] (List.getElem?_eq_getElem hi)).2⟩
    · rw [List.getElem?_set_ne hj] at e
      exact ⟨(World.cell?_setCell_other _ _ _ _ (fun q => hj (by cases q; rfl))).trans (h.2 j x e).1, by rw [World.frozen?_setCell]; exact (h.2 j x e).2⟩⟩
theorem curT_next (f : TrR) (ch : List TrR) (k : Nat) (hk : k < ch.length) : curT f ch (k + 1) = ch.getD k zTr := by
  rw [curT_succ (List.getElem?_eq_getElem hk), List.getD_eq_getElem?_getD, List.getElem?_eq_getElem hk]; rfl
theorem strs_get (e : Int) : ∀ (ch : List TrR) (f : TrR) (k : Nat), k < ch.length → (Zm.strs f.at_ e f.off (ch.map fun c => (c.at_, c.off))).getD k ⟨0, 0, 0⟩ = ⟨(curT f ch k).at_, (ch.getD k zTr).at_, (curT f ch k).off⟩
  | [], f, k, h => by simp at h
  | x :: l, f, 0, _ => rfl
  | x :: l, f, k + 1, h => by
    have ih := strs_get e l x k (by simpa using h)
    rw [List.map_cons, Zm.strs, List.getD_cons_succ, List.getD_cons_succ, ih, curT_next f (x :: l) k (by omega)]
    cases k with
    | zero => rfl
    | succ j => rw [curT_next x l j (by simp at h; omega), List.getD_cons_succ]
theorem strs_last (e : Int) : ∀ (ch : List TrR) (f : TrR), (Zm.strs f.at_ e f.off (ch.map fun c => (c.at_, c.off))).getD ch.length ⟨0, 0, 0⟩ = ⟨(curT f ch ch.length).at_, e, (curT f ch ch.length).off⟩
  | [], f => rfl
  | x :: l, f => by
    have ih := strs_last e l x
    rw [List.map_cons, Zm.strs, List.length_cons, List.getD_cons_succ, ih, curT_next f (x :: l) l.length (by simp)]
    cases l with
    | nil => rfl
    | cons z l => rw [List.length_cons, curT_next x (z :: l) l.length (by simp), List.getD_cons_succ]
theorem strs_seq (T : List Value) (hT : T.length = 25) (S : List Nat) (Ok : World → Prop) (hOk : OkS S Ok) (a e : Int) (e1 : -9223372036854775808 ≤ e - 1) (e2 : e - 1 ≤ 9223372036854775807) (x0 : TrR) (ch : List TrR)
    (ST : Hid (∀ W : World, Ok W → Calls Tryz.prog 97 #[.agg T.toArray, vi ki a] W fun r w' => r = zr (.agg #[vi ki x0.at_, vi ki x0.off, .bool x0.dst, .string x0.ab]) ∧ Below W.heap.size W w'))
    (CH : Hid (∀ (W : World) (b n : Nat), Ok W → Bx W b T → Bx W (b + 1) [vi ki a] → Bx W (b + 2) [vi ki (e - 1)] → SeqB n Tryz.prog 134 #[.pointer (some ⟨b, 0, none⟩), .pointer (some ⟨b + 1, 0, none⟩), .pointer (some ⟨b + 2, 0, none⟩)] (b :: (b + 1) :: (b + 2) :: S) (fun k => trV (ch.getD k zTr)) ch.length W))
    (w : World) (n : Nat) (hn : 5 ≤ n) (bf bt bo : Nat) (X1 : Bx w bf [vi ki a]) (X2 : Bx w bt T) (X3 : Bx w bo [vi ki e]) (O : Ok w) :
    SeqB n Tryz.prog 128 #[.pointer (some ⟨bf, 0, none⟩), .pointer (some ⟨bt, 0, none⟩), .pointer (some ⟨bo, 0, none⟩)] (bf :: bt :: bo :: S) (fun k => .agg (stC ((Zm.strs a e x0.off (ch.map fun c => (c.at_, c.off))).getD k ⟨0, 0, 0⟩)).toArray) (ch.length + 1) w := by
  intro l M J W hb hM hSM hJ hY h0
  have HS0 : Hid (StS W T bt bf bo W.heap.size a e l Ok S (W.alloc (.cells #[.func (.yield l) #[] #[]] 183))) :=
    ⟨(X2.below hb).alloc _, (X1.below hb).alloc _, (X3.below hb).alloc _, Bx.new W [.func (.yield l) #[] #[]] _, hOk, hOk.below (hOk.below O hb) ((Below.refl _ W).alloc (Nat.le_refl _) _), (Below.refl _ W).alloc (Nat.le_refl _) _, fun k hk => Nat.lt_of_lt_of_le (hOk.lt w O k hk) hb.size, Nat.lt_of_lt_of_le X2.1 hb.size, Nat.lt_of_lt_of_le X1.1 hb.size, Nat.lt_of_lt_of_le X3.1 hb.size, Nat.le_refl _⟩
  refine callsIn_of_wp_marks Tryz.func128 rfl trivial ?_ rfl
  simp only [Tryz.ntmps128, List.size_toArray, List.length_cons, List.length_nil, Nat.reduceAdd, Nat.reduceSub, Array.replicate_succ, Array.replicate_zero, List.push_toArray, List.append_toArray, List.nil_append, List.cons_append]
  refine wpIn_mono (Q := np _) ?_ np_out
  refine wpIn_wide.2 ?_
  go_upto_region 1 with fail
  refine gen_code (StS W T bt bf bo W.heap.size a e l Ok S) HS0.out ?_
  clear HS0
  intro W1 HS1'
  have HS1 : Hid (StS W T bt bf bo W.heap.size a e l Ok S W1) := HS1'
  clear HS1'
  go_cut [5] from 6 (fun v wx => ∃ nb, v = .pointer (some ⟨nb, 0, none⟩) ∧ Hid (StS W T bt bf bo W.heap.size a e l Ok S wx ∧ Bx wx nb [vi ki a, vi ki 0, vi ki x0.off] ∧ W.heap.size < nb))
  case first =>
    refine wp_region_held_drew (S := StS W T bt bf bo W.heap.size a e l Ok S) (by kernel_rfl) HS1.out.drew (fun hHeld => ?_)
    refine tk (v := ?_) 0 ⟨some 7, _, _, _, _, none⟩ rfl ?_ ?_
    case refine_2 => (intro w9 hSw; have l1 := hSw.xf.c 0 rfl; clear hSw; go_simp; try with_reducible rfl)
    simp only [za, zb, zc, zd]
    refine wpAnyH_take (i := 1) (v := .agg T.toArray) (oi := ⟨some 8, _, _, _, _, none⟩) rfl (by kernel_rfl) (by kernel_rfl) (by kernel_rfl) (fun _ _ _ h => h) (Or.inl ⟨by kernel_rfl, ?_⟩) (by assumption) ?_
    case refine_1 => (intro w9 hSw; exact exec_row rfl rfl hSw.xt.all Tryz.underlying46 rfl (by rw [hT]; kernel_rfl))
    simp only [za, zb, zc, zd]
    refine tk (v := ?_) 2 ⟨some 9, _, _, _, _, none⟩ rfl ?_ ?_
    case refine_2 => (intro w9 hSw; have l1 := hSw.xf.c 0 rfl; clear hSw; go_simp; try with_reducible rfl)
    simp only [za, zb, zc, zd]
    refine wpAnyH_ready (rs := [3, 6]) (by kernel_rfl) (by simp) (AllReadyH.cons (o := ⟨some 10, _, _, _, _, none⟩) rfl (fun K hK => ?_) (AllReadyH.cons (o := ⟨some 5, _, _, _, _, none⟩) rfl (fun K hK => ?_) AllReadyH.nil))
    ·
      go_simp
      refine (ST.out _ hHeld.ok).mono ?_
      rintro e v1 ⟨rfl, hb1⟩
      refine hK.out _ _ (hHeld.below hb1) (fun hHeld => ?_)
      try (have HN2 := HN.out.1.below hb1; have HM := HN.out.2; clear HN; have HN : Hid (Bx _ _ _ ∧ _) := ⟨HN2, HM⟩; clear HN2 HM)
      clear hK K hb1
      refine wpAnyH_take (i := 4) (v := vi ki x0.off) (oi := ⟨some 11, _, _, _, _, none⟩) rfl (by kernel_rfl) (by kernel_rfl) (by kernel_rfl) (fun _ _ _ h => h) (Or.inl ⟨by kernel_rfl, ?_⟩) (by assumption) ?_
      case refine_1 => (intro w9 hSw; kernel_rfl)
      simp only [za, zb, zc, zd]
      refine tks 5 ⟨some 12, _, _, _, _, none⟩ rfl ?_
      simp only [za, zb, zc, zd]
      refine rd 6 ⟨some 5, _, _, _, _, none⟩ rfl (fun K hK => ?_)
      go_simp
      have hH0 := hHeld
      refine hK.out _ _ (hHeld.below ((Below.refl _ _).alloc (Nat.le_refl _) _)) (fun hHeld => ?_)
      have HN : Hid (Bx _ _ [vi ki 0, vi ki 0, vi ki 0] ∧ _) := hH0.pair hHeld
      clear hK K hH0
      refine rd 7 ⟨none, _, _, _, _, none⟩ rfl (fun K hK => ?_)
      have HM := HN.out.2
      refine (if_pos (by kernel_rfl)).mpr (wp_store_mid 174 _ _ rfl _ 0 #[vi ki a, vi ki 0, vi ki x0.off] rfl rfl HN.out.1.there (by kernel_rfl) (by simp [Value.oneCell']) (hK.out _ _ (hHeld.turns (turns_setCells _ _ _ _) (fun k hk => by rw [List.mem_singleton] at hk; rw [hk]; exact HM)) (fun hHeld => ?_)))
      have HN2 : Hid (Bx _ _ [vi ki a, vi ki 0, vi ki x0.off] ∧ _) := ⟨HN.out.1.setAll [vi ki a, vi ki 0, vi ki x0.off] rfl, HM⟩
      clear hK K HN HM
      refine wpAnyH_done (by kernel_rfl) ?_ _
      go_wp2_with fail
      go_meet
      case rel => exact ⟨_, rfl, hHeld, HN2.out.1, HN2.out.2⟩
    ·
      go_simp
      have hH0 := hHeld
      refine hK.out _ _ (hHeld.below ((Below.refl _ _).alloc (Nat.le_refl _) _)) (fun hHeld => ?_)
      have HN : Hid (Bx _ _ [vi ki 0, vi ki 0, vi ki 0] ∧ _) := hH0.pair hHeld
      clear hK K hH0
      refine rd 3 ⟨some 10, _, _, _, _, none⟩ rfl (fun K hK => ?_)
      go_simp
      refine (ST.out _ hHeld.ok).mono ?_
      rintro e v5 ⟨rfl, hb5⟩
      refine hK.out _ _ (hHeld.below hb5) (fun hHeld => ?_)
      try (have HN2 := HN.out.1.below hb5; have HM := HN.out.2; clear HN; have HN : Hid (Bx _ _ _ ∧ _) := ⟨HN2, HM⟩; clear HN2 HM)
      clear hK K hb5
      refine wpAnyH_take (i := 4) (v := vi ki x0.off) (oi := ⟨some 11, _, _, _, _, none⟩) rfl (by kernel_rfl) (by kernel_rfl) (by kernel_rfl) (fun _ _ _ h => h) (Or.inl ⟨by kernel_rfl, ?_⟩) (by assumption) ?_
      case refine_1 => (intro w9 hSw; kernel_rfl)
      simp only [za, zb, zc, zd]
      refine tks 5 ⟨some 12, _, _, _, _, none⟩ rfl ?_
      simp only [za, zb, zc, zd]
      refine rd 7 ⟨none, _, _, _, _, none⟩ rfl (fun K hK => ?_)
      have HM := HN.out.2
      refine (if_pos (by kernel_rfl)).mpr (wp_store_mid 174 _ _ rfl _ 0 #[vi ki a, vi ki 0, vi ki x0.off] rfl rfl HN.out.1.there (by kernel_rfl) (by simp [Value.oneCell']) (hK.out _ _ (hHeld.turns (turns_setCells _ _ _ _) (fun k hk => by rw [List.mem_singleton] at hk; rw [hk]; exact HM)) (fun hHeld => ?_)))
      have HN2 : Hid (Bx _ _ [vi ki a, vi ki 0, vi ki x0.off] ∧ _) := ⟨HN.out.1.setAll [vi ki a, vi ki 0, vi ki x0.off] rfl, HM⟩
      clear hK K HN HM
      refine wpAnyH_done (by kernel_rfl) ?_ _
      go_wp2_with fail
      go_meet
      case rel => exact ⟨_, rfl, hHeld, HN2.out.1, HN2.out.2⟩
  case rest =>
    obtain ⟨nb, rfl, HC⟩ := hcut
    have HS2 : Hid (StS W T bt bf bo W.heap.size a e l Ok S wc) := HC.out.1
    have HN2 : Hid (Bx wc nb [vi ki a, vi ki 0, vi ki x0.off]) := HC.out.2.1
    have hnb := HC.out.2.2
    have c1 := HS2.out.xf.c 0 rfl
    have c3 := HS2.out.xo.c 0 rfl
    clear HC HS1
    go_wp2_with (first | (refine wpList_load_mid rfl 46 _ rfl bt 0 rfl T _ HS2.out.xt.all Tryz.underlying46 rfl (by rw [hT]; kernel_rfl) ?_) | fail)
    refine (changes_mk T hT a (e - 1) _).mono ?_
    rintro r' w5 ⟨rfl, rfl⟩
    clear c1 c3
    have b5 : Below wc.heap.size wc (((wc.alloc (.cells T.toArray 46)).alloc (.cells #[vi ki a] 2)).alloc (.cells #[vi ki (e - 1)] 2)) := (((Below.refl _ wc).alloc (Nat.le_refl _) _).alloc (by simp) _).alloc (by simp; omega) _
    have HI5 : Hid (InS W T bt bf bo W.heap.size a e l Ok S nb wc.heap.size (((wc.alloc (.cells T.toArray 46)).alloc (.cells #[vi ki a] 2)).alloc (.cells #[vi ki (e - 1)] 2)) ∧ Bx (((wc.alloc (.cells T.toArray 46)).alloc (.cells #[vi ki a] 2)).alloc (.cells #[vi ki (e - 1)] 2)) nb [vi ki a, vi ki 0, vi ki x0.off] ∧ Below W.heap.size W (((wc.alloc (.cells T.toArray 46)).alloc (.cells #[vi ki a] 2)).alloc (.cells #[vi ki (e - 1)] 2))) :=
      ⟨⟨HS2.out.xt.below b5, HS2.out.xf.below b5, HS2.out.xo.below b5, HS2.out.xy.below b5, hOk, hOk.below HS2.out.ok b5, HS2.out.slt, HS2.out.blt, ((Bx.new wc T _).alloc _).alloc _, (Bx.newAt (wc.alloc (.cells T.toArray 46)) [vi ki a] 2 _ (by simp)).alloc _, Bx.newAt ((wc.alloc (.cells T.toArray 46)).alloc (.cells #[vi ki a] 2)) [vi ki (e - 1)] 2 _ (by simp), hnb, HN2.out.1⟩, HN2.out.below b5, HS2.out.bel.trans (b5.mono HS2.out.bel.size)⟩
    clear b5 HS2 HN2
    go_wp2_with fail
    refine gen_code (fun V => InS W T bt bf bo W.heap.size a e l Ok S nb wc.heap.size V ∧ Bx V nb [vi ki a, vi ki 0, vi ki x0.off] ∧ Below W.heap.size W V) HI5.out ?_
    clear HI5
    rintro W5 ⟨HI5, HN5, hW5⟩
    have hb5 := HI5.y3.1
    have hnc := HI5.hcb
    refine wpIn_wide.1 (rangeB (n := 10) (by decide) (gf := 134) (lb := #[.pointer (some ⟨wc.heap.size, 0, none⟩), .pointer (some ⟨wc.heap.size + 1, 0, none⟩), .pointer (some ⟨wc.heap.size + 2, 0, none⟩)]) rfl (enters_of Tryz.func134 (by kernel_rfl) rfl)
      (CH.out W5 wc.heap.size _ HI5.ok HI5.y1 HI5.y2 HI5.y3) (nb :: M)
      (by intro k hk; rcases List.mem_cons.1 hk with rfl | hk; exact HN5.1; have := hM k hk; omega)
      (by intro k hk; simp only [List.mem_cons] at hk; rcases hk with rfl | rfl | rfl | hk; omega; omega; omega; have := HI5.slt k hk; omega)
      ?hSM rfl
      (fun k V => InS W T bt bf bo W.heap.size a e l Ok S nb wc.heap.size V ∧ Bx V nb [vi ki (curT ⟨a, x0.off, x0.dst, x0.ab⟩ ch k).at_, vi ki 0, vi ki (curT ⟨a, x0.off, x0.dst, x0.ab⟩ ch k).off] ∧ J k V ∧ W.heap.size ≤ V.heap.size)
      ?hI ⟨HI5, HN5, hJ _ _ _ h0 hW5, hW5.size⟩
      (fun k a' V => ∃ bx, nb < bx ∧ Bx V bx [vi ki (ch.getD k zTr).at_, vi ki (ch.getD k zTr).off, .bool (ch.getD k zTr).dst, .string (ch.getD k zTr).ab] ∧ a' = { tmps := #[.func (.yield l) #[] #[], .pointer (some ⟨bf, 0, none⟩), .pointer (some ⟨bt, 0, none⟩), .pointer (some ⟨bo, 0, none⟩), .pointer (some ⟨W.heap.size, 0, none⟩), .pointer (some ⟨nb, 0, none⟩), .pointer (some ⟨bx, 0, none⟩), u7, u8, u9, u10, u11, u12, .agg T.toArray, vi ki a, vi ki e, vi ki (e - 1), .func (.func 134) #[] #[.pointer (some ⟨wc.heap.size, 0, none⟩), .pointer (some ⟨wc.heap.size + 1, 0, none⟩), .pointer (some ⟨wc.heap.size + 2, 0, none⟩)], .agg #[vi ki (ch.getD k zTr).at_, vi ki (ch.getD k zTr).off, .bool (ch.getD k zTr).dst, .string (ch.getD k zTr).ab], u19, u20, u21, u22, u23, u24, u25, u26, u27, u28, u29, u30, u31, u32, u33, u34, u35], defers := [] })
      ?hAx ?assign ?body ?done)
    case hSM =>
      intro k hk q
      rcases List.mem_cons.1 q with rfl | q
      · simp only [List.mem_cons] at hk
        rcases hk with h | h | h | hk
        · omega
        · omega
        · omega
        · have := HI5.slt k hk; have := HI5.hnb; omega
      · have h1 := hM k q
        simp only [List.mem_cons] at hk
        rcases hk with h | h | h | hk
        · have := HI5.hnb; omega
        · have := HI5.hnb; omega
        · have := HI5.hnb; omega
        · exact hSM k (by simp [hk]) q
    case hI =>
      rintro k A A' ⟨p1, p2, p3, p4⟩ hbA
      exact ⟨p1.mv hb5 hbA, bx_mv p2 (by omega) hbA, hJ _ _ _ p3 (hbA.mono hW5.size), Nat.le_trans p4 hbA.size⟩
    case hAx =>
      rintro k a' V l2 o o' ⟨bx, h1, h2, h3⟩ ho hc
      refine ⟨bx, h1, bx_turns h2 (Turns.putObj (M := [l2]) V o' (by simp)) (fun q => ?_), h3⟩
      simp at q
      subst q
      have := (h2.2 0 _ rfl).1
      simp [World.cell?, ho] at this
      cases o <;> simp_all [Obj.isCells]
    case assign =>
      rintro l2 k V K' hlt hK
      simp only [trV]
      generalize ch.getD k zTr = x at *
      gi_wp2
      exact hK _ _ ((Below.refl _ V).alloc (Nat.le_refl _) _) ⟨V.heap.size, by omega, Bx.new V [vi ki x.at_, vi ki x.off, .bool x.dst, .string x.ab] _, rfl⟩
    case body =>
      rintro l2 k a' V ⟨p1, p2, p3, p4⟩ ⟨bx, hx1, hx2, rfl⟩ hk hlt
      have hY1 := hY k
      have hsk : (Zm.strs a e x0.off (ch.map fun c => (c.at_, c.off))).getD k ⟨0, 0, 0⟩ = ⟨(curT ⟨a, x0.off, x0.dst, x0.ab⟩ ch k).at_, (ch.getD k zTr).at_, (curT ⟨a, x0.off, x0.dst, x0.ab⟩ ch k).off⟩ := strs_get e ch ⟨a, x0.off, x0.dst, x0.ab⟩ k hk
      rw [hsk] at hY1
      have hnx : curT ⟨a, x0.off, x0.dst, x0.ab⟩ ch (k + 1) = ch.getD k zTr := curT_next _ ch k hk
      rw [hnx]
      generalize curT ⟨a, x0.off, x0.dst, x0.ab⟩ ch k = y at *
      generalize ch.getD k zTr = x at *
      clear hsk hnx hY CH ST HI5 HN5
      have n0 := p2.c 0 rfl
      have n1 := p2.c 1 rfl
      have n2 := p2.c 2 rfl
      have f0 := p2.f 0 rfl
      have f1 := p2.f 1 rfl
      have f2 := p2.f 2 rfl
      have d0 := hx2.c 0 rfl
      have d1 := hx2.c 1 rfl
      have yb := p1.xy.c 0 rfl
      have hbn := p1.hnb
      have tA : Turns [nb] V (V.setCell ⟨nb, 1, none⟩ (vi ki x.at_)) := Turns.setCell _ _ _ (by simp)
      obtain ⟨fn, tmps, assign, body, hy, hR⟩ := YieldAt_round (l2 := l2) (m' := 10 - 1 - 1 - 1) (hY1 (V.setCell ⟨nb, 1, none⟩ (vi ki x.at_)) (by omega) (by simp; omega) (hJ _ _ _ p3 (tA.below p4 (by intro q hq; simp at hq; omega))))
      simp only [stC] at hy
      have HR : Hid (RoundIn (Fence.wide.inRound l2) (10 - 1 - 1 - 1) Tryz.prog l fn tmps assign body (V.setCell ⟨nb, 1, none⟩ (vi ki x.at_)) fun e W' => e = zr (.bool true) ∧ J (k + 1) W' ∧ Turns M (V.setCell ⟨nb, 1, none⟩ (vi ki x.at_)) W') := hR
      clear hR
      have hnM : nb ∉ M := fun q => by have := hM nb q; omega
      have hxM : bx ∉ M := fun q => by have := hM bx q; omega
      have q2 : Bx (V.setCell ⟨nb, 1, none⟩ (vi ki x.at_)) nb [vi ki y.at_, vi ki x.at_, vi ki y.off] := bx_set1 p2 1 (vi ki x.at_) (by simp)
      have q3 : Bx (V.setCell ⟨nb, 1, none⟩ (vi ki x.at_)) bx [vi ki x.at_, vi ki x.off, .bool x.dst, .string x.ab] := bx_turns hx2 tA (by simp; omega)
      have q1 : InS W T bt bf bo W.heap.size a e l Ok S nb wc.heap.size (V.setCell ⟨nb, 1, none⟩ (vi ki x.at_)) := p1.turns tA (by intro q hq; simp at hq; exact .inl hq)
      gi_wp2
      refine HR.out.mono ?_
      rintro e' W7 ⟨rfl, hJ7, ht7⟩
      have r2 := bx_turns q2 ht7 hnM
      have r3 := bx_turns q3 ht7 hxM
      have r1 : InS W T bt bf bo W.heap.size a e l Ok S nb wc.heap.size W7 := q1.turns ht7 (by intro q hq; exact .inr ⟨hM q hq, fun h5 => hSM q (by simp only [List.mem_cons]; rcases h5 with h | h | h | h; exact .inr (.inl h); exact .inl h; exact .inr (.inr (.inl h)); exact .inr (.inr (.inr h))) hq⟩)
      have hT7 : Turns (nb :: M) V W7 := (tA.mono (by simp)).trans (ht7.mono (fun q hq => by simp [hq]))
      clear HR hy ht7 q1 q2 q3 n0 n1 n2 f0 f1 f2 d0 d1 yb p1 p2 p3 tA hY1 hx2
      have n0 := r2.c 0 rfl
      have n1 := r2.c 1 rfl
      have n2 := r2.c 2 rfl
      have f0 := r2.f 0 rfl
      have f1 := r2.f 1 rfl
      have f2 := r2.f 2 rfl
      have d0 := r3.c 0 rfl
      have d1 := r3.c 1 rfl
      have hs7 := hT7.size
      gi_wp2
      have tB : Turns [nb] W7 (W7.setCells nb 0 [vi ki x.at_, vi ki 0, vi ki x.off]) := turns_setCells _ _ _ _
      exact ⟨hT7.trans (tB.mono (by simp)), r1.turns tB (by intro q hq; simp at hq; exact .inl hq), r2.setAll [vi ki x.at_, vi ki 0, vi ki x.off] rfl, hJ _ _ _ hJ7 (tB.below (by omega) (by intro q hq; simp at hq; omega)), Nat.le_trans p4 (Nat.le_trans hs7 tB.size)⟩
    case done =>
      rintro D V hD ⟨p1, p2, p3, p4⟩ hK
      have hY1 := hY ch.length
      rw [strs_last e ch ⟨a, x0.off, x0.dst, x0.ab⟩] at hY1
      generalize curT ⟨a, x0.off, x0.dst, x0.ab⟩ ch ch.length = y at *
      clear hY CH ST HI5 HN5
      have n0 := p2.c 0 rfl
      have n1 := p2.c 1 rfl
      have n2 := p2.c 2 rfl
      have f0 := p2.f 0 rfl
      have f1 := p2.f 1 rfl
      have f2 := p2.f 2 rfl
      have yb := p1.xy.c 0 rfl
      have ec := p1.xo.c 0 rfl
      have hbn := p1.hnb
      have tA : Turns [nb] V (V.setCell ⟨nb, 1, none⟩ (vi ki e)) := Turns.setCell _ _ _ (by simp)
      obtain ⟨fn, tmps, assign, body, hy, hR⟩ := YieldAt_wide (m' := 10 - 1) (hY1 (V.setCell ⟨nb, 1, none⟩ (vi ki e)) (by omega) (by simp; omega) (hJ _ _ _ p3 (tA.below p4 (by intro q hq; simp at hq; omega))))
      simp only [stC] at hy
      have HR : Hid (RoundIn Fence.wide (10 - 1) Tryz.prog l fn tmps assign body (V.setCell ⟨nb, 1, none⟩ (vi ki e)) fun r' W' => r' = zr (.bool true) ∧ J (ch.length + 1) W' ∧ Turns M (V.setCell ⟨nb, 1, none⟩ (vi ki e)) W') := hR
      clear hR
      have hkD : (V.setCell ⟨nb, 1, none⟩ (vi ki e)).heap[D]? = some (.deferred (some [])) := (tA.block D (Array.getElem?_eq_some_iff.1 hK).1 (by simp; omega)).trans hK
      have q2 : Bx (V.setCell ⟨nb, 1, none⟩ (vi ki e)) nb [vi ki y.at_, vi ki e, vi ki y.off] := bx_set1 p2 1 (vi ki e) (by simp)
      have yb2 : (V.setCell ⟨nb, 1, none⟩ (vi ki e)).cell? ⟨W.heap.size, 0, none⟩ = some (.func (.yield l) #[] #[]) := (bx_turns p1.xy tA (by simp; omega)).c 0 rfl
      go_upto_region 8 with fail
      clear n0 n1 n2 f0 f1 f2 yb ec
      have n0 := q2.c 0 rfl
      have n1 := q2.c 1 rfl
      have n2 := q2.c 2 rfl
      have hDM : D ∉ M := fun q => by have := hM D q; omega
      have hlD := (Array.getElem?_eq_some_iff.1 hkD).1
      have HKD : Hid ((V.setCell ⟨nb, 1, none⟩ (vi ki e)).heap[D]? = some (.deferred (some []))) := hkD
      clear hkD hK
      refine (wpIn_wide (n := 10)).1 ?_
      gi_wp2
      refine HR.out.mono ?_
      rintro r' W7 ⟨rfl, hJ7, ht7⟩
      have hk7 := (ht7.block D hlD hDM).trans HKD.out
      gi_wp2
      refine ⟨by simp, .inl ⟨_, _, rfl, run_takeDeferred hk7, ?_⟩⟩
      exact ⟨_, results_none rfl _ _ _, ⟨_, rfl⟩, hJ _ _ _ hJ7 ((Turns.putObj (M := [D]) W7 _ (by simp)).below (by have := ht7.size; simp at this; omega) (by intro q hq; simp at hq; omega))⟩
attribute [local go_sem] Oper.semAt_some
def Zm.chg (a b : Int) (L : List TrR) : List TrR := (L.drop (Zm.cntLe a (L.map (·.at_)))).takeWhile (fun x => decide (x.at_ ≤ b))
theorem Zm.tw_get {p : TrR → Bool} : ∀ {D : List TrR} {j : Nat} {x : TrR}, D[j]? = some x → j < (D.takeWhile p).length → (D.takeWhile p).getD j zTr = x
 | [], j, x, h, _ => by simp at h
 | y :: D, j, x, h, hl => by
  by_cases hp : p y = true
  ·rw [List.takeWhile_cons_of_pos hp] at hl ⊢
   cases j with
   | zero => simpa using h
   | succ j => rw [List.getD_cons_succ]; exact Zm.tw_get (by simpa using h) (by simpa using hl)
  ·rw [List.takeWhile_cons_of_neg hp] at hl; simp at hl
theorem Zm.tw_all {p : TrR → Bool} : ∀ {D : List TrR}, (∀ (j : Nat) (x : TrR), D[j]? = some x → p x = true) → (D.takeWhile p).length = D.length
 | [], _ => rfl
 | y :: D, h => by
  rw [List.takeWhile_cons_of_pos (h 0 y rfl), List.length_cons, List.length_cons, Zm.tw_all (fun j x hx => h (j + 1) x (by simpa using hx))]
theorem Zm.tw_at {p : TrR → Bool} : ∀ {D : List TrR} {i : Nat} {x : TrR}, (∀ (j : Nat) (y : TrR), j < i → D[j]? = some y → p y = true) → D[i]? = some x → p x = false → (D.takeWhile p).length = i
 | [], i, x, _, h, _ => by simp at h
 | y :: D, 0, x, _, h, hp => by
  obtain rfl : y = x := by simpa using h
  rw [List.takeWhile_cons_of_neg (by rw [hp]; decide)]; rfl
 | y :: D, i + 1, x, h, hx, hp => by
  rw [List.takeWhile_cons_of_pos (h 0 y (Nat.succ_pos _) rfl), List.length_cons, Zm.tw_at (i := i) (x := x) (fun j z hj hz => h (j + 1) z (Nat.succ_lt_succ hj) (by simpa using hz)) (by simpa using hx) hp]
theorem Zm.tw_lt {p : TrR → Bool} : ∀ {D : List TrR} {i : Nat} {x : TrR}, (∀ (j : Nat) (y : TrR), j < i → D[j]? = some y → p y = true) → D[i]? = some x → p x = true → i < (D.takeWhile p).length
 | [], i, x, _, h, _ => by simp at h
 | y :: D, 0, x, _, h, hp => by
  obtain rfl : y = x := by simpa using h
  rw [List.takeWhile_cons_of_pos hp]; simp
 | y :: D, i + 1, x, h, hx, hp => by
  rw [List.takeWhile_cons_of_pos (h 0 y (Nat.succ_pos _) rfl), List.length_cons]
  exact Nat.succ_lt_succ (Zm.tw_lt (i := i) (x := x) (fun j z hj hz => h (j + 1) z (Nat.succ_lt_succ hj) (by simpa using hz)) (by simpa using hx) hp)
structure ChS (W : World) (T : List Value) (bt bf bo : Nat) (a b : Int) (Ok : World → Prop) (S : List Nat) (V : World) : Prop where
 xt : Bx V bt T
 xf : Bx V bf [vi ki a]
 xo : Bx V bo [vi ki b]
 okS : OkS S Ok
 ok : Ok V
 slt : ∀ k ∈ S, k < W.heap.size
 blt : bt < W.heap.size ∧ bf < W.heap.size ∧ bo < W.heap.size
 wsz : W.heap.size ≤ V.heap.size
theorem ChS.below {W : World} {T : List Value} {bt bf bo : Nat} {a b : Int} {Ok : World → Prop} {S : List Nat} {V V' : World} (h : ChS W T bt bf bo a b Ok S V) (hb : Below V.heap.size V V') : ChS W T bt bf bo a b Ok S V' :=
 ⟨h.xt.below hb, h.xf.below hb, h.xo.below hb, h.okS, h.okS.below h.ok hb, h.slt, h.blt, Nat.le_trans h.wsz hb.size⟩
theorem ChS.drew {W : World} {T : List Value} {bt bf bo : Nat} {a b : Int} {Ok : World → Prop} {S : List Nat} {V : World} (h : ChS W T bt bf bo a b Ok S V) : ChS W T bt bf bo a b Ok S V.drew :=
 ⟨h.xt, h.xf, h.xo, h.okS, h.okS.drew _ h.ok, h.slt, h.blt, h.wsz⟩
theorem ChS.turns {W : World} {T : List Value} {bt bf bo : Nat} {a b : Int} {Ok : World → Prop} {S : List Nat} {M : List Nat} {V V' : World} (h : ChS W T bt bf bo a b Ok S V) (ht : Turns M V V') (hM : ∀ k ∈ bt :: bf :: bo :: S, k ∉ M) : ChS W T bt bf bo a b Ok S V' :=
 ⟨bx_turns h.xt ht (hM _ (by simp)), bx_turns h.xf ht (hM _ (by simp)), bx_turns h.xo ht (hM _ (by simp)), h.okS, h.okS.turns h.ok ht (fun k hk => hM k (by simp [hk])), h.slt, h.blt, Nat.le_trans h.wsz ht.size⟩
structure ChB (W : World) (T : List Value) (bt bf bo : Nat) (a b : Int) (Ok : World → Prop) (S : List Nat) (V : World) : Prop where
 cs : ChS W T bt bf bo a b Ok S V
 bel : Below W.heap.size W V
theorem ChB.below {W : World} {T : List Value} {bt bf bo : Nat} {a b : Int} {Ok : World → Prop} {S : List Nat} {V V' : World} (h : ChB W T bt bf bo a b Ok S V) (hb : Below V.heap.size V V') : ChB W T bt bf bo a b Ok S V' := ⟨h.cs.below hb, h.bel.trans (hb.mono h.bel.size)⟩
theorem ChB.drew {W : World} {T : List Value} {bt bf bo : Nat} {a b : Int} {Ok : World → Prop} {S : List Nat} {V : World} (h : ChB W T bt bf bo a b Ok S V) : ChB W T bt bf bo a b Ok S V.drew := ⟨h.cs.drew, h.bel.drew⟩
theorem exec_slice {P : Program} {ρ : Operand → Value} {o : Oper} {w : World} {ty : TypeId} {x y : Operand} {sv lo v : Value} (ho : o.op = .slice ty x (some y) none none) (hx : ρ x = sv) (hy : ρ y = lo) (h : (Instr.sliceAt ty sv (some lo) none none).run P w = .ok v w) : (execOp ρ o).run P w = .ok (.value v) w := by
 simp [execOp, ho, hx, hy, h]
theorem run_slT (ao : Option Addr) (n c C : Nat) (hC : C ≤ n) (w : World) : (Instr.sliceAt 24 (.slice ao n c) (some (vi ki (C : Int))) none none).run Tryz.prog w = .ok (.slice (if c = C then ao else ao.map (·.add (C * 4))) (n - C) (c - C)) w := by
 have hs : (sizeOf 23).run Tryz.prog w = .ok 4 w := by kernel_rfl
 have hi : ((C : Int)).toNat = C := by simp
 have hb : (Instr.sliceBound (vi ki (C : Int)) n .sliceB).run Tryz.prog w = .ok C w := by
  simp [Instr.sliceBound, asIntOf, hC]
 simp [Instr.sliceAt, Instr.slice, run_underlying Tryz.underlying24, Instr.sliceBounds, hb, hs, Result.andThen]
theorem TrAt.drop {W : World} {ao : Option Addr} {n c C : Nat} {L : List TrR} (h : TrAt W (.slice ao n c) L) (hn : n ≤ c) (hC : C ≤ n) : TrAt W (.slice (if c = C then ao else ao.map (·.add (C * 4))) (n - C) (c - C)) (L.drop C) := by
 obtain ⟨⟨ao1, c1, h1⟩, h2, h3⟩ := h
 simp only [Value.slice.injEq] at h1
 obtain ⟨rfl, rfl, rfl⟩ := h1
 refine ⟨⟨_, _, by rw [List.length_drop]⟩, by rw [List.length_drop]; omega, ?_⟩
 by_cases hCn : C = L.length
 ·exact .inl (by rw [hCn, List.drop_length])
 ·rw [if_neg (show ¬ c = C by omega)]
  rcases h3 with rfl | ⟨g, o, c', e, hg, hc⟩
  ·simp at hC; subst hC; exact absurd rfl hCn
  ·simp only [Value.slice.injEq] at e
   obtain ⟨rfl, -, rfl⟩ := e
   refine .inr ⟨g, o + C * 4, c - C, by rw [List.length_drop]; simp [Addr.add], hg, fun j u hj => ?_⟩
   have hsp : trCs L = trCs (L.take C) ++ trCs (L.drop C) := by rw [← trCs_app, List.take_append_drop]
   have hl : (trCs (L.take C)).length = C * 4 := by rw [trCs_len, List.length_take, Nat.min_eq_left hC]
   have := hc (C * 4 + j) u (by rw [hsp, List.getElem?_append_right (by omega), hl, Nat.add_sub_cancel_left]; exact hj)
   rwa [← Nat.add_assoc] at this
theorem chs_no (T : List Value) (hT : T.length = 25) (S : List Nat) (Ok : World → Prop) (hOk : OkS S Ok) (a b : Int) (ao : Option Addr) (n c : Nat) (hnc : n ≤ c) (L : List TrR) (h5 : T[5]? = some (.slice ao n c)) (h6 : T[6]? = some (.bool false)) (hr : Zm.Rises (L.map (·.at_))) (h4 : L.length ≤ 4096) (hn : L.length = n)
  (TR : ∀ W, Ok W → TrAt W (.slice ao n c) L)
  (w : World) (m : Nat) (bt bf bo : Nat) (X1 : Bx w bt T) (X2 : Bx w bf [vi ki a]) (X3 : Bx w bo [vi ki b]) (O : Ok w) :
  SeqB m Tryz.prog 134 #[.pointer (some ⟨bt, 0, none⟩), .pointer (some ⟨bf, 0, none⟩), .pointer (some ⟨bo, 0, none⟩)] (bt :: bf :: bo :: S) (fun k => trV ((Zm.chg a b L).getD k zTr)) (Zm.chg a b L).length w := by
 intro l M J W hb hM hSM hJ hY h0
 have HS0 : Hid (ChB W T bt bf bo a b Ok S W) :=
  ⟨⟨X1.below hb, X2.below hb, X3.below hb, hOk, hOk.below O hb, fun k hk => Nat.lt_of_lt_of_le (hOk.lt w O k hk) hb.size, ⟨Nat.lt_of_lt_of_le X1.1 hb.size, Nat.lt_of_lt_of_le X2.1 hb.size, Nat.lt_of_lt_of_le X3.1 hb.size⟩, Nat.le_refl _⟩, Below.refl _ _⟩
 have BH : Hid (∀ V : World, Ok V → Calls Tryz.prog 113 #[.agg T.toArray, vi ki a] V fun r w' => r = zr (vi ki ((Zm.cntLe a (L.map (·.at_)) : Nat) : Int)) ∧ Below V.heap.size V w') := fun V hV => behind_any T hT L _ h5 a hr h4 V (TR V hV)
 have hC0 : Zm.cntLe a (L.map (·.at_)) ≤ n := by have := Zm.cntLe_le a (L.map (·.at_)); rw [List.length_map, hn] at this; exact this
 unfold Zm.chg at hY ⊢
 generalize Zm.cntLe a (L.map (·.at_)) = C at *
 have SL : Hid (∀ V : World, (Instr.sliceAt 24 (.slice ao n c) (some (vi ki (C : Int))) none none).run Tryz.prog V = .ok (.slice (if c = C then ao else ao.map (·.add (C * 4))) (n - C) (c - C)) V) := fun V => run_slT ao n c C hC0 V
 have TD : Hid (∀ V, Ok V → TrAt V (.slice (if c = C then ao else ao.map (·.add (C * 4))) (n - C) (c - C)) (L.drop C)) := fun V hV => (TR V hV).drop hnc hC0
 have hlen : (L.drop C).length = n - C := by rw [List.length_drop, hn]
 have hm4 : n - C ≤ 4096 := by omega
 generalize L.drop C = D at *
 generalize (if c = C then ao else ao.map (·.add (C * 4))) = a5 at *
 obtain ⟨m5, hm5⟩ : ∃ m5, n - C = m5 := ⟨_, rfl⟩
 rw [hm5] at SL TD hlen hm4
 generalize c - C = c5 at *
 refine callsIn_wide.2 ?_
 go_enter Tryz.func134, Tryz.ntmps134
 go_upto_region 0 with fail
 go_cut [15, 16, 17] (fun v15 v16 v17 wx => v15 = .slice a5 m5 c5 ∧ v16 = vi ki (m5 : Int) ∧ v17 = vi ki 0 ∧ Hid (ChB W T bt bf bo a b Ok S wx))
 case first =>
  refine wp_region_held_drew (S := ChB W T bt bf bo a b Ok S) (by kernel_rfl) HS0.out.drew (fun hHeld => ?_)
  refine tks 0 ⟨some 10, _, _, _, _, none⟩ rfl ?_
  simp only [za, zb, zc, zd]
  refine tk (v := ?_) 1 ⟨some 11, _, _, _, _, none⟩ rfl ?_ ?_
  case refine_2 => (intro w9 hSw; have l1 := hSw.cs.xf.c 0 rfl; have l2 := hSw.cs.xt.c 5 h5; clear hSw; go_simp; try with_reducible rfl)
  simp only [za, zb, zc, zd]
  refine wpAnyH_take (i := 2) (v := .agg T.toArray) (oi := ⟨some 12, _, _, _, _, none⟩) rfl (by kernel_rfl) (by kernel_rfl) (by kernel_rfl) (fun _ _ _ h => h) (Or.inl ⟨by kernel_rfl, ?_⟩) (by assumption) ?_
  case refine_1 => (intro w9 hSw; exact exec_row rfl rfl hSw.cs.xt.all Tryz.underlying46 rfl (by rw [hT]; kernel_rfl))
  simp only [za, zb, zc, zd]
  refine tk (v := ?_) 3 ⟨some 13, _, _, _, _, none⟩ rfl ?_ ?_
  case refine_2 => (intro w9 hSw; have l1 := hSw.cs.xf.c 0 rfl; have l2 := hSw.cs.xt.c 5 h5; clear hSw; go_simp; try with_reducible rfl)
  simp only [za, zb, zc, zd]
  refine tks 7 ⟨some 17, _, _, _, _, none⟩ rfl ?_
  simp only [za, zb, zc, zd]
  refine rd 4 ⟨some 14, _, _, _, _, none⟩ rfl (fun K hK => ?_)
  go_simp
  refine (BH.out _ hHeld.cs.ok).mono ?_
  rintro e v1 ⟨rfl, hb1⟩
  refine hK.out _ _ (hHeld.below hb1) (fun hHeld => ?_)
  clear hK K hb1
  refine wpAnyH_take (i := 5) (v := .slice a5 m5 c5) (oi := ⟨some 15, _, _, _, _, none⟩) rfl (by kernel_rfl) (by kernel_rfl) (by kernel_rfl) (fun _ _ _ h => h) (Or.inl ⟨by kernel_rfl, ?_⟩) (by assumption) ?_
  case refine_1 => (intro w9 hSw; exact exec_slice rfl rfl rfl (SL.out w9))
  simp only [za, zb, zc, zd]
  refine tks 6 ⟨some 16, _, _, _, _, none⟩ rfl ?_
  simp only [za, zb, zc, zd]
  refine wpAnyH_done (by kernel_rfl) ?_ _
  go_wp2_with fail
  go_meet
  case rel => exact ⟨rfl, rfl, rfl, hHeld⟩
 case rest =>
  obtain ⟨rfl, rfl, rfl, HS1⟩ := hcut
  have J1 : J 0 wc := hJ _ _ _ h0 HS1.out.bel
  have AL : Hid (∀ j x, D[j]? = some x → x.at_ ≤ b → j < (D.takeWhile (fun x => decide (x.at_ ≤ b))).length → (D.takeWhile (fun x => decide (x.at_ ≤ b))).getD j zTr = x) := fun j x hx _ hj => Zm.tw_get hx hj
  go_wp2_with fail
  go_loopw [17] (fun iv wr => ∃ i : Nat, iv = vi ki (i : Int) ∧ i ≤ m5 ∧ Hid (ChS W T bt bf bo a b Ok S wr ∧ J i wr ∧ ∀ j x, j < i → D[j]? = some x → x.at_ ≤ b)) (fun iv _ => m5 - (intOf iv).toNat)
  case atStart => exact ⟨0, rfl, Nat.zero_le _, HS1.out.cs, J1, fun j x hj => absurd hj (Nat.not_lt_zero _)⟩
  case round =>
   obtain ⟨i, rfl, hi, HR⟩ := hrel
   by_cases hlt : i < m5
   ·obtain ⟨x, hx⟩ : ∃ x, D[i]? = some x := ⟨_, List.getElem?_eq_getElem (by omega)⟩
    obtain ⟨g, o, c', hsv, hrg⟩ := (TD.out wr HR.out.1.ok).row hx
    rw [hlen] at hsv
    simp only [Value.slice.injEq, true_and] at hsv
    obtain ⟨rfl, rfl⟩ := hsv
    have HRG : Hid (wr.rangeAt g (o + i * 4) [vi ki x.at_, vi ki x.off, .bool x.dst, .string x.ab]) := hrg
    clear hrg
    have hlt' : (i : Int) < (m5 : Int) := by omega
    have hn5 := HR.out.1
    have hba : Below wr.heap.size wr (wr.alloc (.cells #[vi ki x.at_, vi ki x.off, .bool x.dst, .string x.ab] 23)) := (Below.refl _ _).alloc (Nat.le_refl _) _
    have HZ : Hid (ChS W T bt bf bo a b Ok S (wr.alloc (.cells #[vi ki x.at_, vi ki x.off, .bool x.dst, .string x.ab] 23)) ∧ J i (wr.alloc (.cells #[vi ki x.at_, vi ki x.off, .bool x.dst, .string x.ab] 23)) ∧ Bx (wr.alloc (.cells #[vi ki x.at_, vi ki x.off, .bool x.dst, .string x.ab] 23)) wr.heap.size [vi ki x.at_, vi ki x.off, .bool x.dst, .string x.ab]) := ⟨hn5.below hba, hJ _ _ _ HR.out.2.1 (hba.mono hn5.wsz), Bx.new wr [vi ki x.at_, vi ki x.off, .bool x.dst, .string x.ab] _⟩
    have hwr := hn5.wsz
    have HP : Hid (∀ j x, j < i → D[j]? = some x → x.at_ ≤ b) := HR.out.2.2
    clear hn5 HR hba
    go_upto_region 3 with (first | (refine wpList_load_mid rfl 23 _ rfl g (o + i * 4) rfl [vi ki x.at_, vi ki x.off, .bool x.dst, .string x.ab] _ HRG.out Tryz.underlying23 rfl (by kernel_rfl) ?_) | fail)
    refine gen_code (fun V => ChS W T bt bf bo a b Ok S V ∧ J i V ∧ Bx V wr.heap.size [vi ki x.at_, vi ki x.off, .bool x.dst, .string x.ab]) HZ.out ?_
    clear HZ HRG
    rintro V ⟨C1, J2, B1⟩
    have o0 := C1.xo.c 0 rfl
    have x0 := B1.c 0 rfl
    have x1 := B1.c 1 rfl
    have x2 := B1.c 2 rfl
    have x3 := B1.c 3 rfl
    by_cases hgt : b < x.at_
    ·have hN : (D.takeWhile (fun x => decide (x.at_ ≤ b))).length = i := Zm.tw_at (fun j y hj hy => decide_eq_true (HP.out j y hj hy)) hx (decide_eq_false (by omega))
     have HJ2 : Hid (J (D.takeWhile (fun x => decide (x.at_ ≤ b))).length V) := by rw [hN]; exact J2
     clear hY C1 B1 J2 AL
     refine (wpIn_wide (n := 10)).1 ?_
     gi_wp2
     refine ⟨fun _ h => (by cases h), ?_⟩
     gi_wp2
     go_wp2_with fail
     refine bodyPost_ret (results_none rfl _ _ _) rfl ?_
     exact ⟨⟨_, rfl⟩, HJ2.out⟩
    ·have hle : x.at_ ≤ b := by omega
     have hiN := Zm.tw_lt (fun j y hj hy => decide_eq_true (HP.out j y hj hy)) hx (decide_eq_true hle)
     have hY1 := hY i V hiN C1.wsz J2
     rw [Zm.tw_get hx hiN] at hY1
     obtain ⟨fn, tmps, assign, body, hy, hR⟩ := YieldAt_wide (m' := 10 - 1) hY1
     simp only [trV] at hy
     have HR : Hid (RoundIn Fence.wide (10 - 1) Tryz.prog l fn tmps assign body V fun e W' => e = zr (.bool true) ∧ J (i + 1) W' ∧ Turns M V W') := hR
     clear hR hY1 J2 B1
     refine (wpIn_wide (n := 10)).1 ?_
     gi_wp2
     refine HR.out.mono ?_
     rintro e' V7 ⟨rfl, hJ7, ht7⟩
     have C7 := C1.turns ht7 hSM
     clear HR hy C1 o0 x0 x1 x2 x3
     gi_wp2
     go_wp2_with fail
     exact ⟨⟨i + 1, by simp, by omega, C7, hJ7, fun j y hj hy => by
      by_cases hji : j = i
      ·subst hji; rw [hx] at hy; cases hy; exact hle
      ·exact HP.out j y (by omega) hy⟩, by simp [intOf]; omega⟩
   ·obtain rfl : i = m5 := by omega
    have f6 : wr.cell? ⟨bt, 6, none⟩ = some (.bool false) := HR.out.1.xt.c 6 h6
    have hN : (D.takeWhile (fun x => decide (x.at_ ≤ b))).length = i := by
     rw [Zm.tw_all (fun j x hx => decide_eq_true (HR.out.2.2 j x (by have := (List.getElem?_eq_some_iff.1 hx).1; omega) hx))]; exact hlen
    go_wp2_with fail
    refine bodyPost_ret (results_none rfl _ _ _) rfl ?_
    exact ⟨⟨_, rfl⟩, by rw [hN]; exact HR.out.2.1⟩
attribute [local go_sem] Oper.semAt_some
theorem below_drew_of {V v : World} (h : Below V.drew.heap.size V.drew v) : Below V.heap.size V v := ⟨h.os, h.tape, h.output, h.size, h.block⟩
def grV (g : Zm.Gr) : Value := .agg #[vi ki g.n, vi ki g.f, vi ki g.l]
def gz : Value := .agg #[vi ki 0, vi ki 0, vi ki 0]
def mpF (gl gs gm : Zm.Gr) : Int → Value := fun k => if k = 0 then grV gl else if k = 1 then grV gs else if k = 2 then grV gm else gz
theorem mpF_0 (gl gs gm : Zm.Gr) : mpF gl gs gm 0 = grV gl := rfl
theorem mpF_1 (gl gs gm : Zm.Gr) : mpF gl gs gm 1 = grV gs := rfl
theorem mpF_2 (gl gs gm : Zm.Gr) : mpF gl gs gm 2 = grV gm := rfl
theorem mpF_s0 (gl gs gm g : Zm.Gr) : (fun k => if k = 0 then grV g else mpF gl gs gm k) = mpF g gs gm := by
 funext k; unfold mpF; by_cases h : k = 0
 ·simp [h]
 ·simp [h]
theorem mpF_s1 (gl gs gm g : Zm.Gr) : (fun k => if k = 1 then grV g else mpF gl gs gm k) = mpF gl g gm := by
 funext k; unfold mpF; by_cases h : k = 1
 ·simp [h]
 ·simp [h]
theorem mpF_s2 (gl gs gm g : Zm.Gr) : (fun k => if k = 2 then grV g else mpF gl gs gm k) = mpF gl gs g := by
 funext k; unfold mpF; by_cases h : k = 2
 ·simp [h]
 ·simp [h]
structure HrS (w : World) (x : Int) (mb gb : Nat) (gl gs gm : Zm.Gr) (V : World) : Prop where
 mz : MapZ V mb gz (mpF gl gs gm)
 xl : Bx V (w.heap.size + 1) [vi ki x]
 xg : Bx V gb [.map (some mb)]
 bel : Below w.heap.size w V
 hmb : w.heap.size + 1 < mb
 hgb : mb < gb
theorem HrS.below {w : World} {x : Int} {mb gb : Nat} {gl gs gm : Zm.Gr} {V V' : World} (h : HrS w x mb gb gl gs gm V) (hb : Below V.heap.size V V') : HrS w x mb gb gl gs gm V' :=
 ⟨h.mz.same (hb.block mb h.mz.lt), h.xl.below hb, h.xg.below hb, h.bel.trans (hb.mono h.bel.size), h.hmb, h.hgb⟩
theorem HrS.mv {w : World} {x : Int} {mb gb : Nat} {gl gs gm : Zm.Gr} {n : Nat} {V V' : World} (h : HrS w x mb gb gl gs gm V) (hn : gb < n) (hb : Below n V V') : HrS w x mb gb gl gs gm V' :=
 have h1 := h.hmb
 have h2 := h.hgb
 ⟨h.mz.same (hb.block mb (by omega)), bx_mv h.xl (by omega) hb, bx_mv h.xg hn hb, h.bel.trans (hb.mono (by omega)), h.hmb, h.hgb⟩
structure HrX (w : World) (x : Int) (mb gb : Nat) (gl gs gm : Zm.Gr) (bx : Nat) (s : Zm.St) (V : World) : Prop where
 hs : HrS w x mb gb gl gs gm V
 xs : Bx V bx [vi ki s.a, vi ki s.b, vi ki s.o]
theorem HrX.below {w : World} {x : Int} {mb gb : Nat} {gl gs gm : Zm.Gr} {bx : Nat} {s : Zm.St} {V V' : World} (h : HrX w x mb gb gl gs gm bx s V) (hb : Below V.heap.size V V') : HrX w x mb gb gl gs gm bx s V' := ⟨h.hs.below hb, h.xs.below hb⟩
theorem HrX.drew {w : World} {x : Int} {mb gb : Nat} {gl gs gm : Zm.Gr} {bx : Nat} {s : Zm.St} {V : World} (h : HrX w x mb gb gl gs gm bx s V) : HrX w x mb gb gl gs gm bx s V.drew := ⟨⟨h.hs.mz, h.hs.xl, h.hs.xg, h.hs.bel.drew, h.hs.hmb, h.hs.hgb⟩, h.xs⟩
theorem hear_any (T : List Value) (hT : T.length = 25) (S : List Nat) (Ok : World → Prop) (hOk : OkS S Ok) (x : Int) (x1 : -1000000000000000 ≤ x) (x2 : x ≤ 1000000000000000) (sts : List Zm.St) (hsl : sts.length ≤ 1000000) (hso : ∀ s ∈ sts, -57600 ≤ s.o ∧ s.o ≤ 57600)
  (SQ : Hid (∀ (W : World) (b n : Nat), 5 ≤ n → Ok W → Bx W (b + 1) [vi ki (x - 57600)] → Bx W b T → Bx W (b + 2) [vi ki (x + 57600 + 1)] → SeqB n Tryz.prog 128 #[.pointer (some ⟨b + 1, 0, none⟩), .pointer (some ⟨b, 0, none⟩), .pointer (some ⟨b + 2, 0, none⟩)] ((b + 1) :: b :: (b + 2) :: S) (fun k => .agg (stC (sts.getD k ⟨0, 0, 0⟩)).toArray) sts.length W))
  (w : World) (O : Ok w) :
  Calls Tryz.prog 102 #[.agg T.toArray, vi ki x] w fun r w' => ∃ mb gm, r = zr (.map (some mb)) ∧ MapZ w' mb gz (mpF (Zm.pGo x sts (⟨0, 0, 0⟩, ⟨0, 0, 0⟩)).1 (Zm.pGo x sts (⟨0, 0, 0⟩, ⟨0, 0, 0⟩)).2 gm) ∧ Below w.heap.size w w' := by
 refine (callsIn_wide (n := 10)).1 ?_
 refine callsIn_of_wp_marks Tryz.func102 rfl trivial ?_ rfl
 simp only [Tryz.ntmps102, List.size_toArray, List.length_cons, List.length_nil, Nat.reduceAdd, Nat.reduceSub, Array.replicate_succ, Array.replicate_zero, List.push_toArray, List.append_toArray, List.nil_append, List.cons_append]
 generalize hUA : T.toArray = UA at *
 refine wpIn_mono (Q := np _) ?_ np_out
 refine wpIn_wide.2 ?_
 have hmm := @run_makeMap Tryz.prog
 go_upto_region 2 with fail
 have HA : Hid (HrS w x (w.heap.size + 1 + 1) (w.heap.size + 1 + 1 + 1) ⟨0, 0, 0⟩ ⟨0, 0, 0⟩ ⟨0, 0, 0⟩ ((((w.alloc (.cells UA 46)).alloc (.cells #[vi ki x] 2)).alloc (.map #[] 0)).alloc (.cells #[.map (some (w.heap.size + 1 + 1))] 149)) ∧ Bx ((((w.alloc (.cells UA 46)).alloc (.cells #[vi ki x] 2)).alloc (.map #[] 0)).alloc (.cells #[.map (some (w.heap.size + 1 + 1))] 149)) w.heap.size T ∧ Ok ((((w.alloc (.cells UA 46)).alloc (.cells #[vi ki x] 2)).alloc (.map #[] 0)).alloc (.cells #[.map (some (w.heap.size + 1 + 1))] 149))) := by
  subst hUA
  have b1 : Below w.heap.size w ((((w.alloc (.cells T.toArray 46)).alloc (.cells #[vi ki x] 2)).alloc (.map #[] 0)).alloc (.cells #[.map (some (w.heap.size + 1 + 1))] 149)) := ((((Below.refl _ w).alloc (Nat.le_refl _) _).alloc (by simp) _).alloc (by simp; omega) _).alloc (by simp; omega) _
  refine ⟨⟨?_, ?_, ?_, b1, by omega, by omega⟩, ?_, hOk.below O b1⟩
  ·have := MapZ.made ((w.alloc (.cells T.toArray 46)).alloc (.cells #[vi ki x] 2)) gz
   have h2 := this.same (W' := ((((w.alloc (.cells T.toArray 46)).alloc (.cells #[vi ki x] 2)).alloc (.map #[] 0)).alloc (.cells #[.map (some (w.heap.size + 1 + 1))] 149))) (Below.heap_alloc _ _ _ (by simp))
   rw [show mpF ⟨0, 0, 0⟩ ⟨0, 0, 0⟩ ⟨0, 0, 0⟩ = fun _ => gz from by funext k; unfold mpF grV gz; simp]
   simpa using h2
  ·exact ((Bx.newAt (w.alloc (.cells T.toArray 46)) [vi ki x] 2 _ (by simp)).alloc _).alloc _
  ·exact Bx.newAt _ [.map (some (w.heap.size + 1 + 1))] _ _ (by simp)
  ·exact (((Bx.new w T _).alloc _).alloc _).alloc _
 refine gen_code (fun V => HrS w x (w.heap.size + 1 + 1) (w.heap.size + 1 + 1 + 1) ⟨0, 0, 0⟩ ⟨0, 0, 0⟩ ⟨0, 0, 0⟩ V ∧ Bx V w.heap.size T ∧ Ok V) HA.out ?_
 clear HA
 rintro V0 ⟨H0', XT', O0⟩
 have H0 : Hid (HrS w x (w.heap.size + 1 + 1) (w.heap.size + 1 + 1 + 1) ⟨0, 0, 0⟩ ⟨0, 0, 0⟩ ⟨0, 0, 0⟩ V0) := H0'
 have XT : Hid (Bx V0 w.heap.size T) := XT'
 have c1 := H0'.xl.c 0 rfl
 clear H0' XT'
 go_wp2_with (first | (refine wpList_load_mid rfl 46 _ rfl w.heap.size 0 rfl T _ XT.out.all Tryz.underlying46 rfl (by rw [hT]; kernel_rfl) ?_; rw [hUA]) | fail)
 have SM := strs_mk T hT (x - 57600) (x + 57600 + 1) V0
 rw [hUA] at SM
 refine SM.mono ?_
 rintro r' w5 ⟨rfl, rfl⟩
 clear c1 SM
 have HA : Hid (HrS w x (w.heap.size + 1 + 1) (w.heap.size + 1 + 1 + 1) ⟨0, 0, 0⟩ ⟨0, 0, 0⟩ ⟨0, 0, 0⟩ (((V0.alloc (.cells UA 46)).alloc (.cells #[vi ki (x - 57600)] 2)).alloc (.cells #[vi ki (x + 57600 + 1)] 2)) ∧ Ok (((V0.alloc (.cells UA 46)).alloc (.cells #[vi ki (x - 57600)] 2)).alloc (.cells #[vi ki (x + 57600 + 1)] 2)) ∧ Bx (((V0.alloc (.cells UA 46)).alloc (.cells #[vi ki (x - 57600)] 2)).alloc (.cells #[vi ki (x + 57600 + 1)] 2)) V0.heap.size T ∧ Bx (((V0.alloc (.cells UA 46)).alloc (.cells #[vi ki (x - 57600)] 2)).alloc (.cells #[vi ki (x + 57600 + 1)] 2)) (V0.heap.size + 1) [vi ki (x - 57600)] ∧ Bx (((V0.alloc (.cells UA 46)).alloc (.cells #[vi ki (x - 57600)] 2)).alloc (.cells #[vi ki (x + 57600 + 1)] 2)) (V0.heap.size + 2) [vi ki (x + 57600 + 1)]) := by
  subst hUA
  have b1 : Below V0.heap.size V0 (((V0.alloc (.cells T.toArray 46)).alloc (.cells #[vi ki (x - 57600)] 2)).alloc (.cells #[vi ki (x + 57600 + 1)] 2)) := (((Below.refl _ V0).alloc (Nat.le_refl _) _).alloc (by simp) _).alloc (by simp; omega) _
  exact ⟨H0.out.below b1, hOk.below O0 b1, ((Bx.new V0 T _).alloc _).alloc _, (Bx.newAt (V0.alloc (.cells T.toArray 46)) [vi ki (x - 57600)] 2 _ (by simp)).alloc _, Bx.newAt ((V0.alloc (.cells T.toArray 46)).alloc (.cells #[vi ki (x - 57600)] 2)) [vi ki (x + 57600 + 1)] 2 _ (by simp)⟩
 have hgV := H0.out.xg.1
 go_wp2_with fail
 refine gen_code (fun V => HrS w x (w.heap.size + 1 + 1) (w.heap.size + 1 + 1 + 1) ⟨0, 0, 0⟩ ⟨0, 0, 0⟩ ⟨0, 0, 0⟩ V ∧ Ok V ∧ Bx V V0.heap.size T ∧ Bx V (V0.heap.size + 1) [vi ki (x - 57600)] ∧ Bx V (V0.heap.size + 2) [vi ki (x + 57600 + 1)]) HA.out ?_
 clear HA H0 XT O0
 rintro W5 ⟨H5, O5, Y1, Y2, Y3⟩
 have hb5 := Y3.1
 refine wpIn_wide.1 (rangeB (n := 10) (by decide) (gf := 128) (lb := #[.pointer (some ⟨V0.heap.size + 1, 0, none⟩), .pointer (some ⟨V0.heap.size, 0, none⟩), .pointer (some ⟨V0.heap.size + 2, 0, none⟩)]) rfl (enters_of Tryz.func128 (by kernel_rfl) rfl)
  (SQ.out W5 V0.heap.size _ (by decide) O5 Y2 Y1 Y3) [w.heap.size + 1 + 1]
  (by intro k hk; simp at hk; omega)
  (by intro k hk; simp only [List.mem_cons] at hk; rcases hk with rfl | rfl | rfl | hk; omega; omega; omega; exact hOk.lt _ O5 k hk)
  ?hSM rfl
  (fun k V => ∃ gl gs gm, HrS w x (w.heap.size + 1 + 1) (w.heap.size + 1 + 1 + 1) gl gs gm V ∧ Zm.pGo x (sts.drop k) (gl, gs) = Zm.pGo x sts (⟨0, 0, 0⟩, ⟨0, 0, 0⟩) ∧ (0 ≤ gl.n ∧ gl.n ≤ k) ∧ (0 ≤ gs.n ∧ gs.n ≤ k) ∧ (0 ≤ gm.n ∧ gm.n ≤ k))
  ?hI ⟨_, _, _, H5, rfl, ⟨Int.le_refl _, Int.le_refl _⟩, ⟨Int.le_refl _, Int.le_refl _⟩, ⟨Int.le_refl _, Int.le_refl _⟩⟩
  (fun k a' V => ∃ bx, w.heap.size + 1 + 1 + 1 < bx ∧ Bx V bx [vi ki (sts.getD k ⟨0, 0, 0⟩).a, vi ki (sts.getD k ⟨0, 0, 0⟩).b, vi ki (sts.getD k ⟨0, 0, 0⟩).o] ∧ a' = { tmps := #[.agg UA, vi ki x, .pointer (some ⟨w.heap.size, 0, none⟩), .pointer (some ⟨w.heap.size + 1, 0, none⟩), .map none, .pointer (some ⟨w.heap.size + 1 + 1 + 1, 0, none⟩), .pointer (some ⟨bx, 0, none⟩), undef, undef, undef, .map (some (w.heap.size + 1 + 1)), .agg UA, vi ki x, vi ki (x - 57600), vi ki x, vi ki (x + 57600), vi ki (x + 57600 + 1), .func (.func 128) #[] #[.pointer (some ⟨V0.heap.size + 1, 0, none⟩), .pointer (some ⟨V0.heap.size, 0, none⟩), .pointer (some ⟨V0.heap.size + 2, 0, none⟩)], .agg #[vi ki (sts.getD k ⟨0, 0, 0⟩).a, vi ki (sts.getD k ⟨0, 0, 0⟩).b, vi ki (sts.getD k ⟨0, 0, 0⟩).o], undef, undef, undef, undef, undef, undef, undef, undef, undef, undef, undef, undef, undef, undef, undef, undef, undef, undef, undef, undef, undef, undef, undef, undef, undef], defers := [] })
  ?hAx ?assign ?body ?done)
 case hSM =>
  intro k hk q
  simp at q
  subst q
  simp only [List.mem_cons] at hk
  rcases hk with h | h | h | hk
  ·omega
  ·omega
  ·omega
  ·have := hOk.lt w O _ hk; omega
 case hI =>
  rintro k A A' ⟨gl, gs, gm, p1, p2⟩ hbA
  exact ⟨gl, gs, gm, p1.mv (by omega) hbA, p2⟩
 case hAx =>
  rintro k a' V l2 o o' ⟨bx, h1, h2, h3⟩ ho hc
  refine ⟨bx, h1, bx_turns h2 (Turns.putObj (M := [l2]) V o' (by simp)) (fun q => ?_), h3⟩
  simp at q
  subst q
  have := (h2.2 0 _ rfl).1
  simp [World.cell?, ho] at this
  cases o <;> simp_all [Obj.isCells]
 case assign =>
  rintro l2 k V K' hlt hK
  simp only [stC]
  generalize sts.getD k ⟨0, 0, 0⟩ = s at *
  gi_wp2
  exact hK _ _ ((Below.refl _ V).alloc (Nat.le_refl _) _) ⟨V.heap.size, by omega, Bx.new V [vi ki s.a, vi ki s.b, vi ki s.o] _, rfl⟩
 case body =>
  rintro l2 k a' V ⟨gl, gs, gm, p1, p2, p3, p4, p5⟩ ⟨bx, hx1, hx2, rfl⟩ hk hlt
  have hsm : sts.getD k ⟨0, 0, 0⟩ ∈ sts := by rw [List.getD_eq_getElem?_getD, List.getElem?_eq_getElem hk]; exact List.getElem_mem hk
  obtain ⟨ho1, ho2⟩ := hso _ hsm
  have hdr : sts.drop k = sts.getD k ⟨0, 0, 0⟩ :: sts.drop (k + 1) := by rw [List.drop_eq_getElem_cons hk, List.getD_eq_getElem?_getD, List.getElem?_eq_getElem hk]; rfl
  rw [hdr] at p2
  clear hdr hsm SQ H5 O5 Y1 Y2 Y3 hso
  generalize sts.getD k ⟨0, 0, 0⟩ = s at *
  have HX : Hid (HrX w x (w.heap.size + 1 + 1) (w.heap.size + 1 + 1 + 1) gl gs gm bx s V) := ⟨p1, hx2⟩
  have SD : Hid (∀ V : World, Calls Tryz.prog 119 #[.agg #[vi ki s.a, vi ki s.b, vi ki s.o], vi ki x] V fun e w' => e = zr (vi ki (sdV x s)) ∧ Below V.heap.size V w') := fun V => side_any x s (by omega) (by omega) V
  obtain ⟨t, ht⟩ : ∃ t, t = x - s.o := ⟨_, rfl⟩
  have hwr : IntKind.i64.wrap (x - s.o) = t := by rw [ht, IntKind.wrap_i64]; omega
  have HTT : Hid (x - s.o = t) := ht.symm
  clear ht
  obtain ⟨kv, hkv⟩ : ∃ kv, kv = sdV x s := ⟨_, rfl⟩
  rw [← hkv] at SD
  have HGO : Hid (Zm.pGo x (s :: sts.drop (k + 1)) (gl, gs) = Zm.pGo x sts (⟨0, 0, 0⟩, ⟨0, 0, 0⟩)) := p2
  have hbn := p1.bel.size
  have HKV : Hid (kv = sdV x s) := hkv
  clear p1 hx2 p2 hkv
  gi_wp2
  refine region_round (S := HrX w x (w.heap.size + 1 + 1) (w.heap.size + 1 + 1 + 1) gl gs gm bx s) (by kernel_rfl) (by kernel_rfl) (by rintro ⟨_, _, h⟩; exact h) HX.out.drew (fun hHeld => ?_)
  refine tk (v := ?_) 0 ⟨some 19, _, _, _, _, none⟩ rfl ?_ ?_
  case refine_2 => (intro w9 hSw; have l0 := hSw.xs.c 0 rfl; have l1 := hSw.xs.c 1 rfl; have l2 := hSw.xs.c 2 rfl; have l3 := hSw.hs.xl.c 0 rfl; clear hSw; go_simp; try with_reducible rfl)
  simp only [za, zb, zc, zd]
  refine tk (v := ?_) 1 ⟨some 20, _, _, _, _, none⟩ rfl ?_ ?_
  case refine_2 => (intro w9 hSw; have l0 := hSw.xs.c 0 rfl; have l1 := hSw.xs.c 1 rfl; have l2 := hSw.xs.c 2 rfl; have l3 := hSw.hs.xl.c 0 rfl; clear hSw; go_simp; try with_reducible rfl)
  simp only [za, zb, zc, zd]
  refine tk (v := ?_) 3 ⟨some 22, _, _, _, _, none⟩ rfl ?_ ?_
  case refine_2 => (intro w9 hSw; have l0 := hSw.xs.c 0 rfl; have l1 := hSw.xs.c 1 rfl; have l2 := hSw.xs.c 2 rfl; have l3 := hSw.hs.xl.c 0 rfl; clear hSw; go_simp; try with_reducible rfl)
  simp only [za, zb, zc, zd]
  refine tks 4 ⟨some 23, _, _, _, _, none⟩ rfl ?_
  simp only [za, zb, zc, zd]
  refine tk (v := ?_) 5 ⟨some 24, _, _, _, _, none⟩ rfl ?_ ?_
  case refine_2 => (intro w9 hSw; have l0 := hSw.xs.c 0 rfl; have l1 := hSw.xs.c 1 rfl; have l2 := hSw.xs.c 2 rfl; have l3 := hSw.hs.xl.c 0 rfl; clear hSw; go_simp; try with_reducible rfl)
  simp only [za, zb, zc, zd]
  refine tks 6 ⟨some 25, _, _, _, _, none⟩ rfl ?_
  simp only [za, zb, zc, zd]
  refine rd 2 ⟨some 21, _, _, _, _, none⟩ rfl (fun K hK => ?_)
  go_simp
  refine (SD.out _).mono ?_
  rintro e v1 ⟨rfl, hb1⟩
  refine hK.out _ _ (hHeld.below hb1) (fun hHeld => ?_)
  have HVb : Hid (Below V.heap.size V v1) := below_drew_of hb1
  clear hK K hb1
  refine tks 7 ⟨some 7, _, _, _, _, none⟩ rfl ?_
  simp only [za, zb, zc, zd]
  refine tks 8 ⟨some 8, _, _, _, _, none⟩ rfl ?_
  simp only [za, zb, zc, zd]
  refine wpAnyH_done (by kernel_rfl) ?_ _
  have HH := hHeld
  clear hHeld SD HX hbn
  rcases (show (kv = 0 ∧ Hid (Zm.less x s)) ∨ (kv = 1 ∧ Hid (¬ Zm.less x s ∧ Zm.says x s)) ∨ (kv = 2 ∧ Hid (¬ Zm.less x s ∧ ¬ Zm.says x s)) by rw [HKV.out]; unfold sdV; by_cases h1 : Zm.less x s; exact .inl ⟨if_pos h1, h1⟩; by_cases h2 : Zm.says x s; exact .inr (.inl ⟨(if_neg h1).trans (if_pos h2), h1, h2⟩); exact .inr (.inr ⟨(if_neg h1).trans (if_neg h2), h1, h2⟩)) with ⟨hk0, HSD⟩ | ⟨hk0, HSD⟩ | ⟨hk0, HSD⟩
  ·subst hk0
   by_cases hz : gl.n = 0
   ·
    obtain ⟨n, f, l⟩ := gl
    simp only [] at p3 hz
    subst hz
    have hlk := lookup_Z (P := Tryz.prog) (t := 149) Tryz.underlying149 Tryz.underlying153 (show (zeroValue 152).run Tryz.prog _ = .ok gz _ from by kernel_rfl) HH.hs.mz 0
    rw [mpF_0] at hlk
    unfold grV at hlk
    simp only [] at hlk
    have cg := HH.hs.xg.c 0 rfl
    have hgl := HH.hs.xg.1
    have hba : Below v1.heap.size v1 (v1.alloc (.cells #[vi ki 1, vi ki t, vi ki t] 152)) := (Below.refl _ _).alloc (Nat.le_refl _) _
    have H9 := HH.hs.below hba
    obtain ⟨W', hup, hMZ, hgr⟩ := update_Z (P := Tryz.prog) (t := 149) Tryz.underlying149 Tryz.underlying153 H9.mz 0 (grV ⟨1, t, t⟩)
    unfold grV at hup
    simp only [] at hup
    rw [mpF_s0] at hMZ
    have hb1 := HVb.out
    gi_wp2
    refine ⟨?_, _, _, _, ⟨hMZ, bx_turns H9.xl (Turns.grown (M := [w.heap.size + 1 + 1]) hgr (by simp)) (by simp), bx_turns H9.xg (Turns.grown (M := [w.heap.size + 1 + 1]) hgr (by simp)) (by simp), H9.bel.trans ((Turns.grown (M := [w.heap.size + 1 + 1]) hgr (by simp)).below H9.bel.size (by intro q hq; simp at hq; omega)), H9.hmb, H9.hgb⟩, ?_, ?_⟩
    ·exact (Turns.of_below hb1).trans ((Turns.of_below hba).trans (Turns.grown hgr (by simp)))
    ·refine Eq.trans ?_ HGO.out
     rw [Zm.pGo]
     rw [if_pos HSD.out]
     rw [HTT.out]; rfl
    ·simp only []; omega
   ·
    obtain ⟨n, f, l⟩ := gl
    simp only [] at p3 hz
    have hz' : (n == 0) = false := by simpa using hz
    have hwn : IntKind.i64.wrap (n + 1) = n + 1 := by rw [IntKind.wrap_i64]; omega
    have hlk := lookup_Z (P := Tryz.prog) (t := 149) Tryz.underlying149 Tryz.underlying153 (show (zeroValue 152).run Tryz.prog _ = .ok gz _ from by kernel_rfl) HH.hs.mz 0
    rw [mpF_0] at hlk
    unfold grV at hlk
    simp only [] at hlk
    have cg := HH.hs.xg.c 0 rfl
    have hgl := HH.hs.xg.1
    have hba : Below v1.heap.size v1 (v1.alloc (.cells #[vi ki (n + 1), vi ki f, vi ki t] 152)) := (Below.refl _ _).alloc (Nat.le_refl _) _
    have H9 := HH.hs.below hba
    obtain ⟨W', hup, hMZ, hgr⟩ := update_Z (P := Tryz.prog) (t := 149) Tryz.underlying149 Tryz.underlying153 H9.mz 0 (grV ⟨(n + 1), f, t⟩)
    unfold grV at hup
    simp only [] at hup
    rw [mpF_s0] at hMZ
    have hb1 := HVb.out
    gi_wp2
    refine ⟨?_, _, _, _, ⟨hMZ, bx_turns H9.xl (Turns.grown (M := [w.heap.size + 1 + 1]) hgr (by simp)) (by simp), bx_turns H9.xg (Turns.grown (M := [w.heap.size + 1 + 1]) hgr (by simp)) (by simp), H9.bel.trans ((Turns.grown (M := [w.heap.size + 1 + 1]) hgr (by simp)).below H9.bel.size (by intro q hq; simp at hq; omega)), H9.hmb, H9.hgb⟩, ?_, ?_⟩
    ·exact (Turns.of_below hb1).trans ((Turns.of_below hba).trans (Turns.grown hgr (by simp)))
    ·refine Eq.trans ?_ HGO.out
     rw [Zm.pGo]
     rw [if_pos HSD.out]
     rw [HTT.out]; unfold Zm.Gr.more; simp only []; rw [if_neg hz]
    ·simp only []; omega
  ·subst hk0
   by_cases hz : gs.n = 0
   ·
    obtain ⟨n, f, l⟩ := gs
    simp only [] at p4 hz
    subst hz
    have hlk := lookup_Z (P := Tryz.prog) (t := 149) Tryz.underlying149 Tryz.underlying153 (show (zeroValue 152).run Tryz.prog _ = .ok gz _ from by kernel_rfl) HH.hs.mz 1
    rw [mpF_1] at hlk
    unfold grV at hlk
    simp only [] at hlk
    have cg := HH.hs.xg.c 0 rfl
    have hgl := HH.hs.xg.1
    have hba : Below v1.heap.size v1 (v1.alloc (.cells #[vi ki 1, vi ki t, vi ki t] 152)) := (Below.refl _ _).alloc (Nat.le_refl _) _
    have H9 := HH.hs.below hba
    obtain ⟨W', hup, hMZ, hgr⟩ := update_Z (P := Tryz.prog) (t := 149) Tryz.underlying149 Tryz.underlying153 H9.mz 1 (grV ⟨1, t, t⟩)
    unfold grV at hup
    simp only [] at hup
    rw [mpF_s1] at hMZ
    have hb1 := HVb.out
    gi_wp2
    refine ⟨?_, _, _, _, ⟨hMZ, bx_turns H9.xl (Turns.grown (M := [w.heap.size + 1 + 1]) hgr (by simp)) (by simp), bx_turns H9.xg (Turns.grown (M := [w.heap.size + 1 + 1]) hgr (by simp)) (by simp), H9.bel.trans ((Turns.grown (M := [w.heap.size + 1 + 1]) hgr (by simp)).below H9.bel.size (by intro q hq; simp at hq; omega)), H9.hmb, H9.hgb⟩, ?_, ?_⟩
    ·exact (Turns.of_below hb1).trans ((Turns.of_below hba).trans (Turns.grown hgr (by simp)))
    ·refine Eq.trans ?_ HGO.out
     rw [Zm.pGo]
     rw [if_neg HSD.out.1, if_pos HSD.out.2]
     rw [HTT.out]; rfl
    ·simp only []; omega
   ·
    obtain ⟨n, f, l⟩ := gs
    simp only [] at p4 hz
    have hz' : (n == 0) = false := by simpa using hz
    have hwn : IntKind.i64.wrap (n + 1) = n + 1 := by rw [IntKind.wrap_i64]; omega
    have hlk := lookup_Z (P := Tryz.prog) (t := 149) Tryz.underlying149 Tryz.underlying153 (show (zeroValue 152).run Tryz.prog _ = .ok gz _ from by kernel_rfl) HH.hs.mz 1
    rw [mpF_1] at hlk
    unfold grV at hlk
    simp only [] at hlk
    have cg := HH.hs.xg.c 0 rfl
    have hgl := HH.hs.xg.1
    have hba : Below v1.heap.size v1 (v1.alloc (.cells #[vi ki (n + 1), vi ki f, vi ki t] 152)) := (Below.refl _ _).alloc (Nat.le_refl _) _
    have H9 := HH.hs.below hba
    obtain ⟨W', hup, hMZ, hgr⟩ := update_Z (P := Tryz.prog) (t := 149) Tryz.underlying149 Tryz.underlying153 H9.mz 1 (grV ⟨(n + 1), f, t⟩)
    unfold grV at hup
    simp only [] at hup
    rw [mpF_s1] at hMZ
    have hb1 := HVb.out
    gi_wp2
    refine ⟨?_, _, _, _, ⟨hMZ, bx_turns H9.xl (Turns.grown (M := [w.heap.size + 1 + 1]) hgr (by simp)) (by simp), bx_turns H9.xg (Turns.grown (M := [w.heap.size + 1 + 1]) hgr (by simp)) (by simp), H9.bel.trans ((Turns.grown (M := [w.heap.size + 1 + 1]) hgr (by simp)).below H9.bel.size (by intro q hq; simp at hq; omega)), H9.hmb, H9.hgb⟩, ?_, ?_⟩
    ·exact (Turns.of_below hb1).trans ((Turns.of_below hba).trans (Turns.grown hgr (by simp)))
    ·refine Eq.trans ?_ HGO.out
     rw [Zm.pGo]
     rw [if_neg HSD.out.1, if_pos HSD.out.2]
     rw [HTT.out]; unfold Zm.Gr.more; simp only []; rw [if_neg hz]
    ·simp only []; omega
  ·subst hk0
   by_cases hz : gm.n = 0
   ·
    obtain ⟨n, f, l⟩ := gm
    simp only [] at p5 hz
    subst hz
    have hlk := lookup_Z (P := Tryz.prog) (t := 149) Tryz.underlying149 Tryz.underlying153 (show (zeroValue 152).run Tryz.prog _ = .ok gz _ from by kernel_rfl) HH.hs.mz 2
    rw [mpF_2] at hlk
    unfold grV at hlk
    simp only [] at hlk
    have cg := HH.hs.xg.c 0 rfl
    have hgl := HH.hs.xg.1
    have hba : Below v1.heap.size v1 (v1.alloc (.cells #[vi ki 1, vi ki t, vi ki t] 152)) := (Below.refl _ _).alloc (Nat.le_refl _) _
    have H9 := HH.hs.below hba
    obtain ⟨W', hup, hMZ, hgr⟩ := update_Z (P := Tryz.prog) (t := 149) Tryz.underlying149 Tryz.underlying153 H9.mz 2 (grV ⟨1, t, t⟩)
    unfold grV at hup
    simp only [] at hup
    rw [mpF_s2] at hMZ
    have hb1 := HVb.out
    gi_wp2
    refine ⟨?_, _, _, _, ⟨hMZ, bx_turns H9.xl (Turns.grown (M := [w.heap.size + 1 + 1]) hgr (by simp)) (by simp), bx_turns H9.xg (Turns.grown (M := [w.heap.size + 1 + 1]) hgr (by simp)) (by simp), H9.bel.trans ((Turns.grown (M := [w.heap.size + 1 + 1]) hgr (by simp)).below H9.bel.size (by intro q hq; simp at hq; omega)), H9.hmb, H9.hgb⟩, ?_, ?_⟩
    ·exact (Turns.of_below hb1).trans ((Turns.of_below hba).trans (Turns.grown hgr (by simp)))
    ·refine Eq.trans ?_ HGO.out
     rw [Zm.pGo]
     rw [if_neg HSD.out.1, if_neg HSD.out.2]
    ·simp only []; omega
   ·
    obtain ⟨n, f, l⟩ := gm
    simp only [] at p5 hz
    have hz' : (n == 0) = false := by simpa using hz
    have hwn : IntKind.i64.wrap (n + 1) = n + 1 := by rw [IntKind.wrap_i64]; omega
    have hlk := lookup_Z (P := Tryz.prog) (t := 149) Tryz.underlying149 Tryz.underlying153 (show (zeroValue 152).run Tryz.prog _ = .ok gz _ from by kernel_rfl) HH.hs.mz 2
    rw [mpF_2] at hlk
    unfold grV at hlk
    simp only [] at hlk
    have cg := HH.hs.xg.c 0 rfl
    have hgl := HH.hs.xg.1
    have hba : Below v1.heap.size v1 (v1.alloc (.cells #[vi ki (n + 1), vi ki f, vi ki t] 152)) := (Below.refl _ _).alloc (Nat.le_refl _) _
    have H9 := HH.hs.below hba
    obtain ⟨W', hup, hMZ, hgr⟩ := update_Z (P := Tryz.prog) (t := 149) Tryz.underlying149 Tryz.underlying153 H9.mz 2 (grV ⟨(n + 1), f, t⟩)
    unfold grV at hup
    simp only [] at hup
    rw [mpF_s2] at hMZ
    have hb1 := HVb.out
    gi_wp2
    refine ⟨?_, _, _, _, ⟨hMZ, bx_turns H9.xl (Turns.grown (M := [w.heap.size + 1 + 1]) hgr (by simp)) (by simp), bx_turns H9.xg (Turns.grown (M := [w.heap.size + 1 + 1]) hgr (by simp)) (by simp), H9.bel.trans ((Turns.grown (M := [w.heap.size + 1 + 1]) hgr (by simp)).below H9.bel.size (by intro q hq; simp at hq; omega)), H9.hmb, H9.hgb⟩, ?_, ?_⟩
    ·exact (Turns.of_below hb1).trans ((Turns.of_below hba).trans (Turns.grown hgr (by simp)))
    ·refine Eq.trans ?_ HGO.out
     rw [Zm.pGo]
     rw [if_neg HSD.out.1, if_neg HSD.out.2]
    ·simp only []; omega
 case done =>
  rintro D V hD ⟨gl, gs, gm, p1, p2, p3, p4, p5⟩ hK
  have hfin : (gl, gs) = Zm.pGo x sts (⟨0, 0, 0⟩, ⟨0, 0, 0⟩) := by rw [List.drop_length] at p2; exact p2
  have cg := p1.xg.c 0 rfl
  have hh1 := p1.hmb
  have hh2 := p1.hgb
  go_wp2_with fail
  refine ⟨by simp, .inl ⟨_, _, rfl, run_takeDeferred hK, ?_⟩⟩
  refine ⟨_, results_tmp rfl _ _ _, _, gm, rfl, ?_, ?_⟩
  ·rw [← hfin]; exact p1.mz.same (World.putObj_heap_other (by omega))
  ·exact p1.bel.trans ((Turns.putObj (M := [D]) V _ (by simp)).below p1.bel.size (by intro q hq; simp at hq; omega))
def inV (g : Zm.Gr × Zm.Gr) : Int := if g.2.n = 0 then g.1.l else g.2.f
def inH (g : Zm.Gr × Zm.Gr) : Int := if g.2.n = 0 then 2 else if g.2.n = 1 then 0 else 1
theorem zin_yes (T : List Value) (hT : T.length = 25) (x : Int) (y1 : -1000000000000000 ≤ x) (y2 : x ≤ 1000000000000000) (g : Zm.Gr × Zm.Gr) (w : World) (RT : Hid (∀ W : World, Below w.heap.size w W → Calls Tryz.prog 16 #[.agg T.toArray] W fun r w' => r = zr (.bool true) ∧ Below W.heap.size W w'))
  (A1 : Hid (∀ W : World, Below w.heap.size w W → Calls Tryz.prog 96 #[vi ki x] W fun r w' => r = zr (.bool true) ∧ w' = W))
  (A2 : Hid (∀ W : World, Below w.heap.size w W → Calls Tryz.prog 96 #[vi ki (x - 57600)] W fun r w' => r = zr (.bool true) ∧ w' = W))
  (A3 : Hid (∀ W : World, Below w.heap.size w W → Calls Tryz.prog 96 #[vi ki (x + 57600)] W fun r w' => r = zr (.bool true) ∧ w' = W))
  (HE : Hid (∀ W : World, Below w.heap.size w W → Calls Tryz.prog 102 #[.agg T.toArray, vi ki x] W fun r w' => ∃ mb gm, r = zr (.map (some mb)) ∧ MapZ w' mb gz (mpF g.1 g.2 gm) ∧ Below W.heap.size W w')) :
  Calls Tryz.prog 80 #[.agg T.toArray, vi ki x] w fun r w' => r = zr (.tuple #[vi ki (inV g), vi ki (inH g), vi ki 0]) ∧ Below w.heap.size w w' := by
 have X1 : Hid (Bx (w.alloc (.cells T.toArray 46)) w.heap.size T) := Bx.new w T _
 have B1 : Hid (Below w.heap.size w (w.alloc (.cells T.toArray 46))) := (Below.refl _ _).alloc (Nat.le_refl _) _
 go_enter Tryz.func80, Tryz.ntmps80
 generalize hUA : T.toArray = UA at *
 go_upto_region 1 with fail
 refine gen_code (fun V => Bx V w.heap.size T ∧ Below w.heap.size w V) ⟨X1.out, B1.out⟩ ?_
 clear X1 B1
 rintro V ⟨XV, BV⟩
 have HX : Hid (Bx V w.heap.size T) := XV
 have HB : Hid (Below w.heap.size w V) := BV
 clear XV BV
 go_wp2_with (first | (refine wpList_load_mid rfl 46 _ rfl w.heap.size 0 rfl T _ HX.out.all Tryz.underlying46 rfl (by rw [hT]; kernel_rfl) ?_; rw [hUA]) | fail)
 refine (RT.out _ HB.out).mono ?_
 rintro e v1 ⟨rfl, hb1⟩
 have HX1 : Hid (Bx v1 w.heap.size T) := HX.out.below hb1
 have HB1 : Hid (Below w.heap.size w v1) := HB.out.trans (hb1.mono HB.out.size)
 clear hb1 HX HB
 go_wp2_with fail
 refine (A1.out _ HB1.out).mono ?_
 rintro e v2 ⟨rfl, hv⟩
 rw [hv]; clear hv v2
 go_wp2_with fail
 refine (A2.out _ HB1.out).mono ?_
 rintro e v2 ⟨rfl, hv⟩
 rw [hv]; clear hv v2
 go_wp2_with fail
 refine (A3.out _ HB1.out).mono ?_
 rintro e v2 ⟨rfl, hv⟩
 rw [hv]; clear hv v2
 go_wp2_with (first | (refine wpList_load_mid rfl 46 _ rfl w.heap.size 0 rfl T _ HX1.out.all Tryz.underlying46 rfl (by rw [hT]; kernel_rfl) ?_; rw [hUA]) | fail)
 refine (HE.out _ HB1.out).mono ?_
 rintro e v3 ⟨mb, gm, rfl, hMZ, hb3⟩
 have HB3 : Hid (Below w.heap.size w v3) := HB1.out.trans (hb3.mono HB1.out.size)
 clear hb3 HX1 HB1 HE RT A1 A2 A3
 obtain ⟨⟨n0, f0, l0⟩, ⟨n1, f1, l1⟩⟩ := g
 have hl1 := lookup_Z (P := Tryz.prog) (t := 149) Tryz.underlying149 Tryz.underlying153 (show (zeroValue 152).run Tryz.prog _ = .ok gz _ from by kernel_rfl) hMZ 1
 rw [mpF_1] at hl1
 unfold grV at hl1
 simp only [] at hl1
 have hb4 : Below v3.heap.size v3 (v3.alloc (.cells #[vi ki n1, vi ki f1, vi ki l1] 152)) := (Below.refl _ _).alloc (Nat.le_refl _) _
 have hl0 := lookup_Z (P := Tryz.prog) (t := 149) Tryz.underlying149 Tryz.underlying153 (show (zeroValue 152).run Tryz.prog _ = .ok gz _ from by kernel_rfl) (hMZ.same (hb4.block mb hMZ.lt)) 0
 rw [mpF_0] at hl0
 unfold grV at hl0
 simp only [] at hl0
 have HB4 : Hid (Below w.heap.size w (v3.alloc (.cells #[vi ki n1, vi ki f1, vi ki l1] 152))) := HB3.out.trans (hb4.mono HB3.out.size)
 clear hb4 hMZ HB3
 have hfd : ∀ W : World, (Instr.field 152 (.agg #[vi ki n0, vi ki f0, vi ki l0]) 2).run Tryz.prog W = .ok (vi ki l0) W := fun W => by kernel_rfl
 by_cases k0 : n1 = 0
 ·subst k0
  have hV : inV (⟨n0, f0, l0⟩, ⟨0, f1, l1⟩) = l0 := if_pos rfl
  have hH : inH (⟨n0, f0, l0⟩, ⟨0, f1, l1⟩) = 2 := if_pos rfl
  go_wp2_with fail
  exact bodyPost_ret (v := .tuple #[vi ki l0, vi ki 2, vi ki 0]) (by simp [results, Tryz.results80, go_sem]) rfl ⟨by rw [hV, hH], HB4.out⟩
 ·have k0' : (n1 == 0) = false := by simpa using k0
  have hV : inV (⟨n0, f0, l0⟩, ⟨n1, f1, l1⟩) = f1 := if_neg k0
  by_cases k1 : n1 = 1
  ·subst k1
   have hH : inH (⟨n0, f0, l0⟩, ⟨1, f1, l1⟩) = 0 := rfl
   go_wp2_with fail
   exact bodyPost_ret (v := .tuple #[vi ki f1, vi ki 0, vi ki 0]) (by simp [results, Tryz.results80, go_sem]) rfl ⟨by rw [hV, hH], HB4.out⟩
  ·have k1' : (n1 == 1) = false := by simpa using k1
   have hH : inH (⟨n0, f0, l0⟩, ⟨n1, f1, l1⟩) = 1 := (if_neg k0).trans (if_neg k1)
   go_wp2_with fail
   exact bodyPost_ret (v := .tuple #[vi ki f1, vi ki 1, vi ki 0]) (by simp [results, Tryz.results80, go_sem]) rfl ⟨by rw [hV, hH], HB4.out⟩
end Go.Proofs.YtpdmndlpgjjopaaGreatDoor
namespace Go.Proofs.YtpdmndlpgjjopaaGreatDoor.Fn
open Go.RowKit
def inst (d s k o v : Int) : Int := if k = 117 then (d + 10957) * 86400 + s else if k = 115 then (d + 10957) * 86400 + s - o else (d + 10957) * 86400 + s - o - v
theorem inst_any (d s k o v : Int) (d1 : -1000000000 ≤ d) (d2 : d ≤ 1000000000) (s1 : 0 ≤ s) (s2 : s ≤ 86400) (o1 : -50400 ≤ o) (o2 : o ≤ 50400) (v1 : 0 ≤ v) (v2 : v ≤ 7200) (w : World) :
  Calls Tryz.prog 146 #[vi ki d, vi ki s, .int .u8 k, vi ki o, vi ki v] w fun e w' => e = zr (vi ki (inst d s k o v)) ∧ w' = w := by
 by_cases h1 : k = 117
 ·subst h1
  go_enter Tryz.func146, Tryz.ntmps146
  go_wp2
  go_ret
  exact ⟨Cvl.ret_int (by unfold inst; simp), rfl⟩
 ·by_cases h2 : k = 115
  ·subst h2
   go_enter Tryz.func146, Tryz.ntmps146
   go_wp2
   go_ret
   exact ⟨Cvl.ret_int (by unfold inst; simp), rfl⟩
  ·go_enter Tryz.func146, Tryz.ntmps146
   go_wp2
   go_ret
   exact ⟨Cvl.ret_int (by unfold inst; rw [if_neg h1, if_neg h2]), rfl⟩
def YAt (t y : Int) : Prop :=
 (Cvl.can (t / 86400 - 10957) = true ∧ Cv.S y ≤ t / 86400 - 10957 ∧ t / 86400 - 10957 < Cv.S (y + 1)) ∨ (Cvl.can (t / 86400 - 10957) = false ∧ t < 0 ∧ y = -4718) ∨ (Cvl.can (t / 86400 - 10957) = false ∧ 0 ≤ t ∧ y = 294282)
theorem yat_is (t : Int) : ∃ y, YAt t y := by
 cases h : Cvl.can (t / 86400 - 10957)
 ·by_cases h0 : t < 0
  ·exact ⟨_, .inr (.inl ⟨h, h0, rfl⟩)⟩
  ·exact ⟨_, .inr (.inr ⟨h, by omega, rfl⟩)⟩
 ·obtain ⟨y, h1, h2⟩ := Cv.year_is (t / 86400 - 10957)
  exact ⟨y, .inl ⟨h, h1, h2⟩⟩
theorem yat_run (t q y : Int) (ms : Value) (ds : Value) (er : Int) (h1 : -9223372036854775808 ≤ t) (h2 : t ≤ 9223372036854775807) (hq : q = t / 86400)
  (D : Hid (∀ w : World, Cvl.Lens w → Calls Tryz.prog 60 #[vi ki (q - 10957)] w fun e w' => e = zr (.tuple #[vi ki y, ms, ds, vi ki er]) ∧ w' = w))
  (x : Int) (hx : (er = 0 ∧ x = y) ∨ (er = 10 ∧ t < 0 ∧ x = -4718) ∨ (er = 10 ∧ 0 ≤ t ∧ x = 294282)) (w : World) (hL : Hid (Cvl.Lens w)) :
  Calls Tryz.prog 56 #[vi ki t] w fun e w' => e = zr (vi ki x) ∧ w' = w := by
 have q1 : -200000000000000 ≤ q := by omega
 have q2 : q ≤ 200000000000000 := by omega
 by_cases hm : t.tmod 86400 < 0
 ·have e1 := Cvl.div_down (a := t) (b := 86400) (by decide) hm
  have e2 : t.tdiv 86400 = q + 1 := by omega
  clear e1 hq
  rcases hx with ⟨rfl, rfl⟩ | ⟨rfl, h0, rfl⟩ | ⟨rfl, h0, rfl⟩
  ·go_enter Tryz.func56, Tryz.ntmps56
   go_wp2_with fail
   refine (D.out _ hL.out).mono ?_
   rintro e w1 ⟨rfl, rfl⟩
   go_wp2
   go_ret
   exact ⟨rfl, rfl⟩
  ·go_enter Tryz.func56, Tryz.ntmps56
   go_wp2_with fail
   refine (D.out _ hL.out).mono ?_
   rintro e w1 ⟨rfl, rfl⟩
   go_wp2
   go_ret
   exact ⟨rfl, rfl⟩
  ·have h0' : ¬ t < 0 := by omega
   exact absurd hm (by have := Int.tmod_nonneg 86400 h0; omega)
 ·have e1 := Cvl.div_same (a := t) (b := 86400) (by decide) hm
  have e2 : t.tdiv 86400 = q := by omega
  clear e1 hq
  rcases hx with ⟨rfl, rfl⟩ | ⟨rfl, h0, rfl⟩ | ⟨rfl, h0, rfl⟩
  ·go_enter Tryz.func56, Tryz.ntmps56
   go_wp2_with fail
   refine (D.out _ hL.out).mono ?_
   rintro e w1 ⟨rfl, rfl⟩
   go_wp2
   go_ret
   exact ⟨rfl, rfl⟩
  ·go_enter Tryz.func56, Tryz.ntmps56
   go_wp2_with fail
   refine (D.out _ hL.out).mono ?_
   rintro e w1 ⟨rfl, rfl⟩
   go_wp2
   go_ret
   exact ⟨rfl, rfl⟩
  ·have h0' : ¬ t < 0 := by omega
   go_enter Tryz.func56, Tryz.ntmps56
   go_wp2_with fail
   refine (D.out _ hL.out).mono ?_
   rintro e w1 ⟨rfl, rfl⟩
   go_wp2
   go_ret
   exact ⟨rfl, rfl⟩
theorem yat_any (t y : Int) (h : YAt t y) (h1 : -9223372036854775808 ≤ t) (h2 : t ≤ 9223372036854775807) (w : World) (hL : Cvl.Lens w) :
  Calls Tryz.prog 56 #[vi ki t] w fun e w' => e = zr (vi ki y) ∧ w' = w := by
 rcases h with ⟨a, b, c⟩ | ⟨a, b, c⟩ | ⟨a, b, c⟩
 ·obtain ⟨y', m, d, hd⟩ := Cv.is_date (t / 86400 - 10957)
  obtain ⟨i1, i2⟩ := Cv.is_year hd
  obtain rfl := Cv.year_one b c i1 i2
  exact yat_run t (t / 86400) y (vi ki m) (vi ki d) 0 h1 h2 rfl (fun w hw => Cvl.date_yes _ y m d a hd w hw) y (.inl ⟨rfl, rfl⟩) w hL
 ·exact yat_run t (t / 86400) 0 (vi ki 0) (vi ki 0) 10 h1 h2 rfl (fun w hw => Cvl.date_no _ a w) y (.inr (.inl ⟨rfl, b, c⟩)) w hL
 ·exact yat_run t (t / 86400) 0 (vi ki 0) (vi ki 0) 10 h1 h2 rfl (fun w hw => Cvl.date_no _ a w) y (.inr (.inr ⟨rfl, b, c⟩)) w hL
def far (m n : Int) : Bool := decide (2 ≤ (if n ≤ m then m - n else n - m) ∧ (if n ≤ m then m - n else n - m) ≤ 10)
theorem apart_any (m n : Int) (m1 : 1 ≤ m) (m2 : m ≤ 12) (n1 : 1 ≤ n) (n2 : n ≤ 12) (w : World) :
  Calls Tryz.prog 121 #[vi ki m, vi ki n] w fun e w' => e = zr (.bool (far m n)) ∧ w' = w := by
 go_enter Tryz.func121, Tryz.ntmps121
 go_wp2
 all_goals go_ret
 all_goals refine ⟨Cvl.ret_bool ?_, rfl⟩
 all_goals unfold far
 all_goals first | exact (decide_eq_false (by split <;> omega)).symm | exact decide_eq_decide.2 (by split <;> omega)
end Go.Proofs.YtpdmndlpgjjopaaGreatDoor.Fn
namespace Go.Proofs.YtpdmndlpgjjopaaGreatDoor
open Go.RowKit Sr
def zeF : List Value := [.bool false, vi ki 0, vi ki 0, vi ki 0, vi ki 0, vi ki 0, vi ki 0, vi ki 0, .int .u8 0, vi ki 0, .string ⟨#[]⟩, vi ki 0, vi ki 0, vi ki 0, vi ki 0, vi ki 0, .int .u8 0, vi ki 0, .string ⟨#[]⟩]
def bkS (sv : Value) : List TrR → List Nat
 | [] => []
 | _ :: _ => match sv with | .slice (some a) _ _ => [a.block] | _ => []
def OkN (sv : Value) (L : List TrR) (W : World) : Prop := TrAt W sv L ∧ Cvl.Lens W
theorem OkN.okS (sv : Value) (L : List TrR) : OkS (0 :: bkS sv L) (OkN sv L) := by
 refine ⟨fun W W' h hs hk => ⟨?_, ?_⟩, fun W h k hk => ?_, fun W h => h⟩
 ·obtain ⟨⟨h1, h2, h3⟩, _⟩ := h
  refine ⟨h1, h2, h3.imp_right ?_⟩
  rintro ⟨g, o, c, e, hg, hc⟩
  refine ⟨g, o, c, e, Nat.lt_of_lt_of_le hg hs, fun j u hj => ?_⟩
  cases L with
  | nil => simp [trCs] at hj
  | cons x l => exact (World.cell?_of_block (w := W) (hk g (by subst e; simp [bkS]))).trans (hc j u hj)
 ·exact fun i hi => (World.cell?_of_block (w := W) (hk _ (by simp))).trans (h.2 i hi)
 ·rcases List.mem_cons.1 hk with rfl | hk
  ·have := h.2 0 (by decide)
   exact World.block_lt_of_cell? W _ this
  ·cases L with
   | nil => simp [bkS] at hk
   | cons x l =>
    obtain ⟨_, _, h3⟩ := h.1
    rcases h3 with h3 | ⟨g, o, c, e, hg, hc⟩
    ·cases h3
    ·subst e; simp [bkS] at hk; omega
theorem OkN.below {sv : Value} {L : List TrR} {W W' : World} (h : OkN sv L W) (hb : Below W.heap.size W W') : OkN sv L W' := (OkN.okS sv L).below h hb
structure NoF (f : TrR) (L : List TrR) : Prop where
 h1 : f.at_ = 0
 h2 : offB f.off = true
 h3 : L.length ≤ 4096
 h4 : ∀ j, j < L.length → OkTr L j
theorem NoF.rises {f : TrR} {L : List TrR} (h : NoF f L) : Zm.Rises (L.map (·.at_)) := rises_of L (fun j p x hp hx => by
 obtain ⟨x', e, _, _, _, k⟩ := h.h4 (j + 1) (List.getElem?_eq_some_iff.1 hx).1
 rw [hx] at e; cases e
 rcases k with k | ⟨p', e, k⟩
 ·omega
 ·rw [Nat.add_sub_cancel, hp] at e; cases e; exact k)
theorem nright (nm : ByteArray) (f : TrR) (sv : Value) (L : List TrR) (h : NoF f L) (w : World) (HT : TrAt w sv L) :
  Calls Tryz.prog 16 #[.agg (tbF nm f sv zeF).toArray] w fun e w' => e = zr (.bool true) ∧ Below w.heap.size w w' :=
 right_gen nm f sv zeF rfl L true true false h.h1 h.h2 h.h3 (fun ⟨j, hj, k⟩ => absurd (h.h4 j hj) k) (fun _ => rfl) (fun W => by kernel_rfl) w HT (fun k => by cases k)
def ask (t : Int) : Prop := -9223372036854775808 ≤ t ∧ t ≤ 9223372036854775807 ∧ ∃ y, Fn.YAt t y ∧ askY y = true
theorem nat_ (nm : ByteArray) (f : TrR) (sv : Value) (L : List TrR) (h : NoF f L) (t : Int) (ht : ask t) (w : World) (HO : OkN sv L w) :
  Calls Tryz.prog 77 #[.agg (tbF nm f sv zeF).toArray, vi ki t] w fun r w' => r = zr (.tuple #[trV (curT f L (Zm.cntLe t (L.map (·.at_)))), vi ki 0]) ∧ Below w.heap.size w w' := by
 obtain ⟨t1, t2, y, hy, ha⟩ := ht
 have R := zat_any nm f sv zeF rfl false 0 t rfl rfl L true (fun _ => ⟨h.rises, h.h3⟩) y zTr 0 w HO.1
  (fun W hb => nright nm f sv L h W (HO.1.mv hb)) (fun W hb => Fn.yat_any t y hy t1 t2 W (HO.below hb).2) (fun _ _ k => by cases k)
 unfold atP atE at R
 rw [if_pos rfl, if_pos rfl, if_pos ha, if_pos ha, if_neg (fun q => absurd q.1 (by decide))] at R
 exact R
def stsN (f : TrR) (L : List TrR) (x : Int) : List Zm.St := Zm.strs (x - 57600) (x + 57600 + 1) (curT f L (Zm.cntLe (x - 57600) (L.map (·.at_)))).off ((Zm.chg (x - 57600) (x + 57600) L).map fun c => (c.at_, c.off))
theorem strs_len (e : Int) : ∀ (l : List (Int × Int)) (a o : Int), (Zm.strs a e o l).length = l.length + 1
 | [], _, _ => rfl
 | c :: l, a, o => by rw [Zm.strs, List.length_cons, strs_len e l, List.length_cons]
theorem strs_off (e : Int) (P : Int → Prop) : ∀ (l : List (Int × Int)) (a o : Int), P o → (∀ c ∈ l, P c.2) → ∀ s ∈ Zm.strs a e o l, P s.o
 | [], a, o, h, _, s, hs => by simp [Zm.strs] at hs; rw [hs]; exact h
 | c :: l, a, o, h, hl, s, hs => by
  rw [Zm.strs] at hs
  rcases List.mem_cons.1 hs with rfl | hs
  ·exact h
  ·exact strs_off e P l c.1 c.2 (hl c List.mem_cons_self) (fun d hd => hl d (List.mem_cons_of_mem _ hd)) s hs
theorem tw_sub {p : TrR → Bool} : ∀ (l : List TrR), (l.takeWhile p).length ≤ l.length ∧ ∀ x ∈ l.takeWhile p, x ∈ l
 | [] => ⟨Nat.le_refl _, fun x h => h⟩
 | a :: l => by
  obtain ⟨h1, h2⟩ := tw_sub (p := p) l
  by_cases h : p a = true
  ·rw [List.takeWhile_cons_of_pos h]
   refine ⟨by simpa using h1, fun x hx => ?_⟩
   rcases List.mem_cons.1 hx with rfl | hx
   ·exact List.mem_cons_self
   ·exact List.mem_cons_of_mem _ (h2 x hx)
  ·rw [List.takeWhile_cons_of_neg h]
   exact ⟨Nat.zero_le _, fun x hx => by cases hx⟩
theorem offB_bd {o : Int} (h : offB o = true) : -57600 ≤ o ∧ o ≤ 57600 := by unfold offB at h; simp at h; exact h
theorem NoF.off {f : TrR} {L : List TrR} (h : NoF f L) {x : TrR} (hx : x ∈ L) : -57600 ≤ x.off ∧ x.off ≤ 57600 := by
 obtain ⟨j, hj⟩ := List.getElem?_of_mem hx
 obtain ⟨x', e, k, _⟩ := h.h4 j (List.getElem?_eq_some_iff.1 hj).1
 rw [hj] at e; cases e
 exact offB_bd k
theorem cur_mem (f : TrR) (L : List TrR) (i : Nat) : curT f L i = f ∨ curT f L i ∈ L := by
 unfold curT
 split
 ·exact .inl rfl
 ·rw [List.getD_eq_getElem?_getD]
  cases h : L[i - 1]? with
  | none => exact .inl rfl
  | some x => exact .inr (List.mem_of_getElem? h)
theorem NoF.cur {f : TrR} {L : List TrR} (h : NoF f L) (i : Nat) : -57600 ≤ (curT f L i).off ∧ (curT f L i).off ≤ 57600 := by
 rcases cur_mem f L i with e | e
 ·rw [e]; exact offB_bd h.h2
 ·exact h.off e
theorem nin_ (nm : ByteArray) (f : TrR) (ao : Option Addr) (n c : Nat) (hnc : n ≤ c) (L : List TrR) (hn : L.length = n) (h : NoF f L) (x : Int) (h0 : ask x) (h1 : ask (x - 57600)) (h2 : ask (x + 57600)) (x1 : -1000000000000000 ≤ x) (x2 : x ≤ 1000000000000000) (w : World) (HO : OkN (.slice ao n c) L w) :
  Calls Tryz.prog 80 #[.agg (tbF nm f (.slice ao n c) zeF).toArray, vi ki x] w fun r w' => r = zr (.tuple #[vi ki (inV (Zm.pGo x (stsN f L x) (⟨0, 0, 0⟩, ⟨0, 0, 0⟩))), vi ki (inH (Zm.pGo x (stsN f L x) (⟨0, 0, 0⟩, ⟨0, 0, 0⟩))), vi ki 0]) ∧ Below w.heap.size w w' := by
 have hS := OkN.okS (.slice ao n c) L
 have AS : ∀ t, ask t → ∀ W : World, Below w.heap.size w W → Calls Tryz.prog 96 #[vi ki t] W fun r w' => r = zr (.bool true) ∧ w' = W := fun t ⟨t1, t2, y, hy, ha⟩ W hb => by
  have R := asked_any t y W (Fn.yat_any t y hy t1 t2 W (HO.below hb).2)
  rw [ha] at R
  exact R
 refine zin_yes _ (tbF_len rfl) x x1 x2 _ w (fun W hb => nright nm f _ L h W (HO.1.mv hb)) (AS _ h0) (AS _ h1) (AS _ h2) (fun W hb => ?_)
 have hl : (stsN f L x).length = (Zm.chg (x - 57600) (x + 57600) L).length + 1 := by unfold stsN; rw [strs_len, List.length_map]
 have hcl : (Zm.chg (x - 57600) (x + 57600) L).length ≤ L.length := Nat.le_trans (tw_sub _).1 (by rw [List.length_drop]; omega)
 have hcm : ∀ c ∈ Zm.chg (x - 57600) (x + 57600) L, c ∈ L := fun c hc => List.mem_of_mem_drop ((tw_sub _).2 c hc)
 refine hear_any _ (tbF_len rfl) _ _ hS x x1 x2 (stsN f L x) (by rw [hl]; have := h.h3; omega) ?_ ?_ W (HO.below hb)
 ·exact strs_off _ (fun o => -57600 ≤ o ∧ o ≤ 57600) _ _ _ (h.cur _) (fun c hc => by obtain ⟨d, hd, rfl⟩ := List.mem_map.1 hc; exact h.off (hcm d hd))
 ·intro V b m hm hV X1 X2 X3
  rw [hl]
  refine strs_seq _ (tbF_len rfl) _ _ hS (x - 57600) (x + 57600 + 1) (by omega) (by omega) (curT f L (Zm.cntLe (x - 57600) (L.map (·.at_)))) (Zm.chg (x - 57600) (x + 57600) L) (fun U hU => ?_) (fun U b m hU Z1 Z2 Z3 => ?_) V m hm _ _ _ X1 X2 X3 hV
  ·have R := stand_any nm f (.slice ao n c) zeF rfl false 0 (x - 57600) rfl rfl L h.rises h.h3 zTr 0 U hU.1 (fun k => by cases k)
   rw [if_neg (fun q => absurd q.1 (by decide))] at R
   exact R
  ·rw [show x + 57600 + 1 - 1 = x + 57600 by omega] at Z3
   exact chs_no _ (tbF_len rfl) _ _ hS (x - 57600) (x + 57600) ao n c hnc L rfl rfl h.rises h.h3 hn (fun V hV => hV.1) U m b (b + 1) (b + 2) Z1 Z2 Z3 hU
def zeT : List Value := tbF ⟨#[]⟩ ⟨0, 0, false, ⟨#[]⟩⟩ (.slice none 0 0) zeF
theorem TrAt.offB {W : World} {g o n c b i : Nat} {v : Value} {L : List TrR} (h : TrAt W (.slice (some ⟨g, o, none⟩) n c) L) (hg : g ≠ b) : TrAt (W.setCell ⟨b, i, none⟩ v) (.slice (some ⟨g, o, none⟩) n c) L := by
 obtain ⟨h1, h2, h3⟩ := h
 refine ⟨h1, h2, h3.imp_right ?_⟩
 rintro ⟨g', o', c', e, hg', hc⟩
 have e0 := e
 simp only [Value.slice.injEq, Option.some.injEq, Addr.mk.injEq] at e
 obtain ⟨⟨rfl, rfl, _⟩, _, rfl⟩ := e
 exact ⟨_, _, _, e0, by simpa using hg', fun j u hj => (World.cell?_setCell_other _ _ _ _ (fun q => hg (by cases q; rfl))).trans (hc j u hj)⟩
theorem results_c1 {P : Program} {fn : Func} {p : Tmp} {ty : TypeId} (h : fn.results = #[.cell p ty]) (tmps : Array Value) (w : World) (a : Addr) (v : Value) (hp : tmps[p]?.getD undef = .pointer (some a)) (hl : (loadVar ty a).run P w = .ok v w) :
  (results fn tmps).run P w = .ok v w := by
 simp [results, h, hp, asAddr, hl]
theorem infoT9 : (Tryz.prog.info? 23).map (fun i => (i.zero, i.size, i.bytes)) = some (some (.agg #[vi ki 0, vi ki 0, .bool false, .string ⟨#[]⟩]), 4, 40) := by kernel_rfl
theorem OkB.okS (sv : Value) (L : List TrR) : OkS (bkS sv L) (fun W => TrAt W sv L) := by
 refine ⟨fun W W' h hs hk => ?_, fun W h k hk => ?_, fun W h => h⟩
 ·obtain ⟨h1, h2, h3⟩ := h
  refine ⟨h1, h2, h3.imp_right ?_⟩
  rintro ⟨g, o, c, e, hg, hc⟩
  refine ⟨g, o, c, e, Nat.lt_of_lt_of_le hg hs, fun j u hj => ?_⟩
  cases L with
  | nil => simp [trCs] at hj
  | cons x l => exact (World.cell?_of_block (w := W) (hk g (by subst e; simp [bkS]))).trans (hc j u hj)
 ·cases L with
  | nil => simp [bkS] at hk
  | cons x l =>
   obtain ⟨_, _, h3⟩ := h
   rcases h3 with h3 | ⟨g, o, c, e, hg, hc⟩
   ·cases h3
   ·subst e; simp [bkS] at hk; omega
open Go.RowKit
theorem lo_ok (Ok : World → Prop) (T : List Value) (hT : T.length = 25) (u s p o9 o6 V E : Int) (dd : Bool) (ab : ByteArray) (h6 : IntKind.i64.wrap (o9 * 1000000) = o6)
  (RT : Hid (∀ w : World, Ok w → Calls Tryz.prog 16 #[.agg T.toArray] w fun r' w' => r' = zr (.bool true) ∧ Below w.heap.size w w'))
  (R : Hid (∀ w : World, Ok w → Calls Tryz.prog 17 #[.agg #[vi ki 0, vi ki u]] w fun r' w' => r' = zr (.bool true) ∧ Below w.heap.size w w'))
  (SE : Hid (∀ w : World, Calls Tryz.prog 78 #[.agg #[vi ki 0, vi ki u]] w fun r' w' => r' = zr (vi ki s) ∧ Below w.heap.size w w'))
  (AT : Hid (∀ w : World, Ok w → Calls Tryz.prog 77 #[.agg T.toArray, vi ki s] w fun r' w' => r' = zr (.tuple #[.agg #[vi ki p, vi ki o9, .bool dd, .string ab], vi ki 0]) ∧ Below w.heap.size w w'))
  (MO : Hid (∀ w : World, Ok w → Calls Tryz.prog 30 #[.agg #[vi ki 0, vi ki u], vi ki o6] w fun r' w' => r' = zr (.tuple #[.agg #[vi ki 0, vi ki V], vi ki E]) ∧ Below w.heap.size w w'))
  (w : World) (hL : Hid (∀ W : World, Below w.heap.size w W → Ok W)) :
  Calls Tryz.prog 52 #[.agg T.toArray, .agg #[vi ki 0, vi ki u]] w fun r' w' => r' = zr (.tuple #[.agg #[vi ki 0, vi ki V], vi ki E]) ∧ Below w.heap.size w w' := by
 have K0 := bsn3 w T 46 [vi ki 0, vi ki u] 36 [vi ki 0, vi ki 0] 36
 go_enter Tryz.func52, Tryz.ntmps52
 generalize hUA : T.toArray = UA at *
 go_upto_region 1 with fail
 refine gen_to (BS w [(w.heap.size + 2, [vi ki 0, vi ki 0]), (w.heap.size + 1, [vi ki 0, vi ki u]), (w.heap.size, T)]) K0.out ?_
 clear K0
 intro W0 K0'
 have K0 : Hid (BS w [(w.heap.size + 2, [vi ki 0, vi ki 0]), (w.heap.size + 1, [vi ki 0, vi ki u]), (w.heap.size, T)] W0) := K0'
 clear K0'
 obtain ⟨c0_0_0, c0_0_1⟩ := (bo1 K0).c2
 obtain ⟨c0_1_0, c0_1_1⟩ := (bo2 K0).c2
 go_wp2_with (first | (refine wpList_load_mid rfl 46 _ rfl (w.heap.size) 0 rfl T _ (K0.out.at (w.heap.size) T (by simp)).all Tryz.underlying46 rfl (by rw [hT]; kernel_rfl) ?_; rw [hUA]) | fail)
 refine (RT.out _ (hL.out _ K0.out.1)).mono ?_
 rintro e W1 ⟨rfl, hb⟩
 have K1 := bsb K0 hb
 clear c0_0_0 c0_0_1 c0_1_0 c0_1_1
 clear hb K0
 obtain ⟨c1_0_0, c1_0_1⟩ := (bo1 K1).c2
 obtain ⟨c1_1_0, c1_1_1⟩ := (bo2 K1).c2
 go_wp2_with (first | (refine wpList_load_mid rfl 46 _ rfl (w.heap.size) 0 rfl T _ (K1.out.at (w.heap.size) T (by simp)).all Tryz.underlying46 rfl (by rw [hT]; kernel_rfl) ?_; rw [hUA]) | fail)
 refine (R.out _ (hL.out _ K1.out.1)).mono ?_
 rintro e W2 ⟨rfl, hb⟩
 have K2 := bsb K1 hb
 clear c1_0_0 c1_0_1 c1_1_0 c1_1_1
 clear hb K1
 obtain ⟨c2_0_0, c2_0_1⟩ := (bo1 K2).c2
 obtain ⟨c2_1_0, c2_1_1⟩ := (bo2 K2).c2
 go_wp2_with fail
 go_cut [6, 7] (fun v0 v1 wx => ∃ nb, v0 = .pointer (some ⟨nb, 0, none⟩) ∧ v1 = vi ki 0 ∧ Hid (BS w ((nb, [vi ki p, vi ki o9, .bool dd, .string ab]) :: [(w.heap.size + 2, [vi ki 0, vi ki 0]), (w.heap.size + 1, [vi ki 0, vi ki u]), (w.heap.size, T)]) wx ∧ (∀ x ∈ [(w.heap.size + 2, [vi ki 0, vi ki 0]), (w.heap.size + 1, [vi ki 0, vi ki u]), (w.heap.size, T)], x.1 ≠ nb)))
 case first =>
  refine wp_region_held_drew (S := BS w [(w.heap.size + 2, [vi ki 0, vi ki 0]), (w.heap.size + 1, [vi ki 0, vi ki u]), (w.heap.size, T)]) (by kernel_rfl) K2.out.drew (fun hHeld => ?_)
  refine wpAnyH_take (i := 0) (v := .agg UA) (oi := ⟨some 22, _, _, _, _, none⟩) rfl (by kernel_rfl) (by kernel_rfl) (by kernel_rfl) (fun _ _ _ h => h) (Or.inl ⟨by kernel_rfl, ?_⟩) (by assumption) ?_
  case refine_1 => (intro w9 hSw; rw [← hUA]; exact exec_row9 rfl rfl (hSw.at (w.heap.size) T (by simp)).all Tryz.underlying46 rfl (by rw [hT]; kernel_rfl))
  simp only [za, zb, zc, zd]
  refine tk (v := ?_) 1 ⟨some 23, _, _, _, _, none⟩ rfl ?_ ?_
  case refine_2 => (intro w9 hSw; obtain ⟨l0_0, l0_1⟩ := (hSw.at (w.heap.size + 2) [vi ki 0, vi ki 0] (by simp)).c2; obtain ⟨l1_0, l1_1⟩ := (hSw.at (w.heap.size + 1) [vi ki 0, vi ki u] (by simp)).c2; clear hSw; go_simp; try with_reducible rfl)
  simp only [za, zb, zc, zd]
  refine wpAnyH_ready (rs := [2, 7]) (by kernel_rfl) (by simp) (AllReadyH.cons (o := ⟨some 24, _, _, _, _, none⟩) rfl (fun K hK => ?_) (AllReadyH.cons (o := ⟨some 6, _, _, _, _, none⟩) rfl (fun K hK => ?_) AllReadyH.nil))
  ·
   go_simp
   refine (SE.out _).mono ?_
   rintro e v1 ⟨rfl, hb1⟩
   refine hK.out _ _ (hHeld.below hb1) (fun hHeld => ?_)
   try (have HN2 := HN.out.below hb1; clear HN; have HN : Hid (NB _ _ _ _ _) := HN2; clear HN2)
   clear hK K hb1
   refine wpAnyH_ready (rs := [3, 7]) (by kernel_rfl) (by simp) (AllReadyH.cons (o := ⟨some 25, _, _, _, _, none⟩) rfl (fun K hK => ?_) (AllReadyH.cons (o := ⟨some 6, _, _, _, _, none⟩) rfl (fun K hK => ?_) AllReadyH.nil))
   ·
    go_simp
    refine (AT.out _ (hL.out _ hHeld.1)).mono ?_
    rintro e v2 ⟨rfl, hb2⟩
    refine hK.out _ _ (hHeld.below hb2) (fun hHeld => ?_)
    try (have HN2 := HN.out.below hb2; clear HN; have HN : Hid (NB _ _ _ _ _) := HN2; clear HN2)
    clear hK K hb2
    refine tks 4 ⟨some 21, _, _, _, _, none⟩ rfl ?_
    simp only [za, zb, zc, zd]
    refine tks 5 ⟨some 26, _, _, _, _, none⟩ rfl ?_
    simp only [za, zb, zc, zd]
    refine tks 6 ⟨some 27, _, _, _, _, none⟩ rfl ?_
    simp only [za, zb, zc, zd]
    refine rd 7 ⟨some 6, _, _, _, _, none⟩ rfl (fun K hK => ?_)
    go_simp
    have hH0 := hHeld
    refine hK.out _ _ (hHeld.alloc _) (fun hHeld => ?_)
    have HN : Hid (NB _ _ _ _ [vi ki 0, vi ki 0, .bool false, .string ⟨#[]⟩]) := hH0.nb hHeld
    clear hK K hH0
    refine rd 8 ⟨none, _, _, _, _, none⟩ rfl (fun K hK => ?_)
    refine (if_pos (by kernel_rfl)).mpr (wp_store_mid 23 _ _ rfl _ 0 #[vi ki p, vi ki o9, .bool dd, .string ab] rfl rfl HN.out.1.there (by kernel_rfl) (by simp [Value.oneCell']) (hK.out _ _ (hHeld.off HN.out.2.1 HN.out.2.2 _) (fun hHeld => ?_)))
    have HN2 : Hid (BS w ((_, [vi ki p, vi ki o9, .bool dd, .string ab]) :: [(w.heap.size + 2, [vi ki 0, vi ki 0]), (w.heap.size + 1, [vi ki 0, vi ki u]), (w.heap.size, T)]) _ ∧ _) := ⟨⟨hHeld.1, fun x hx => by rcases List.mem_cons.1 hx with rfl | hx; exact ⟨HN.out.2.1, HN.out.1.setAll _ rfl⟩; exact hHeld.2 x hx⟩, HN.out.2.2⟩
    clear hK K HN
    refine tks 9 ⟨some 7, _, _, _, _, none⟩ rfl ?_
    simp only [za, zb, zc, zd]
    refine wpAnyH_done (by kernel_rfl) ?_ _
    go_wp2_with fail
    go_meet
    case rel => exact ⟨_, rfl, rfl, HN2.out⟩
   ·
    go_simp
    have hH0 := hHeld
    refine hK.out _ _ (hHeld.alloc _) (fun hHeld => ?_)
    have HN : Hid (NB _ _ _ _ [vi ki 0, vi ki 0, .bool false, .string ⟨#[]⟩]) := hH0.nb hHeld
    clear hK K hH0
    refine rd 3 ⟨some 25, _, _, _, _, none⟩ rfl (fun K hK => ?_)
    go_simp
    refine (AT.out _ (hL.out _ hHeld.1)).mono ?_
    rintro e v6 ⟨rfl, hb6⟩
    refine hK.out _ _ (hHeld.below hb6) (fun hHeld => ?_)
    try (have HN2 := HN.out.below hb6; clear HN; have HN : Hid (NB _ _ _ _ _) := HN2; clear HN2)
    clear hK K hb6
    refine tks 4 ⟨some 21, _, _, _, _, none⟩ rfl ?_
    simp only [za, zb, zc, zd]
    refine tks 5 ⟨some 26, _, _, _, _, none⟩ rfl ?_
    simp only [za, zb, zc, zd]
    refine tks 6 ⟨some 27, _, _, _, _, none⟩ rfl ?_
    simp only [za, zb, zc, zd]
    refine rd 8 ⟨none, _, _, _, _, none⟩ rfl (fun K hK => ?_)
    refine (if_pos (by kernel_rfl)).mpr (wp_store_mid 23 _ _ rfl _ 0 #[vi ki p, vi ki o9, .bool dd, .string ab] rfl rfl HN.out.1.there (by kernel_rfl) (by simp [Value.oneCell']) (hK.out _ _ (hHeld.off HN.out.2.1 HN.out.2.2 _) (fun hHeld => ?_)))
    have HN2 : Hid (BS w ((_, [vi ki p, vi ki o9, .bool dd, .string ab]) :: [(w.heap.size + 2, [vi ki 0, vi ki 0]), (w.heap.size + 1, [vi ki 0, vi ki u]), (w.heap.size, T)]) _ ∧ _) := ⟨⟨hHeld.1, fun x hx => by rcases List.mem_cons.1 hx with rfl | hx; exact ⟨HN.out.2.1, HN.out.1.setAll _ rfl⟩; exact hHeld.2 x hx⟩, HN.out.2.2⟩
    clear hK K HN
    refine tks 9 ⟨some 7, _, _, _, _, none⟩ rfl ?_
    simp only [za, zb, zc, zd]
    refine wpAnyH_done (by kernel_rfl) ?_ _
    go_wp2_with fail
    go_meet
    case rel => exact ⟨_, rfl, rfl, HN2.out⟩
  ·
   go_simp
   have hH0 := hHeld
   refine hK.out _ _ (hHeld.alloc _) (fun hHeld => ?_)
   have HN : Hid (NB _ _ _ _ [vi ki 0, vi ki 0, .bool false, .string ⟨#[]⟩]) := hH0.nb hHeld
   clear hK K hH0
   refine rd 2 ⟨some 24, _, _, _, _, none⟩ rfl (fun K hK => ?_)
   go_simp
   refine (SE.out _).mono ?_
   rintro e v9 ⟨rfl, hb9⟩
   refine hK.out _ _ (hHeld.below hb9) (fun hHeld => ?_)
   try (have HN2 := HN.out.below hb9; clear HN; have HN : Hid (NB _ _ _ _ _) := HN2; clear HN2)
   clear hK K hb9
   refine rd 3 ⟨some 25, _, _, _, _, none⟩ rfl (fun K hK => ?_)
   go_simp
   refine (AT.out _ (hL.out _ hHeld.1)).mono ?_
   rintro e v10 ⟨rfl, hb10⟩
   refine hK.out _ _ (hHeld.below hb10) (fun hHeld => ?_)
   try (have HN2 := HN.out.below hb10; clear HN; have HN : Hid (NB _ _ _ _ _) := HN2; clear HN2)
   clear hK K hb10
   refine tks 4 ⟨some 21, _, _, _, _, none⟩ rfl ?_
   simp only [za, zb, zc, zd]
   refine tks 5 ⟨some 26, _, _, _, _, none⟩ rfl ?_
   simp only [za, zb, zc, zd]
   refine tks 6 ⟨some 27, _, _, _, _, none⟩ rfl ?_
   simp only [za, zb, zc, zd]
   refine rd 8 ⟨none, _, _, _, _, none⟩ rfl (fun K hK => ?_)
   refine (if_pos (by kernel_rfl)).mpr (wp_store_mid 23 _ _ rfl _ 0 #[vi ki p, vi ki o9, .bool dd, .string ab] rfl rfl HN.out.1.there (by kernel_rfl) (by simp [Value.oneCell']) (hK.out _ _ (hHeld.off HN.out.2.1 HN.out.2.2 _) (fun hHeld => ?_)))
   have HN2 : Hid (BS w ((_, [vi ki p, vi ki o9, .bool dd, .string ab]) :: [(w.heap.size + 2, [vi ki 0, vi ki 0]), (w.heap.size + 1, [vi ki 0, vi ki u]), (w.heap.size, T)]) _ ∧ _) := ⟨⟨hHeld.1, fun x hx => by rcases List.mem_cons.1 hx with rfl | hx; exact ⟨HN.out.2.1, HN.out.1.setAll _ rfl⟩; exact hHeld.2 x hx⟩, HN.out.2.2⟩
   clear hK K HN
   refine tks 9 ⟨some 7, _, _, _, _, none⟩ rfl ?_
   simp only [za, zb, zc, zd]
   refine wpAnyH_done (by kernel_rfl) ?_ _
   go_wp2_with fail
   go_meet
   case rel => exact ⟨_, rfl, rfl, HN2.out⟩
 case rest =>
  clear c2_0_0 c2_0_1 c2_1_0 c2_1_1
  obtain ⟨nb2, rfl, rfl, KK⟩ := hcut
  clear K2
  have K3 : Hid (BS w [(nb2, [vi ki p, vi ki o9, .bool dd, .string ab]), (w.heap.size + 2, [vi ki 0, vi ki 0]), (w.heap.size + 1, [vi ki 0, vi ki u]), (w.heap.size, T)] wc) := KK.out.1
  have ne3_0 : w.heap.size + 2 ≠ nb2 := KK.out.2 (w.heap.size + 2, [vi ki 0, vi ki 0]) (by simp)
  have ne3_1 : w.heap.size + 1 ≠ nb2 := KK.out.2 (w.heap.size + 1, [vi ki 0, vi ki u]) (by simp)
  have ne3_2 : w.heap.size ≠ nb2 := KK.out.2 (w.heap.size, T) (by simp)
  clear KK
  obtain ⟨c3_0_0, c3_0_1, c3_0_2, c3_0_3⟩ := (bo1 K3).c4
  obtain ⟨c3_1_0, c3_1_1⟩ := (bo2 K3).c2
  obtain ⟨c3_2_0, c3_2_1⟩ := (bo3 K3).c2
  go_wp2_with (first | (refine wpList_load_mid rfl 46 _ rfl (w.heap.size) 0 rfl T _ (K3.out.at (w.heap.size) T (by simp)).all Tryz.underlying46 rfl (by rw [hT]; kernel_rfl) ?_; rw [hUA]) | fail)
  refine (MO.out _ (hL.out _ K3.out.1)).mono ?_
  rintro e W4 ⟨rfl, hb⟩
  have K4 := bsb K3 hb
  clear c3_0_0 c3_0_1 c3_0_2 c3_0_3 c3_1_0 c3_1_1 c3_2_0 c3_2_1
  clear hb K3
  obtain ⟨c4_0_0, c4_0_1, c4_0_2, c4_0_3⟩ := (bo1 K4).c4
  obtain ⟨c4_1_0, c4_1_1⟩ := (bo2 K4).c2
  obtain ⟨z4_1_0, z4_1_1⟩ := (bo2 K4).f2
  obtain ⟨c4_2_0, c4_2_1⟩ := (bo3 K4).c2
  have XF : Hid (Bx (W4.setCells (w.heap.size + 2) 0 [vi ki 0, vi ki V]) (w.heap.size + 2) [vi ki 0, vi ki V]) := (K4.out.at (w.heap.size + 2) [vi ki 0, vi ki 0] (by simp)).setAll _ rfl
  have BF : Hid (Below w.heap.size w (W4.setCells (w.heap.size + 2) 0 [vi ki 0, vi ki V])) := below_setCells (by omega) _ _ _ K4.out.1
  have y0 := XF.out.c 0 rfl
  have y1 := XF.out.c 1 rfl
  simp only [World.setCells, Nat.zero_add] at y0 y1
  clear XF
  go_wp2
  exact bodyPost_ret (v := .tuple #[.agg #[vi ki 0, vi ki V], vi ki E]) (by simp [results, Tryz.results52, go_sem, y0, y1]) rfl ⟨rfl, BF.out⟩
theorem in_err2 (Ok : World → Prop) (T : List Value) (hT : T.length = 25) (u s a9 how d9 d6 V e : Int) (h9 : IntKind.i64.wrap (a9 - s) = d9) (h6 : IntKind.i64.wrap (d9 * 1000000) = d6) (he : e ≠ 0)
  (RT : Hid (∀ w : World, Ok w → Calls Tryz.prog 16 #[.agg T.toArray] w fun r' w' => r' = zr (.bool true) ∧ Below w.heap.size w w'))
  (R : Hid (∀ w : World, Ok w → Calls Tryz.prog 17 #[.agg #[vi ki 0, vi ki u]] w fun r' w' => r' = zr (.bool true) ∧ Below w.heap.size w w'))
  (SE : Hid (∀ w : World, Calls Tryz.prog 78 #[.agg #[vi ki 0, vi ki u]] w fun r' w' => r' = zr (vi ki s) ∧ Below w.heap.size w w'))
  (IN : Hid (∀ w : World, Ok w → Calls Tryz.prog 80 #[.agg T.toArray, vi ki s] w fun r' w' => r' = zr (.tuple #[vi ki a9, vi ki how, vi ki 0]) ∧ Below w.heap.size w w'))
  (MO : Hid (∀ w : World, Ok w → Calls Tryz.prog 30 #[.agg #[vi ki 0, vi ki u], vi ki d6] w fun r' w' => r' = zr (.tuple #[.agg #[vi ki 0, vi ki V], vi ki e]) ∧ Below w.heap.size w w'))
  (w : World) (hL : Hid (∀ W : World, Below w.heap.size w W → Ok W)) :
  Calls Tryz.prog 54 #[.agg T.toArray, .agg #[vi ki 0, vi ki u]] w fun r' w' => r' = zr (.tuple #[.agg #[vi ki 0, vi ki 0], vi ki 0, vi ki e]) ∧ Below w.heap.size w w' := by
 have e1 : (e != 0) = true := bne_iff_ne.2 he
 have K0 := bsn3 w T 46 [vi ki 0, vi ki u] 36 [vi ki 0, vi ki 0] 36
 go_enter Tryz.func54, Tryz.ntmps54
 generalize hUA : T.toArray = UA at *
 go_upto_region 1 with fail
 refine gen_to (BS w [(w.heap.size + 2, [vi ki 0, vi ki 0]), (w.heap.size + 1, [vi ki 0, vi ki u]), (w.heap.size, T)]) K0.out ?_
 clear K0
 intro W0 K0'
 have K0 : Hid (BS w [(w.heap.size + 2, [vi ki 0, vi ki 0]), (w.heap.size + 1, [vi ki 0, vi ki u]), (w.heap.size, T)] W0) := K0'
 clear K0'
 obtain ⟨c0_0_0, c0_0_1⟩ := (bo1 K0).c2
 obtain ⟨c0_1_0, c0_1_1⟩ := (bo2 K0).c2
 go_wp2_with (first | (refine wpList_load_mid rfl 46 _ rfl (w.heap.size) 0 rfl T _ (K0.out.at (w.heap.size) T (by simp)).all Tryz.underlying46 rfl (by rw [hT]; kernel_rfl) ?_; rw [hUA]) | fail)
 refine (RT.out _ (hL.out _ K0.out.1)).mono ?_
 rintro e W1 ⟨rfl, hb⟩
 have K1 := bsb K0 hb
 clear c0_0_0 c0_0_1 c0_1_0 c0_1_1
 clear hb K0
 obtain ⟨c1_0_0, c1_0_1⟩ := (bo1 K1).c2
 obtain ⟨c1_1_0, c1_1_1⟩ := (bo2 K1).c2
 go_wp2_with (first | (refine wpList_load_mid rfl 46 _ rfl (w.heap.size) 0 rfl T _ (K1.out.at (w.heap.size) T (by simp)).all Tryz.underlying46 rfl (by rw [hT]; kernel_rfl) ?_; rw [hUA]) | fail)
 refine (R.out _ (hL.out _ K1.out.1)).mono ?_
 rintro e W2 ⟨rfl, hb⟩
 have K2 := bsb K1 hb
 clear c1_0_0 c1_0_1 c1_1_0 c1_1_1
 clear hb K1
 obtain ⟨c2_0_0, c2_0_1⟩ := (bo1 K2).c2
 obtain ⟨c2_1_0, c2_1_1⟩ := (bo2 K2).c2
 go_wp2_with fail
 go_cut [7, 8, 9] (fun v0 v1 v2 wx => v0 = vi ki a9 ∧ v1 = vi ki how ∧ v2 = vi ki 0 ∧ Hid (BS w [(w.heap.size + 2, [vi ki 0, vi ki 0]), (w.heap.size + 1, [vi ki 0, vi ki u]), (w.heap.size, T)] wx))
 case first =>
  refine wp_region_held_drew (S := BS w [(w.heap.size + 2, [vi ki 0, vi ki 0]), (w.heap.size + 1, [vi ki 0, vi ki u]), (w.heap.size, T)]) (by kernel_rfl) K2.out.drew (fun hHeld => ?_)
  refine wpAnyH_take (i := 0) (v := .agg UA) (oi := ⟨some 25, _, _, _, _, none⟩) rfl (by kernel_rfl) (by kernel_rfl) (by kernel_rfl) (fun _ _ _ h => h) (Or.inl ⟨by kernel_rfl, ?_⟩) (by assumption) ?_
  case refine_1 => (intro w9 hSw; rw [← hUA]; exact exec_row9 rfl rfl (hSw.at (w.heap.size) T (by simp)).all Tryz.underlying46 rfl (by rw [hT]; kernel_rfl))
  simp only [za, zb, zc, zd]
  refine tk (v := ?_) 1 ⟨some 26, _, _, _, _, none⟩ rfl ?_ ?_
  case refine_2 => (intro w9 hSw; obtain ⟨l0_0, l0_1⟩ := (hSw.at (w.heap.size + 2) [vi ki 0, vi ki 0] (by simp)).c2; obtain ⟨l1_0, l1_1⟩ := (hSw.at (w.heap.size + 1) [vi ki 0, vi ki u] (by simp)).c2; clear hSw; go_simp; try with_reducible rfl)
  simp only [za, zb, zc, zd]
  refine rd 2 ⟨some 27, _, _, _, _, none⟩ rfl (fun K hK => ?_)
  go_simp
  refine (SE.out _).mono ?_
  rintro e v1 ⟨rfl, hb1⟩
  refine hK.out _ _ (hHeld.below hb1) (fun hHeld => ?_)
  clear hK K hb1
  refine rd 3 ⟨some 28, _, _, _, _, none⟩ rfl (fun K hK => ?_)
  go_simp
  refine (IN.out _ (hL.out _ hHeld.1)).mono ?_
  rintro e v2 ⟨rfl, hb2⟩
  refine hK.out _ _ (hHeld.below hb2) (fun hHeld => ?_)
  clear hK K hb2
  refine tks 4 ⟨some 24, _, _, _, _, none⟩ rfl ?_
  simp only [za, zb, zc, zd]
  refine tks 5 ⟨some 29, _, _, _, _, none⟩ rfl ?_
  simp only [za, zb, zc, zd]
  refine tks 6 ⟨some 30, _, _, _, _, none⟩ rfl ?_
  simp only [za, zb, zc, zd]
  refine tks 7 ⟨some 31, _, _, _, _, none⟩ rfl ?_
  simp only [za, zb, zc, zd]
  refine tks 8 ⟨some 7, _, _, _, _, none⟩ rfl ?_
  simp only [za, zb, zc, zd]
  refine tks 9 ⟨some 8, _, _, _, _, none⟩ rfl ?_
  simp only [za, zb, zc, zd]
  refine tks 10 ⟨some 9, _, _, _, _, none⟩ rfl ?_
  simp only [za, zb, zc, zd]
  refine wpAnyH_done (by kernel_rfl) ?_ _
  go_wp2_with fail
  go_meet
  case rel => exact ⟨rfl, rfl, rfl, hHeld⟩
 case rest =>
  clear c2_0_0 c2_0_1 c2_1_0 c2_1_1
  obtain ⟨rfl, rfl, rfl, K3⟩ := hcut
  clear K2
  skip
  obtain ⟨c3_0_0, c3_0_1⟩ := (bo1 K3).c2
  obtain ⟨c3_1_0, c3_1_1⟩ := (bo2 K3).c2
  go_wp2_with fail
  go_cut [10, 9] (fun v0 v1 wx => ∃ nb, v0 = .pointer (some ⟨nb, 0, none⟩) ∧ v1 = vi ki e ∧ Hid (BS w ((nb, [vi ki 0, vi ki V]) :: [(w.heap.size + 2, [vi ki 0, vi ki 0]), (w.heap.size + 1, [vi ki 0, vi ki u]), (w.heap.size, T)]) wx ∧ (∀ x ∈ [(w.heap.size + 2, [vi ki 0, vi ki 0]), (w.heap.size + 1, [vi ki 0, vi ki u]), (w.heap.size, T)], x.1 ≠ nb)))
  case first =>
   refine wp_region_held_drew (S := BS w [(w.heap.size + 2, [vi ki 0, vi ki 0]), (w.heap.size + 1, [vi ki 0, vi ki u]), (w.heap.size, T)]) (by kernel_rfl) K3.out.drew (fun hHeld => ?_)
   refine tk (v := ?_) 0 ⟨some 37, _, _, _, _, none⟩ rfl ?_ ?_
   case refine_2 => (intro w9 hSw; obtain ⟨l0_0, l0_1⟩ := (hSw.at (w.heap.size + 2) [vi ki 0, vi ki 0] (by simp)).c2; obtain ⟨l1_0, l1_1⟩ := (hSw.at (w.heap.size + 1) [vi ki 0, vi ki u] (by simp)).c2; clear hSw; go_simp; try with_reducible rfl)
   simp only [za, zb, zc, zd]
   refine tks 1 ⟨some 38, _, _, _, _, none⟩ rfl ?_
   simp only [za, zb, zc, zd]
   refine tk (v := ?_) 2 ⟨some 39, _, _, _, _, none⟩ rfl ?_ ?_
   case refine_2 => (intro w9 hSw; obtain ⟨l0_0, l0_1⟩ := (hSw.at (w.heap.size + 2) [vi ki 0, vi ki 0] (by simp)).c2; obtain ⟨l1_0, l1_1⟩ := (hSw.at (w.heap.size + 1) [vi ki 0, vi ki u] (by simp)).c2; clear hSw; go_simp; try with_reducible rfl)
   simp only [za, zb, zc, zd]
   refine wpAnyH_ready (rs := [3, 10]) (by kernel_rfl) (by simp) (AllReadyH.cons (o := ⟨some 40, _, _, _, _, none⟩) rfl (fun K hK => ?_) (AllReadyH.cons (o := ⟨some 10, _, _, _, _, none⟩) rfl (fun K hK => ?_) AllReadyH.nil))
   ·
    go_simp
    refine (SE.out _).mono ?_
    rintro e v1 ⟨rfl, hb1⟩
    refine hK.out _ _ (hHeld.below hb1) (fun hHeld => ?_)
    try (have HN2 := HN.out.below hb1; clear HN; have HN : Hid (NB _ _ _ _ _) := HN2; clear HN2)
    clear hK K hb1
    refine tks 4 ⟨some 41, _, _, _, _, none⟩ rfl ?_
    simp only [za, zb, zc, zd]
    refine tks 5 ⟨some 42, _, _, _, _, none⟩ rfl ?_
    simp only [za, zb, zc, zd]
    refine wpAnyH_ready (rs := [6, 10]) (by kernel_rfl) (by simp) (AllReadyH.cons (o := ⟨some 43, _, _, _, _, none⟩) rfl (fun K hK => ?_) (AllReadyH.cons (o := ⟨some 10, _, _, _, _, none⟩) rfl (fun K hK => ?_) AllReadyH.nil))
    ·
     go_simp
     refine (MO.out _ (hL.out _ hHeld.1)).mono ?_
     rintro e v2 ⟨rfl, hb2⟩
     refine hK.out _ _ (hHeld.below hb2) (fun hHeld => ?_)
     try (have HN2 := HN.out.below hb2; clear HN; have HN : Hid (NB _ _ _ _ _) := HN2; clear HN2)
     clear hK K hb2
     refine tks 7 ⟨some 36, _, _, _, _, none⟩ rfl ?_
     simp only [za, zb, zc, zd]
     refine tks 8 ⟨some 44, _, _, _, _, none⟩ rfl ?_
     simp only [za, zb, zc, zd]
     refine tks 9 ⟨some 45, _, _, _, _, none⟩ rfl ?_
     simp only [za, zb, zc, zd]
     refine rd 10 ⟨some 10, _, _, _, _, none⟩ rfl (fun K hK => ?_)
     go_simp
     have hH0 := hHeld
     refine hK.out _ _ (hHeld.alloc _) (fun hHeld => ?_)
     have HN : Hid (NB _ _ _ _ [vi ki 0, vi ki 0]) := hH0.nb hHeld
     clear hK K hH0
     refine rd 11 ⟨none, _, _, _, _, none⟩ rfl (fun K hK => ?_)
     refine (if_pos (by kernel_rfl)).mpr (wp_store_mid 36 _ _ rfl _ 0 #[vi ki 0, vi ki V] rfl rfl HN.out.1.there (by kernel_rfl) (by simp [Value.oneCell']) (hK.out _ _ (hHeld.off HN.out.2.1 HN.out.2.2 _) (fun hHeld => ?_)))
     have HN2 : Hid (BS w ((_, [vi ki 0, vi ki V]) :: [(w.heap.size + 2, [vi ki 0, vi ki 0]), (w.heap.size + 1, [vi ki 0, vi ki u]), (w.heap.size, T)]) _ ∧ _) := ⟨⟨hHeld.1, fun x hx => by rcases List.mem_cons.1 hx with rfl | hx; exact ⟨HN.out.2.1, HN.out.1.setAll _ rfl⟩; exact hHeld.2 x hx⟩, HN.out.2.2⟩
     clear hK K HN
     refine tks 12 ⟨some 9, _, _, _, _, none⟩ rfl ?_
     simp only [za, zb, zc, zd]
     refine wpAnyH_done (by kernel_rfl) ?_ _
     go_wp2_with fail
     go_meet
     case rel => exact ⟨_, rfl, rfl, HN2.out⟩
    ·
     go_simp
     have hH0 := hHeld
     refine hK.out _ _ (hHeld.alloc _) (fun hHeld => ?_)
     have HN : Hid (NB _ _ _ _ [vi ki 0, vi ki 0]) := hH0.nb hHeld
     clear hK K hH0
     refine rd 6 ⟨some 43, _, _, _, _, none⟩ rfl (fun K hK => ?_)
     go_simp
     refine (MO.out _ (hL.out _ hHeld.1)).mono ?_
     rintro e v6 ⟨rfl, hb6⟩
     refine hK.out _ _ (hHeld.below hb6) (fun hHeld => ?_)
     try (have HN2 := HN.out.below hb6; clear HN; have HN : Hid (NB _ _ _ _ _) := HN2; clear HN2)
     clear hK K hb6
     refine tks 7 ⟨some 36, _, _, _, _, none⟩ rfl ?_
     simp only [za, zb, zc, zd]
     refine tks 8 ⟨some 44, _, _, _, _, none⟩ rfl ?_
     simp only [za, zb, zc, zd]
     refine tks 9 ⟨some 45, _, _, _, _, none⟩ rfl ?_
     simp only [za, zb, zc, zd]
     refine rd 11 ⟨none, _, _, _, _, none⟩ rfl (fun K hK => ?_)
     refine (if_pos (by kernel_rfl)).mpr (wp_store_mid 36 _ _ rfl _ 0 #[vi ki 0, vi ki V] rfl rfl HN.out.1.there (by kernel_rfl) (by simp [Value.oneCell']) (hK.out _ _ (hHeld.off HN.out.2.1 HN.out.2.2 _) (fun hHeld => ?_)))
     have HN2 : Hid (BS w ((_, [vi ki 0, vi ki V]) :: [(w.heap.size + 2, [vi ki 0, vi ki 0]), (w.heap.size + 1, [vi ki 0, vi ki u]), (w.heap.size, T)]) _ ∧ _) := ⟨⟨hHeld.1, fun x hx => by rcases List.mem_cons.1 hx with rfl | hx; exact ⟨HN.out.2.1, HN.out.1.setAll _ rfl⟩; exact hHeld.2 x hx⟩, HN.out.2.2⟩
     clear hK K HN
     refine tks 12 ⟨some 9, _, _, _, _, none⟩ rfl ?_
     simp only [za, zb, zc, zd]
     refine wpAnyH_done (by kernel_rfl) ?_ _
     go_wp2_with fail
     go_meet
     case rel => exact ⟨_, rfl, rfl, HN2.out⟩
   ·
    go_simp
    have hH0 := hHeld
    refine hK.out _ _ (hHeld.alloc _) (fun hHeld => ?_)
    have HN : Hid (NB _ _ _ _ [vi ki 0, vi ki 0]) := hH0.nb hHeld
    clear hK K hH0
    refine rd 3 ⟨some 40, _, _, _, _, none⟩ rfl (fun K hK => ?_)
    go_simp
    refine (SE.out _).mono ?_
    rintro e v9 ⟨rfl, hb9⟩
    refine hK.out _ _ (hHeld.below hb9) (fun hHeld => ?_)
    try (have HN2 := HN.out.below hb9; clear HN; have HN : Hid (NB _ _ _ _ _) := HN2; clear HN2)
    clear hK K hb9
    refine tks 4 ⟨some 41, _, _, _, _, none⟩ rfl ?_
    simp only [za, zb, zc, zd]
    refine tks 5 ⟨some 42, _, _, _, _, none⟩ rfl ?_
    simp only [za, zb, zc, zd]
    refine rd 6 ⟨some 43, _, _, _, _, none⟩ rfl (fun K hK => ?_)
    go_simp
    refine (MO.out _ (hL.out _ hHeld.1)).mono ?_
    rintro e v10 ⟨rfl, hb10⟩
    refine hK.out _ _ (hHeld.below hb10) (fun hHeld => ?_)
    try (have HN2 := HN.out.below hb10; clear HN; have HN : Hid (NB _ _ _ _ _) := HN2; clear HN2)
    clear hK K hb10
    refine tks 7 ⟨some 36, _, _, _, _, none⟩ rfl ?_
    simp only [za, zb, zc, zd]
    refine tks 8 ⟨some 44, _, _, _, _, none⟩ rfl ?_
    simp only [za, zb, zc, zd]
    refine tks 9 ⟨some 45, _, _, _, _, none⟩ rfl ?_
    simp only [za, zb, zc, zd]
    refine rd 11 ⟨none, _, _, _, _, none⟩ rfl (fun K hK => ?_)
    refine (if_pos (by kernel_rfl)).mpr (wp_store_mid 36 _ _ rfl _ 0 #[vi ki 0, vi ki V] rfl rfl HN.out.1.there (by kernel_rfl) (by simp [Value.oneCell']) (hK.out _ _ (hHeld.off HN.out.2.1 HN.out.2.2 _) (fun hHeld => ?_)))
    have HN2 : Hid (BS w ((_, [vi ki 0, vi ki V]) :: [(w.heap.size + 2, [vi ki 0, vi ki 0]), (w.heap.size + 1, [vi ki 0, vi ki u]), (w.heap.size, T)]) _ ∧ _) := ⟨⟨hHeld.1, fun x hx => by rcases List.mem_cons.1 hx with rfl | hx; exact ⟨HN.out.2.1, HN.out.1.setAll _ rfl⟩; exact hHeld.2 x hx⟩, HN.out.2.2⟩
    clear hK K HN
    refine tks 12 ⟨some 9, _, _, _, _, none⟩ rfl ?_
    simp only [za, zb, zc, zd]
    refine wpAnyH_done (by kernel_rfl) ?_ _
    go_wp2_with fail
    go_meet
    case rel => exact ⟨_, rfl, rfl, HN2.out⟩
  case rest =>
   clear c3_0_0 c3_0_1 c3_1_0 c3_1_1
   obtain ⟨nb3, rfl, rfl, KK⟩ := hcut
   clear K3
   have K4 : Hid (BS w [(nb3, [vi ki 0, vi ki V]), (w.heap.size + 2, [vi ki 0, vi ki 0]), (w.heap.size + 1, [vi ki 0, vi ki u]), (w.heap.size, T)] wc) := KK.out.1
   have ne4_0 : w.heap.size + 2 ≠ nb3 := KK.out.2 (w.heap.size + 2, [vi ki 0, vi ki 0]) (by simp)
   have ne4_1 : w.heap.size + 1 ≠ nb3 := KK.out.2 (w.heap.size + 1, [vi ki 0, vi ki u]) (by simp)
   have ne4_2 : w.heap.size ≠ nb3 := KK.out.2 (w.heap.size, T) (by simp)
   clear KK
   obtain ⟨c4_0_0, c4_0_1⟩ := (bo1 K4).c2
   obtain ⟨c4_1_0, c4_1_1⟩ := (bo2 K4).c2
   obtain ⟨c4_2_0, c4_2_1⟩ := (bo3 K4).c2
   clear c4_0_0 c4_0_1 c4_1_0 c4_1_1 c4_2_0 c4_2_1
   obtain ⟨c4_0_0, c4_0_1⟩ := (bo1 K4).c2
   obtain ⟨c4_1_0, c4_1_1⟩ := (bo2 K4).c2
   obtain ⟨z4_1_0, z4_1_1⟩ := (bo2 K4).f2
   obtain ⟨c4_2_0, c4_2_1⟩ := (bo3 K4).c2
   have XF : Hid (Bx (wc.setCells (w.heap.size + 2) 0 [vi ki 0, vi ki 0]) (w.heap.size + 2) [vi ki 0, vi ki 0]) := (K4.out.at (w.heap.size + 2) [vi ki 0, vi ki 0] (by simp)).setAll _ rfl
   have BF : Hid (Below w.heap.size w (wc.setCells (w.heap.size + 2) 0 [vi ki 0, vi ki 0])) := below_setCells (by omega) _ _ _ K4.out.1
   have y0 := XF.out.c 0 rfl
   have y1 := XF.out.c 1 rfl
   simp only [World.setCells, Nat.zero_add] at y0 y1
   clear XF
   go_wp2
   exact bodyPost_ret (v := .tuple #[.agg #[vi ki 0, vi ki 0], vi ki 0, vi ki e]) (by simp [results, Tryz.results54, go_sem, y0, y1]) rfl ⟨rfl, BF.out⟩
theorem in_ok (Ok : World → Prop) (T : List Value) (hT : T.length = 25) (u s a9 how d9 d6 V e : Int) (h9 : IntKind.i64.wrap (a9 - s) = d9) (h6 : IntKind.i64.wrap (d9 * 1000000) = d6)
  (RT : Hid (∀ w : World, Ok w → Calls Tryz.prog 16 #[.agg T.toArray] w fun r' w' => r' = zr (.bool true) ∧ Below w.heap.size w w'))
  (R : Hid (∀ w : World, Ok w → Calls Tryz.prog 17 #[.agg #[vi ki 0, vi ki u]] w fun r' w' => r' = zr (.bool true) ∧ Below w.heap.size w w'))
  (SE : Hid (∀ w : World, Calls Tryz.prog 78 #[.agg #[vi ki 0, vi ki u]] w fun r' w' => r' = zr (vi ki s) ∧ Below w.heap.size w w'))
  (IN : Hid (∀ w : World, Ok w → Calls Tryz.prog 80 #[.agg T.toArray, vi ki s] w fun r' w' => r' = zr (.tuple #[vi ki a9, vi ki how, vi ki 0]) ∧ Below w.heap.size w w'))
  (MO : Hid (∀ w : World, Ok w → Calls Tryz.prog 30 #[.agg #[vi ki 0, vi ki u], vi ki d6] w fun r' w' => r' = zr (.tuple #[.agg #[vi ki 0, vi ki V], vi ki 0]) ∧ Below w.heap.size w w'))
  (w : World) (hL : Hid (∀ W : World, Below w.heap.size w W → Ok W)) :
  Calls Tryz.prog 54 #[.agg T.toArray, .agg #[vi ki 0, vi ki u]] w fun r' w' => r' = zr (.tuple #[.agg #[vi ki 0, vi ki V], vi ki how, vi ki 0]) ∧ Below w.heap.size w w' := by
 have K0 := bsn3 w T 46 [vi ki 0, vi ki u] 36 [vi ki 0, vi ki 0] 36
 go_enter Tryz.func54, Tryz.ntmps54
 generalize hUA : T.toArray = UA at *
 go_upto_region 1 with fail
 refine gen_to (BS w [(w.heap.size + 2, [vi ki 0, vi ki 0]), (w.heap.size + 1, [vi ki 0, vi ki u]), (w.heap.size, T)]) K0.out ?_
 clear K0
 intro W0 K0'
 have K0 : Hid (BS w [(w.heap.size + 2, [vi ki 0, vi ki 0]), (w.heap.size + 1, [vi ki 0, vi ki u]), (w.heap.size, T)] W0) := K0'
 clear K0'
 obtain ⟨c0_0_0, c0_0_1⟩ := (bo1 K0).c2
 obtain ⟨c0_1_0, c0_1_1⟩ := (bo2 K0).c2
 go_wp2_with (first | (refine wpList_load_mid rfl 46 _ rfl (w.heap.size) 0 rfl T _ (K0.out.at (w.heap.size) T (by simp)).all Tryz.underlying46 rfl (by rw [hT]; kernel_rfl) ?_; rw [hUA]) | fail)
 refine (RT.out _ (hL.out _ K0.out.1)).mono ?_
 rintro e W1 ⟨rfl, hb⟩
 have K1 := bsb K0 hb
 clear c0_0_0 c0_0_1 c0_1_0 c0_1_1
 clear hb K0
 obtain ⟨c1_0_0, c1_0_1⟩ := (bo1 K1).c2
 obtain ⟨c1_1_0, c1_1_1⟩ := (bo2 K1).c2
 go_wp2_with (first | (refine wpList_load_mid rfl 46 _ rfl (w.heap.size) 0 rfl T _ (K1.out.at (w.heap.size) T (by simp)).all Tryz.underlying46 rfl (by rw [hT]; kernel_rfl) ?_; rw [hUA]) | fail)
 refine (R.out _ (hL.out _ K1.out.1)).mono ?_
 rintro e W2 ⟨rfl, hb⟩
 have K2 := bsb K1 hb
 clear c1_0_0 c1_0_1 c1_1_0 c1_1_1
 clear hb K1
 obtain ⟨c2_0_0, c2_0_1⟩ := (bo1 K2).c2
 obtain ⟨c2_1_0, c2_1_1⟩ := (bo2 K2).c2
 go_wp2_with fail
 go_cut [7, 8, 9] (fun v0 v1 v2 wx => v0 = vi ki a9 ∧ v1 = vi ki how ∧ v2 = vi ki 0 ∧ Hid (BS w [(w.heap.size + 2, [vi ki 0, vi ki 0]), (w.heap.size + 1, [vi ki 0, vi ki u]), (w.heap.size, T)] wx))
 case first =>
  refine wp_region_held_drew (S := BS w [(w.heap.size + 2, [vi ki 0, vi ki 0]), (w.heap.size + 1, [vi ki 0, vi ki u]), (w.heap.size, T)]) (by kernel_rfl) K2.out.drew (fun hHeld => ?_)
  refine wpAnyH_take (i := 0) (v := .agg UA) (oi := ⟨some 25, _, _, _, _, none⟩) rfl (by kernel_rfl) (by kernel_rfl) (by kernel_rfl) (fun _ _ _ h => h) (Or.inl ⟨by kernel_rfl, ?_⟩) (by assumption) ?_
  case refine_1 => (intro w9 hSw; rw [← hUA]; exact exec_row9 rfl rfl (hSw.at (w.heap.size) T (by simp)).all Tryz.underlying46 rfl (by rw [hT]; kernel_rfl))
  simp only [za, zb, zc, zd]
  refine tk (v := ?_) 1 ⟨some 26, _, _, _, _, none⟩ rfl ?_ ?_
  case refine_2 => (intro w9 hSw; obtain ⟨l0_0, l0_1⟩ := (hSw.at (w.heap.size + 2) [vi ki 0, vi ki 0] (by simp)).c2; obtain ⟨l1_0, l1_1⟩ := (hSw.at (w.heap.size + 1) [vi ki 0, vi ki u] (by simp)).c2; clear hSw; go_simp; try with_reducible rfl)
  simp only [za, zb, zc, zd]
  refine rd 2 ⟨some 27, _, _, _, _, none⟩ rfl (fun K hK => ?_)
  go_simp
  refine (SE.out _).mono ?_
  rintro e v1 ⟨rfl, hb1⟩
  refine hK.out _ _ (hHeld.below hb1) (fun hHeld => ?_)
  clear hK K hb1
  refine rd 3 ⟨some 28, _, _, _, _, none⟩ rfl (fun K hK => ?_)
  go_simp
  refine (IN.out _ (hL.out _ hHeld.1)).mono ?_
  rintro e v2 ⟨rfl, hb2⟩
  refine hK.out _ _ (hHeld.below hb2) (fun hHeld => ?_)
  clear hK K hb2
  refine tks 4 ⟨some 24, _, _, _, _, none⟩ rfl ?_
  simp only [za, zb, zc, zd]
  refine tks 5 ⟨some 29, _, _, _, _, none⟩ rfl ?_
  simp only [za, zb, zc, zd]
  refine tks 6 ⟨some 30, _, _, _, _, none⟩ rfl ?_
  simp only [za, zb, zc, zd]
  refine tks 7 ⟨some 31, _, _, _, _, none⟩ rfl ?_
  simp only [za, zb, zc, zd]
  refine tks 8 ⟨some 7, _, _, _, _, none⟩ rfl ?_
  simp only [za, zb, zc, zd]
  refine tks 9 ⟨some 8, _, _, _, _, none⟩ rfl ?_
  simp only [za, zb, zc, zd]
  refine tks 10 ⟨some 9, _, _, _, _, none⟩ rfl ?_
  simp only [za, zb, zc, zd]
  refine wpAnyH_done (by kernel_rfl) ?_ _
  go_wp2_with fail
  go_meet
  case rel => exact ⟨rfl, rfl, rfl, hHeld⟩
 case rest =>
  clear c2_0_0 c2_0_1 c2_1_0 c2_1_1
  obtain ⟨rfl, rfl, rfl, K3⟩ := hcut
  clear K2
  skip
  obtain ⟨c3_0_0, c3_0_1⟩ := (bo1 K3).c2
  obtain ⟨c3_1_0, c3_1_1⟩ := (bo2 K3).c2
  go_wp2_with fail
  go_cut [10, 9] (fun v0 v1 wx => ∃ nb, v0 = .pointer (some ⟨nb, 0, none⟩) ∧ v1 = vi ki 0 ∧ Hid (BS w ((nb, [vi ki 0, vi ki V]) :: [(w.heap.size + 2, [vi ki 0, vi ki 0]), (w.heap.size + 1, [vi ki 0, vi ki u]), (w.heap.size, T)]) wx ∧ (∀ x ∈ [(w.heap.size + 2, [vi ki 0, vi ki 0]), (w.heap.size + 1, [vi ki 0, vi ki u]), (w.heap.size, T)], x.1 ≠ nb)))
  case first =>
   refine wp_region_held_drew (S := BS w [(w.heap.size + 2, [vi ki 0, vi ki 0]), (w.heap.size + 1, [vi ki 0, vi ki u]), (w.heap.size, T)]) (by kernel_rfl) K3.out.drew (fun hHeld => ?_)
   refine tk (v := ?_) 0 ⟨some 37, _, _, _, _, none⟩ rfl ?_ ?_
   case refine_2 => (intro w9 hSw; obtain ⟨l0_0, l0_1⟩ := (hSw.at (w.heap.size + 2) [vi ki 0, vi ki 0] (by simp)).c2; obtain ⟨l1_0, l1_1⟩ := (hSw.at (w.heap.size + 1) [vi ki 0, vi ki u] (by simp)).c2; clear hSw; go_simp; try with_reducible rfl)
   simp only [za, zb, zc, zd]
   refine tks 1 ⟨some 38, _, _, _, _, none⟩ rfl ?_
   simp only [za, zb, zc, zd]
   refine tk (v := ?_) 2 ⟨some 39, _, _, _, _, none⟩ rfl ?_ ?_
   case refine_2 => (intro w9 hSw; obtain ⟨l0_0, l0_1⟩ := (hSw.at (w.heap.size + 2) [vi ki 0, vi ki 0] (by simp)).c2; obtain ⟨l1_0, l1_1⟩ := (hSw.at (w.heap.size + 1) [vi ki 0, vi ki u] (by simp)).c2; clear hSw; go_simp; try with_reducible rfl)
   simp only [za, zb, zc, zd]
   refine wpAnyH_ready (rs := [3, 10]) (by kernel_rfl) (by simp) (AllReadyH.cons (o := ⟨some 40, _, _, _, _, none⟩) rfl (fun K hK => ?_) (AllReadyH.cons (o := ⟨some 10, _, _, _, _, none⟩) rfl (fun K hK => ?_) AllReadyH.nil))
   ·
    go_simp
    refine (SE.out _).mono ?_
    rintro e v1 ⟨rfl, hb1⟩
    refine hK.out _ _ (hHeld.below hb1) (fun hHeld => ?_)
    try (have HN2 := HN.out.below hb1; clear HN; have HN : Hid (NB _ _ _ _ _) := HN2; clear HN2)
    clear hK K hb1
    refine tks 4 ⟨some 41, _, _, _, _, none⟩ rfl ?_
    simp only [za, zb, zc, zd]
    refine tks 5 ⟨some 42, _, _, _, _, none⟩ rfl ?_
    simp only [za, zb, zc, zd]
    refine wpAnyH_ready (rs := [6, 10]) (by kernel_rfl) (by simp) (AllReadyH.cons (o := ⟨some 43, _, _, _, _, none⟩) rfl (fun K hK => ?_) (AllReadyH.cons (o := ⟨some 10, _, _, _, _, none⟩) rfl (fun K hK => ?_) AllReadyH.nil))
    ·
     go_simp
     refine (MO.out _ (hL.out _ hHeld.1)).mono ?_
     rintro e v2 ⟨rfl, hb2⟩
     refine hK.out _ _ (hHeld.below hb2) (fun hHeld => ?_)
     try (have HN2 := HN.out.below hb2; clear HN; have HN : Hid (NB _ _ _ _ _) := HN2; clear HN2)
     clear hK K hb2
     refine tks 7 ⟨some 36, _, _, _, _, none⟩ rfl ?_
     simp only [za, zb, zc, zd]
     refine tks 8 ⟨some 44, _, _, _, _, none⟩ rfl ?_
     simp only [za, zb, zc, zd]
     refine tks 9 ⟨some 45, _, _, _, _, none⟩ rfl ?_
     simp only [za, zb, zc, zd]
     refine rd 10 ⟨some 10, _, _, _, _, none⟩ rfl (fun K hK => ?_)
     go_simp
     have hH0 := hHeld
     refine hK.out _ _ (hHeld.alloc _) (fun hHeld => ?_)
     have HN : Hid (NB _ _ _ _ [vi ki 0, vi ki 0]) := hH0.nb hHeld
     clear hK K hH0
     refine rd 11 ⟨none, _, _, _, _, none⟩ rfl (fun K hK => ?_)
     refine (if_pos (by kernel_rfl)).mpr (wp_store_mid 36 _ _ rfl _ 0 #[vi ki 0, vi ki V] rfl rfl HN.out.1.there (by kernel_rfl) (by simp [Value.oneCell']) (hK.out _ _ (hHeld.off HN.out.2.1 HN.out.2.2 _) (fun hHeld => ?_)))
     have HN2 : Hid (BS w ((_, [vi ki 0, vi ki V]) :: [(w.heap.size + 2, [vi ki 0, vi ki 0]), (w.heap.size + 1, [vi ki 0, vi ki u]), (w.heap.size, T)]) _ ∧ _) := ⟨⟨hHeld.1, fun x hx => by rcases List.mem_cons.1 hx with rfl | hx; exact ⟨HN.out.2.1, HN.out.1.setAll _ rfl⟩; exact hHeld.2 x hx⟩, HN.out.2.2⟩
     clear hK K HN
     refine tks 12 ⟨some 9, _, _, _, _, none⟩ rfl ?_
     simp only [za, zb, zc, zd]
     refine wpAnyH_done (by kernel_rfl) ?_ _
     go_wp2_with fail
     go_meet
     case rel => exact ⟨_, rfl, rfl, HN2.out⟩
    ·
     go_simp
     have hH0 := hHeld
     refine hK.out _ _ (hHeld.alloc _) (fun hHeld => ?_)
     have HN : Hid (NB _ _ _ _ [vi ki 0, vi ki 0]) := hH0.nb hHeld
     clear hK K hH0
     refine rd 6 ⟨some 43, _, _, _, _, none⟩ rfl (fun K hK => ?_)
     go_simp
     refine (MO.out _ (hL.out _ hHeld.1)).mono ?_
     rintro e v6 ⟨rfl, hb6⟩
     refine hK.out _ _ (hHeld.below hb6) (fun hHeld => ?_)
     try (have HN2 := HN.out.below hb6; clear HN; have HN : Hid (NB _ _ _ _ _) := HN2; clear HN2)
     clear hK K hb6
     refine tks 7 ⟨some 36, _, _, _, _, none⟩ rfl ?_
     simp only [za, zb, zc, zd]
     refine tks 8 ⟨some 44, _, _, _, _, none⟩ rfl ?_
     simp only [za, zb, zc, zd]
     refine tks 9 ⟨some 45, _, _, _, _, none⟩ rfl ?_
     simp only [za, zb, zc, zd]
     refine rd 11 ⟨none, _, _, _, _, none⟩ rfl (fun K hK => ?_)
     refine (if_pos (by kernel_rfl)).mpr (wp_store_mid 36 _ _ rfl _ 0 #[vi ki 0, vi ki V] rfl rfl HN.out.1.there (by kernel_rfl) (by simp [Value.oneCell']) (hK.out _ _ (hHeld.off HN.out.2.1 HN.out.2.2 _) (fun hHeld => ?_)))
     have HN2 : Hid (BS w ((_, [vi ki 0, vi ki V]) :: [(w.heap.size + 2, [vi ki 0, vi ki 0]), (w.heap.size + 1, [vi ki 0, vi ki u]), (w.heap.size, T)]) _ ∧ _) := ⟨⟨hHeld.1, fun x hx => by rcases List.mem_cons.1 hx with rfl | hx; exact ⟨HN.out.2.1, HN.out.1.setAll _ rfl⟩; exact hHeld.2 x hx⟩, HN.out.2.2⟩
     clear hK K HN
     refine tks 12 ⟨some 9, _, _, _, _, none⟩ rfl ?_
     simp only [za, zb, zc, zd]
     refine wpAnyH_done (by kernel_rfl) ?_ _
     go_wp2_with fail
     go_meet
     case rel => exact ⟨_, rfl, rfl, HN2.out⟩
   ·
    go_simp
    have hH0 := hHeld
    refine hK.out _ _ (hHeld.alloc _) (fun hHeld => ?_)
    have HN : Hid (NB _ _ _ _ [vi ki 0, vi ki 0]) := hH0.nb hHeld
    clear hK K hH0
    refine rd 3 ⟨some 40, _, _, _, _, none⟩ rfl (fun K hK => ?_)
    go_simp
    refine (SE.out _).mono ?_
    rintro e v9 ⟨rfl, hb9⟩
    refine hK.out _ _ (hHeld.below hb9) (fun hHeld => ?_)
    try (have HN2 := HN.out.below hb9; clear HN; have HN : Hid (NB _ _ _ _ _) := HN2; clear HN2)
    clear hK K hb9
    refine tks 4 ⟨some 41, _, _, _, _, none⟩ rfl ?_
    simp only [za, zb, zc, zd]
    refine tks 5 ⟨some 42, _, _, _, _, none⟩ rfl ?_
    simp only [za, zb, zc, zd]
    refine rd 6 ⟨some 43, _, _, _, _, none⟩ rfl (fun K hK => ?_)
    go_simp
    refine (MO.out _ (hL.out _ hHeld.1)).mono ?_
    rintro e v10 ⟨rfl, hb10⟩
    refine hK.out _ _ (hHeld.below hb10) (fun hHeld => ?_)
    try (have HN2 := HN.out.below hb10; clear HN; have HN : Hid (NB _ _ _ _ _) := HN2; clear HN2)
    clear hK K hb10
    refine tks 7 ⟨some 36, _, _, _, _, none⟩ rfl ?_
    simp only [za, zb, zc, zd]
    refine tks 8 ⟨some 44, _, _, _, _, none⟩ rfl ?_
    simp only [za, zb, zc, zd]
    refine tks 9 ⟨some 45, _, _, _, _, none⟩ rfl ?_
    simp only [za, zb, zc, zd]
    refine rd 11 ⟨none, _, _, _, _, none⟩ rfl (fun K hK => ?_)
    refine (if_pos (by kernel_rfl)).mpr (wp_store_mid 36 _ _ rfl _ 0 #[vi ki 0, vi ki V] rfl rfl HN.out.1.there (by kernel_rfl) (by simp [Value.oneCell']) (hK.out _ _ (hHeld.off HN.out.2.1 HN.out.2.2 _) (fun hHeld => ?_)))
    have HN2 : Hid (BS w ((_, [vi ki 0, vi ki V]) :: [(w.heap.size + 2, [vi ki 0, vi ki 0]), (w.heap.size + 1, [vi ki 0, vi ki u]), (w.heap.size, T)]) _ ∧ _) := ⟨⟨hHeld.1, fun x hx => by rcases List.mem_cons.1 hx with rfl | hx; exact ⟨HN.out.2.1, HN.out.1.setAll _ rfl⟩; exact hHeld.2 x hx⟩, HN.out.2.2⟩
    clear hK K HN
    refine tks 12 ⟨some 9, _, _, _, _, none⟩ rfl ?_
    simp only [za, zb, zc, zd]
    refine wpAnyH_done (by kernel_rfl) ?_ _
    go_wp2_with fail
    go_meet
    case rel => exact ⟨_, rfl, rfl, HN2.out⟩
  case rest =>
   clear c3_0_0 c3_0_1 c3_1_0 c3_1_1
   obtain ⟨nb3, rfl, rfl, KK⟩ := hcut
   clear K3
   have K4 : Hid (BS w [(nb3, [vi ki 0, vi ki V]), (w.heap.size + 2, [vi ki 0, vi ki 0]), (w.heap.size + 1, [vi ki 0, vi ki u]), (w.heap.size, T)] wc) := KK.out.1
   have ne4_0 : w.heap.size + 2 ≠ nb3 := KK.out.2 (w.heap.size + 2, [vi ki 0, vi ki 0]) (by simp)
   have ne4_1 : w.heap.size + 1 ≠ nb3 := KK.out.2 (w.heap.size + 1, [vi ki 0, vi ki u]) (by simp)
   have ne4_2 : w.heap.size ≠ nb3 := KK.out.2 (w.heap.size, T) (by simp)
   clear KK
   obtain ⟨c4_0_0, c4_0_1⟩ := (bo1 K4).c2
   obtain ⟨c4_1_0, c4_1_1⟩ := (bo2 K4).c2
   obtain ⟨c4_2_0, c4_2_1⟩ := (bo3 K4).c2
   clear c4_0_0 c4_0_1 c4_1_0 c4_1_1 c4_2_0 c4_2_1
   obtain ⟨c4_0_0, c4_0_1⟩ := (bo1 K4).c2
   obtain ⟨c4_1_0, c4_1_1⟩ := (bo2 K4).c2
   obtain ⟨z4_1_0, z4_1_1⟩ := (bo2 K4).f2
   obtain ⟨c4_2_0, c4_2_1⟩ := (bo3 K4).c2
   have XF : Hid (Bx (wc.setCells (w.heap.size + 2) 0 [vi ki 0, vi ki V]) (w.heap.size + 2) [vi ki 0, vi ki V]) := (K4.out.at (w.heap.size + 2) [vi ki 0, vi ki 0] (by simp)).setAll _ rfl
   have BF : Hid (Below w.heap.size w (wc.setCells (w.heap.size + 2) 0 [vi ki 0, vi ki V])) := below_setCells (by omega) _ _ _ K4.out.1
   have y0 := XF.out.c 0 rfl
   have y1 := XF.out.c 1 rfl
   simp only [World.setCells, Nat.zero_add] at y0 y1
   clear XF
   go_wp2
   exact bodyPost_ret (v := .tuple #[.agg #[vi ki 0, vi ki V], vi ki how, vi ki 0]) (by simp [results, Tryz.results54, go_sem, y0, y1]) rfl ⟨rfl, BF.out⟩
theorem mb_err1 (Ok : World → Prop) (T : List Value) (hT : T.length = 25) (u j M D U V1 e : Int) (he : e ≠ 0)
  (LO : Hid (∀ w : World, Ok w → Calls Tryz.prog 52 #[.agg T.toArray, .agg #[vi ki 0, vi ki u]] w fun r' w' => r' = zr (.tuple #[.agg #[vi ki 0, vi ki V1], vi ki e]) ∧ Below w.heap.size w w'))
  (w : World) (hL : Hid (∀ W : World, Below w.heap.size w W → Ok W)) :
  Calls Tryz.prog 29 #[.agg T.toArray, .agg #[vi ki 0, vi ki u], .agg #[vi ki j, vi ki M, vi ki D, vi ki U]] w fun r' w' => r' = zr (.tuple #[.agg #[vi ki 0, vi ki 0], vi ki e]) ∧ Below w.heap.size w w' := by
 have e1 : (e != 0) = true := bne_iff_ne.2 he
 have K0 := bsn4 w T 46 [vi ki 0, vi ki u] 36 [vi ki j, vi ki M, vi ki D, vi ki U] 38 [vi ki 0, vi ki 0] 36
 go_enter Tryz.func29, Tryz.ntmps29
 generalize hUA : T.toArray = UA at *
 go_upto_region 1 with fail
 refine gen_to (BS w [(w.heap.size + 3, [vi ki 0, vi ki 0]), (w.heap.size + 2, [vi ki j, vi ki M, vi ki D, vi ki U]), (w.heap.size + 1, [vi ki 0, vi ki u]), (w.heap.size, T)]) K0.out ?_
 clear K0
 intro W0 K0'
 have K0 : Hid (BS w [(w.heap.size + 3, [vi ki 0, vi ki 0]), (w.heap.size + 2, [vi ki j, vi ki M, vi ki D, vi ki U]), (w.heap.size + 1, [vi ki 0, vi ki u]), (w.heap.size, T)] W0) := K0'
 clear K0'
 obtain ⟨c0_0_0, c0_0_1⟩ := (bo1 K0).c2
 obtain ⟨c0_1_0, c0_1_1, c0_1_2, c0_1_3⟩ := (bo2 K0).c4
 obtain ⟨c0_2_0, c0_2_1⟩ := (bo3 K0).c2
 go_wp2_with (first | (refine wpList_load_mid rfl 46 _ rfl (w.heap.size) 0 rfl T _ (K0.out.at (w.heap.size) T (by simp)).all Tryz.underlying46 rfl (by rw [hT]; kernel_rfl) ?_; rw [hUA]) | fail)
 refine (LO.out _ (hL.out _ K0.out.1)).mono ?_
 rintro e W1 ⟨rfl, hb⟩
 have K1 := bsb K0 hb
 clear c0_0_0 c0_0_1 c0_1_0 c0_1_1 c0_1_2 c0_1_3 c0_2_0 c0_2_1
 clear hb K0
 obtain ⟨c1_0_0, c1_0_1⟩ := (bo1 K1).c2
 obtain ⟨c1_1_0, c1_1_1, c1_1_2, c1_1_3⟩ := (bo2 K1).c4
 obtain ⟨c1_2_0, c1_2_1⟩ := (bo3 K1).c2
 have Mz1 := bsn K1 [vi ki 0, vi ki V1] 36
 have lt1_0 := (bo1 K1).1
 have lt1_1 := (bo2 K1).1
 have lt1_2 := (bo3 K1).1
 have lt1_3 := (bo4 K1).1
 go_upto_region 2 with fail
 refine bs_to Mz1 ?_
 clear c1_0_0 c1_0_1 c1_1_0 c1_1_1 c1_1_2 c1_1_3 c1_2_0 c1_2_1
 intro W2 K2
 clear Mz1 K1
 obtain ⟨c2_0_0, c2_0_1⟩ := (bo1 K2).c2
 obtain ⟨c2_1_0, c2_1_1⟩ := (bo2 K2).c2
 obtain ⟨z2_1_0, z2_1_1⟩ := (bo2 K2).f2
 obtain ⟨c2_2_0, c2_2_1, c2_2_2, c2_2_3⟩ := (bo3 K2).c4
 obtain ⟨c2_3_0, c2_3_1⟩ := (bo4 K2).c2
 have XF : Hid (Bx (W2.setCells (w.heap.size + 3) 0 [vi ki 0, vi ki 0]) (w.heap.size + 3) [vi ki 0, vi ki 0]) := (K2.out.at (w.heap.size + 3) [vi ki 0, vi ki 0] (by simp)).setAll _ rfl
 have BF : Hid (Below w.heap.size w (W2.setCells (w.heap.size + 3) 0 [vi ki 0, vi ki 0])) := below_setCells (by omega) _ _ _ K2.out.1
 have y0 := XF.out.c 0 rfl
 have y1 := XF.out.c 1 rfl
 simp only [World.setCells, Nat.zero_add] at y0 y1
 clear XF
 go_wp2
 exact bodyPost_ret (v := .tuple #[.agg #[vi ki 0, vi ki 0], vi ki e]) (by simp [results, Tryz.results29, go_sem, y0, y1]) rfl ⟨rfl, BF.out⟩
theorem mb_err2 (Ok : World → Prop) (T : List Value) (hT : T.length = 25) (u j M D U V1 V2 e : Int) (he : e ≠ 0)
  (LO : Hid (∀ w : World, Ok w → Calls Tryz.prog 52 #[.agg T.toArray, .agg #[vi ki 0, vi ki u]] w fun r' w' => r' = zr (.tuple #[.agg #[vi ki 0, vi ki V1], vi ki 0]) ∧ Below w.heap.size w w'))
  (AD : Hid (∀ w : World, Ok w → Calls Tryz.prog 53 #[.agg #[vi ki 0, vi ki V1], .agg #[vi ki 0, vi ki M, vi ki D, vi ki 0]] w fun r' w' => r' = zr (.tuple #[.agg #[vi ki 0, vi ki V2], vi ki e]) ∧ Below w.heap.size w w'))
  (w : World) (hL : Hid (∀ W : World, Below w.heap.size w W → Ok W)) :
  Calls Tryz.prog 29 #[.agg T.toArray, .agg #[vi ki 0, vi ki u], .agg #[vi ki j, vi ki M, vi ki D, vi ki U]] w fun r' w' => r' = zr (.tuple #[.agg #[vi ki 0, vi ki 0], vi ki e]) ∧ Below w.heap.size w w' := by
 have e1 : (e != 0) = true := bne_iff_ne.2 he
 have K0 := bsn4 w T 46 [vi ki 0, vi ki u] 36 [vi ki j, vi ki M, vi ki D, vi ki U] 38 [vi ki 0, vi ki 0] 36
 go_enter Tryz.func29, Tryz.ntmps29
 generalize hUA : T.toArray = UA at *
 go_upto_region 1 with fail
 refine gen_to (BS w [(w.heap.size + 3, [vi ki 0, vi ki 0]), (w.heap.size + 2, [vi ki j, vi ki M, vi ki D, vi ki U]), (w.heap.size + 1, [vi ki 0, vi ki u]), (w.heap.size, T)]) K0.out ?_
 clear K0
 intro W0 K0'
 have K0 : Hid (BS w [(w.heap.size + 3, [vi ki 0, vi ki 0]), (w.heap.size + 2, [vi ki j, vi ki M, vi ki D, vi ki U]), (w.heap.size + 1, [vi ki 0, vi ki u]), (w.heap.size, T)] W0) := K0'
 clear K0'
 obtain ⟨c0_0_0, c0_0_1⟩ := (bo1 K0).c2
 obtain ⟨c0_1_0, c0_1_1, c0_1_2, c0_1_3⟩ := (bo2 K0).c4
 obtain ⟨c0_2_0, c0_2_1⟩ := (bo3 K0).c2
 go_wp2_with (first | (refine wpList_load_mid rfl 46 _ rfl (w.heap.size) 0 rfl T _ (K0.out.at (w.heap.size) T (by simp)).all Tryz.underlying46 rfl (by rw [hT]; kernel_rfl) ?_; rw [hUA]) | fail)
 refine (LO.out _ (hL.out _ K0.out.1)).mono ?_
 rintro e W1 ⟨rfl, hb⟩
 have K1 := bsb K0 hb
 clear c0_0_0 c0_0_1 c0_1_0 c0_1_1 c0_1_2 c0_1_3 c0_2_0 c0_2_1
 clear hb K0
 obtain ⟨c1_0_0, c1_0_1⟩ := (bo1 K1).c2
 obtain ⟨c1_1_0, c1_1_1, c1_1_2, c1_1_3⟩ := (bo2 K1).c4
 obtain ⟨c1_2_0, c1_2_1⟩ := (bo3 K1).c2
 have Mz1 := bsn K1 [vi ki 0, vi ki V1] 36
 have lt1_0 := (bo1 K1).1
 have lt1_1 := (bo2 K1).1
 have lt1_2 := (bo3 K1).1
 have lt1_3 := (bo4 K1).1
 go_upto_region 2 with fail
 refine bs_to Mz1 ?_
 clear c1_0_0 c1_0_1 c1_1_0 c1_1_1 c1_1_2 c1_1_3 c1_2_0 c1_2_1
 intro W2 K2
 clear Mz1 K1
 obtain ⟨c2_0_0, c2_0_1⟩ := (bo1 K2).c2
 obtain ⟨c2_1_0, c2_1_1⟩ := (bo2 K2).c2
 obtain ⟨c2_2_0, c2_2_1, c2_2_2, c2_2_3⟩ := (bo3 K2).c4
 obtain ⟨c2_3_0, c2_3_1⟩ := (bo4 K2).c2
 go_wp2_with (first | (refine wpList_load_mid rfl 46 _ rfl (w.heap.size) 0 rfl T _ (K2.out.at (w.heap.size) T (by simp)).all Tryz.underlying46 rfl (by rw [hT]; kernel_rfl) ?_; rw [hUA]) | fail)
 refine (AD.out _ (hL.out _ K2.out.1)).mono ?_
 rintro e W3 ⟨rfl, hb⟩
 have K3 := bsb K2 hb
 clear c2_0_0 c2_0_1 c2_1_0 c2_1_1 c2_2_0 c2_2_1 c2_2_2 c2_2_3 c2_3_0 c2_3_1
 clear hb K2
 obtain ⟨c3_0_0, c3_0_1⟩ := (bo1 K3).c2
 obtain ⟨c3_1_0, c3_1_1⟩ := (bo2 K3).c2
 obtain ⟨c3_2_0, c3_2_1, c3_2_2, c3_2_3⟩ := (bo3 K3).c4
 obtain ⟨c3_3_0, c3_3_1⟩ := (bo4 K3).c2
 clear c3_0_0 c3_0_1 c3_1_0 c3_1_1 c3_2_0 c3_2_1 c3_2_2 c3_2_3 c3_3_0 c3_3_1
 have r3_0 : W3.cell? ⟨W1.heap.size, 0, none⟩ = some (vi ki 0) := (K3.out.at (W1.heap.size) [vi ki 0, vi ki V1] (by simp)).c 0 rfl
 have sr3_0 : W3.frozen? ⟨W1.heap.size, 0, none⟩ = false := (K3.out.at (W1.heap.size) [vi ki 0, vi ki V1] (by simp)).f 0 rfl
 have r3_1 : W3.cell? ⟨W1.heap.size, 1, none⟩ = some (vi ki V1) := (K3.out.at (W1.heap.size) [vi ki 0, vi ki V1] (by simp)).c 1 rfl
 have sr3_1 : W3.frozen? ⟨W1.heap.size, 1, none⟩ = false := (K3.out.at (W1.heap.size) [vi ki 0, vi ki V1] (by simp)).f 1 rfl
 have Mz3 : Hid (BS w [(W1.heap.size, [vi ki 0, vi ki V2]), (w.heap.size + 3, [vi ki 0, vi ki 0]), (w.heap.size + 2, [vi ki j, vi ki M, vi ki D, vi ki U]), (w.heap.size + 1, [vi ki 0, vi ki u]), (w.heap.size, T)] (W3.setCells (W1.heap.size) 0 [vi ki 0, vi ki V2])) := ((K3.out.perm (l' := [(W1.heap.size, [vi ki 0, vi ki V1]), (w.heap.size + 3, [vi ki 0, vi ki 0]), (w.heap.size + 2, [vi ki j, vi ki M, vi ki D, vi ki U]), (w.heap.size + 1, [vi ki 0, vi ki u]), (w.heap.size, T)]) (by intro x hx; simp only [List.mem_cons, List.not_mem_nil, or_false] at hx ⊢; rcases hx with h | h | h | h | h <;> simp [h])).set [vi ki 0, vi ki V2] rfl (by intro x hx; simp only [List.mem_cons, List.not_mem_nil, or_false] at hx; rcases hx with rfl | rfl | rfl | rfl <;> simp only [] <;> omega))
 simp only [World.setCells, Nat.zero_add] at Mz3
 go_upto_region 5 with fail
 refine gen_to (BS w [(W1.heap.size, [vi ki 0, vi ki V2]), (w.heap.size + 3, [vi ki 0, vi ki 0]), (w.heap.size + 2, [vi ki j, vi ki M, vi ki D, vi ki U]), (w.heap.size + 1, [vi ki 0, vi ki u]), (w.heap.size, T)]) Mz3.out ?_
 clear r3_0 sr3_0 r3_1 sr3_1
 intro W4 K4'
 have K4 : Hid (BS w [(W1.heap.size, [vi ki 0, vi ki V2]), (w.heap.size + 3, [vi ki 0, vi ki 0]), (w.heap.size + 2, [vi ki j, vi ki M, vi ki D, vi ki U]), (w.heap.size + 1, [vi ki 0, vi ki u]), (w.heap.size, T)] W4) := K4'
 clear K4' Mz3 K3
 obtain ⟨c4_0_0, c4_0_1⟩ := (bo1 K4).c2
 obtain ⟨c4_1_0, c4_1_1⟩ := (bo2 K4).c2
 obtain ⟨z4_1_0, z4_1_1⟩ := (bo2 K4).f2
 obtain ⟨c4_2_0, c4_2_1, c4_2_2, c4_2_3⟩ := (bo3 K4).c4
 obtain ⟨c4_3_0, c4_3_1⟩ := (bo4 K4).c2
 have XF : Hid (Bx (W4.setCells (w.heap.size + 3) 0 [vi ki 0, vi ki 0]) (w.heap.size + 3) [vi ki 0, vi ki 0]) := (K4.out.at (w.heap.size + 3) [vi ki 0, vi ki 0] (by simp)).setAll _ rfl
 have BF : Hid (Below w.heap.size w (W4.setCells (w.heap.size + 3) 0 [vi ki 0, vi ki 0])) := below_setCells (by omega) _ _ _ K4.out.1
 have y0 := XF.out.c 0 rfl
 have y1 := XF.out.c 1 rfl
 simp only [World.setCells, Nat.zero_add] at y0 y1
 clear XF
 go_wp2
 exact bodyPost_ret (v := .tuple #[.agg #[vi ki 0, vi ki 0], vi ki e]) (by simp [results, Tryz.results29, go_sem, y0, y1]) rfl ⟨rfl, BF.out⟩
theorem mb_ok (Ok : World → Prop) (T : List Value) (hT : T.length = 25) (u j M D U V1 V2 V3 how e3 : Int)
  (LO : Hid (∀ w : World, Ok w → Calls Tryz.prog 52 #[.agg T.toArray, .agg #[vi ki 0, vi ki u]] w fun r' w' => r' = zr (.tuple #[.agg #[vi ki 0, vi ki V1], vi ki 0]) ∧ Below w.heap.size w w'))
  (AD : Hid (∀ w : World, Ok w → Calls Tryz.prog 53 #[.agg #[vi ki 0, vi ki V1], .agg #[vi ki 0, vi ki M, vi ki D, vi ki 0]] w fun r' w' => r' = zr (.tuple #[.agg #[vi ki 0, vi ki V2], vi ki 0]) ∧ Below w.heap.size w w'))
  (IN : Hid (∀ w : World, Ok w → Calls Tryz.prog 54 #[.agg T.toArray, .agg #[vi ki 0, vi ki V2]] w fun r' w' => r' = zr (.tuple #[.agg #[vi ki 0, vi ki V3], vi ki how, vi ki e3]) ∧ Below w.heap.size w w'))
  (w : World) (hL : Hid (∀ W : World, Below w.heap.size w W → Ok W)) :
  Calls Tryz.prog 29 #[.agg T.toArray, .agg #[vi ki 0, vi ki u], .agg #[vi ki j, vi ki M, vi ki D, vi ki U]] w fun r' w' => r' = zr (.tuple #[.agg #[vi ki 0, vi ki V3], vi ki e3]) ∧ Below w.heap.size w w' := by
 have K0 := bsn4 w T 46 [vi ki 0, vi ki u] 36 [vi ki j, vi ki M, vi ki D, vi ki U] 38 [vi ki 0, vi ki 0] 36
 go_enter Tryz.func29, Tryz.ntmps29
 generalize hUA : T.toArray = UA at *
 go_upto_region 1 with fail
 refine gen_to (BS w [(w.heap.size + 3, [vi ki 0, vi ki 0]), (w.heap.size + 2, [vi ki j, vi ki M, vi ki D, vi ki U]), (w.heap.size + 1, [vi ki 0, vi ki u]), (w.heap.size, T)]) K0.out ?_
 clear K0
 intro W0 K0'
 have K0 : Hid (BS w [(w.heap.size + 3, [vi ki 0, vi ki 0]), (w.heap.size + 2, [vi ki j, vi ki M, vi ki D, vi ki U]), (w.heap.size + 1, [vi ki 0, vi ki u]), (w.heap.size, T)] W0) := K0'
 clear K0'
 obtain ⟨c0_0_0, c0_0_1⟩ := (bo1 K0).c2
 obtain ⟨c0_1_0, c0_1_1, c0_1_2, c0_1_3⟩ := (bo2 K0).c4
 obtain ⟨c0_2_0, c0_2_1⟩ := (bo3 K0).c2
 go_wp2_with (first | (refine wpList_load_mid rfl 46 _ rfl (w.heap.size) 0 rfl T _ (K0.out.at (w.heap.size) T (by simp)).all Tryz.underlying46 rfl (by rw [hT]; kernel_rfl) ?_; rw [hUA]) | fail)
 refine (LO.out _ (hL.out _ K0.out.1)).mono ?_
 rintro e W1 ⟨rfl, hb⟩
 have K1 := bsb K0 hb
 clear c0_0_0 c0_0_1 c0_1_0 c0_1_1 c0_1_2 c0_1_3 c0_2_0 c0_2_1
 clear hb K0
 obtain ⟨c1_0_0, c1_0_1⟩ := (bo1 K1).c2
 obtain ⟨c1_1_0, c1_1_1, c1_1_2, c1_1_3⟩ := (bo2 K1).c4
 obtain ⟨c1_2_0, c1_2_1⟩ := (bo3 K1).c2
 have Mz1 := bsn K1 [vi ki 0, vi ki V1] 36
 have lt1_0 := (bo1 K1).1
 have lt1_1 := (bo2 K1).1
 have lt1_2 := (bo3 K1).1
 have lt1_3 := (bo4 K1).1
 go_upto_region 2 with fail
 refine bs_to Mz1 ?_
 clear c1_0_0 c1_0_1 c1_1_0 c1_1_1 c1_1_2 c1_1_3 c1_2_0 c1_2_1
 intro W2 K2
 clear Mz1 K1
 obtain ⟨c2_0_0, c2_0_1⟩ := (bo1 K2).c2
 obtain ⟨c2_1_0, c2_1_1⟩ := (bo2 K2).c2
 obtain ⟨c2_2_0, c2_2_1, c2_2_2, c2_2_3⟩ := (bo3 K2).c4
 obtain ⟨c2_3_0, c2_3_1⟩ := (bo4 K2).c2
 go_wp2_with (first | (refine wpList_load_mid rfl 46 _ rfl (w.heap.size) 0 rfl T _ (K2.out.at (w.heap.size) T (by simp)).all Tryz.underlying46 rfl (by rw [hT]; kernel_rfl) ?_; rw [hUA]) | fail)
 refine (AD.out _ (hL.out _ K2.out.1)).mono ?_
 rintro e W3 ⟨rfl, hb⟩
 have K3 := bsb K2 hb
 clear c2_0_0 c2_0_1 c2_1_0 c2_1_1 c2_2_0 c2_2_1 c2_2_2 c2_2_3 c2_3_0 c2_3_1
 clear hb K2
 obtain ⟨c3_0_0, c3_0_1⟩ := (bo1 K3).c2
 obtain ⟨c3_1_0, c3_1_1⟩ := (bo2 K3).c2
 obtain ⟨c3_2_0, c3_2_1, c3_2_2, c3_2_3⟩ := (bo3 K3).c4
 obtain ⟨c3_3_0, c3_3_1⟩ := (bo4 K3).c2
 clear c3_0_0 c3_0_1 c3_1_0 c3_1_1 c3_2_0 c3_2_1 c3_2_2 c3_2_3 c3_3_0 c3_3_1
 have r3_0 : W3.cell? ⟨W1.heap.size, 0, none⟩ = some (vi ki 0) := (K3.out.at (W1.heap.size) [vi ki 0, vi ki V1] (by simp)).c 0 rfl
 have sr3_0 : W3.frozen? ⟨W1.heap.size, 0, none⟩ = false := (K3.out.at (W1.heap.size) [vi ki 0, vi ki V1] (by simp)).f 0 rfl
 have r3_1 : W3.cell? ⟨W1.heap.size, 1, none⟩ = some (vi ki V1) := (K3.out.at (W1.heap.size) [vi ki 0, vi ki V1] (by simp)).c 1 rfl
 have sr3_1 : W3.frozen? ⟨W1.heap.size, 1, none⟩ = false := (K3.out.at (W1.heap.size) [vi ki 0, vi ki V1] (by simp)).f 1 rfl
 have Mz3 : Hid (BS w [(W1.heap.size, [vi ki 0, vi ki V2]), (w.heap.size + 3, [vi ki 0, vi ki 0]), (w.heap.size + 2, [vi ki j, vi ki M, vi ki D, vi ki U]), (w.heap.size + 1, [vi ki 0, vi ki u]), (w.heap.size, T)] (W3.setCells (W1.heap.size) 0 [vi ki 0, vi ki V2])) := ((K3.out.perm (l' := [(W1.heap.size, [vi ki 0, vi ki V1]), (w.heap.size + 3, [vi ki 0, vi ki 0]), (w.heap.size + 2, [vi ki j, vi ki M, vi ki D, vi ki U]), (w.heap.size + 1, [vi ki 0, vi ki u]), (w.heap.size, T)]) (by intro x hx; simp only [List.mem_cons, List.not_mem_nil, or_false] at hx ⊢; rcases hx with h | h | h | h | h <;> simp [h])).set [vi ki 0, vi ki V2] rfl (by intro x hx; simp only [List.mem_cons, List.not_mem_nil, or_false] at hx; rcases hx with rfl | rfl | rfl | rfl <;> simp only [] <;> omega))
 simp only [World.setCells, Nat.zero_add] at Mz3
 go_upto_region 5 with fail
 refine gen_to (BS w [(W1.heap.size, [vi ki 0, vi ki V2]), (w.heap.size + 3, [vi ki 0, vi ki 0]), (w.heap.size + 2, [vi ki j, vi ki M, vi ki D, vi ki U]), (w.heap.size + 1, [vi ki 0, vi ki u]), (w.heap.size, T)]) Mz3.out ?_
 clear r3_0 sr3_0 r3_1 sr3_1
 intro W4 K4'
 have K4 : Hid (BS w [(W1.heap.size, [vi ki 0, vi ki V2]), (w.heap.size + 3, [vi ki 0, vi ki 0]), (w.heap.size + 2, [vi ki j, vi ki M, vi ki D, vi ki U]), (w.heap.size + 1, [vi ki 0, vi ki u]), (w.heap.size, T)] W4) := K4'
 clear K4' Mz3 K3
 obtain ⟨c4_0_0, c4_0_1⟩ := (bo1 K4).c2
 obtain ⟨c4_1_0, c4_1_1⟩ := (bo2 K4).c2
 obtain ⟨c4_2_0, c4_2_1, c4_2_2, c4_2_3⟩ := (bo3 K4).c4
 obtain ⟨c4_3_0, c4_3_1⟩ := (bo4 K4).c2
 go_wp2_with (first | (refine wpList_load_mid rfl 46 _ rfl (w.heap.size) 0 rfl T _ (K4.out.at (w.heap.size) T (by simp)).all Tryz.underlying46 rfl (by rw [hT]; kernel_rfl) ?_; rw [hUA]) | fail)
 refine (IN.out _ (hL.out _ K4.out.1)).mono ?_
 rintro e W5 ⟨rfl, hb⟩
 have K5 := bsb K4 hb
 clear c4_0_0 c4_0_1 c4_1_0 c4_1_1 c4_2_0 c4_2_1 c4_2_2 c4_2_3 c4_3_0 c4_3_1
 clear hb K4
 obtain ⟨c5_0_0, c5_0_1⟩ := (bo1 K5).c2
 obtain ⟨c5_1_0, c5_1_1⟩ := (bo2 K5).c2
 obtain ⟨c5_2_0, c5_2_1, c5_2_2, c5_2_3⟩ := (bo3 K5).c4
 obtain ⟨c5_3_0, c5_3_1⟩ := (bo4 K5).c2
 clear c5_0_0 c5_0_1 c5_1_0 c5_1_1 c5_2_0 c5_2_1 c5_2_2 c5_2_3 c5_3_0 c5_3_1
 have r5_0 : W5.cell? ⟨w.heap.size + 1, 0, none⟩ = some (vi ki 0) := (K5.out.at (w.heap.size + 1) [vi ki 0, vi ki u] (by simp)).c 0 rfl
 have sr5_0 : W5.frozen? ⟨w.heap.size + 1, 0, none⟩ = false := (K5.out.at (w.heap.size + 1) [vi ki 0, vi ki u] (by simp)).f 0 rfl
 have r5_1 : W5.cell? ⟨w.heap.size + 1, 1, none⟩ = some (vi ki u) := (K5.out.at (w.heap.size + 1) [vi ki 0, vi ki u] (by simp)).c 1 rfl
 have sr5_1 : W5.frozen? ⟨w.heap.size + 1, 1, none⟩ = false := (K5.out.at (w.heap.size + 1) [vi ki 0, vi ki u] (by simp)).f 1 rfl
 have Mz5 : Hid (BS w [(w.heap.size + 1, [vi ki 0, vi ki V3]), (W1.heap.size, [vi ki 0, vi ki V2]), (w.heap.size + 3, [vi ki 0, vi ki 0]), (w.heap.size + 2, [vi ki j, vi ki M, vi ki D, vi ki U]), (w.heap.size, T)] (W5.setCells (w.heap.size + 1) 0 [vi ki 0, vi ki V3])) := ((K5.out.perm (l' := [(w.heap.size + 1, [vi ki 0, vi ki u]), (W1.heap.size, [vi ki 0, vi ki V2]), (w.heap.size + 3, [vi ki 0, vi ki 0]), (w.heap.size + 2, [vi ki j, vi ki M, vi ki D, vi ki U]), (w.heap.size, T)]) (by intro x hx; simp only [List.mem_cons, List.not_mem_nil, or_false] at hx ⊢; rcases hx with h | h | h | h | h <;> simp [h])).set [vi ki 0, vi ki V3] rfl (by intro x hx; simp only [List.mem_cons, List.not_mem_nil, or_false] at hx; rcases hx with rfl | rfl | rfl | rfl <;> simp only [] <;> omega))
 simp only [World.setCells, Nat.zero_add] at Mz5
 go_upto_region 8 with fail
 refine gen_to (BS w [(w.heap.size + 1, [vi ki 0, vi ki V3]), (W1.heap.size, [vi ki 0, vi ki V2]), (w.heap.size + 3, [vi ki 0, vi ki 0]), (w.heap.size + 2, [vi ki j, vi ki M, vi ki D, vi ki U]), (w.heap.size, T)]) Mz5.out ?_
 clear r5_0 sr5_0 r5_1 sr5_1
 intro W6 K6'
 have K6 : Hid (BS w [(w.heap.size + 1, [vi ki 0, vi ki V3]), (W1.heap.size, [vi ki 0, vi ki V2]), (w.heap.size + 3, [vi ki 0, vi ki 0]), (w.heap.size + 2, [vi ki j, vi ki M, vi ki D, vi ki U]), (w.heap.size, T)] W6) := K6'
 clear K6' Mz5 K5
 obtain ⟨c6_0_0, c6_0_1⟩ := (bo1 K6).c2
 obtain ⟨c6_1_0, c6_1_1⟩ := (bo2 K6).c2
 obtain ⟨c6_2_0, c6_2_1⟩ := (bo3 K6).c2
 obtain ⟨z6_2_0, z6_2_1⟩ := (bo3 K6).f2
 obtain ⟨c6_3_0, c6_3_1, c6_3_2, c6_3_3⟩ := (bo4 K6).c4
 have XF : Hid (Bx (W6.setCells (w.heap.size + 3) 0 [vi ki 0, vi ki V3]) (w.heap.size + 3) [vi ki 0, vi ki V3]) := (K6.out.at (w.heap.size + 3) [vi ki 0, vi ki 0] (by simp)).setAll _ rfl
 have BF : Hid (Below w.heap.size w (W6.setCells (w.heap.size + 3) 0 [vi ki 0, vi ki V3])) := below_setCells (by omega) _ _ _ K6.out.1
 have y0 := XF.out.c 0 rfl
 have y1 := XF.out.c 1 rfl
 simp only [World.setCells, Nat.zero_add] at y0 y1
 clear XF
 go_wp2
 exact bodyPost_ret (v := .tuple #[.agg #[vi ki 0, vi ki V3], vi ki e3]) (by simp [results, Tryz.results29, go_sem, y0, y1]) rfl ⟨rfl, BF.out⟩
theorem az_none (Ok : World → Prop) (T : List Value) (hT : T.length = 25) (i u j n X E : Int) (ka kb : Value)
  (RT : Hid (∀ w : World, Ok w → Calls Tryz.prog 16 #[.agg T.toArray] w fun r' w' => r' = zr (.bool true) ∧ Below w.heap.size w w'))
  (R : Hid (∀ w : World, Ok w → Calls Tryz.prog 17 #[.agg #[vi ki i, vi ki u]] w fun r' w' => r' = zr (.bool true) ∧ Below w.heap.size w w'))
  (PR : Hid (∀ w : World, Calls Tryz.prog 18 #[.agg #[vi ki j, vi ki 0, vi ki 0, vi ki n]] w fun r' w' => r' = zr (.bool true) ∧ Below w.heap.size w w'))
  (KA : Hid (∀ w : World, Calls Tryz.prog 28 #[vi ki i] w fun r' w' => r' = zr (ka) ∧ Below w.heap.size w w'))
  (KB : Hid (∀ w : World, Calls Tryz.prog 28 #[vi ki j] w fun r' w' => r' = zr (kb) ∧ Below w.heap.size w w'))
  (TG : Hid (∀ w : World, Calls Tryz.prog 27 #[ka, kb] w fun r' w' => r' = zr (.tuple #[vi ki 0, vi ki 0]) ∧ Below w.heap.size w w'))
  (MO : Hid (∀ w : World, Ok w → Calls Tryz.prog 30 #[.agg #[vi ki i, vi ki u], vi ki n] w fun r' w' => r' = zr (.tuple #[.agg #[vi ki 0, vi ki X], vi ki E]) ∧ Below w.heap.size w w'))
  (w : World) (hL : Hid (∀ W : World, Below w.heap.size w W → Ok W)) :
  Calls Tryz.prog 10 #[.agg T.toArray, .agg #[vi ki i, vi ki u], .agg #[vi ki j, vi ki 0, vi ki 0, vi ki n]] w fun r' w' => r' = zr (.tuple #[.agg #[vi ki 0, vi ki X], vi ki E]) ∧ Below w.heap.size w w' := by
 have K0 := bsn4 w T 46 [vi ki i, vi ki u] 36 [vi ki j, vi ki 0, vi ki 0, vi ki n] 38 [vi ki 0, vi ki 0] 36
 go_enter Tryz.func10, Tryz.ntmps10
 generalize hUA : T.toArray = UA at *
 go_upto_region 1 with fail
 refine gen_to (BS w [(w.heap.size + 3, [vi ki 0, vi ki 0]), (w.heap.size + 2, [vi ki j, vi ki 0, vi ki 0, vi ki n]), (w.heap.size + 1, [vi ki i, vi ki u]), (w.heap.size, T)]) K0.out ?_
 clear K0
 intro W0 K0'
 have K0 : Hid (BS w [(w.heap.size + 3, [vi ki 0, vi ki 0]), (w.heap.size + 2, [vi ki j, vi ki 0, vi ki 0, vi ki n]), (w.heap.size + 1, [vi ki i, vi ki u]), (w.heap.size, T)] W0) := K0'
 clear K0'
 obtain ⟨c0_0_0, c0_0_1⟩ := (bo1 K0).c2
 obtain ⟨c0_1_0, c0_1_1, c0_1_2, c0_1_3⟩ := (bo2 K0).c4
 obtain ⟨c0_2_0, c0_2_1⟩ := (bo3 K0).c2
 go_wp2_with (first | (refine wpList_load_mid rfl 46 _ rfl (w.heap.size) 0 rfl T _ (K0.out.at (w.heap.size) T (by simp)).all Tryz.underlying46 rfl (by rw [hT]; kernel_rfl) ?_; rw [hUA]) | fail)
 refine (RT.out _ (hL.out _ K0.out.1)).mono ?_
 rintro e W1 ⟨rfl, hb⟩
 have K1 := bsb K0 hb
 clear c0_0_0 c0_0_1 c0_1_0 c0_1_1 c0_1_2 c0_1_3 c0_2_0 c0_2_1
 clear hb K0
 obtain ⟨c1_0_0, c1_0_1⟩ := (bo1 K1).c2
 obtain ⟨c1_1_0, c1_1_1, c1_1_2, c1_1_3⟩ := (bo2 K1).c4
 obtain ⟨c1_2_0, c1_2_1⟩ := (bo3 K1).c2
 go_wp2_with (first | (refine wpList_load_mid rfl 46 _ rfl (w.heap.size) 0 rfl T _ (K1.out.at (w.heap.size) T (by simp)).all Tryz.underlying46 rfl (by rw [hT]; kernel_rfl) ?_; rw [hUA]) | fail)
 refine (R.out _ (hL.out _ K1.out.1)).mono ?_
 rintro e W2 ⟨rfl, hb⟩
 have K2 := bsb K1 hb
 clear c1_0_0 c1_0_1 c1_1_0 c1_1_1 c1_1_2 c1_1_3 c1_2_0 c1_2_1
 clear hb K1
 obtain ⟨c2_0_0, c2_0_1⟩ := (bo1 K2).c2
 obtain ⟨c2_1_0, c2_1_1, c2_1_2, c2_1_3⟩ := (bo2 K2).c4
 obtain ⟨c2_2_0, c2_2_1⟩ := (bo3 K2).c2
 go_wp2_with (first | (refine wpList_load_mid rfl 46 _ rfl (w.heap.size) 0 rfl T _ (K2.out.at (w.heap.size) T (by simp)).all Tryz.underlying46 rfl (by rw [hT]; kernel_rfl) ?_; rw [hUA]) | fail)
 refine (PR.out _).mono ?_
 rintro e W3 ⟨rfl, hb⟩
 have K3 := bsb K2 hb
 clear c2_0_0 c2_0_1 c2_1_0 c2_1_1 c2_1_2 c2_1_3 c2_2_0 c2_2_1
 clear hb K2
 obtain ⟨c3_0_0, c3_0_1⟩ := (bo1 K3).c2
 obtain ⟨c3_1_0, c3_1_1, c3_1_2, c3_1_3⟩ := (bo2 K3).c4
 obtain ⟨c3_2_0, c3_2_1⟩ := (bo3 K3).c2
 go_wp2_with fail
 go_cut [8, 9] (fun v0 v1 wx => v0 = vi ki 0 ∧ v1 = vi ki 0 ∧ Hid (BS w [(w.heap.size + 3, [vi ki 0, vi ki 0]), (w.heap.size + 2, [vi ki j, vi ki 0, vi ki 0, vi ki n]), (w.heap.size + 1, [vi ki i, vi ki u]), (w.heap.size, T)] wx))
 case first =>
  refine wp_region_held_drew (S := BS w [(w.heap.size + 3, [vi ki 0, vi ki 0]), (w.heap.size + 2, [vi ki j, vi ki 0, vi ki 0, vi ki n]), (w.heap.size + 1, [vi ki i, vi ki u]), (w.heap.size, T)]) (by kernel_rfl) K3.out.drew (fun hHeld => ?_)
  refine tks 0 ⟨some 27, _, _, _, _, none⟩ rfl ?_
  simp only [za, zb, zc, zd]
  refine tk (v := ?_) 1 ⟨some 28, _, _, _, _, none⟩ rfl ?_ ?_
  case refine_2 => (intro w9 hSw; obtain ⟨l0_0, l0_1⟩ := (hSw.at (w.heap.size + 3) [vi ki 0, vi ki 0] (by simp)).c2; obtain ⟨l1_0, l1_1, l1_2, l1_3⟩ := (hSw.at (w.heap.size + 2) [vi ki j, vi ki 0, vi ki 0, vi ki n] (by simp)).c4; obtain ⟨l2_0, l2_1⟩ := (hSw.at (w.heap.size + 1) [vi ki i, vi ki u] (by simp)).c2; clear hSw; go_simp; try with_reducible rfl)
  simp only [za, zb, zc, zd]
  refine tks 3 ⟨some 30, _, _, _, _, none⟩ rfl ?_
  simp only [za, zb, zc, zd]
  refine tk (v := ?_) 4 ⟨some 31, _, _, _, _, none⟩ rfl ?_ ?_
  case refine_2 => (intro w9 hSw; obtain ⟨l0_0, l0_1⟩ := (hSw.at (w.heap.size + 3) [vi ki 0, vi ki 0] (by simp)).c2; obtain ⟨l1_0, l1_1, l1_2, l1_3⟩ := (hSw.at (w.heap.size + 2) [vi ki j, vi ki 0, vi ki 0, vi ki n] (by simp)).c4; obtain ⟨l2_0, l2_1⟩ := (hSw.at (w.heap.size + 1) [vi ki i, vi ki u] (by simp)).c2; clear hSw; go_simp; try with_reducible rfl)
  simp only [za, zb, zc, zd]
  refine rd 2 ⟨some 29, _, _, _, _, none⟩ rfl (fun K hK => ?_)
  go_simp
  refine (KA.out _).mono ?_
  rintro e v1 ⟨rfl, hb1⟩
  refine hK.out _ _ (hHeld.below hb1) (fun hHeld => ?_)
  clear hK K hb1
  refine rd 5 ⟨some 32, _, _, _, _, none⟩ rfl (fun K hK => ?_)
  go_simp
  refine (KB.out _).mono ?_
  rintro e v2 ⟨rfl, hb2⟩
  refine hK.out _ _ (hHeld.below hb2) (fun hHeld => ?_)
  clear hK K hb2
  refine rd 6 ⟨some 33, _, _, _, _, none⟩ rfl (fun K hK => ?_)
  go_simp
  refine (TG.out _).mono ?_
  rintro e v3 ⟨rfl, hb3⟩
  refine hK.out _ _ (hHeld.below hb3) (fun hHeld => ?_)
  clear hK K hb3
  refine tks 7 ⟨some 26, _, _, _, _, none⟩ rfl ?_
  simp only [za, zb, zc, zd]
  refine tks 8 ⟨some 34, _, _, _, _, none⟩ rfl ?_
  simp only [za, zb, zc, zd]
  refine tks 9 ⟨some 35, _, _, _, _, none⟩ rfl ?_
  simp only [za, zb, zc, zd]
  refine tks 10 ⟨some 8, _, _, _, _, none⟩ rfl ?_
  simp only [za, zb, zc, zd]
  refine tks 11 ⟨some 9, _, _, _, _, none⟩ rfl ?_
  simp only [za, zb, zc, zd]
  refine wpAnyH_done (by kernel_rfl) ?_ _
  go_wp2_with fail
  go_meet
  case rel => exact ⟨rfl, rfl, hHeld⟩
 case rest =>
  clear c3_0_0 c3_0_1 c3_1_0 c3_1_1 c3_1_2 c3_1_3 c3_2_0 c3_2_1
  obtain ⟨rfl, rfl, K4⟩ := hcut
  clear K3
  skip
  obtain ⟨c4_0_0, c4_0_1⟩ := (bo1 K4).c2
  obtain ⟨c4_1_0, c4_1_1, c4_1_2, c4_1_3⟩ := (bo2 K4).c4
  obtain ⟨c4_2_0, c4_2_1⟩ := (bo3 K4).c2
  go_wp2_with (first | (refine wpList_load_mid rfl 46 _ rfl (w.heap.size) 0 rfl T _ (K4.out.at (w.heap.size) T (by simp)).all Tryz.underlying46 rfl (by rw [hT]; kernel_rfl) ?_; rw [hUA]) | fail)
  refine (MO.out _ (hL.out _ K4.out.1)).mono ?_
  rintro e W5 ⟨rfl, hb⟩
  have K5 := bsb K4 hb
  clear c4_0_0 c4_0_1 c4_1_0 c4_1_1 c4_1_2 c4_1_3 c4_2_0 c4_2_1
  clear hb K4
  obtain ⟨c5_0_0, c5_0_1⟩ := (bo1 K5).c2
  obtain ⟨z5_0_0, z5_0_1⟩ := (bo1 K5).f2
  obtain ⟨c5_1_0, c5_1_1, c5_1_2, c5_1_3⟩ := (bo2 K5).c4
  obtain ⟨c5_2_0, c5_2_1⟩ := (bo3 K5).c2
  have XF : Hid (Bx (W5.setCells (w.heap.size + 3) 0 [vi ki 0, vi ki X]) (w.heap.size + 3) [vi ki 0, vi ki X]) := (K5.out.at (w.heap.size + 3) [vi ki 0, vi ki 0] (by simp)).setAll _ rfl
  have BF : Hid (Below w.heap.size w (W5.setCells (w.heap.size + 3) 0 [vi ki 0, vi ki X])) := below_setCells (by omega) _ _ _ K5.out.1
  have y0 := XF.out.c 0 rfl
  have y1 := XF.out.c 1 rfl
  simp only [World.setCells, Nat.zero_add] at y0 y1
  clear XF
  go_wp2
  exact bodyPost_ret (v := .tuple #[.agg #[vi ki 0, vi ki X], vi ki E]) (by simp [results, Tryz.results10, go_sem, y0, y1]) rfl ⟨rfl, BF.out⟩
theorem az_errm (Ok : World → Prop) (T : List Value) (hT : T.length = 25) (i u j m d n V e : Int) (ka kb : Value) (he : e ≠ 0) (hm : m ≠ 0)
  (RT : Hid (∀ w : World, Ok w → Calls Tryz.prog 16 #[.agg T.toArray] w fun r' w' => r' = zr (.bool true) ∧ Below w.heap.size w w'))
  (R : Hid (∀ w : World, Ok w → Calls Tryz.prog 17 #[.agg #[vi ki i, vi ki u]] w fun r' w' => r' = zr (.bool true) ∧ Below w.heap.size w w'))
  (PR : Hid (∀ w : World, Calls Tryz.prog 18 #[.agg #[vi ki j, vi ki m, vi ki d, vi ki n]] w fun r' w' => r' = zr (.bool true) ∧ Below w.heap.size w w'))
  (KA : Hid (∀ w : World, Calls Tryz.prog 28 #[vi ki i] w fun r' w' => r' = zr (ka) ∧ Below w.heap.size w w'))
  (KB : Hid (∀ w : World, Calls Tryz.prog 28 #[vi ki j] w fun r' w' => r' = zr (kb) ∧ Below w.heap.size w w'))
  (TG : Hid (∀ w : World, Calls Tryz.prog 27 #[ka, kb] w fun r' w' => r' = zr (.tuple #[vi ki 0, vi ki 0]) ∧ Below w.heap.size w w'))
  (MB : Hid (∀ w : World, Ok w → Calls Tryz.prog 29 #[.agg T.toArray, .agg #[vi ki i, vi ki u], .agg #[vi ki j, vi ki m, vi ki d, vi ki n]] w fun r' w' => r' = zr (.tuple #[.agg #[vi ki 0, vi ki V], vi ki e]) ∧ Below w.heap.size w w'))
  (w : World) (hL : Hid (∀ W : World, Below w.heap.size w W → Ok W)) :
  Calls Tryz.prog 10 #[.agg T.toArray, .agg #[vi ki i, vi ki u], .agg #[vi ki j, vi ki m, vi ki d, vi ki n]] w fun r' w' => r' = zr (.tuple #[.agg #[vi ki 0, vi ki 0], vi ki e]) ∧ Below w.heap.size w w' := by
 have m1 : (m != 0) = true := bne_iff_ne.2 hm
 have e1 : (e != 0) = true := bne_iff_ne.2 he
 have K0 := bsn4 w T 46 [vi ki i, vi ki u] 36 [vi ki j, vi ki m, vi ki d, vi ki n] 38 [vi ki 0, vi ki 0] 36
 go_enter Tryz.func10, Tryz.ntmps10
 generalize hUA : T.toArray = UA at *
 go_upto_region 1 with fail
 refine gen_to (BS w [(w.heap.size + 3, [vi ki 0, vi ki 0]), (w.heap.size + 2, [vi ki j, vi ki m, vi ki d, vi ki n]), (w.heap.size + 1, [vi ki i, vi ki u]), (w.heap.size, T)]) K0.out ?_
 clear K0
 intro W0 K0'
 have K0 : Hid (BS w [(w.heap.size + 3, [vi ki 0, vi ki 0]), (w.heap.size + 2, [vi ki j, vi ki m, vi ki d, vi ki n]), (w.heap.size + 1, [vi ki i, vi ki u]), (w.heap.size, T)] W0) := K0'
 clear K0'
 obtain ⟨c0_0_0, c0_0_1⟩ := (bo1 K0).c2
 obtain ⟨c0_1_0, c0_1_1, c0_1_2, c0_1_3⟩ := (bo2 K0).c4
 obtain ⟨c0_2_0, c0_2_1⟩ := (bo3 K0).c2
 go_wp2_with (first | (refine wpList_load_mid rfl 46 _ rfl (w.heap.size) 0 rfl T _ (K0.out.at (w.heap.size) T (by simp)).all Tryz.underlying46 rfl (by rw [hT]; kernel_rfl) ?_; rw [hUA]) | fail)
 refine (RT.out _ (hL.out _ K0.out.1)).mono ?_
 rintro e W1 ⟨rfl, hb⟩
 have K1 := bsb K0 hb
 clear c0_0_0 c0_0_1 c0_1_0 c0_1_1 c0_1_2 c0_1_3 c0_2_0 c0_2_1
 clear hb K0
 obtain ⟨c1_0_0, c1_0_1⟩ := (bo1 K1).c2
 obtain ⟨c1_1_0, c1_1_1, c1_1_2, c1_1_3⟩ := (bo2 K1).c4
 obtain ⟨c1_2_0, c1_2_1⟩ := (bo3 K1).c2
 go_wp2_with (first | (refine wpList_load_mid rfl 46 _ rfl (w.heap.size) 0 rfl T _ (K1.out.at (w.heap.size) T (by simp)).all Tryz.underlying46 rfl (by rw [hT]; kernel_rfl) ?_; rw [hUA]) | fail)
 refine (R.out _ (hL.out _ K1.out.1)).mono ?_
 rintro e W2 ⟨rfl, hb⟩
 have K2 := bsb K1 hb
 clear c1_0_0 c1_0_1 c1_1_0 c1_1_1 c1_1_2 c1_1_3 c1_2_0 c1_2_1
 clear hb K1
 obtain ⟨c2_0_0, c2_0_1⟩ := (bo1 K2).c2
 obtain ⟨c2_1_0, c2_1_1, c2_1_2, c2_1_3⟩ := (bo2 K2).c4
 obtain ⟨c2_2_0, c2_2_1⟩ := (bo3 K2).c2
 go_wp2_with (first | (refine wpList_load_mid rfl 46 _ rfl (w.heap.size) 0 rfl T _ (K2.out.at (w.heap.size) T (by simp)).all Tryz.underlying46 rfl (by rw [hT]; kernel_rfl) ?_; rw [hUA]) | fail)
 refine (PR.out _).mono ?_
 rintro e W3 ⟨rfl, hb⟩
 have K3 := bsb K2 hb
 clear c2_0_0 c2_0_1 c2_1_0 c2_1_1 c2_1_2 c2_1_3 c2_2_0 c2_2_1
 clear hb K2
 obtain ⟨c3_0_0, c3_0_1⟩ := (bo1 K3).c2
 obtain ⟨c3_1_0, c3_1_1, c3_1_2, c3_1_3⟩ := (bo2 K3).c4
 obtain ⟨c3_2_0, c3_2_1⟩ := (bo3 K3).c2
 go_wp2_with fail
 go_cut [8, 9] (fun v0 v1 wx => v0 = vi ki 0 ∧ v1 = vi ki 0 ∧ Hid (BS w [(w.heap.size + 3, [vi ki 0, vi ki 0]), (w.heap.size + 2, [vi ki j, vi ki m, vi ki d, vi ki n]), (w.heap.size + 1, [vi ki i, vi ki u]), (w.heap.size, T)] wx))
 case first =>
  refine wp_region_held_drew (S := BS w [(w.heap.size + 3, [vi ki 0, vi ki 0]), (w.heap.size + 2, [vi ki j, vi ki m, vi ki d, vi ki n]), (w.heap.size + 1, [vi ki i, vi ki u]), (w.heap.size, T)]) (by kernel_rfl) K3.out.drew (fun hHeld => ?_)
  refine tks 0 ⟨some 27, _, _, _, _, none⟩ rfl ?_
  simp only [za, zb, zc, zd]
  refine tk (v := ?_) 1 ⟨some 28, _, _, _, _, none⟩ rfl ?_ ?_
  case refine_2 => (intro w9 hSw; obtain ⟨l0_0, l0_1⟩ := (hSw.at (w.heap.size + 3) [vi ki 0, vi ki 0] (by simp)).c2; obtain ⟨l1_0, l1_1, l1_2, l1_3⟩ := (hSw.at (w.heap.size + 2) [vi ki j, vi ki m, vi ki d, vi ki n] (by simp)).c4; obtain ⟨l2_0, l2_1⟩ := (hSw.at (w.heap.size + 1) [vi ki i, vi ki u] (by simp)).c2; clear hSw; go_simp; try with_reducible rfl)
  simp only [za, zb, zc, zd]
  refine tks 3 ⟨some 30, _, _, _, _, none⟩ rfl ?_
  simp only [za, zb, zc, zd]
  refine tk (v := ?_) 4 ⟨some 31, _, _, _, _, none⟩ rfl ?_ ?_
  case refine_2 => (intro w9 hSw; obtain ⟨l0_0, l0_1⟩ := (hSw.at (w.heap.size + 3) [vi ki 0, vi ki 0] (by simp)).c2; obtain ⟨l1_0, l1_1, l1_2, l1_3⟩ := (hSw.at (w.heap.size + 2) [vi ki j, vi ki m, vi ki d, vi ki n] (by simp)).c4; obtain ⟨l2_0, l2_1⟩ := (hSw.at (w.heap.size + 1) [vi ki i, vi ki u] (by simp)).c2; clear hSw; go_simp; try with_reducible rfl)
  simp only [za, zb, zc, zd]
  refine rd 2 ⟨some 29, _, _, _, _, none⟩ rfl (fun K hK => ?_)
  go_simp
  refine (KA.out _).mono ?_
  rintro e v1 ⟨rfl, hb1⟩
  refine hK.out _ _ (hHeld.below hb1) (fun hHeld => ?_)
  clear hK K hb1
  refine rd 5 ⟨some 32, _, _, _, _, none⟩ rfl (fun K hK => ?_)
  go_simp
  refine (KB.out _).mono ?_
  rintro e v2 ⟨rfl, hb2⟩
  refine hK.out _ _ (hHeld.below hb2) (fun hHeld => ?_)
  clear hK K hb2
  refine rd 6 ⟨some 33, _, _, _, _, none⟩ rfl (fun K hK => ?_)
  go_simp
  refine (TG.out _).mono ?_
  rintro e v3 ⟨rfl, hb3⟩
  refine hK.out _ _ (hHeld.below hb3) (fun hHeld => ?_)
  clear hK K hb3
  refine tks 7 ⟨some 26, _, _, _, _, none⟩ rfl ?_
  simp only [za, zb, zc, zd]
  refine tks 8 ⟨some 34, _, _, _, _, none⟩ rfl ?_
  simp only [za, zb, zc, zd]
  refine tks 9 ⟨some 35, _, _, _, _, none⟩ rfl ?_
  simp only [za, zb, zc, zd]
  refine tks 10 ⟨some 8, _, _, _, _, none⟩ rfl ?_
  simp only [za, zb, zc, zd]
  refine tks 11 ⟨some 9, _, _, _, _, none⟩ rfl ?_
  simp only [za, zb, zc, zd]
  refine wpAnyH_done (by kernel_rfl) ?_ _
  go_wp2_with fail
  go_meet
  case rel => exact ⟨rfl, rfl, hHeld⟩
 case rest =>
  clear c3_0_0 c3_0_1 c3_1_0 c3_1_1 c3_1_2 c3_1_3 c3_2_0 c3_2_1
  obtain ⟨rfl, rfl, K4⟩ := hcut
  clear K3
  skip
  obtain ⟨c4_0_0, c4_0_1⟩ := (bo1 K4).c2
  obtain ⟨c4_1_0, c4_1_1, c4_1_2, c4_1_3⟩ := (bo2 K4).c4
  obtain ⟨c4_2_0, c4_2_1⟩ := (bo3 K4).c2
  go_wp2_with (first | (refine wpList_load_mid rfl 46 _ rfl (w.heap.size) 0 rfl T _ (K4.out.at (w.heap.size) T (by simp)).all Tryz.underlying46 rfl (by rw [hT]; kernel_rfl) ?_; rw [hUA]) | fail)
  refine (MB.out _ (hL.out _ K4.out.1)).mono ?_
  rintro e W5 ⟨rfl, hb⟩
  have K5 := bsb K4 hb
  clear c4_0_0 c4_0_1 c4_1_0 c4_1_1 c4_1_2 c4_1_3 c4_2_0 c4_2_1
  clear hb K4
  obtain ⟨c5_0_0, c5_0_1⟩ := (bo1 K5).c2
  obtain ⟨c5_1_0, c5_1_1, c5_1_2, c5_1_3⟩ := (bo2 K5).c4
  obtain ⟨c5_2_0, c5_2_1⟩ := (bo3 K5).c2
  have Mz5 := bsn K5 [vi ki 0, vi ki V] 36
  have lt5_0 := (bo1 K5).1
  have lt5_1 := (bo2 K5).1
  have lt5_2 := (bo3 K5).1
  have lt5_3 := (bo4 K5).1
  go_upto_region 8 with fail
  refine bs_to Mz5 ?_
  clear c5_0_0 c5_0_1 c5_1_0 c5_1_1 c5_1_2 c5_1_3 c5_2_0 c5_2_1
  intro W6 K6
  clear Mz5 K5
  obtain ⟨c6_0_0, c6_0_1⟩ := (bo1 K6).c2
  obtain ⟨c6_1_0, c6_1_1⟩ := (bo2 K6).c2
  obtain ⟨z6_1_0, z6_1_1⟩ := (bo2 K6).f2
  obtain ⟨c6_2_0, c6_2_1, c6_2_2, c6_2_3⟩ := (bo3 K6).c4
  obtain ⟨c6_3_0, c6_3_1⟩ := (bo4 K6).c2
  have XF : Hid (Bx (W6.setCells (w.heap.size + 3) 0 [vi ki 0, vi ki 0]) (w.heap.size + 3) [vi ki 0, vi ki 0]) := (K6.out.at (w.heap.size + 3) [vi ki 0, vi ki 0] (by simp)).setAll _ rfl
  have BF : Hid (Below w.heap.size w (W6.setCells (w.heap.size + 3) 0 [vi ki 0, vi ki 0])) := below_setCells (by omega) _ _ _ K6.out.1
  have y0 := XF.out.c 0 rfl
  have y1 := XF.out.c 1 rfl
  simp only [World.setCells, Nat.zero_add] at y0 y1
  clear XF
  go_wp2
  exact bodyPost_ret (v := .tuple #[.agg #[vi ki 0, vi ki 0], vi ki e]) (by simp [results, Tryz.results10, go_sem, y0, y1]) rfl ⟨rfl, BF.out⟩
theorem az_okm (Ok : World → Prop) (T : List Value) (hT : T.length = 25) (i u j m d n V X E : Int) (ka kb : Value) (hm : m ≠ 0)
  (RT : Hid (∀ w : World, Ok w → Calls Tryz.prog 16 #[.agg T.toArray] w fun r' w' => r' = zr (.bool true) ∧ Below w.heap.size w w'))
  (R : Hid (∀ w : World, Ok w → Calls Tryz.prog 17 #[.agg #[vi ki i, vi ki u]] w fun r' w' => r' = zr (.bool true) ∧ Below w.heap.size w w'))
  (PR : Hid (∀ w : World, Calls Tryz.prog 18 #[.agg #[vi ki j, vi ki m, vi ki d, vi ki n]] w fun r' w' => r' = zr (.bool true) ∧ Below w.heap.size w w'))
  (KA : Hid (∀ w : World, Calls Tryz.prog 28 #[vi ki i] w fun r' w' => r' = zr (ka) ∧ Below w.heap.size w w'))
  (KB : Hid (∀ w : World, Calls Tryz.prog 28 #[vi ki j] w fun r' w' => r' = zr (kb) ∧ Below w.heap.size w w'))
  (TG : Hid (∀ w : World, Calls Tryz.prog 27 #[ka, kb] w fun r' w' => r' = zr (.tuple #[vi ki 0, vi ki 0]) ∧ Below w.heap.size w w'))
  (MB : Hid (∀ w : World, Ok w → Calls Tryz.prog 29 #[.agg T.toArray, .agg #[vi ki i, vi ki u], .agg #[vi ki j, vi ki m, vi ki d, vi ki n]] w fun r' w' => r' = zr (.tuple #[.agg #[vi ki 0, vi ki V], vi ki 0]) ∧ Below w.heap.size w w'))
  (MO : Hid (∀ w : World, Ok w → Calls Tryz.prog 30 #[.agg #[vi ki 0, vi ki V], vi ki n] w fun r' w' => r' = zr (.tuple #[.agg #[vi ki 0, vi ki X], vi ki E]) ∧ Below w.heap.size w w'))
  (w : World) (hL : Hid (∀ W : World, Below w.heap.size w W → Ok W)) :
  Calls Tryz.prog 10 #[.agg T.toArray, .agg #[vi ki i, vi ki u], .agg #[vi ki j, vi ki m, vi ki d, vi ki n]] w fun r' w' => r' = zr (.tuple #[.agg #[vi ki 0, vi ki X], vi ki E]) ∧ Below w.heap.size w w' := by
 have m1 : (m != 0) = true := bne_iff_ne.2 hm
 have K0 := bsn4 w T 46 [vi ki i, vi ki u] 36 [vi ki j, vi ki m, vi ki d, vi ki n] 38 [vi ki 0, vi ki 0] 36
 go_enter Tryz.func10, Tryz.ntmps10
 generalize hUA : T.toArray = UA at *
 go_upto_region 1 with fail
 refine gen_to (BS w [(w.heap.size + 3, [vi ki 0, vi ki 0]), (w.heap.size + 2, [vi ki j, vi ki m, vi ki d, vi ki n]), (w.heap.size + 1, [vi ki i, vi ki u]), (w.heap.size, T)]) K0.out ?_
 clear K0
 intro W0 K0'
 have K0 : Hid (BS w [(w.heap.size + 3, [vi ki 0, vi ki 0]), (w.heap.size + 2, [vi ki j, vi ki m, vi ki d, vi ki n]), (w.heap.size + 1, [vi ki i, vi ki u]), (w.heap.size, T)] W0) := K0'
 clear K0'
 obtain ⟨c0_0_0, c0_0_1⟩ := (bo1 K0).c2
 obtain ⟨c0_1_0, c0_1_1, c0_1_2, c0_1_3⟩ := (bo2 K0).c4
 obtain ⟨c0_2_0, c0_2_1⟩ := (bo3 K0).c2
 go_wp2_with (first | (refine wpList_load_mid rfl 46 _ rfl (w.heap.size) 0 rfl T _ (K0.out.at (w.heap.size) T (by simp)).all Tryz.underlying46 rfl (by rw [hT]; kernel_rfl) ?_; rw [hUA]) | fail)
 refine (RT.out _ (hL.out _ K0.out.1)).mono ?_
 rintro e W1 ⟨rfl, hb⟩
 have K1 := bsb K0 hb
 clear c0_0_0 c0_0_1 c0_1_0 c0_1_1 c0_1_2 c0_1_3 c0_2_0 c0_2_1
 clear hb K0
 obtain ⟨c1_0_0, c1_0_1⟩ := (bo1 K1).c2
 obtain ⟨c1_1_0, c1_1_1, c1_1_2, c1_1_3⟩ := (bo2 K1).c4
 obtain ⟨c1_2_0, c1_2_1⟩ := (bo3 K1).c2
 go_wp2_with (first | (refine wpList_load_mid rfl 46 _ rfl (w.heap.size) 0 rfl T _ (K1.out.at (w.heap.size) T (by simp)).all Tryz.underlying46 rfl (by rw [hT]; kernel_rfl) ?_; rw [hUA]) | fail)
 refine (R.out _ (hL.out _ K1.out.1)).mono ?_
 rintro e W2 ⟨rfl, hb⟩
 have K2 := bsb K1 hb
 clear c1_0_0 c1_0_1 c1_1_0 c1_1_1 c1_1_2 c1_1_3 c1_2_0 c1_2_1
 clear hb K1
 obtain ⟨c2_0_0, c2_0_1⟩ := (bo1 K2).c2
 obtain ⟨c2_1_0, c2_1_1, c2_1_2, c2_1_3⟩ := (bo2 K2).c4
 obtain ⟨c2_2_0, c2_2_1⟩ := (bo3 K2).c2
 go_wp2_with (first | (refine wpList_load_mid rfl 46 _ rfl (w.heap.size) 0 rfl T _ (K2.out.at (w.heap.size) T (by simp)).all Tryz.underlying46 rfl (by rw [hT]; kernel_rfl) ?_; rw [hUA]) | fail)
 refine (PR.out _).mono ?_
 rintro e W3 ⟨rfl, hb⟩
 have K3 := bsb K2 hb
 clear c2_0_0 c2_0_1 c2_1_0 c2_1_1 c2_1_2 c2_1_3 c2_2_0 c2_2_1
 clear hb K2
 obtain ⟨c3_0_0, c3_0_1⟩ := (bo1 K3).c2
 obtain ⟨c3_1_0, c3_1_1, c3_1_2, c3_1_3⟩ := (bo2 K3).c4
 obtain ⟨c3_2_0, c3_2_1⟩ := (bo3 K3).c2
 go_wp2_with fail
 go_cut [8, 9] (fun v0 v1 wx => v0 = vi ki 0 ∧ v1 = vi ki 0 ∧ Hid (BS w [(w.heap.size + 3, [vi ki 0, vi ki 0]), (w.heap.size + 2, [vi ki j, vi ki m, vi ki d, vi ki n]), (w.heap.size + 1, [vi ki i, vi ki u]), (w.heap.size, T)] wx))
 case first =>
  refine wp_region_held_drew (S := BS w [(w.heap.size + 3, [vi ki 0, vi ki 0]), (w.heap.size + 2, [vi ki j, vi ki m, vi ki d, vi ki n]), (w.heap.size + 1, [vi ki i, vi ki u]), (w.heap.size, T)]) (by kernel_rfl) K3.out.drew (fun hHeld => ?_)
  refine tks 0 ⟨some 27, _, _, _, _, none⟩ rfl ?_
  simp only [za, zb, zc, zd]
  refine tk (v := ?_) 1 ⟨some 28, _, _, _, _, none⟩ rfl ?_ ?_
  case refine_2 => (intro w9 hSw; obtain ⟨l0_0, l0_1⟩ := (hSw.at (w.heap.size + 3) [vi ki 0, vi ki 0] (by simp)).c2; obtain ⟨l1_0, l1_1, l1_2, l1_3⟩ := (hSw.at (w.heap.size + 2) [vi ki j, vi ki m, vi ki d, vi ki n] (by simp)).c4; obtain ⟨l2_0, l2_1⟩ := (hSw.at (w.heap.size + 1) [vi ki i, vi ki u] (by simp)).c2; clear hSw; go_simp; try with_reducible rfl)
  simp only [za, zb, zc, zd]
  refine tks 3 ⟨some 30, _, _, _, _, none⟩ rfl ?_
  simp only [za, zb, zc, zd]
  refine tk (v := ?_) 4 ⟨some 31, _, _, _, _, none⟩ rfl ?_ ?_
  case refine_2 => (intro w9 hSw; obtain ⟨l0_0, l0_1⟩ := (hSw.at (w.heap.size + 3) [vi ki 0, vi ki 0] (by simp)).c2; obtain ⟨l1_0, l1_1, l1_2, l1_3⟩ := (hSw.at (w.heap.size + 2) [vi ki j, vi ki m, vi ki d, vi ki n] (by simp)).c4; obtain ⟨l2_0, l2_1⟩ := (hSw.at (w.heap.size + 1) [vi ki i, vi ki u] (by simp)).c2; clear hSw; go_simp; try with_reducible rfl)
  simp only [za, zb, zc, zd]
  refine rd 2 ⟨some 29, _, _, _, _, none⟩ rfl (fun K hK => ?_)
  go_simp
  refine (KA.out _).mono ?_
  rintro e v1 ⟨rfl, hb1⟩
  refine hK.out _ _ (hHeld.below hb1) (fun hHeld => ?_)
  clear hK K hb1
  refine rd 5 ⟨some 32, _, _, _, _, none⟩ rfl (fun K hK => ?_)
  go_simp
  refine (KB.out _).mono ?_
  rintro e v2 ⟨rfl, hb2⟩
  refine hK.out _ _ (hHeld.below hb2) (fun hHeld => ?_)
  clear hK K hb2
  refine rd 6 ⟨some 33, _, _, _, _, none⟩ rfl (fun K hK => ?_)
  go_simp
  refine (TG.out _).mono ?_
  rintro e v3 ⟨rfl, hb3⟩
  refine hK.out _ _ (hHeld.below hb3) (fun hHeld => ?_)
  clear hK K hb3
  refine tks 7 ⟨some 26, _, _, _, _, none⟩ rfl ?_
  simp only [za, zb, zc, zd]
  refine tks 8 ⟨some 34, _, _, _, _, none⟩ rfl ?_
  simp only [za, zb, zc, zd]
  refine tks 9 ⟨some 35, _, _, _, _, none⟩ rfl ?_
  simp only [za, zb, zc, zd]
  refine tks 10 ⟨some 8, _, _, _, _, none⟩ rfl ?_
  simp only [za, zb, zc, zd]
  refine tks 11 ⟨some 9, _, _, _, _, none⟩ rfl ?_
  simp only [za, zb, zc, zd]
  refine wpAnyH_done (by kernel_rfl) ?_ _
  go_wp2_with fail
  go_meet
  case rel => exact ⟨rfl, rfl, hHeld⟩
 case rest =>
  clear c3_0_0 c3_0_1 c3_1_0 c3_1_1 c3_1_2 c3_1_3 c3_2_0 c3_2_1
  obtain ⟨rfl, rfl, K4⟩ := hcut
  clear K3
  skip
  obtain ⟨c4_0_0, c4_0_1⟩ := (bo1 K4).c2
  obtain ⟨c4_1_0, c4_1_1, c4_1_2, c4_1_3⟩ := (bo2 K4).c4
  obtain ⟨c4_2_0, c4_2_1⟩ := (bo3 K4).c2
  go_wp2_with (first | (refine wpList_load_mid rfl 46 _ rfl (w.heap.size) 0 rfl T _ (K4.out.at (w.heap.size) T (by simp)).all Tryz.underlying46 rfl (by rw [hT]; kernel_rfl) ?_; rw [hUA]) | fail)
  refine (MB.out _ (hL.out _ K4.out.1)).mono ?_
  rintro e W5 ⟨rfl, hb⟩
  have K5 := bsb K4 hb
  clear c4_0_0 c4_0_1 c4_1_0 c4_1_1 c4_1_2 c4_1_3 c4_2_0 c4_2_1
  clear hb K4
  obtain ⟨c5_0_0, c5_0_1⟩ := (bo1 K5).c2
  obtain ⟨c5_1_0, c5_1_1, c5_1_2, c5_1_3⟩ := (bo2 K5).c4
  obtain ⟨c5_2_0, c5_2_1⟩ := (bo3 K5).c2
  have Mz5 := bsn K5 [vi ki 0, vi ki V] 36
  have lt5_0 := (bo1 K5).1
  have lt5_1 := (bo2 K5).1
  have lt5_2 := (bo3 K5).1
  have lt5_3 := (bo4 K5).1
  go_upto_region 8 with fail
  refine bs_to Mz5 ?_
  clear c5_0_0 c5_0_1 c5_1_0 c5_1_1 c5_1_2 c5_1_3 c5_2_0 c5_2_1
  intro W6 K6
  clear Mz5 K5
  obtain ⟨c6_0_0, c6_0_1⟩ := (bo1 K6).c2
  obtain ⟨c6_1_0, c6_1_1⟩ := (bo2 K6).c2
  obtain ⟨c6_2_0, c6_2_1, c6_2_2, c6_2_3⟩ := (bo3 K6).c4
  obtain ⟨c6_3_0, c6_3_1⟩ := (bo4 K6).c2
  clear c6_0_0 c6_0_1 c6_1_0 c6_1_1 c6_2_0 c6_2_1 c6_2_2 c6_2_3 c6_3_0 c6_3_1
  obtain ⟨c6_0_0, c6_0_1⟩ := (bo1 K6).c2
  have r6_0 : W6.cell? ⟨w.heap.size + 1, 0, none⟩ = some (vi ki i) := (K6.out.at (w.heap.size + 1) [vi ki i, vi ki u] (by simp)).c 0 rfl
  have sr6_0 : W6.frozen? ⟨w.heap.size + 1, 0, none⟩ = false := (K6.out.at (w.heap.size + 1) [vi ki i, vi ki u] (by simp)).f 0 rfl
  have r6_1 : W6.cell? ⟨w.heap.size + 1, 1, none⟩ = some (vi ki u) := (K6.out.at (w.heap.size + 1) [vi ki i, vi ki u] (by simp)).c 1 rfl
  have sr6_1 : W6.frozen? ⟨w.heap.size + 1, 1, none⟩ = false := (K6.out.at (w.heap.size + 1) [vi ki i, vi ki u] (by simp)).f 1 rfl
  have Mz6 : Hid (BS w [(w.heap.size + 1, [vi ki 0, vi ki V]), (W5.heap.size, [vi ki 0, vi ki V]), (w.heap.size + 3, [vi ki 0, vi ki 0]), (w.heap.size + 2, [vi ki j, vi ki m, vi ki d, vi ki n]), (w.heap.size, T)] (W6.setCells (w.heap.size + 1) 0 [vi ki 0, vi ki V])) := ((K6.out.perm (l' := [(w.heap.size + 1, [vi ki i, vi ki u]), (W5.heap.size, [vi ki 0, vi ki V]), (w.heap.size + 3, [vi ki 0, vi ki 0]), (w.heap.size + 2, [vi ki j, vi ki m, vi ki d, vi ki n]), (w.heap.size, T)]) (by intro x hx; simp only [List.mem_cons, List.not_mem_nil, or_false] at hx ⊢; rcases hx with h | h | h | h | h <;> simp [h])).set [vi ki 0, vi ki V] rfl (by intro x hx; simp only [List.mem_cons, List.not_mem_nil, or_false] at hx; rcases hx with rfl | rfl | rfl | rfl <;> simp only [] <;> omega))
  simp only [World.setCells, Nat.zero_add] at Mz6
  go_upto_region 11 with fail
  refine gen_to (BS w [(w.heap.size + 1, [vi ki 0, vi ki V]), (W5.heap.size, [vi ki 0, vi ki V]), (w.heap.size + 3, [vi ki 0, vi ki 0]), (w.heap.size + 2, [vi ki j, vi ki m, vi ki d, vi ki n]), (w.heap.size, T)]) Mz6.out ?_
  clear c6_0_0 c6_0_1 r6_0 sr6_0 r6_1 sr6_1
  intro W7 K7'
  have K7 : Hid (BS w [(w.heap.size + 1, [vi ki 0, vi ki V]), (W5.heap.size, [vi ki 0, vi ki V]), (w.heap.size + 3, [vi ki 0, vi ki 0]), (w.heap.size + 2, [vi ki j, vi ki m, vi ki d, vi ki n]), (w.heap.size, T)] W7) := K7'
  clear K7' Mz6 K6
  obtain ⟨c7_0_0, c7_0_1⟩ := (bo1 K7).c2
  obtain ⟨c7_1_0, c7_1_1⟩ := (bo2 K7).c2
  obtain ⟨c7_2_0, c7_2_1⟩ := (bo3 K7).c2
  obtain ⟨c7_3_0, c7_3_1, c7_3_2, c7_3_3⟩ := (bo4 K7).c4
  go_wp2_with (first | (refine wpList_load_mid rfl 46 _ rfl (w.heap.size) 0 rfl T _ (K7.out.at (w.heap.size) T (by simp)).all Tryz.underlying46 rfl (by rw [hT]; kernel_rfl) ?_; rw [hUA]) | fail)
  refine (MO.out _ (hL.out _ K7.out.1)).mono ?_
  rintro e W8 ⟨rfl, hb⟩
  have K8 := bsb K7 hb
  clear c7_0_0 c7_0_1 c7_1_0 c7_1_1 c7_2_0 c7_2_1 c7_3_0 c7_3_1 c7_3_2 c7_3_3
  clear hb K7
  obtain ⟨c8_0_0, c8_0_1⟩ := (bo1 K8).c2
  obtain ⟨c8_1_0, c8_1_1⟩ := (bo2 K8).c2
  obtain ⟨c8_2_0, c8_2_1⟩ := (bo3 K8).c2
  obtain ⟨z8_2_0, z8_2_1⟩ := (bo3 K8).f2
  obtain ⟨c8_3_0, c8_3_1, c8_3_2, c8_3_3⟩ := (bo4 K8).c4
  have XF : Hid (Bx (W8.setCells (w.heap.size + 3) 0 [vi ki 0, vi ki X]) (w.heap.size + 3) [vi ki 0, vi ki X]) := (K8.out.at (w.heap.size + 3) [vi ki 0, vi ki 0] (by simp)).setAll _ rfl
  have BF : Hid (Below w.heap.size w (W8.setCells (w.heap.size + 3) 0 [vi ki 0, vi ki X])) := below_setCells (by omega) _ _ _ K8.out.1
  have y0 := XF.out.c 0 rfl
  have y1 := XF.out.c 1 rfl
  simp only [World.setCells, Nat.zero_add] at y0 y1
  clear XF
  go_wp2
  exact bodyPost_ret (v := .tuple #[.agg #[vi ki 0, vi ki X], vi ki E]) (by simp [results, Tryz.results10, go_sem, y0, y1]) rfl ⟨rfl, BF.out⟩
theorem az_errd (Ok : World → Prop) (T : List Value) (hT : T.length = 25) (i u j d n V e : Int) (ka kb : Value) (he : e ≠ 0) (hd : d ≠ 0)
  (RT : Hid (∀ w : World, Ok w → Calls Tryz.prog 16 #[.agg T.toArray] w fun r' w' => r' = zr (.bool true) ∧ Below w.heap.size w w'))
  (R : Hid (∀ w : World, Ok w → Calls Tryz.prog 17 #[.agg #[vi ki i, vi ki u]] w fun r' w' => r' = zr (.bool true) ∧ Below w.heap.size w w'))
  (PR : Hid (∀ w : World, Calls Tryz.prog 18 #[.agg #[vi ki j, vi ki 0, vi ki d, vi ki n]] w fun r' w' => r' = zr (.bool true) ∧ Below w.heap.size w w'))
  (KA : Hid (∀ w : World, Calls Tryz.prog 28 #[vi ki i] w fun r' w' => r' = zr (ka) ∧ Below w.heap.size w w'))
  (KB : Hid (∀ w : World, Calls Tryz.prog 28 #[vi ki j] w fun r' w' => r' = zr (kb) ∧ Below w.heap.size w w'))
  (TG : Hid (∀ w : World, Calls Tryz.prog 27 #[ka, kb] w fun r' w' => r' = zr (.tuple #[vi ki 0, vi ki 0]) ∧ Below w.heap.size w w'))
  (MB : Hid (∀ w : World, Ok w → Calls Tryz.prog 29 #[.agg T.toArray, .agg #[vi ki i, vi ki u], .agg #[vi ki j, vi ki 0, vi ki d, vi ki n]] w fun r' w' => r' = zr (.tuple #[.agg #[vi ki 0, vi ki V], vi ki e]) ∧ Below w.heap.size w w'))
  (w : World) (hL : Hid (∀ W : World, Below w.heap.size w W → Ok W)) :
  Calls Tryz.prog 10 #[.agg T.toArray, .agg #[vi ki i, vi ki u], .agg #[vi ki j, vi ki 0, vi ki d, vi ki n]] w fun r' w' => r' = zr (.tuple #[.agg #[vi ki 0, vi ki 0], vi ki e]) ∧ Below w.heap.size w w' := by
 have m1 : (d != 0) = true := bne_iff_ne.2 hd
 have e1 : (e != 0) = true := bne_iff_ne.2 he
 have K0 := bsn4 w T 46 [vi ki i, vi ki u] 36 [vi ki j, vi ki 0, vi ki d, vi ki n] 38 [vi ki 0, vi ki 0] 36
 go_enter Tryz.func10, Tryz.ntmps10
 generalize hUA : T.toArray = UA at *
 go_upto_region 1 with fail
 refine gen_to (BS w [(w.heap.size + 3, [vi ki 0, vi ki 0]), (w.heap.size + 2, [vi ki j, vi ki 0, vi ki d, vi ki n]), (w.heap.size + 1, [vi ki i, vi ki u]), (w.heap.size, T)]) K0.out ?_
 clear K0
 intro W0 K0'
 have K0 : Hid (BS w [(w.heap.size + 3, [vi ki 0, vi ki 0]), (w.heap.size + 2, [vi ki j, vi ki 0, vi ki d, vi ki n]), (w.heap.size + 1, [vi ki i, vi ki u]), (w.heap.size, T)] W0) := K0'
 clear K0'
 obtain ⟨c0_0_0, c0_0_1⟩ := (bo1 K0).c2
 obtain ⟨c0_1_0, c0_1_1, c0_1_2, c0_1_3⟩ := (bo2 K0).c4
 obtain ⟨c0_2_0, c0_2_1⟩ := (bo3 K0).c2
 go_wp2_with (first | (refine wpList_load_mid rfl 46 _ rfl (w.heap.size) 0 rfl T _ (K0.out.at (w.heap.size) T (by simp)).all Tryz.underlying46 rfl (by rw [hT]; kernel_rfl) ?_; rw [hUA]) | fail)
 refine (RT.out _ (hL.out _ K0.out.1)).mono ?_
 rintro e W1 ⟨rfl, hb⟩
 have K1 := bsb K0 hb
 clear c0_0_0 c0_0_1 c0_1_0 c0_1_1 c0_1_2 c0_1_3 c0_2_0 c0_2_1
 clear hb K0
 obtain ⟨c1_0_0, c1_0_1⟩ := (bo1 K1).c2
 obtain ⟨c1_1_0, c1_1_1, c1_1_2, c1_1_3⟩ := (bo2 K1).c4
 obtain ⟨c1_2_0, c1_2_1⟩ := (bo3 K1).c2
 go_wp2_with (first | (refine wpList_load_mid rfl 46 _ rfl (w.heap.size) 0 rfl T _ (K1.out.at (w.heap.size) T (by simp)).all Tryz.underlying46 rfl (by rw [hT]; kernel_rfl) ?_; rw [hUA]) | fail)
 refine (R.out _ (hL.out _ K1.out.1)).mono ?_
 rintro e W2 ⟨rfl, hb⟩
 have K2 := bsb K1 hb
 clear c1_0_0 c1_0_1 c1_1_0 c1_1_1 c1_1_2 c1_1_3 c1_2_0 c1_2_1
 clear hb K1
 obtain ⟨c2_0_0, c2_0_1⟩ := (bo1 K2).c2
 obtain ⟨c2_1_0, c2_1_1, c2_1_2, c2_1_3⟩ := (bo2 K2).c4
 obtain ⟨c2_2_0, c2_2_1⟩ := (bo3 K2).c2
 go_wp2_with (first | (refine wpList_load_mid rfl 46 _ rfl (w.heap.size) 0 rfl T _ (K2.out.at (w.heap.size) T (by simp)).all Tryz.underlying46 rfl (by rw [hT]; kernel_rfl) ?_; rw [hUA]) | fail)
 refine (PR.out _).mono ?_
 rintro e W3 ⟨rfl, hb⟩
 have K3 := bsb K2 hb
 clear c2_0_0 c2_0_1 c2_1_0 c2_1_1 c2_1_2 c2_1_3 c2_2_0 c2_2_1
 clear hb K2
 obtain ⟨c3_0_0, c3_0_1⟩ := (bo1 K3).c2
 obtain ⟨c3_1_0, c3_1_1, c3_1_2, c3_1_3⟩ := (bo2 K3).c4
 obtain ⟨c3_2_0, c3_2_1⟩ := (bo3 K3).c2
 go_wp2_with fail
 go_cut [8, 9] (fun v0 v1 wx => v0 = vi ki 0 ∧ v1 = vi ki 0 ∧ Hid (BS w [(w.heap.size + 3, [vi ki 0, vi ki 0]), (w.heap.size + 2, [vi ki j, vi ki 0, vi ki d, vi ki n]), (w.heap.size + 1, [vi ki i, vi ki u]), (w.heap.size, T)] wx))
 case first =>
  refine wp_region_held_drew (S := BS w [(w.heap.size + 3, [vi ki 0, vi ki 0]), (w.heap.size + 2, [vi ki j, vi ki 0, vi ki d, vi ki n]), (w.heap.size + 1, [vi ki i, vi ki u]), (w.heap.size, T)]) (by kernel_rfl) K3.out.drew (fun hHeld => ?_)
  refine tks 0 ⟨some 27, _, _, _, _, none⟩ rfl ?_
  simp only [za, zb, zc, zd]
  refine tk (v := ?_) 1 ⟨some 28, _, _, _, _, none⟩ rfl ?_ ?_
  case refine_2 => (intro w9 hSw; obtain ⟨l0_0, l0_1⟩ := (hSw.at (w.heap.size + 3) [vi ki 0, vi ki 0] (by simp)).c2; obtain ⟨l1_0, l1_1, l1_2, l1_3⟩ := (hSw.at (w.heap.size + 2) [vi ki j, vi ki 0, vi ki d, vi ki n] (by simp)).c4; obtain ⟨l2_0, l2_1⟩ := (hSw.at (w.heap.size + 1) [vi ki i, vi ki u] (by simp)).c2; clear hSw; go_simp; try with_reducible rfl)
  simp only [za, zb, zc, zd]
  refine tks 3 ⟨some 30, _, _, _, _, none⟩ rfl ?_
  simp only [za, zb, zc, zd]
  refine tk (v := ?_) 4 ⟨some 31, _, _, _, _, none⟩ rfl ?_ ?_
  case refine_2 => (intro w9 hSw; obtain ⟨l0_0, l0_1⟩ := (hSw.at (w.heap.size + 3) [vi ki 0, vi ki 0] (by simp)).c2; obtain ⟨l1_0, l1_1, l1_2, l1_3⟩ := (hSw.at (w.heap.size + 2) [vi ki j, vi ki 0, vi ki d, vi ki n] (by simp)).c4; obtain ⟨l2_0, l2_1⟩ := (hSw.at (w.heap.size + 1) [vi ki i, vi ki u] (by simp)).c2; clear hSw; go_simp; try with_reducible rfl)
  simp only [za, zb, zc, zd]
  refine rd 2 ⟨some 29, _, _, _, _, none⟩ rfl (fun K hK => ?_)
  go_simp
  refine (KA.out _).mono ?_
  rintro e v1 ⟨rfl, hb1⟩
  refine hK.out _ _ (hHeld.below hb1) (fun hHeld => ?_)
  clear hK K hb1
  refine rd 5 ⟨some 32, _, _, _, _, none⟩ rfl (fun K hK => ?_)
  go_simp
  refine (KB.out _).mono ?_
  rintro e v2 ⟨rfl, hb2⟩
  refine hK.out _ _ (hHeld.below hb2) (fun hHeld => ?_)
  clear hK K hb2
  refine rd 6 ⟨some 33, _, _, _, _, none⟩ rfl (fun K hK => ?_)
  go_simp
  refine (TG.out _).mono ?_
  rintro e v3 ⟨rfl, hb3⟩
  refine hK.out _ _ (hHeld.below hb3) (fun hHeld => ?_)
  clear hK K hb3
  refine tks 7 ⟨some 26, _, _, _, _, none⟩ rfl ?_
  simp only [za, zb, zc, zd]
  refine tks 8 ⟨some 34, _, _, _, _, none⟩ rfl ?_
  simp only [za, zb, zc, zd]
  refine tks 9 ⟨some 35, _, _, _, _, none⟩ rfl ?_
  simp only [za, zb, zc, zd]
  refine tks 10 ⟨some 8, _, _, _, _, none⟩ rfl ?_
  simp only [za, zb, zc, zd]
  refine tks 11 ⟨some 9, _, _, _, _, none⟩ rfl ?_
  simp only [za, zb, zc, zd]
  refine wpAnyH_done (by kernel_rfl) ?_ _
  go_wp2_with fail
  go_meet
  case rel => exact ⟨rfl, rfl, hHeld⟩
 case rest =>
  clear c3_0_0 c3_0_1 c3_1_0 c3_1_1 c3_1_2 c3_1_3 c3_2_0 c3_2_1
  obtain ⟨rfl, rfl, K4⟩ := hcut
  clear K3
  skip
  obtain ⟨c4_0_0, c4_0_1⟩ := (bo1 K4).c2
  obtain ⟨c4_1_0, c4_1_1, c4_1_2, c4_1_3⟩ := (bo2 K4).c4
  obtain ⟨c4_2_0, c4_2_1⟩ := (bo3 K4).c2
  go_wp2_with (first | (refine wpList_load_mid rfl 46 _ rfl (w.heap.size) 0 rfl T _ (K4.out.at (w.heap.size) T (by simp)).all Tryz.underlying46 rfl (by rw [hT]; kernel_rfl) ?_; rw [hUA]) | fail)
  refine (MB.out _ (hL.out _ K4.out.1)).mono ?_
  rintro e W5 ⟨rfl, hb⟩
  have K5 := bsb K4 hb
  clear c4_0_0 c4_0_1 c4_1_0 c4_1_1 c4_1_2 c4_1_3 c4_2_0 c4_2_1
  clear hb K4
  obtain ⟨c5_0_0, c5_0_1⟩ := (bo1 K5).c2
  obtain ⟨c5_1_0, c5_1_1, c5_1_2, c5_1_3⟩ := (bo2 K5).c4
  obtain ⟨c5_2_0, c5_2_1⟩ := (bo3 K5).c2
  have Mz5 := bsn K5 [vi ki 0, vi ki V] 36
  have lt5_0 := (bo1 K5).1
  have lt5_1 := (bo2 K5).1
  have lt5_2 := (bo3 K5).1
  have lt5_3 := (bo4 K5).1
  go_upto_region 8 with fail
  refine bs_to Mz5 ?_
  clear c5_0_0 c5_0_1 c5_1_0 c5_1_1 c5_1_2 c5_1_3 c5_2_0 c5_2_1
  intro W6 K6
  clear Mz5 K5
  obtain ⟨c6_0_0, c6_0_1⟩ := (bo1 K6).c2
  obtain ⟨c6_1_0, c6_1_1⟩ := (bo2 K6).c2
  obtain ⟨z6_1_0, z6_1_1⟩ := (bo2 K6).f2
  obtain ⟨c6_2_0, c6_2_1, c6_2_2, c6_2_3⟩ := (bo3 K6).c4
  obtain ⟨c6_3_0, c6_3_1⟩ := (bo4 K6).c2
  have XF : Hid (Bx (W6.setCells (w.heap.size + 3) 0 [vi ki 0, vi ki 0]) (w.heap.size + 3) [vi ki 0, vi ki 0]) := (K6.out.at (w.heap.size + 3) [vi ki 0, vi ki 0] (by simp)).setAll _ rfl
  have BF : Hid (Below w.heap.size w (W6.setCells (w.heap.size + 3) 0 [vi ki 0, vi ki 0])) := below_setCells (by omega) _ _ _ K6.out.1
  have y0 := XF.out.c 0 rfl
  have y1 := XF.out.c 1 rfl
  simp only [World.setCells, Nat.zero_add] at y0 y1
  clear XF
  go_wp2
  exact bodyPost_ret (v := .tuple #[.agg #[vi ki 0, vi ki 0], vi ki e]) (by simp [results, Tryz.results10, go_sem, y0, y1]) rfl ⟨rfl, BF.out⟩
theorem az_okd (Ok : World → Prop) (T : List Value) (hT : T.length = 25) (i u j d n V X E : Int) (ka kb : Value) (hd : d ≠ 0)
  (RT : Hid (∀ w : World, Ok w → Calls Tryz.prog 16 #[.agg T.toArray] w fun r' w' => r' = zr (.bool true) ∧ Below w.heap.size w w'))
  (R : Hid (∀ w : World, Ok w → Calls Tryz.prog 17 #[.agg #[vi ki i, vi ki u]] w fun r' w' => r' = zr (.bool true) ∧ Below w.heap.size w w'))
  (PR : Hid (∀ w : World, Calls Tryz.prog 18 #[.agg #[vi ki j, vi ki 0, vi ki d, vi ki n]] w fun r' w' => r' = zr (.bool true) ∧ Below w.heap.size w w'))
  (KA : Hid (∀ w : World, Calls Tryz.prog 28 #[vi ki i] w fun r' w' => r' = zr (ka) ∧ Below w.heap.size w w'))
  (KB : Hid (∀ w : World, Calls Tryz.prog 28 #[vi ki j] w fun r' w' => r' = zr (kb) ∧ Below w.heap.size w w'))
  (TG : Hid (∀ w : World, Calls Tryz.prog 27 #[ka, kb] w fun r' w' => r' = zr (.tuple #[vi ki 0, vi ki 0]) ∧ Below w.heap.size w w'))
  (MB : Hid (∀ w : World, Ok w → Calls Tryz.prog 29 #[.agg T.toArray, .agg #[vi ki i, vi ki u], .agg #[vi ki j, vi ki 0, vi ki d, vi ki n]] w fun r' w' => r' = zr (.tuple #[.agg #[vi ki 0, vi ki V], vi ki 0]) ∧ Below w.heap.size w w'))
  (MO : Hid (∀ w : World, Ok w → Calls Tryz.prog 30 #[.agg #[vi ki 0, vi ki V], vi ki n] w fun r' w' => r' = zr (.tuple #[.agg #[vi ki 0, vi ki X], vi ki E]) ∧ Below w.heap.size w w'))
  (w : World) (hL : Hid (∀ W : World, Below w.heap.size w W → Ok W)) :
  Calls Tryz.prog 10 #[.agg T.toArray, .agg #[vi ki i, vi ki u], .agg #[vi ki j, vi ki 0, vi ki d, vi ki n]] w fun r' w' => r' = zr (.tuple #[.agg #[vi ki 0, vi ki X], vi ki E]) ∧ Below w.heap.size w w' := by
 have m1 : (d != 0) = true := bne_iff_ne.2 hd
 have K0 := bsn4 w T 46 [vi ki i, vi ki u] 36 [vi ki j, vi ki 0, vi ki d, vi ki n] 38 [vi ki 0, vi ki 0] 36
 go_enter Tryz.func10, Tryz.ntmps10
 generalize hUA : T.toArray = UA at *
 go_upto_region 1 with fail
 refine gen_to (BS w [(w.heap.size + 3, [vi ki 0, vi ki 0]), (w.heap.size + 2, [vi ki j, vi ki 0, vi ki d, vi ki n]), (w.heap.size + 1, [vi ki i, vi ki u]), (w.heap.size, T)]) K0.out ?_
 clear K0
 intro W0 K0'
 have K0 : Hid (BS w [(w.heap.size + 3, [vi ki 0, vi ki 0]), (w.heap.size + 2, [vi ki j, vi ki 0, vi ki d, vi ki n]), (w.heap.size + 1, [vi ki i, vi ki u]), (w.heap.size, T)] W0) := K0'
 clear K0'
 obtain ⟨c0_0_0, c0_0_1⟩ := (bo1 K0).c2
 obtain ⟨c0_1_0, c0_1_1, c0_1_2, c0_1_3⟩ := (bo2 K0).c4
 obtain ⟨c0_2_0, c0_2_1⟩ := (bo3 K0).c2
 go_wp2_with (first | (refine wpList_load_mid rfl 46 _ rfl (w.heap.size) 0 rfl T _ (K0.out.at (w.heap.size) T (by simp)).all Tryz.underlying46 rfl (by rw [hT]; kernel_rfl) ?_; rw [hUA]) | fail)
 refine (RT.out _ (hL.out _ K0.out.1)).mono ?_
 rintro e W1 ⟨rfl, hb⟩
 have K1 := bsb K0 hb
 clear c0_0_0 c0_0_1 c0_1_0 c0_1_1 c0_1_2 c0_1_3 c0_2_0 c0_2_1
 clear hb K0
 obtain ⟨c1_0_0, c1_0_1⟩ := (bo1 K1).c2
 obtain ⟨c1_1_0, c1_1_1, c1_1_2, c1_1_3⟩ := (bo2 K1).c4
 obtain ⟨c1_2_0, c1_2_1⟩ := (bo3 K1).c2
 go_wp2_with (first | (refine wpList_load_mid rfl 46 _ rfl (w.heap.size) 0 rfl T _ (K1.out.at (w.heap.size) T (by simp)).all Tryz.underlying46 rfl (by rw [hT]; kernel_rfl) ?_; rw [hUA]) | fail)
 refine (R.out _ (hL.out _ K1.out.1)).mono ?_
 rintro e W2 ⟨rfl, hb⟩
 have K2 := bsb K1 hb
 clear c1_0_0 c1_0_1 c1_1_0 c1_1_1 c1_1_2 c1_1_3 c1_2_0 c1_2_1
 clear hb K1
 obtain ⟨c2_0_0, c2_0_1⟩ := (bo1 K2).c2
 obtain ⟨c2_1_0, c2_1_1, c2_1_2, c2_1_3⟩ := (bo2 K2).c4
 obtain ⟨c2_2_0, c2_2_1⟩ := (bo3 K2).c2
 go_wp2_with (first | (refine wpList_load_mid rfl 46 _ rfl (w.heap.size) 0 rfl T _ (K2.out.at (w.heap.size) T (by simp)).all Tryz.underlying46 rfl (by rw [hT]; kernel_rfl) ?_; rw [hUA]) | fail)
 refine (PR.out _).mono ?_
 rintro e W3 ⟨rfl, hb⟩
 have K3 := bsb K2 hb
 clear c2_0_0 c2_0_1 c2_1_0 c2_1_1 c2_1_2 c2_1_3 c2_2_0 c2_2_1
 clear hb K2
 obtain ⟨c3_0_0, c3_0_1⟩ := (bo1 K3).c2
 obtain ⟨c3_1_0, c3_1_1, c3_1_2, c3_1_3⟩ := (bo2 K3).c4
 obtain ⟨c3_2_0, c3_2_1⟩ := (bo3 K3).c2
 go_wp2_with fail
 go_cut [8, 9] (fun v0 v1 wx => v0 = vi ki 0 ∧ v1 = vi ki 0 ∧ Hid (BS w [(w.heap.size + 3, [vi ki 0, vi ki 0]), (w.heap.size + 2, [vi ki j, vi ki 0, vi ki d, vi ki n]), (w.heap.size + 1, [vi ki i, vi ki u]), (w.heap.size, T)] wx))
 case first =>
  refine wp_region_held_drew (S := BS w [(w.heap.size + 3, [vi ki 0, vi ki 0]), (w.heap.size + 2, [vi ki j, vi ki 0, vi ki d, vi ki n]), (w.heap.size + 1, [vi ki i, vi ki u]), (w.heap.size, T)]) (by kernel_rfl) K3.out.drew (fun hHeld => ?_)
  refine tks 0 ⟨some 27, _, _, _, _, none⟩ rfl ?_
  simp only [za, zb, zc, zd]
  refine tk (v := ?_) 1 ⟨some 28, _, _, _, _, none⟩ rfl ?_ ?_
  case refine_2 => (intro w9 hSw; obtain ⟨l0_0, l0_1⟩ := (hSw.at (w.heap.size + 3) [vi ki 0, vi ki 0] (by simp)).c2; obtain ⟨l1_0, l1_1, l1_2, l1_3⟩ := (hSw.at (w.heap.size + 2) [vi ki j, vi ki 0, vi ki d, vi ki n] (by simp)).c4; obtain ⟨l2_0, l2_1⟩ := (hSw.at (w.heap.size + 1) [vi ki i, vi ki u] (by simp)).c2; clear hSw; go_simp; try with_reducible rfl)
  simp only [za, zb, zc, zd]
  refine tks 3 ⟨some 30, _, _, _, _, none⟩ rfl ?_
  simp only [za, zb, zc, zd]
  refine tk (v := ?_) 4 ⟨some 31, _, _, _, _, none⟩ rfl ?_ ?_
  case refine_2 => (intro w9 hSw; obtain ⟨l0_0, l0_1⟩ := (hSw.at (w.heap.size + 3) [vi ki 0, vi ki 0] (by simp)).c2; obtain ⟨l1_0, l1_1, l1_2, l1_3⟩ := (hSw.at (w.heap.size + 2) [vi ki j, vi ki 0, vi ki d, vi ki n] (by simp)).c4; obtain ⟨l2_0, l2_1⟩ := (hSw.at (w.heap.size + 1) [vi ki i, vi ki u] (by simp)).c2; clear hSw; go_simp; try with_reducible rfl)
  simp only [za, zb, zc, zd]
  refine rd 2 ⟨some 29, _, _, _, _, none⟩ rfl (fun K hK => ?_)
  go_simp
  refine (KA.out _).mono ?_
  rintro e v1 ⟨rfl, hb1⟩
  refine hK.out _ _ (hHeld.below hb1) (fun hHeld => ?_)
  clear hK K hb1
  refine rd 5 ⟨some 32, _, _, _, _, none⟩ rfl (fun K hK => ?_)
  go_simp
  refine (KB.out _).mono ?_
  rintro e v2 ⟨rfl, hb2⟩
  refine hK.out _ _ (hHeld.below hb2) (fun hHeld => ?_)
  clear hK K hb2
  refine rd 6 ⟨some 33, _, _, _, _, none⟩ rfl (fun K hK => ?_)
  go_simp
  refine (TG.out _).mono ?_
  rintro e v3 ⟨rfl, hb3⟩
  refine hK.out _ _ (hHeld.below hb3) (fun hHeld => ?_)
  clear hK K hb3
  refine tks 7 ⟨some 26, _, _, _, _, none⟩ rfl ?_
  simp only [za, zb, zc, zd]
  refine tks 8 ⟨some 34, _, _, _, _, none⟩ rfl ?_
  simp only [za, zb, zc, zd]
  refine tks 9 ⟨some 35, _, _, _, _, none⟩ rfl ?_
  simp only [za, zb, zc, zd]
  refine tks 10 ⟨some 8, _, _, _, _, none⟩ rfl ?_
  simp only [za, zb, zc, zd]
  refine tks 11 ⟨some 9, _, _, _, _, none⟩ rfl ?_
  simp only [za, zb, zc, zd]
  refine wpAnyH_done (by kernel_rfl) ?_ _
  go_wp2_with fail
  go_meet
  case rel => exact ⟨rfl, rfl, hHeld⟩
 case rest =>
  clear c3_0_0 c3_0_1 c3_1_0 c3_1_1 c3_1_2 c3_1_3 c3_2_0 c3_2_1
  obtain ⟨rfl, rfl, K4⟩ := hcut
  clear K3
  skip
  obtain ⟨c4_0_0, c4_0_1⟩ := (bo1 K4).c2
  obtain ⟨c4_1_0, c4_1_1, c4_1_2, c4_1_3⟩ := (bo2 K4).c4
  obtain ⟨c4_2_0, c4_2_1⟩ := (bo3 K4).c2
  go_wp2_with (first | (refine wpList_load_mid rfl 46 _ rfl (w.heap.size) 0 rfl T _ (K4.out.at (w.heap.size) T (by simp)).all Tryz.underlying46 rfl (by rw [hT]; kernel_rfl) ?_; rw [hUA]) | fail)
  refine (MB.out _ (hL.out _ K4.out.1)).mono ?_
  rintro e W5 ⟨rfl, hb⟩
  have K5 := bsb K4 hb
  clear c4_0_0 c4_0_1 c4_1_0 c4_1_1 c4_1_2 c4_1_3 c4_2_0 c4_2_1
  clear hb K4
  obtain ⟨c5_0_0, c5_0_1⟩ := (bo1 K5).c2
  obtain ⟨c5_1_0, c5_1_1, c5_1_2, c5_1_3⟩ := (bo2 K5).c4
  obtain ⟨c5_2_0, c5_2_1⟩ := (bo3 K5).c2
  have Mz5 := bsn K5 [vi ki 0, vi ki V] 36
  have lt5_0 := (bo1 K5).1
  have lt5_1 := (bo2 K5).1
  have lt5_2 := (bo3 K5).1
  have lt5_3 := (bo4 K5).1
  go_upto_region 8 with fail
  refine bs_to Mz5 ?_
  clear c5_0_0 c5_0_1 c5_1_0 c5_1_1 c5_1_2 c5_1_3 c5_2_0 c5_2_1
  intro W6 K6
  clear Mz5 K5
  obtain ⟨c6_0_0, c6_0_1⟩ := (bo1 K6).c2
  obtain ⟨c6_1_0, c6_1_1⟩ := (bo2 K6).c2
  obtain ⟨c6_2_0, c6_2_1, c6_2_2, c6_2_3⟩ := (bo3 K6).c4
  obtain ⟨c6_3_0, c6_3_1⟩ := (bo4 K6).c2
  clear c6_0_0 c6_0_1 c6_1_0 c6_1_1 c6_2_0 c6_2_1 c6_2_2 c6_2_3 c6_3_0 c6_3_1
  obtain ⟨c6_0_0, c6_0_1⟩ := (bo1 K6).c2
  have r6_0 : W6.cell? ⟨w.heap.size + 1, 0, none⟩ = some (vi ki i) := (K6.out.at (w.heap.size + 1) [vi ki i, vi ki u] (by simp)).c 0 rfl
  have sr6_0 : W6.frozen? ⟨w.heap.size + 1, 0, none⟩ = false := (K6.out.at (w.heap.size + 1) [vi ki i, vi ki u] (by simp)).f 0 rfl
  have r6_1 : W6.cell? ⟨w.heap.size + 1, 1, none⟩ = some (vi ki u) := (K6.out.at (w.heap.size + 1) [vi ki i, vi ki u] (by simp)).c 1 rfl
  have sr6_1 : W6.frozen? ⟨w.heap.size + 1, 1, none⟩ = false := (K6.out.at (w.heap.size + 1) [vi ki i, vi ki u] (by simp)).f 1 rfl
  have Mz6 : Hid (BS w [(w.heap.size + 1, [vi ki 0, vi ki V]), (W5.heap.size, [vi ki 0, vi ki V]), (w.heap.size + 3, [vi ki 0, vi ki 0]), (w.heap.size + 2, [vi ki j, vi ki 0, vi ki d, vi ki n]), (w.heap.size, T)] (W6.setCells (w.heap.size + 1) 0 [vi ki 0, vi ki V])) := ((K6.out.perm (l' := [(w.heap.size + 1, [vi ki i, vi ki u]), (W5.heap.size, [vi ki 0, vi ki V]), (w.heap.size + 3, [vi ki 0, vi ki 0]), (w.heap.size + 2, [vi ki j, vi ki 0, vi ki d, vi ki n]), (w.heap.size, T)]) (by intro x hx; simp only [List.mem_cons, List.not_mem_nil, or_false] at hx ⊢; rcases hx with h | h | h | h | h <;> simp [h])).set [vi ki 0, vi ki V] rfl (by intro x hx; simp only [List.mem_cons, List.not_mem_nil, or_false] at hx; rcases hx with rfl | rfl | rfl | rfl <;> simp only [] <;> omega))
  simp only [World.setCells, Nat.zero_add] at Mz6
  go_upto_region 11 with fail
  refine gen_to (BS w [(w.heap.size + 1, [vi ki 0, vi ki V]), (W5.heap.size, [vi ki 0, vi ki V]), (w.heap.size + 3, [vi ki 0, vi ki 0]), (w.heap.size + 2, [vi ki j, vi ki 0, vi ki d, vi ki n]), (w.heap.size, T)]) Mz6.out ?_
  clear c6_0_0 c6_0_1 r6_0 sr6_0 r6_1 sr6_1
  intro W7 K7'
  have K7 : Hid (BS w [(w.heap.size + 1, [vi ki 0, vi ki V]), (W5.heap.size, [vi ki 0, vi ki V]), (w.heap.size + 3, [vi ki 0, vi ki 0]), (w.heap.size + 2, [vi ki j, vi ki 0, vi ki d, vi ki n]), (w.heap.size, T)] W7) := K7'
  clear K7' Mz6 K6
  obtain ⟨c7_0_0, c7_0_1⟩ := (bo1 K7).c2
  obtain ⟨c7_1_0, c7_1_1⟩ := (bo2 K7).c2
  obtain ⟨c7_2_0, c7_2_1⟩ := (bo3 K7).c2
  obtain ⟨c7_3_0, c7_3_1, c7_3_2, c7_3_3⟩ := (bo4 K7).c4
  go_wp2_with (first | (refine wpList_load_mid rfl 46 _ rfl (w.heap.size) 0 rfl T _ (K7.out.at (w.heap.size) T (by simp)).all Tryz.underlying46 rfl (by rw [hT]; kernel_rfl) ?_; rw [hUA]) | fail)
  refine (MO.out _ (hL.out _ K7.out.1)).mono ?_
  rintro e W8 ⟨rfl, hb⟩
  have K8 := bsb K7 hb
  clear c7_0_0 c7_0_1 c7_1_0 c7_1_1 c7_2_0 c7_2_1 c7_3_0 c7_3_1 c7_3_2 c7_3_3
  clear hb K7
  obtain ⟨c8_0_0, c8_0_1⟩ := (bo1 K8).c2
  obtain ⟨c8_1_0, c8_1_1⟩ := (bo2 K8).c2
  obtain ⟨c8_2_0, c8_2_1⟩ := (bo3 K8).c2
  obtain ⟨z8_2_0, z8_2_1⟩ := (bo3 K8).f2
  obtain ⟨c8_3_0, c8_3_1, c8_3_2, c8_3_3⟩ := (bo4 K8).c4
  have XF : Hid (Bx (W8.setCells (w.heap.size + 3) 0 [vi ki 0, vi ki X]) (w.heap.size + 3) [vi ki 0, vi ki X]) := (K8.out.at (w.heap.size + 3) [vi ki 0, vi ki 0] (by simp)).setAll _ rfl
  have BF : Hid (Below w.heap.size w (W8.setCells (w.heap.size + 3) 0 [vi ki 0, vi ki X])) := below_setCells (by omega) _ _ _ K8.out.1
  have y0 := XF.out.c 0 rfl
  have y1 := XF.out.c 1 rfl
  simp only [World.setCells, Nat.zero_add] at y0 y1
  clear XF
  go_wp2
  exact bodyPost_ret (v := .tuple #[.agg #[vi ki 0, vi ki X], vi ki E]) (by simp [results, Tryz.results10, go_sem, y0, y1]) rfl ⟨rfl, BF.out⟩
namespace Sm
def ln (T : Int) : Int := Cv.len (T / 12) (T % 12 + 1)
def Fi (T : Int) : Int := Cv.S (T / 12) + Cv.cum (T / 12) (T % 12 + 1)
theorem ln_bd (T : Int) : 28 ≤ ln T ∧ ln T ≤ 31 := Cv.len_01 _ _ (by omega) (by omega)
theorem Fi_succ (T : Int) : Fi (T + 1) = Fi T + ln T := by
 unfold Fi ln
 by_cases h : T % 12 = 11
 ·rw [show (T + 1) / 12 = T / 12 + 1 by omega, show (T + 1) % 12 + 1 = 1 by omega, Cv.cum_one, Cv.S_succ, h]
  have h1 := Cv.cum_succ (T / 12) 12 (by decide) (by decide)
  have h2 := Cv.cum_all (T / 12)
  have e : (12 : Int) + 1 = 13 := rfl
  rw [e] at h1
  have e2 : (11 : Int) + 1 = 12 := rfl
  rw [e2]
  omega
 ·rw [show (T + 1) / 12 = T / 12 by omega, show (T + 1) % 12 + 1 = (T % 12 + 1) + 1 by omega, Cv.cum_succ _ _ (by omega) (by omega)]
  omega
theorem Fi_add (T : Int) : ∀ n : Nat, Fi T ≤ Fi (T + n)
 | 0 => by simp
 | n + 1 => by
  have := Fi_add T n
  have h := Fi_succ (T + n)
  have b := ln_bd (T + n)
  rw [show T + ((n + 1 : Nat) : Int) = T + n + 1 by omega, h]
  omega
theorem Fi_mono {T U : Int} (h : T ≤ U) : Fi T ≤ Fi U := by
 have := Fi_add T (U - T).toNat
 rwa [show T + ((U - T).toNat : Int) = U by omega] at this
theorem day_lt {T U n q p : Int} (h : T < U) (hq : q ≤ ln T) (hp : 1 ≤ p) : Fi T + q - 1 < Fi U + p - 1 := by
 have := Fi_mono (show T + 1 ≤ U by omega)
 rw [Fi_succ] at this
 omega
def dk (T q k : Int) : Int := Fi (T + k) + Cvl.cut q (ln (T + k)) - 1
theorem cut_bd {q l : Int} (h1 : 1 ≤ q) (h2 : 28 ≤ l) : 1 ≤ Cvl.cut q l ∧ Cvl.cut q l ≤ l := by unfold Cvl.cut; split <;> omega
structure Gap (a b T U q p : Int) : Prop where
 ha : a = Fi T + q - 1
 hb : b = Fi U + p - 1
 q1 : 1 ≤ q
 q2 : q ≤ ln T
 p1 : 1 ≤ p
 p2 : p ≤ ln U
theorem Gap.le {a b T U q p : Int} (h : Gap a b T U q p) (hab : b ≤ a) : U ≤ T := by
 refine Int.not_lt.1 fun k => ?_
 have := day_lt (n := 0) k h.q2 h.p1
 have := h.ha
 have := h.hb
 omega
theorem Gap.same {a b T U q p : Int} (h : Gap a b T U q p) : -31 ≤ a - dk U p (T - U) ∧ a - dk U p (T - U) ≤ 31 := by
 unfold dk
 rw [show U + (T - U) = T by omega]
 have b := ln_bd T
 have c := cut_bd h.p1 b.1
 have := h.ha
 have := h.q1
 have := h.q2
 omega
end Sm
open Go.RowKit
theorem rst_yes {u : Int} (h : Dy.dok (u / 86400000000) = true) (w : World) (hw : Cvl.Lens w) : Calls Tryz.prog 17 #[.agg #[vi ki 0, vi ki u]] w fun r' w' => r' = zr (.bool true) ∧ Below w.heap.size w w' := by
 obtain ⟨u1, u2⟩ := dok_bd h
 have R := Dy.rst_any 0 u u1 u2 w hw
 rw [show Dy.sR 0 u = true from h] at R
 exact R
theorem pr_yes {m d n : Int} (h : Sp.pR 0 m d n = true) (w : World) : Calls Tryz.prog 18 #[.agg #[vi ki 0, vi ki m, vi ki d, vi ki n]] w fun r' w' => r' = zr (.bool true) ∧ Below w.heap.size w w' := by
 have b := pR_bd h
 have R := Sp.pr_any 0 m d n (by omega) (by omega) w
 rw [h] at R
 exact R
open Go.RowKit Sr
theorem znextE : ∀ args w, (callFunc 20 args).run Tryz.prog w = .ok (.enter 20 args) w := enters_of Tryz.func20 (by kernel_rfl) rfl
theorem tz_fol (Ok : World → Prop) (hOk : ∀ W V : World, Ok W → Below W.heap.size W V → Ok V) (hOL : ∀ W, Ok W → Cvl.Lens W) (T : List Value) (hT : T.length = 25) (RT : ∀ w : World, Ok w → Calls Tryz.prog 16 #[.agg T.toArray] w fun r' w' => r' = zr (.bool true) ∧ Below w.heap.size w w')
  (u bi bu M D U d : Int) (m : Nat) (N : Int → Int × Int) (VL : Int → Prop) (hm : m ≤ 1000) (hVL : ∀ x, VL x → Dy.dok (x / 86400000000) = true) (hu : VL u) (hb : Dy.sR bi bu = true) (b1 : -9223372036854775808 ≤ bu) (b2 : bu ≤ 9223372036854775807) (hp : Sp.pR 0 M D U = true) (hd : Sp.sgA 0 M D U = d) (hd0 : d ≠ 0)
  (hN : ∀ x, VL x → beyS bi bu d x = false → ∀ w : World, Ok w → Calls Tryz.prog 10 #[.agg T.toArray, .agg #[vi ki 0, vi ki x], .agg #[vi ki 0, vi ki M, vi ki D, vi ki U]] w fun r w' => r = zr (.tuple #[.agg #[vi ki 0, vi ki (N x).1], vi ki (N x).2]) ∧ Below w.heap.size w w') (hV : ∀ x, VL x → beyS bi bu d x = false → (N x).2 = 0 → VL (N x).1) (w : World) (hL : Ok w) :
  Calls Tryz.prog 6 #[.agg T.toArray, .agg #[vi ki 0, vi ki u], .agg #[vi ki bi, vi ki bu], .agg #[vi ki 0, vi ki M, vi ki D, vi ki U], vi ki (m : Int)] w fun r' w' => ∃ v, r' = zr (.tuple #[v, vi ki (folF N (beyS bi bu d) (leadS d) m u none []).2]) ∧ Below w.heap.size w w' ∧ w'.ownsRow w.heap.size 36 2 v (folF N (beyS bi bu d) (leadS d) m u none []).1.length (cT (folF N (beyS bi bu d) (leadS d) m u none []).1) := by
 have bp := pR_bd hp
 have BD : ∀ x, VL x → -9223372036854775808 ≤ x ∧ x ≤ 9223372036854775807 := fun x h => dok_bd (hVL x h)
 have SR : ∀ x, VL x → Dy.sR 0 x = true := fun x h => hVL x h
 have mo : mostB (m : Int) = true := by unfold mostB; rw [decide_eq_true (by omega), decide_eq_true (by omega)]; rfl
 have CP : ∀ (x : Int), VL x → ∀ w : World, Cvl.Lens w → _ := fun x hx w hw => Dy.scmp_any 0 x bi bu (BD x hx).1 (BD x hx).2 b1 b2 w hw
 have CQ : ∀ (q x : Int), VL q → VL x → ∀ w : World, Cvl.Lens w → _ := fun q x hq hx w hw => Dy.scmp_any 0 x 0 q (BD x hx).1 (BD x hx).2 (BD q hq).1 (BD q hq).2 w hw
 refine tz_run Ok T hT 0 u bi bu 0 M D U (m : Int) _ _ _ (fun w => by rw [← mo]; exact most_any _ w) RT (fun w hw => by rw [← SR u hu]; exact Dy.rst_any 0 u (BD u hu).1 (BD u hu).2 w (hOL w hw)) (fun w hw => by rw [← hb]; exact Dy.rst_any bi bu b1 b2 w (hOL w hw)) (fun w => by rw [← hp]; exact Sp.pr_any 0 M D U (by omega) (by omega) w) (fun w hw => ?_) w (fun W hB => hOk w W hL hB)
 refine fol_run Ok hOk _ _ znextE N (beyS bi bu d) (leadS d) VL u bi bu M D U d m hm hd0 hu _ _ rfl (fun x hx hbx w hw => ?_) hV (fun x hx w hw => ?_) (fun q x hq hx w hw => ?_) (fun w => by rw [← hd]; exact Sp.psign_any 0 M D U (by omega) (by omega) w) w hw
 ·exact znext_any Ok T hT 0 x 0 M D U 0 (N x).1 (N x).2 (fun w hw => hN x hx hbx w hw) w (fun W hB => hOk w W hw hB)
 ·exact bey_any 0 x bi bu d _ (CP x hx) w (Dy.lens_of (hOL w hw))
 ·exact lead_any 0 q bi bu d 0 x bi bu d _ (CQ q x hq hx) w (Dy.lens_of (hOL w hw))
attribute [local go_sem] Oper.semAt_some
def stK (st : Int) (FT : List TrR) (k : Nat) : Int := if k = 0 then st else (FT.getD (k - 1) zTr).at_
theorem stK_succ {st : Int} {FT : List TrR} {k : Nat} {y : TrR} (h : FT[k]? = some y) : stK st FT (k + 1) = y.at_ := by
 unfold stK
 rw [if_neg (by omega), Nat.add_sub_cancel, List.getD_eq_getElem?_getD, h]
 rfl
theorem getD_app {X Y : List TrR} {k : Nat} (h : k < X.length) : (X ++ Y).getD k zTr = X.getD k zTr := by
 rw [List.getD_eq_getElem?_getD, List.getD_eq_getElem?_getD, List.getElem?_append_left h]
theorem chs_ft (T : List Value) (hT : T.length = 25) (S : List Nat) (Ok : World → Prop) (hOk : OkS S Ok) (a b : Int) (ao : Option Addr) (n c : Nat) (hnc : n ≤ c) (L : List TrR) (h5 : T[5]? = some (.slice ao n c)) (h6 : T[6]? = some (.bool true)) (fr : Int) (h7 : T[7]? = some (vi ki fr)) (f1 : -1000000000000000000 ≤ fr) (f2 : fr ≤ 1000000000000000000) (FL : List Value) (hFL : T.drop 6 = FL) (hF : FL.length = 19) (hr : Zm.Rises (L.map (·.at_))) (h4 : L.length ≤ 4096) (hn : L.length = n)
  (TR : ∀ W, Ok W → TrAt W (.slice ao n c) L)
  (st : Int) (hst : st = max a (fr - 1)) (FT : List TrR) (hLF : ∀ x ∈ L, b < x.at_ → FT = []) (hlt : ∀ k, k < FT.length → stK st FT k < b)
  (NX : ∀ k, k ≤ FT.length → stK st FT k < b → ∃ (y : TrR) (er : Int), (∀ V : World, Ok V → Calls Tryz.prog 135 #[.agg FL.toArray, vi ki (stK st FT k)] V fun r w' => r = zr (.tuple #[.agg #[vi ki y.at_, vi ki y.off, .bool y.dst, .string y.ab], vi ki er]) ∧ Below V.heap.size V w') ∧ stK st FT k < y.at_ ∧ (k < FT.length → FT[k]? = some y ∧ y.at_ ≤ b) ∧ (k = FT.length → b < y.at_))
  (w : World) (m : Nat) (bt bf bo : Nat) (X1 : Bx w bt T) (X2 : Bx w bf [vi ki a]) (X3 : Bx w bo [vi ki b]) (O : Ok w) :
  SeqB m Tryz.prog 134 #[.pointer (some ⟨bt, 0, none⟩), .pointer (some ⟨bf, 0, none⟩), .pointer (some ⟨bo, 0, none⟩)] (bt :: bf :: bo :: S) (fun k => trV ((Zm.chg a b L ++ FT).getD k zTr)) (Zm.chg a b L ++ FT).length w := by
 intro l M J W hb hM hSM hJ hY h0
 have HS0 : Hid (ChB W T bt bf bo a b Ok S W) :=
  ⟨⟨X1.below hb, X2.below hb, X3.below hb, hOk, hOk.below O hb, fun k hk => Nat.lt_of_lt_of_le (hOk.lt w O k hk) hb.size, ⟨Nat.lt_of_lt_of_le X1.1 hb.size, Nat.lt_of_lt_of_le X2.1 hb.size, Nat.lt_of_lt_of_le X3.1 hb.size⟩, Nat.le_refl _⟩, Below.refl _ _⟩
 have BH : Hid (∀ V : World, Ok V → Calls Tryz.prog 113 #[.agg T.toArray, vi ki a] V fun r w' => r = zr (vi ki ((Zm.cntLe a (L.map (·.at_)) : Nat) : Int)) ∧ Below V.heap.size V w') := fun V hV => behind_any T hT L _ h5 a hr h4 V (TR V hV)
 have hC0 : Zm.cntLe a (L.map (·.at_)) ≤ n := by have := Zm.cntLe_le a (L.map (·.at_)); rw [List.length_map, hn] at this; exact this
 have HLF : Hid (∀ x ∈ L.drop (Zm.cntLe a (L.map (·.at_))), b < x.at_ → FT = []) := fun x hx h => hLF x (List.mem_of_mem_drop hx) h
 have HNX : Hid (∀ k, k ≤ FT.length → stK st FT k < b → ∃ (y : TrR) (er : Int), (∀ V : World, Ok V → Calls Tryz.prog 135 #[.agg FL.toArray, vi ki (stK st FT k)] V fun r w' => r = zr (.tuple #[.agg #[vi ki y.at_, vi ki y.off, .bool y.dst, .string y.ab], vi ki er]) ∧ Below V.heap.size V w') ∧ stK st FT k < y.at_ ∧ (k < FT.length → FT[k]? = some y ∧ y.at_ ≤ b) ∧ (k = FT.length → b < y.at_)) := NX
 have HLT : Hid (∀ k, k < FT.length → stK st FT k < b) := hlt
 clear hLF NX hlt
 unfold Zm.chg at hY ⊢
 generalize Zm.cntLe a (L.map (·.at_)) = C at *
 have SL : Hid (∀ V : World, (Instr.sliceAt 24 (.slice ao n c) (some (vi ki (C : Int))) none none).run Tryz.prog V = .ok (.slice (if c = C then ao else ao.map (·.add (C * 4))) (n - C) (c - C)) V) := fun V => run_slT ao n c C hC0 V
 have TD : Hid (∀ V, Ok V → TrAt V (.slice (if c = C then ao else ao.map (·.add (C * 4))) (n - C) (c - C)) (L.drop C)) := fun V hV => (TR V hV).drop hnc hC0
 have hlen : (L.drop C).length = n - C := by rw [List.length_drop, hn]
 have hm4 : n - C ≤ 4096 := by omega
 generalize L.drop C = D at *
 generalize (if c = C then ao else ao.map (·.add (C * 4))) = a5 at *
 obtain ⟨m5, hm5⟩ : ∃ m5, n - C = m5 := ⟨_, rfl⟩
 rw [hm5] at SL TD hlen hm4
 generalize c - C = c5 at *
 refine callsIn_wide.2 ?_
 go_enter Tryz.func134, Tryz.ntmps134
 go_upto_region 0 with fail
 go_cut [15, 16, 17] (fun v15 v16 v17 wx => v15 = .slice a5 m5 c5 ∧ v16 = vi ki (m5 : Int) ∧ v17 = vi ki 0 ∧ Hid (ChB W T bt bf bo a b Ok S wx))
 case first =>
  refine wp_region_held_drew (S := ChB W T bt bf bo a b Ok S) (by kernel_rfl) HS0.out.drew (fun hHeld => ?_)
  refine tks 0 ⟨some 10, _, _, _, _, none⟩ rfl ?_
  simp only [za, zb, zc, zd]
  refine tk (v := ?_) 1 ⟨some 11, _, _, _, _, none⟩ rfl ?_ ?_
  case refine_2 => (intro w9 hSw; have l1 := hSw.cs.xf.c 0 rfl; have l2 := hSw.cs.xt.c 5 h5; clear hSw; go_simp; try with_reducible rfl)
  simp only [za, zb, zc, zd]
  refine wpAnyH_take (i := 2) (v := .agg T.toArray) (oi := ⟨some 12, _, _, _, _, none⟩) rfl (by kernel_rfl) (by kernel_rfl) (by kernel_rfl) (fun _ _ _ h => h) (Or.inl ⟨by kernel_rfl, ?_⟩) (by assumption) ?_
  case refine_1 => (intro w9 hSw; exact exec_row rfl rfl hSw.cs.xt.all Tryz.underlying46 rfl (by rw [hT]; kernel_rfl))
  simp only [za, zb, zc, zd]
  refine tk (v := ?_) 3 ⟨some 13, _, _, _, _, none⟩ rfl ?_ ?_
  case refine_2 => (intro w9 hSw; have l1 := hSw.cs.xf.c 0 rfl; have l2 := hSw.cs.xt.c 5 h5; clear hSw; go_simp; try with_reducible rfl)
  simp only [za, zb, zc, zd]
  refine tks 7 ⟨some 17, _, _, _, _, none⟩ rfl ?_
  simp only [za, zb, zc, zd]
  refine rd 4 ⟨some 14, _, _, _, _, none⟩ rfl (fun K hK => ?_)
  go_simp
  refine (BH.out _ hHeld.cs.ok).mono ?_
  rintro e v1 ⟨rfl, hb1⟩
  refine hK.out _ _ (hHeld.below hb1) (fun hHeld => ?_)
  clear hK K hb1
  refine wpAnyH_take (i := 5) (v := .slice a5 m5 c5) (oi := ⟨some 15, _, _, _, _, none⟩) rfl (by kernel_rfl) (by kernel_rfl) (by kernel_rfl) (fun _ _ _ h => h) (Or.inl ⟨by kernel_rfl, ?_⟩) (by assumption) ?_
  case refine_1 => (intro w9 hSw; exact exec_slice rfl rfl rfl (SL.out w9))
  simp only [za, zb, zc, zd]
  refine tks 6 ⟨some 16, _, _, _, _, none⟩ rfl ?_
  simp only [za, zb, zc, zd]
  refine wpAnyH_done (by kernel_rfl) ?_ _
  go_wp2_with fail
  go_meet
  case rel => exact ⟨rfl, rfl, rfl, hHeld⟩
 case rest =>
  obtain ⟨rfl, rfl, rfl, HS1⟩ := hcut
  have J1 : J 0 wc := hJ _ _ _ h0 HS1.out.bel
  have AL : Hid (∀ j x, D[j]? = some x → x.at_ ≤ b → j < (D.takeWhile (fun x => decide (x.at_ ≤ b))).length → (D.takeWhile (fun x => decide (x.at_ ≤ b))).getD j zTr = x) := fun j x hx _ hj => Zm.tw_get hx hj
  go_wp2_with fail
  go_loopw [17] (fun iv wr => ∃ i : Nat, iv = vi ki (i : Int) ∧ i ≤ m5 ∧ Hid (ChS W T bt bf bo a b Ok S wr ∧ J i wr ∧ ∀ j x, j < i → D[j]? = some x → x.at_ ≤ b)) (fun iv _ => m5 - (intOf iv).toNat)
  case atStart => exact ⟨0, rfl, Nat.zero_le _, HS1.out.cs, J1, fun j x hj => absurd hj (Nat.not_lt_zero _)⟩
  case round =>
   obtain ⟨i, rfl, hi, HR⟩ := hrel
   by_cases hlt : i < m5
   ·obtain ⟨x, hx⟩ : ∃ x, D[i]? = some x := ⟨_, List.getElem?_eq_getElem (by omega)⟩
    obtain ⟨g, o, c', hsv, hrg⟩ := (TD.out wr HR.out.1.ok).row hx
    rw [hlen] at hsv
    simp only [Value.slice.injEq, true_and] at hsv
    obtain ⟨rfl, rfl⟩ := hsv
    have HRG : Hid (wr.rangeAt g (o + i * 4) [vi ki x.at_, vi ki x.off, .bool x.dst, .string x.ab]) := hrg
    clear hrg
    have hlt' : (i : Int) < (m5 : Int) := by omega
    have hn5 := HR.out.1
    have hba : Below wr.heap.size wr (wr.alloc (.cells #[vi ki x.at_, vi ki x.off, .bool x.dst, .string x.ab] 23)) := (Below.refl _ _).alloc (Nat.le_refl _) _
    have HZ : Hid (ChS W T bt bf bo a b Ok S (wr.alloc (.cells #[vi ki x.at_, vi ki x.off, .bool x.dst, .string x.ab] 23)) ∧ J i (wr.alloc (.cells #[vi ki x.at_, vi ki x.off, .bool x.dst, .string x.ab] 23)) ∧ Bx (wr.alloc (.cells #[vi ki x.at_, vi ki x.off, .bool x.dst, .string x.ab] 23)) wr.heap.size [vi ki x.at_, vi ki x.off, .bool x.dst, .string x.ab]) := ⟨hn5.below hba, hJ _ _ _ HR.out.2.1 (hba.mono hn5.wsz), Bx.new wr [vi ki x.at_, vi ki x.off, .bool x.dst, .string x.ab] _⟩
    have hwr := hn5.wsz
    have HP : Hid (∀ j x, j < i → D[j]? = some x → x.at_ ≤ b) := HR.out.2.2
    clear hn5 HR hba
    go_upto_region 3 with (first | (refine wpList_load_mid rfl 23 _ rfl g (o + i * 4) rfl [vi ki x.at_, vi ki x.off, .bool x.dst, .string x.ab] _ HRG.out Tryz.underlying23 rfl (by kernel_rfl) ?_) | fail)
    refine gen_code (fun V => ChS W T bt bf bo a b Ok S V ∧ J i V ∧ Bx V wr.heap.size [vi ki x.at_, vi ki x.off, .bool x.dst, .string x.ab]) HZ.out ?_
    clear HZ HRG
    rintro V ⟨C1, J2, B1⟩
    have o0 := C1.xo.c 0 rfl
    have x0 := B1.c 0 rfl
    have x1 := B1.c 1 rfl
    have x2 := B1.c 2 rfl
    have x3 := B1.c 3 rfl
    by_cases hgt : b < x.at_
    ·have hN : (D.takeWhile (fun x => decide (x.at_ ≤ b))).length = i := Zm.tw_at (fun j y hj hy => decide_eq_true (HP.out j y hj hy)) hx (decide_eq_false (by omega))
     have hF0 : FT = [] := HLF.out x (List.mem_of_getElem? hx) hgt
     have HJ2 : Hid (J (D.takeWhile (fun x => decide (x.at_ ≤ b)) ++ FT).length V) := by rw [hF0, List.append_nil, hN]; exact J2
     clear hY C1 B1 J2 AL
     refine (wpIn_wide (n := 10)).1 ?_
     gi_wp2
     refine ⟨fun _ h => (by cases h), ?_⟩
     gi_wp2
     go_wp2_with fail
     refine bodyPost_ret (results_none rfl _ _ _) rfl ?_
     exact ⟨⟨_, rfl⟩, HJ2.out⟩
    ·have hle : x.at_ ≤ b := by omega
     have hiN := Zm.tw_lt (fun j y hj hy => decide_eq_true (HP.out j y hj hy)) hx (decide_eq_true hle)
     have hY1 := hY i V (by rw [List.length_append]; omega) C1.wsz J2
     rw [getD_app hiN, Zm.tw_get hx hiN] at hY1
     obtain ⟨fn, tmps, assign, body, hy, hR⟩ := YieldAt_wide (m' := 10 - 1) hY1
     simp only [trV] at hy
     have HR : Hid (RoundIn Fence.wide (10 - 1) Tryz.prog l fn tmps assign body V fun e W' => e = zr (.bool true) ∧ J (i + 1) W' ∧ Turns M V W') := hR
     clear hR hY1 J2 B1
     refine (wpIn_wide (n := 10)).1 ?_
     gi_wp2
     refine HR.out.mono ?_
     rintro e' V7 ⟨rfl, hJ7, ht7⟩
     have C7 := C1.turns ht7 hSM
     clear HR hy C1 o0 x0 x1 x2 x3
     gi_wp2
     go_wp2_with fail
     exact ⟨⟨i + 1, by simp, by omega, C7, hJ7, fun j y hj hy => by
      by_cases hji : j = i
      ·subst hji; rw [hx] at hy; cases hy; exact hle
      ·exact HP.out j y (by omega) hy⟩, by simp [intOf]; omega⟩
   ·obtain rfl : i = m5 := by omega
    have hN : (D.takeWhile (fun x => decide (x.at_ ≤ b))).length = i := by
     rw [Zm.tw_all (fun j x hx => decide_eq_true (HR.out.2.2 j x (by have := (List.getElem?_eq_some_iff.1 hx).1; omega) hx))]; exact hlen
    have g6 : wr.cell? ⟨bt, 6, none⟩ = some (.bool true) := HR.out.1.xt.c 6 h6
    have g7 : wr.cell? ⟨bt, 7, none⟩ = some (vi ki fr) := HR.out.1.xt.c 7 h7
    have ga : wr.cell? ⟨bf, 0, none⟩ = some (vi ki a) := HR.out.1.xf.c 0 rfl
    have wf : IntKind.i64.wrap (fr - 1) = fr - 1 := by rw [IntKind.wrap_i64]; omega
    have HC : Hid (ChS W T bt bf bo a b Ok S wr) := HR.out.1
    have HJ : Hid (J (i + 0) wr) := HR.out.2.1
    have HL2 : Hid ((D.takeWhile (fun x => decide (x.at_ ≤ b)) ++ FT).length = i + FT.length) := by show _ = _; rw [List.length_append, hN]
    have HG : Hid (∀ k y, FT[k]? = some y → (D.takeWhile (fun x => decide (x.at_ ≤ b)) ++ FT).getD (i + k) zTr = y) := fun k y hk => by
     rw [List.getD_eq_getElem?_getD, List.getElem?_append_right (by omega), hN, Nat.add_sub_cancel_left, hk]; rfl
    clear HR hN AL
    go_wp2_with fail
    go_loopw [7] (fun av V => ∃ k : Nat, av = vi ki (stK st FT k) ∧ k ≤ FT.length ∧ Hid (ChS W T bt bf bo a b Ok S V) ∧ Hid (J (i + k) V)) (fun av _ => (b - intOf av).toNat)
    case atStart => exact ⟨0, by rw [show stK st FT 0 = st from rfl, hst], Nat.zero_le _, HC, HJ⟩
    case round =>
     clear HC HJ g6 g7 ga
     obtain ⟨k, rfl, hk, HC, HJ⟩ := hrel
     have gb : wr.cell? ⟨bo, 0, none⟩ = some (vi ki b) := HC.out.xo.c 0 rfl
     by_cases hlb : stK st FT k < b
     ·obtain ⟨y, er, hnx, hyl, hyk, hyf⟩ := HNX.out k hk hlb
      have HN1 : Hid (∀ V : World, Ok V → Calls Tryz.prog 135 #[.agg FL.toArray, vi ki (stK st FT k)] V fun r w' => r = zr (.tuple #[.agg #[vi ki y.at_, vi ki y.off, .bool y.dst, .string y.ab], vi ki er]) ∧ Below V.heap.size V w') := hnx
      have RG : Hid (wr.rangeAt bt 6 FL) := fun q x hx => HC.out.xt.c (6 + q) (by rw [← hFL, List.getElem?_drop] at hx; exact hx)
      clear hnx
      obtain ⟨s, hs⟩ : ∃ s, stK st FT k = s := ⟨_, rfl⟩
      rw [hs] at hlb hyl HN1 ⊢
      have HSK : Hid (stK st FT k = s) := hs
      clear hs
      generalize hFA : FL.toArray = FA at *
      go_wp2_with (first | (refine wpList_load_mid rfl 44 _ rfl bt 6 rfl FL _ RG.out Tryz.underlying44 rfl (by rw [hF]; kernel_rfl) ?_; rw [hFA]) | fail)
      refine (HN1.out _ HC.out.ok).mono ?_
      rintro e1 V1 ⟨rfl, hb1⟩
      have C1 := HC.out.below hb1
      have hwV := C1.wsz
      have hba : Below V1.heap.size V1 (V1.alloc (.cells #[vi ki y.at_, vi ki y.off, .bool y.dst, .string y.ab] 23)) := (Below.refl _ _).alloc (Nat.le_refl _) _
      have HZ : Hid (ChS W T bt bf bo a b Ok S (V1.alloc (.cells #[vi ki y.at_, vi ki y.off, .bool y.dst, .string y.ab] 23)) ∧ J (i + k) (V1.alloc (.cells #[vi ki y.at_, vi ki y.off, .bool y.dst, .string y.ab] 23)) ∧ Bx (V1.alloc (.cells #[vi ki y.at_, vi ki y.off, .bool y.dst, .string y.ab] 23)) V1.heap.size [vi ki y.at_, vi ki y.off, .bool y.dst, .string y.ab]) :=
       ⟨C1.below hba, hJ _ _ _ (hJ _ _ _ HJ.out (hb1.mono HC.out.wsz)) (hba.mono C1.wsz), Bx.new V1 [vi ki y.at_, vi ki y.off, .bool y.dst, .string y.ab] 23⟩
      clear C1 hba hb1 HC HJ RG HN1 gb
      go_upto_region 9 with fail
      refine gen_code (fun V => ChS W T bt bf bo a b Ok S V ∧ J (i + k) V ∧ Bx V V1.heap.size [vi ki y.at_, vi ki y.off, .bool y.dst, .string y.ab]) HZ.out ?_
      clear HZ
      rintro V ⟨C2, J2, B2⟩
      have o0 := C2.xo.c 0 rfl
      have x0 := B2.c 0 rfl
      have x1 := B2.c 1 rfl
      have x2 := B2.c 2 rfl
      have x3 := B2.c 3 rfl
      by_cases hkl : k < FT.length
      ·obtain ⟨hy1, hy2⟩ := hyk hkl
       have hY1 := hY (i + k) V (by rw [HL2.out]; omega) C2.wsz J2
       rw [HG.out k y hy1] at hY1
       obtain ⟨fn, tmps, assign, body, hy, hR⟩ := YieldAt_wide (m' := 10 - 1) hY1
       simp only [trV] at hy
       have HR : Hid (RoundIn Fence.wide (10 - 1) Tryz.prog l fn tmps assign body V fun e W' => e = zr (.bool true) ∧ J (i + k + 1) W' ∧ Turns M V W') := hR
       have HB2 : Hid (Bx V V1.heap.size [vi ki y.at_, vi ki y.off, .bool y.dst, .string y.ab]) := B2
       have HY1 : Hid (FT[k]? = some y) := hy1
       clear hR hY1 J2 B2 hyk hyf hy1
       refine (wpIn_wide (n := 10)).1 ?_
       gi_wp2
       refine HR.out.mono ?_
       rintro e' V7 ⟨rfl, hJ7, ht7⟩
       have C7 := C2.turns ht7 hSM
       have B7 : Bx V7 V1.heap.size [vi ki y.at_, vi ki y.off, .bool y.dst, .string y.ab] := bx_turns HB2.out ht7 (fun q => by have := hM _ q; omega)
       have z0 := B7.c 0 rfl
       clear HR hy C2 o0 x0 x1 x2 x3 HB2
       gi_wp2
       go_wp2_with fail
       exact ⟨⟨k + 1, by rw [stK_succ HY1.out], by omega, C7, hJ7⟩, by simp [intOf]; omega⟩
      ·have hkF : k = FT.length := by omega
       have hgt := hyf hkF
       have HJ2 : Hid (J (D.takeWhile (fun x => decide (x.at_ ≤ b)) ++ FT).length V) := by rw [HL2.out, ← hkF]; exact J2
       clear hY C2 B2 J2 hyk hyf
       refine (wpIn_wide (n := 10)).1 ?_
       gi_wp2
       refine ⟨fun _ h => (by cases h), ?_⟩
       gi_wp2
       go_wp2_with fail
       refine bodyPost_ret (results_none rfl _ _ _) rfl ?_
       exact ⟨⟨_, rfl⟩, HJ2.out⟩
     ·have hkF : k = FT.length := by
       rcases Nat.lt_or_ge k FT.length with g | g
       ·exact absurd (HLT.out k g) hlb
       ·omega
      have HJ2 : Hid (J (D.takeWhile (fun x => decide (x.at_ ≤ b)) ++ FT).length wr) := by rw [HL2.out, ← hkF]; exact HJ.out
      obtain ⟨s, hs⟩ : ∃ s, stK st FT k = s := ⟨_, rfl⟩
      rw [hs] at hlb ⊢
      clear hY HJ hs
      go_wp2_with fail
      refine bodyPost_end (results_none rfl _ _ _) rfl ?_
      exact ⟨⟨_, rfl⟩, by have := HJ2.out; rw [List.length_append] at this; exact this⟩
end Go.Proofs.YtpdmndlpgjjopaaGreatDoor
