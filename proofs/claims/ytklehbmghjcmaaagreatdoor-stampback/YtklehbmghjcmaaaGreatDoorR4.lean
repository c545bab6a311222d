import Derived.Test.YtklehbmghjcmaaaGreatDoorRz
import Derived.Test.YtklehbmghjcmaaaGreatDoorR3
import Derived.RangeFuncNested
import Derived.RangeFuncLeaves
import Derived.RangeFuncBox
import Derived.OrdersHeld
import Derived.OrdersIn
import Derived.Deep.RegionHeld
import Derived.Maps.OwnIn
import Derived.Maps.AppendAt
import Derived.Deep.Cut
open Go.Value renaming int → vi
open Go.IntKind renaming i64 → ki
open List renaming setIfInBounds_toArray → zb, set_cons_zero → zc, set_cons_succ → zd
open Go.Act renaming put → za
open Go.Ending renaming returned → zr
set_option maxRecDepth 100000
set_option maxHeartbeats 16000000
set_option linter.unusedVariables false
namespace Go.Proofs.YtklehbmghjcmaaaGreatDoor
open Go.RowKit Sr
def curT (f : TrR) (L : List TrR) (i : Nat) : TrR := if i = 0 then f else L.getD (i - 1) f
theorem curT_succ {f x : TrR} {L : List TrR} {i : Nat} (h : L[i]? = some x) : curT f L (i + 1) = x := by
 unfold curT
 rw [if_neg (by omega), Nat.add_sub_cancel, List.getD_eq_getElem?_getD, h]; rfl
end Go.Proofs.YtklehbmghjcmaaaGreatDoor
namespace Go.Proofs.YtklehbmghjcmaaaGreatDoor
open Go.RowKit Sr
end Go.Proofs.YtklehbmghjcmaaaGreatDoor
namespace Go.Proofs.YtklehbmghjcmaaaGreatDoor
open Go.RowKit Sr
end Go.Proofs.YtklehbmghjcmaaaGreatDoor
namespace Go.Proofs.YtklehbmghjcmaaaGreatDoor
open Go.RowKit Sr
end Go.Proofs.YtklehbmghjcmaaaGreatDoor
namespace Go.Proofs.YtklehbmghjcmaaaGreatDoor
open Go.RowKit Sr
theorem rises_of : ∀ (L : List TrR), (∀ j p x, L[j]? = some p → L[j + 1]? = some x → p.at_ < x.at_) → Zm.Rises (L.map (·.at_))
 | [], _ => trivial
 | [_], _ => trivial
 | a :: b :: l, h => ⟨h 0 a b rfl rfl, rises_of (b :: l) (fun j p x hp hx => h (j + 1) p x hp hx)⟩
end Go.Proofs.YtklehbmghjcmaaaGreatDoor
namespace Go.Proofs.YtklehbmghjcmaaaGreatDoor
open Go.RowKit Sr
def atP (b : Bool) (y : Int) (has : Bool) (fr t : Int) (f : TrR) (L : List TrR) (px : TrR) : TrR := if b = true then (if askY y = true then (if has = true ∧ fr ≤ t then px else curT f L (Zm.cntLe t (L.map (·.at_)))) else zTr) else zTr
def atE (b : Bool) (y : Int) : Int := if b = true then (if askY y = true then 0 else 10) else 1
abbrev trV (x : TrR) : Value := .agg #[vi ki x.at_, vi ki x.off, .bool x.dst, .string x.ab]
theorem cnt_get {t : Int} {L : List TrR} {k : Nat} (h : Zm.cntLe t (L.map (·.at_)) = k + 1) : ∃ x, L[k]? = some x := by
 have := Zm.cntLe_le t (L.map (·.at_))
 rw [List.length_map, h] at this
 exact ⟨_, List.getElem?_eq_getElem (by omega)⟩
theorem stand_any (nm : ByteArray) (f : TrR) (sv : Value) (FL : List Value) (hF : FL.length = 19) (has : Bool) (fr t : Int) (f0 : FL[0]? = some (.bool has)) (f1 : FL[1]? = some (vi ki fr)) (L : List TrR) (hr : Zm.Rises (L.map (·.at_))) (h4 : L.length ≤ 4096) (px : TrR) (er : Int) (w : World) (HT : TrAt w sv L)
  (FA : has = true → fr ≤ t → ∀ W : World, Below w.heap.size w W → Calls Tryz.prog 125 #[.agg FL.toArray, vi ki t] W fun r w' => r = zr (.tuple #[trV px, vi ki er]) ∧ Below W.heap.size W w') :
  Calls Tryz.prog 79 #[.agg (tbF nm f sv FL).toArray, vi ki t] w fun r w' => r = zr (trV (if has = true ∧ fr ≤ t then px else curT f L (Zm.cntLe t (L.map (·.at_))))) ∧ Below w.heap.size w w' := by
 have BH : ∀ W : World, Below w.heap.size w W → Calls Tryz.prog 127 #[.agg (tbF nm f sv FL).toArray, vi ki t] W fun r w' => r = zr (vi ki (Zm.cntLe t (L.map (·.at_)) : Int)) ∧ Below W.heap.size W w' := fun W hb => behind_any _ (tbF_len hF) L sv rfl t hr h4 W (HT.mv hb)
 cases hc : Zm.cntLe t (L.map (·.at_)) with
 | zero =>
  rw [hc] at BH
  cases has with
  | false => rw [if_neg (fun q => absurd q.1 (by decide))]; exact stand_first_n nm f sv FL hF fr t f0 f1 w BH
  | true =>
   by_cases hy : fr ≤ t
   ·rw [if_pos ⟨rfl, hy⟩]; exact stand_foot nm f sv FL hF fr t f0 f1 hy px er w (FA rfl hy)
   ·rw [if_neg (fun q => hy q.2)]; exact stand_first_e nm f sv FL hF fr t f0 f1 hy w BH
 | succ k =>
  rw [hc] at BH
  obtain ⟨x, hx⟩ := cnt_get hc
  rw [curT_succ hx]
  cases has with
  | false => rw [if_neg (fun q => absurd q.1 (by decide))]; exact stand_tr_n nm f sv FL hF fr t f0 f1 L h4 k x hx w HT BH
  | true =>
   by_cases hy : fr ≤ t
   ·rw [if_pos ⟨rfl, hy⟩]; exact stand_foot nm f sv FL hF fr t f0 f1 hy px er w (FA rfl hy)
   ·rw [if_neg (fun q => hy q.2)]; exact stand_tr_e nm f sv FL hF fr t f0 f1 hy L h4 k x hx w HT BH
theorem zat_any (nm : ByteArray) (f : TrR) (sv : Value) (FL : List Value) (hF : FL.length = 19) (has : Bool) (fr t : Int) (f0 : FL[0]? = some (.bool has)) (f1 : FL[1]? = some (vi ki fr)) (L : List TrR) (b : Bool) (hr : b = true → Zm.Rises (L.map (·.at_)) ∧ L.length ≤ 4096) (y : Int) (px : TrR) (er : Int) (w : World) (HT : TrAt w sv L)
  (RT : ∀ W : World, Below w.heap.size w W → Calls Tryz.prog 31 #[.agg (tbF nm f sv FL).toArray] W fun r w' => r = zr (.bool b) ∧ Below W.heap.size W w')
  (YA : ∀ W : World, Below w.heap.size w W → Calls Tryz.prog 124 #[vi ki t] W fun r w' => r = zr (vi ki y) ∧ w' = W)
  (FA : b = true → askY y = true → has = true → fr ≤ t → ∀ W : World, Below w.heap.size w W → Calls Tryz.prog 125 #[.agg FL.toArray, vi ki t] W fun r w' => r = zr (.tuple #[trV px, vi ki er]) ∧ Below W.heap.size W w') :
  Calls Tryz.prog 33 #[.agg (tbF nm f sv FL).toArray, vi ki t] w fun r w' => r = zr (.tuple #[trV (atP b y has fr t f L px), vi ki (atE b y)]) ∧ Below w.heap.size w w' := by
 unfold atP atE
 cases b with
 | false => rw [if_neg (by decide), if_neg (by decide)]; exact zat_no _ (tbF_len hF) t w RT
 | true =>
  rw [if_pos rfl, if_pos rfl]
  have AS : ∀ W : World, Below w.heap.size w W → Calls Tryz.prog 78 #[vi ki t] W fun r w' => r = zr (.bool (askY y)) ∧ w' = W := fun W hb => asked_any t y W (YA W hb)
  cases ha : askY y with
  | false => rw [ha] at AS; rw [if_neg (by decide), if_neg (by decide)]; exact zat_range _ (tbF_len hF) t w RT AS
  | true =>
   rw [ha] at AS
   rw [if_pos rfl, if_pos rfl]
   obtain ⟨hr1, hr2⟩ := hr rfl
   exact zat_yes _ (tbF_len hF) t _ w RT AS (fun W hb => stand_any nm f sv FL hF has fr t f0 f1 L hr1 hr2 px er W (HT.mv hb) (fun h1 h2 W' hb' => FA rfl ha h1 h2 W' (hb.trans (hb'.mono hb.size))))
end Go.Proofs.YtklehbmghjcmaaaGreatDoor
namespace Go.Proofs.YtklehbmghjcmaaaGreatDoor
open Go Go.RowKit
structure Turns (M : List Nat) (W W' : World) : Prop where
 os : W'.os = W.os
 tape : W'.tape = W.tape
 output : W'.output = W.output
 size : W.heap.size ≤ W'.heap.size
 block : ∀ k, k < W.heap.size → k ∉ M → W'.heap[k]? = W.heap[k]?
theorem Turns.refl (M : List Nat) (W : World) : Turns M W W := ⟨rfl, rfl, rfl, Nat.le_refl _, fun _ _ _ => rfl⟩
theorem Turns.trans {M : List Nat} {A B C : World} (h : Turns M A B) (k : Turns M B C) : Turns M A C :=
 ⟨k.os.trans h.os, k.tape.trans h.tape, k.output.trans h.output, Nat.le_trans h.size k.size, fun i hi hm => (k.block i (Nat.lt_of_lt_of_le hi h.size) hm).trans (h.block i hi hm)⟩
theorem Turns.mono {M M' : List Nat} {A B : World} (h : Turns M A B) (hm : ∀ k ∈ M, k ∈ M') : Turns M' A B := ⟨h.os, h.tape, h.output, h.size, fun k hk h' => h.block k hk (fun q => h' (hm k q))⟩
theorem Turns.of_below {M : List Nat} {A B : World} (h : Below A.heap.size A B) : Turns M A B := ⟨h.os, h.tape, h.output, h.size, fun k hk _ => h.block k hk⟩
theorem Turns.grown {M : List Nat} {A B : World} {r : Nat} (h : A.grownBy B (some r)) (hr : r ∈ M) : Turns M A B := ⟨h.os, h.tape, h.output, h.size, fun k hk hm => h.block k hk (fun q => hm (by cases q; exact hr))⟩
theorem Turns.putObj {M : List Nat} (W : World) {l : Nat} (o : Obj) (hl : l ∈ M) : Turns M W (W.putObj l o) :=
 ⟨rfl, rfl, rfl, by simp, fun k _ hm => World.putObj_heap_other (by intro e; subst e; exact hm hl)⟩
theorem Turns.setCell {M : List Nat} (W : World) (a : Addr) (v : Value) (hl : a.block ∈ M) : Turns M W (W.setCell a v) :=
 ⟨rfl, rfl, rfl, by show W.heap.size ≤ (W.heap.modify _ _).size; rw [Array.size_modify]; exact Nat.le_refl _, fun k _ hm => Below.heap_setCell W a v k (by intro e; subst e; exact hm hl)⟩
theorem Turns.alloc (M : List Nat) (W : World) (o : Obj) : Turns M W (W.alloc o) := .of_below ((Below.refl _ W).alloc (Nat.le_refl _) o)
theorem Turns.below {M : List Nat} {A B : World} {n : Nat} (h : Turns M A B) (hn : n ≤ A.heap.size) (hm : ∀ k ∈ M, n ≤ k) : Below n A B :=
 ⟨h.os, h.tape, h.output, h.size, fun k hk => h.block k (by omega) (fun q => by have := hm k q; omega)⟩
def SeqB (n : Nat) (P : Program) (gf : Nat) (lb : Array Value) (S : List Nat) (vs : Nat → Value) (N : Nat) (w : World) : Prop :=
 ∀ (l : Nat) (M : List Nat) (J : Nat → World → Prop) (W : World), Below w.heap.size w W → (∀ k ∈ M, k < W.heap.size) → (∀ k ∈ S, k ∉ M) →
  (∀ k A A', J k A → Below W.heap.size A A' → J k A') →
  (∀ k W1, k < N → W.heap.size ≤ W1.heap.size → J k W1 → YieldAt Fence.wide (n - 1) P l #[vs k] W1 fun e W' => e = zr (.bool true) ∧ J (k + 1) W' ∧ Turns M W1 W') →
  J 0 W →
  CallsIn Fence.wide n P gf (#[.func (.yield l) #[] #[]] ++ lb) W fun e W' => (∃ v, e = .returned v) ∧ J N W'
def roundB (M : List Nat) (I : World → Prop) (W : World) : Exit → Act → World → Prop
 | .normal, _, W' => Turns M W W' ∧ I W'
 | _, _, _ => False
theorem rangeB {n : Nat} {P : Program} {g : Operand} {ps : Array Tmp} {assign body : Code} {Q : Exit → Act → World → Prop} {a : Act} {w : World}
  (h1 : 1 ≤ n) {gf : Nat} {lb : Array Value} (hg : a.eval g = .func (.func gf) #[] lb) (eg : ∀ args w, (callFunc gf args).run P w = .ok (.enter gf args) w)
  {S : List Nat} {vs : Nat → Value} {N : Nat} (hseq : SeqB (n - 1) P gf lb S vs N w) (M : List Nat) (hM : ∀ k ∈ M, k < w.heap.size) (hS : ∀ k ∈ S, k < w.heap.size) (hSM : ∀ k ∈ S, k ∉ M) (hps : ps.size = 1)
  (I : Nat → World → Prop) (hI : ∀ k A A', I k A → Below w.heap.size A A' → I k A') (h0 : I 0 w) (Ax : Nat → Act → World → Prop)
  (hAx : ∀ k a' W l o o', Ax k a' W → W.heap[l]? = some o → o.isCells = false → Ax k a' (W.putObj l o'))
  (hassign : ∀ (l k : Nat) (W : World) (K : Act → World → Prop), w.heap.size < W.heap.size → (∀ a' W', Below W.heap.size W W' → Ax k a' W' → K a' W') →
   assign.wpIn (Fence.wide.inRound l) (n - 1 - 1) P (Exit.then K (fun _ _ _ => False)) { tmps := (ps.zip #[vs k]).foldl (fun t (p, v) => t.setIfInBounds p v) a.tmps, defers := [] } W)
  (hbody : ∀ (l k : Nat) (a' : Act) (W : World), I k W → Ax k a' W → k < N → w.heap.size < W.heap.size → body.wpIn (Fence.wide.inRound l) (n - 1 - 1) P (roundB M (I (k + 1)) W) a' W)
  (hdone : ∀ (D : Nat) (W : World), w.heap.size ≤ D → I N W → W.heap[D]? = some (.deferred (some [])) → Q .normal { a with defers := { target := .collected D, args := #[] } :: a.defers } W) :
  (Code.rangeFunc g ps assign body).wpIn Fence.wide n P Q a w := by
 refine wpIn_rangeFunc ?_
 intro fn hfn
 rw [show Fence.wide.round = none from rfl]
 let rec' : LoopState → Option Code → Loop := fun st pe => { state := st, pending := pe, fn, tmps := a.tmps, params := ps, assign, body, defers := w.heap.size }
 obtain ⟨W1, hW1⟩ : ∃ W1, (w.alloc (.deferred (some []))).alloc (.loop (rec' .ready none)) = W1 := ⟨_, rfl⟩
 have hz1 : W1.heap.size = w.heap.size + 2 := by rw [← hW1]; simp
 have hL1 : W1.heap[w.heap.size + 1]? = some (.loop (rec' .ready none)) := by
  rw [← hW1]; have := World.alloc_heap_new (w.alloc (.deferred (some []))) (.loop (rec' .ready none)); rwa [World.size_alloc] at this
 have hK1 : W1.heap[w.heap.size]? = some (.deferred (some [])) := by
  rw [← hW1]; exact (Below.heap_alloc _ _ _ (by simp)).trans (World.alloc_heap_new w _)
 have hb1 : Below w.heap.size w W1 := by
  rw [← hW1]; exact ((Below.refl _ w).alloc (Nat.le_refl _) _).alloc (by simp) _
 have hI1 : I 0 W1 := hI _ _ _ h0 hb1
 refine ⟨w.heap.size + 1, [{ target := .collected w.heap.size, args := #[] }], W1, { target := .fn (.func gf) lb, args := #[.func (.yield (w.heap.size + 1)) #[] #[]] }, W1, gf,
  #[.func (.yield (w.heap.size + 1)) #[] #[]] ++ lb, W1, ?_, ?_, ?_, ?_, fun _ => h1, ?_⟩
 ·rw [← hW1]; exact run_enterLoop_outer _ _ _ _ _
 ·simp only [resolve, hg]
  simp [go_sem]
 ·intro f' hf'; simp [Target.leads] at hf'; subst hf'; trivial
 ·simp [invoke, go_sem, eg]
 ·refine (hseq (w.heap.size + 1) ((w.heap.size + 1) :: M)
   (fun k W => I k W ∧ W.heap[w.heap.size + 1]? = some (.loop (rec' .ready none)) ∧ W.heap[w.heap.size]? = some (.deferred (some [])))
   W1 hb1
   (fun k hk => by rcases List.mem_cons.1 hk with rfl | hk; omega; have := hM k hk; omega)
   (fun k hk q => by rcases List.mem_cons.1 q with e | q; have := hS k hk; omega; exact hSM k hk q)
   (fun k A B hs hb => ⟨hI _ _ _ hs.1 (hb.mono (by omega)), (hb.block _ (by omega)).trans hs.2.1, (hb.block _ (by omega)).trans hs.2.2⟩)
   ?_ ⟨hI1, hL1, hK1⟩).mono ?_
  ·rintro k W hkN hsW ⟨hi, hl, hk⟩
   have hlt : w.heap.size + 1 < W.heap.size := (Array.getElem?_eq_some_iff.1 hl).1
   have hy := run_yield (P := P) (args := #[vs k]) hl (by simp [rec', hps])
   refine ⟨fn, _, assign, body, hy, roundIn_of_wpIn hfn (hassign _ k W _ (by omega) (fun a' Wa hba hxa => ?_))⟩
   have hbt : Turns ((w.heap.size + 1) :: M) W Wa := .of_below hba
   replace hi := hI _ _ _ hi (hba.mono (by omega))
   replace hl := (hba.block _ hlt).trans hl
   replace hk := (hba.block _ (by omega)).trans hk
   replace hlt : w.heap.size + 1 < Wa.heap.size := Nat.lt_of_lt_of_le hlt hba.size
   clear hba hy
   revert hbt
   generalize W = Wb
   intro hbt
   obtain ⟨W, rfl⟩ : ∃ W, W = Wa := ⟨_, rfl⟩
   refine ⟨_, run_beginRound hl rfl, ?_⟩
   have hl2 : (W.putObj (w.heap.size + 1) (.loop { rec' .ready none with state := .busy })).heap[w.heap.size + 1]? = some (.loop { rec' .ready none with state := .busy }) := World.putObj_heap_same hlt
   have hk2 : (W.putObj (w.heap.size + 1) (.loop { rec' .ready none with state := .busy })).heap[w.heap.size]? = some (.deferred (some [])) := (World.putObj_heap_other (by omega)).trans hk
   have hb2 : Below w.heap.size W (W.putObj (w.heap.size + 1) (.loop { rec' .ready none with state := .busy })) := (Turns.putObj (M := [w.heap.size + 1]) W _ (by simp)).below (by omega) (fun k hk => by simp at hk; omega)
   refine wpIn_mono (hbody _ k _ _ (hI _ _ _ hi hb2) (hAx _ _ _ _ _ _ hxa hl rfl) hkN (by simp; omega)) ?_
   rintro e a3 W3 hp
   cases e with
   | normal =>
    obtain ⟨ht, hi3⟩ := hp
    have hnM : w.heap.size + 1 ∉ M := fun q => by have := hM _ q; omega
    have hnD : w.heap.size ∉ M := fun q => by have := hM _ q; omega
    have hl3 := (ht.block (w.heap.size + 1) (by simp; omega) hnM).trans hl2
    have hk3 := (ht.block w.heap.size (by simp; omega) hnD).trans hk2
    have hlt3 := (Array.getElem?_eq_some_iff.1 hl3).1
    refine ⟨_, _, run_endRound (P := P) none hl3, rfl, ⟨?_, World.putObj_heap_same hlt3, (World.putObj_heap_other (by omega)).trans hk3⟩, ?_⟩
    ·exact hI _ _ _ hi3 ((Turns.putObj (M := [w.heap.size + 1]) W3 _ (by simp)).below (by omega) (fun k hk => by simp at hk; omega))
    ·exact hbt.trans <| ((Turns.putObj W _ (by simp)).trans (ht.mono (fun k hk => by simp [hk]))).trans (Turns.putObj W3 _ (by simp))
   | ret => exact hp.elim
   | exit id => exact hp.elim
   | goto t => exact hp.elim
   | panic ch => exact hp.elim
   | outgrown => exact hp.elim
  ·rintro e W2 ⟨⟨v, rfl⟩, hi, hl, hk⟩
   exact ⟨none, _, run_endLoop (P := P) hl (by simp [rec']), hdone _ _ (Nat.le_refl _) (hI _ _ _ hi ((Turns.putObj (M := [w.heap.size + 1]) W2 _ (by simp)).below (by have := (Array.getElem?_eq_some_iff.1 hl).1; omega) (fun k hk => by simp at hk; omega))) ((World.putObj_heap_other (by omega)).trans hk)⟩
theorem CallsIn_round {l n : Nat} {P : Program} {f : FuncId} {args : Array Value} {w : World} {R : Ending → World → Prop} (h : Calls P f args w R) : CallsIn (Fence.wide.inRound l) n P f args w R :=
 (callsIn_wide (n := n)).2 h
theorem oper_round {l n : Nat} {P : Program} {o : Oper} {a : Act} {w : World} {K : Act → World → Prop} {Q : Exit → Act → World → Prop} (hd : ∀ c, o.op ≠ .defer c) (h : o.wp P a w K Q) : o.wpIn (Fence.wide.inRound l) n P a w K Q := by
 refine ⟨fun _ _ => trivial, ?_⟩
 rw [Oper.semAt_eq _ _ _ hd]
 unfold Oper.wp at h
 revert h
 cases (execOp a.eval o).run P w with
 | ok nx w' =>
  cases nx with
  | enter f args => exact fun h => ⟨fun q => by simp [Fence.wide, Fence.inRound] at q, CallsIn_round h⟩
  | row r args => exact fun h => ⟨fun q => by simp [Fence.wide, Fence.inRound] at q, fun c cs _ => let ⟨v, w', r, s⟩ := h c cs; ⟨v, w', r, stepsIn_wide.2 s⟩⟩
  | _ => first | exact fun h => h | exact fun h => h.elim
 | halt x w' => cases x <;> exact fun h => h
theorem op_round {l n : Nat} {P : Program} {ops : Array Oper} {i : Nat} {a : Act} {w : World} {K : Act → World → Prop} {Q : Exit → Act → World → Prop} (hd : ∀ o ∈ ops.toList, ∀ c, o.op ≠ .defer c) (hQ : ¬ LetsOut Q) (h : wpOp P ops Q i K a w) : wpOpIn (Fence.wide.inRound l) n P ops Q i K a w := by
 unfold wpOp at h
 unfold wpOpIn
 cases ho : ops[i]? with
 | none => rw [ho] at h; exact h
 | some o =>
  rw [ho] at h
  have hm : o ∈ ops.toList := by rw [← Array.getElem?_toList] at ho; exact List.mem_of_getElem? ho
  simp only [] at h ⊢
  split
  ·rename_i hw
   rw [if_pos hw] at h
   rcases h with h | ⟨_, h⟩
   ·exact oper_round (hd o hm) h
   ·exact absurd h hQ
  ·rename_i hw
   rw [if_neg hw] at h
   exact ⟨fun _ _ => trivial, h⟩
theorem any_round {l n : Nat} {P : Program} {md : Region.Mode} {ops : Array Oper} {Q : Exit → Act → World → Prop} (hd : ∀ o ∈ ops.toList, ∀ c, o.op ≠ .defer c) (hQ : ¬ LetsOut Q) :
  ∀ (fuel : Nat) (listed : Array Bool) (a : Act) (w : World), wpAny P md ops Q fuel listed a w → wpAnyIn (Fence.wide.inRound l) n P md ops Q fuel listed a w
 | 0, _, _, _, h => h
 | fuel + 1, _, _, _, h => ⟨h.1, fun i hi => op_round hd hQ (wpOp_mono (fun a' w' h' => any_round hd hQ fuel _ a' w' h') (h.2 i hi))⟩
def noDefer (ops : Array Oper) : Bool := ops.toList.all fun o => match o.op with | .defer _ => false | _ => true
theorem noDefer_spec {ops : Array Oper} (h : noDefer ops = true) : ∀ o ∈ ops.toList, ∀ c, o.op ≠ .defer c := fun o ho c hc => by
 have := List.all_eq_true.1 h o ho
 rw [hc] at this
 cases this
theorem region_round {l n : Nat} {P : Program} {ops : Array Oper} {S : World → Prop} {Q : Exit → Act → World → Prop} {id : Nat} {a : Act} {w : World} (hm : P.follows .mixedOrders = true) (hd : noDefer ops = true) (hQ : ¬ LetsOut Q) (hS : S w.drew)
  (h : S w.drew → wpAnyH P .any ops Q S ops.size (Array.replicate ops.size false) a w.drew) : (Code.region id ops true).wpIn (Fence.wide.inRound l) n P Q a w :=
 wpIn_region_any hm (any_round (noDefer_spec hd) hQ _ _ _ _ (wpAny_of_held _ _ _ _ (h hS)))
theorem YieldAt_round {l2 m m' : Nat} {P : Program} {l : Nat} {args : Array Value} {W : World} {R : Ending → World → Prop} (h : YieldAt Fence.wide m P l args W R) : YieldAt (Fence.wide.inRound l2) m' P l args W R := by
 obtain ⟨fn, tmps, assign, body, hy, hR⟩ := h
 exact ⟨fn, tmps, assign, body, hy, hR.1, fun c cs _ => hR.2 c cs (room_wide _)⟩
theorem YieldAt_wide {m m' : Nat} {P : Program} {l : Nat} {args : Array Value} {W : World} {R : Ending → World → Prop} (h : YieldAt Fence.wide m P l args W R) : YieldAt Fence.wide m' P l args W R := by
 obtain ⟨fn, tmps, assign, body, hy, hR⟩ := h
 exact ⟨fn, tmps, assign, body, hy, hR.1, fun c cs _ => hR.2 c cs (room_wide _)⟩
end Go.Proofs.YtklehbmghjcmaaaGreatDoor
namespace Go.Proofs.YtklehbmghjcmaaaGreatDoor
open Go Go.RowKit
open Go.ChangeMaps (setBlock heap_setBlock_same heap_setBlock_other)
def MapZ (W : World) (b : Nat) (z : Value) (f : Int → Value) : Prop :=
 ∃ es clock, W.heap[b]? = some (.map es clock) ∧ (∀ e ∈ es.toList, ∃ k : Int, e.key = vi ki k ∧ e.val = f k) ∧ (∀ k : Int, (∀ e ∈ es.toList, e.key ≠ vi ki k) → f k = z) ∧ (es.toList.map (·.key)).Nodup
theorem findNow_Z {f : Int → Value} (y : Int) : ∀ (es : List MapEntry) (i : Nat), (∀ e ∈ es, ∃ k : Int, e.key = vi ki k ∧ e.val = f k) →
  (Instr.findNow (.int .i64) (vi ki y) es i = some none ∧ ∀ e ∈ es, e.key ≠ vi ki y) ∨ ∃ j, Instr.findNow (.int .i64) (vi ki y) es i = some (some (j, f y)) ∧ j - i < es.length ∧ i ≤ j ∧ (es[j - i]?).map (·.key) = some (vi ki y)
 | [], i, _ => .inl ⟨rfl, by simp⟩
 | e :: es, i, h => by
  obtain ⟨k, hk, hv⟩ := h e (by simp)
  by_cases hy : y = k
  ·subst hy
   exact .inr ⟨i, by simp [Instr.findNow, Instr.sameNow, hk, hv], by simp, Nat.le_refl _, by simp [hk]⟩
  ·have hyb : (y == k) = false := by simpa using hy
   rcases findNow_Z y es (i + 1) (fun e' he' => h e' (by simp [he'])) with ⟨h1, h2⟩ | ⟨j, h1, h2, h3, h4⟩
   ·refine .inl ⟨by simp [Instr.findNow, Instr.sameNow, hk, hyb, h1], ?_⟩
    intro e' he'
    rcases List.mem_cons.1 he' with rfl | he'
    ·rw [hk]; intro q; injection q with _ q; exact hy q.symm
    ·exact h2 e' he'
   ·refine .inr ⟨j, by simp [Instr.findNow, Instr.sameNow, hk, hyb, h1], ?_, by omega, ?_⟩
    ·simp; omega
    ·have : j - i = (j - (i + 1)) + 1 := by omega
     rw [this]; simpa using h4
theorem lookup_Z {P : Program} {t K E : TypeId} (ht : P.underlying t = some (.map K E)) (hK : P.underlying K = some (.int .i64)) {z : Value} {W : World} (hz : (zeroValue E).run P W = .ok z W)
  {b : Nat} {f : Int → Value} (h : MapZ W b z f) (y : Int) :
  (Instr.lookup t (.map (some b)) (vi ki y) false).run P W = .ok (f y) W := by
 obtain ⟨es, clock, hb, hes, hno, _⟩ := h
 have hc : ∀ e, (Instr.checkKey e 10000 K (vi ki y)).run P W = .ok () W := fun e => MapKept.run_checkKey hK (by trivial) e 9999
 rcases findNow_Z y es.toList 0 hes with ⟨h1, h2⟩ | ⟨j, h1, _⟩
 ·rw [hno y h2]
  simp [Instr.lookup, Instr.findKey, run_underlying ht, run_underlying hK, MapKept.run_getObj_map hb, hc, h1, hz, Result.andThen]
 ·simp [Instr.lookup, Instr.findKey, run_underlying ht, run_underlying hK, MapKept.run_getObj_map hb, hc, h1, Result.andThen]
theorem sameBits_z (y : Int) : Instr.sameBits 10000 (vi ki y) (vi ki y) = true := by
 unfold Instr.sameBits; simp
theorem nodup_at {l : List Value} (h : l.Nodup) {i j : Nat} {v : Value} (hi : l[i]? = some v) (hj : l[j]? = some v) : i = j := by
 obtain ⟨a, ha⟩ := List.getElem?_eq_some_iff.1 hi
 obtain ⟨b, hb⟩ := List.getElem?_eq_some_iff.1 hj
 exact (List.getElem_inj h).1 (ha.trans hb.symm)
theorem update_Z {P : Program} {t K E : TypeId} (ht : P.underlying t = some (.map K E)) (hK : P.underlying K = some (.int .i64)) {W : World} {z : Value}
  {b : Nat} {f : Int → Value} (h : MapZ W b z f) (y : Int) (v : Value) :
  ∃ W', (Instr.mapUpdate t (.map (some b)) (vi ki y) v).run P W = .ok () W' ∧ MapZ W' b z (fun k => if k = y then v else f k) ∧ W.grownBy W' (some b) := by
 obtain ⟨es, clock, hb, hes, hno, hnd⟩ := h
 have hc : ∀ e, (Instr.checkKey e 10000 K (vi ki y)).run P W = .ok () W := fun e => MapKept.run_checkKey hK (by trivial) e 9999
 rcases findNow_Z y es.toList 0 hes with ⟨h1, hn⟩ | ⟨j, h1, h2, h3, h4⟩
 ·refine ⟨setBlock W b (.map (es.push ⟨vi ki y, v, clock⟩) (clock + 1)), ?_, ⟨_, _, heap_setBlock_same hb _, ?_, ?_, ?_⟩, ⟨rfl, rfl, rfl, by simp [setBlock], fun i _ hi => heap_setBlock_other hb _ (fun e => hi (by rw [e]))⟩⟩
  ·simp [Instr.mapUpdate, Instr.findKey, run_underlying ht, run_underlying hK, MapKept.run_getObj_map hb, hc, h1, MapKept.run_setObj_map _ hb, Result.andThen, setBlock]
  ·intro e he
   simp only [Array.toList_push, List.mem_append, List.mem_singleton] at he
   rcases he with he | rfl
   ·obtain ⟨k, hk, hv⟩ := hes e he
    refine ⟨k, hk, ?_⟩
    exact hv.trans (if_neg (fun q => hn e he (by rw [hk, q]))).symm
   ·exact ⟨y, rfl, (if_pos rfl).symm⟩
  ·intro k hk
   have hky : k ≠ y := fun q => hk ⟨vi ki y, v, clock⟩ (by simp) (by rw [q])
   refine (if_neg hky).trans ?_
   exact hno k (fun e he => hk e (by simp only [Array.toList_push, List.mem_append]; exact .inl he))
  ·simp only [Array.toList_push, List.map_append, List.map_cons, List.map_nil]
   rw [List.nodup_append]
   refine ⟨hnd, by simp, ?_⟩
   intro a ha c hc2
   simp only [List.mem_singleton] at hc2
   subst hc2
   obtain ⟨e, he, rfl⟩ := List.mem_map.1 ha
   exact hn e he
 ·have hk : ((es[j]?).map (·.key)).getD (vi ki y) = vi ki y := by
   rw [Nat.sub_zero, Array.getElem?_toList] at h4; rw [h4]; rfl
  have hkeys : (es.modify j fun e => { e with key := vi ki y, val := v }).toList.map (·.key) = es.toList.map (·.key) := by
   apply List.ext_getElem?
   intro i
   rw [Array.toList_modify, List.getElem?_map, List.getElem?_map, List.getElem?_modify]
   by_cases hij : j = i
   ·subst hij
    rw [Nat.sub_zero] at h4
    cases hx : es.toList[j]? with
    | none => simp
    | some e => rw [hx] at h4; simp at h4; simp [h4]
   ·cases hx : es.toList[i]? <;> simp [hij]
  refine ⟨setBlock W b (.map (es.modify j fun e => { e with key := vi ki y, val := v }) clock), ?_, ⟨_, _, heap_setBlock_same hb _, ?_, ?_, ?_⟩, ⟨rfl, rfl, rfl, by simp [setBlock], fun i _ hi => heap_setBlock_other hb _ (fun e => hi (by rw [e]))⟩⟩
  ·simp [Instr.mapUpdate, Instr.findKey, run_underlying ht, run_underlying hK, MapKept.run_getObj_map hb, hc, h1, hk, Instr.keyThatStays, sameBits_z, MapKept.run_setObj_map _ hb, Result.andThen, setBlock]
  ·intro e he
   rw [Array.toList_modify] at he
   obtain ⟨i, hi, rfl⟩ := List.mem_iff_getElem.1 he
   have hi0 : i < es.toList.length := by rw [List.length_modify] at hi; exact hi
   rw [List.getElem_modify]
   split
   ·exact ⟨y, rfl, (if_pos rfl).symm⟩
   ·rename_i hij
    obtain ⟨k, hk2, hv2⟩ := hes _ (List.getElem_mem hi0)
    refine ⟨k, hk2, ?_⟩
    refine hv2.trans (if_neg ?_).symm
    ·intro q
     subst q
     rw [Nat.sub_zero] at h4
     have e1 : (es.toList.map (·.key))[j]? = some (vi ki k) := by rw [List.getElem?_map]; exact h4
     have e2 : (es.toList.map (·.key))[i]? = some (vi ki k) := by rw [List.getElem?_map, List.getElem?_eq_getElem hi0]; exact congrArg some hk2
     exact hij (nodup_at hnd e1 e2)
  ·intro k hk2
   have hh : ∀ e ∈ es.toList, e.key ≠ vi ki k := fun e he q => by
    have m1 : e.key ∈ es.toList.map (·.key) := List.mem_map_of_mem he
    rw [← hkeys] at m1
    obtain ⟨e', he', hq⟩ := List.mem_map.1 m1
    exact hk2 e' he' (hq.trans q)
   have hky : k ≠ y := fun q => by
    subst q
    rw [Nat.sub_zero] at h4
    cases hx : es.toList[j]? with
    | none => rw [hx] at h4; simp at h4
    | some e => rw [hx] at h4; simp at h4; exact hh e (List.mem_of_getElem? hx) h4
   exact (if_neg hky).trans (hno k hh)
  ·rw [hkeys]; exact hnd
theorem MapZ.kept {W W' : World} {row : Option Nat} {b : Nat} {z : Value} {f : Int → Value} (h : MapZ W b z f) (hg : W.grownBy W' row) (hne : row ≠ some b) : MapZ W' b z f := by
 obtain ⟨es, clock, hb, hes⟩ := h
 exact ⟨es, clock, (hg.block b (Array.getElem?_eq_some_iff.1 hb).1 (fun e => hne e.symm)).trans hb, hes⟩
theorem MapZ.same {W W' : World} {b : Nat} {z : Value} {f : Int → Value} (h : MapZ W b z f) (hg : W'.heap[b]? = W.heap[b]?) : MapZ W' b z f := by
 obtain ⟨es, clock, hb, hes⟩ := h
 exact ⟨es, clock, hg.trans hb, hes⟩
theorem MapZ.lt {W : World} {b : Nat} {z : Value} {f : Int → Value} (h : MapZ W b z f) : b < W.heap.size := by
 obtain ⟨es, clock, hb, _⟩ := h
 exact (Array.getElem?_eq_some_iff.1 hb).1
theorem MapZ.made (W : World) (z : Value) : MapZ (W.alloc (.map #[] 0)) W.heap.size z (fun _ => z) :=
 ⟨#[], 0, World.alloc_heap_new W _, by simp, fun _ _ => rfl, by simp⟩
end Go.Proofs.YtklehbmghjcmaaaGreatDoor
namespace Go.Proofs.YtklehbmghjcmaaaGreatDoor
open Go.RowKit Sr
theorem changes_mk (T : List Value) (hT : T.length = 25) (a b : Int) (w : World) :
  Calls Tryz.prog 181 #[.agg T.toArray, vi ki a, vi ki b] w fun e w' => e = zr (.func (.func 205) #[] #[.pointer (some ⟨w.heap.size, 0, none⟩), .pointer (some ⟨w.heap.size + 1, 0, none⟩), .pointer (some ⟨w.heap.size + 2, 0, none⟩)]) ∧ w' = ((w.alloc (.cells T.toArray 44)).alloc (.cells #[vi ki a] 2)).alloc (.cells #[vi ki b] 2) := by
 have hmf : ∀ (fn : Fn) (first cap : Array Value) (w : World), (Instr.makeFunc fn first cap).run Tryz.prog w = .ok (.func fn first cap) w := fun _ _ _ _ => rfl
 go_enter Tryz.func181, Tryz.ntmps181
 generalize hUA : T.toArray = UA at *
 go_wp2
 go_ret
 exact ⟨rfl, rfl⟩
theorem strs_mk (T : List Value) (hT : T.length = 25) (a b : Int) (w : World) :
  Calls Tryz.prog 134 #[.agg T.toArray, vi ki a, vi ki b] w fun e w' => e = zr (.func (.func 180) #[] #[.pointer (some ⟨w.heap.size + 1, 0, none⟩), .pointer (some ⟨w.heap.size, 0, none⟩), .pointer (some ⟨w.heap.size + 2, 0, none⟩)]) ∧ w' = ((w.alloc (.cells T.toArray 44)).alloc (.cells #[vi ki a] 2)).alloc (.cells #[vi ki b] 2) := by
 have hmf : ∀ (fn : Fn) (first cap : Array Value) (w : World), (Instr.makeFunc fn first cap).run Tryz.prog w = .ok (.func fn first cap) w := fun _ _ _ _ => rfl
 go_enter Tryz.func134, Tryz.ntmps134
 generalize hUA : T.toArray = UA at *
 go_wp2
 go_ret
 exact ⟨rfl, rfl⟩
def sdV (x : Int) (s : Zm.St) : Int := if Zm.less x s then 0 else if Zm.says x s then 1 else 2
def stC (s : Zm.St) : List Value := [vi ki s.a, vi ki s.b, vi ki s.o]
theorem side_any (x : Int) (s : Zm.St) (h1 : -9223372036854775808 ≤ x - s.o) (h2 : x - s.o ≤ 9223372036854775807) (w : World) :
  Calls Tryz.prog 135 #[.agg #[vi ki s.a, vi ki s.b, vi ki s.o], vi ki x] w fun e w' => e = zr (vi ki (sdV x s)) ∧ Below w.heap.size w w' := by
 have HB : Hid (Below w.heap.size w (w.alloc (.cells #[vi ki s.a, vi ki s.b, vi ki s.o] 177))) := (Below.refl _ _).alloc (Nat.le_refl _) _
 obtain ⟨a, b, o⟩ := s
 simp only [] at h1 h2 HB ⊢
 by_cases k1 : b ≤ x - o
 ·rw [show sdV x ⟨a, b, o⟩ = 0 from if_pos k1]
  go_enter Tryz.func135, Tryz.ntmps135
  go_wp2
  go_ret
  exact ⟨rfl, HB.out⟩
 ·by_cases k2 : a ≤ x - o
  ·rw [show sdV x ⟨a, b, o⟩ = 1 from (if_neg k1).trans (if_pos ⟨k2, by show x - o < b; omega⟩)]
   go_enter Tryz.func135, Tryz.ntmps135
   go_wp2
   go_ret
   exact ⟨rfl, HB.out⟩
  ·rw [show sdV x ⟨a, b, o⟩ = 2 from (if_neg k1).trans (if_neg (fun q => k2 q.1))]
   go_enter Tryz.func135, Tryz.ntmps135
   go_wp2
   go_ret
   exact ⟨rfl, HB.out⟩
end Go.Proofs.YtklehbmghjcmaaaGreatDoor
