import Derived.RangeFuncNested
import Derived.RangeFuncLeaves
import Derived.RangeFuncBox
import Derived.Maps.OwnIn
import Derived.Maps.AppendAt
import Derived.Deep.MidRow
import Derived.Test.YtcgcljfdfimfgaaDoorR13
/- A loop over an iterator that keeps a map of its own (block m) and writes it between the rounds: what such an iterator owes, and what the loop then does. A map whose every entry is told by one function of its key. -/
namespace Go.Proofs.YtcgcljfdfimfgaaDoor.Fn
open Go Go.RowKit
open Go.ChangeMaps (setBlock heap_setBlock_same heap_setBlock_other)

/-- J outlasts new blocks and turns of block m. -/
def Ab (m : Nat) (J : Nat → World → Prop) : Prop :=
  ∀ k W W' row, J k W → W.grownBy W' row → (∀ r, row = some r → r = m) → J k W'

/-- The blocks of S lie as they lay. -/
def Kept (S : List Nat) (W W' : World) : Prop := W.heap.size ≤ W'.heap.size ∧ ∀ k ∈ S, W'.heap[k]? = W.heap[k]?

theorem Kept.refl (S : List Nat) (W : World) : Kept S W W := ⟨Nat.le_refl _, fun _ _ => rfl⟩

theorem Kept.trans {S : List Nat} {A B C : World} (h : Kept S A B) (k : Kept S B C) : Kept S A C :=
  ⟨Nat.le_trans h.1 k.1, fun i hi => (k.2 i hi).trans (h.2 i hi)⟩

theorem Kept.putObj {S : List Nat} {W : World} {l : Nat} (o : Obj) (hl : l ∉ S) : Kept S W (W.putObj l o) :=
  ⟨by simp, fun k hk => World.putObj_heap_other (by intro e; subst e; exact hl hk)⟩

/-- What an iterator owes: N values come, one behind the other, unless a round says 'no more'. -/
def SeqM (F : Fence) (n : Nat) (P : Program) (gf : Nat) (lb : Array Value) (m : Nat) (S : List Nat) (vs : Nat → Value) (N : Nat) (w : World) : Prop :=
  ∀ (l : Nat) (J Jx : Nat → World → Prop) (W : World), Below w.heap.size w W → Ab m J → Ab m Jx →
    (∀ k W1, k < N → J k W1 → YieldAt F (n - 1) P l #[vs k] W1 fun e W' =>
      (e = .returned (.bool true) ∧ J (k + 1) W' ∧ Kept S W1 W') ∨ (e = .returned (.bool false) ∧ Jx (k + 1) W')) →
    J 0 W →
    CallsIn F n P gf (#[.func (.yield l) #[] #[]] ++ lb) W fun e W' => (∃ v, e = .returned v) ∧ (J N W' ∨ ∃ k, k < N ∧ Jx (k + 1) W')

/-- I outlasts new blocks, turns of block m, and turns of blocks from B on that are no cells. -/
def OwnM (m B : Nat) (I : Nat → World → Prop) : Prop :=
  ∀ k W W' row, I k W → W.grownBy W' row → (∀ r, row = some r → r = m ∨ (B ≤ r ∧ ∃ o : Obj, W.heap[r]? = some o ∧ o.isCells = false)) → I k W'

theorem OwnM.putObj {m B : Nat} {I : Nat → World → Prop} (h : OwnM m B I) {k : Nat} {W : World} {l : Nat} {o : Obj} (o' : Obj) (hs : I k W) (hB : B ≤ l) (hl : W.heap[l]? = some o) (ho : o.isCells = false) : I k (W.putObj l o') :=
  h k W _ (some l) hs (grownBy_putObj' W l o') (fun r e => by cases e; exact .inr ⟨hB, o, hl, ho⟩)

theorem OwnM.alloc {m B : Nat} {I : Nat → World → Prop} (h : OwnM m B I) {k : Nat} {W : World} (o : Obj) (hs : I k W) : I k (W.alloc o) :=
  h k W _ none hs (World.grownBy_alloc W o none) (fun r e => by cases e)

/-- How the body of a round may be left. -/
def roundM (B : Nat) (S : List Nat) (I : Nat → World → Prop) (Ix : Code → Nat → World → Prop) (k : Nat) (W : World) : Exit → Act → World → Prop
  | .normal, _, W' => KeepsFrom B W W' ∧ Kept S W W' ∧ I k W'
  | .ret, _, W' => KeepsFrom B W W' ∧ Ix .ret k W'
  | .exit id, _, W' => KeepsFrom B W W' ∧ Ix (.exit id) k W'
  | .goto _, _, _ => False
  | .panic _, _, _ => False
  | .outgrown, _, _ => False

theorem grown_keeps {W W' : World} {row : Option Nat} {k m : Nat} {o : Obj} (hg : W.grownBy W' row) (hr : ∀ r, row = some r → r = m) (hk : k ≠ m) (h : W.heap[k]? = some o) : W'.heap[k]? = some o :=
  (hg.block k (Array.getElem?_eq_some_iff.1 h).1 (fun e => hk (hr k e.symm))).trans h

theorem rangeM {F : Fence} {n : Nat} {P : Program} {g : Operand} {ps : Array Tmp} {assign body : Code} {Q : Exit → Act → World → Prop} {a : Act} {w : World}
    (hro : F.round = none) (h1 : 1 ≤ n) {gf : Nat} {lb : Array Value} (hg : a.eval g = .func (.func gf) #[] lb) (hFg : F.fn gf) (eg : ∀ args w, (callFunc gf args).run P w = .ok (.enter gf args) w)
    {m : Nat} {S : List Nat} {vs : Nat → Value} {N : Nat} (hseq : SeqM F (n - 1) P gf lb m S vs N w) (hm : m < w.heap.size) (hS : ∀ k ∈ S, k < w.heap.size) (hps : ps.size = 1)
    (I : Nat → World → Prop) (Ix : Code → Nat → World → Prop) (hI : OwnM m w.heap.size I) (hIx : ∀ c, OwnM m w.heap.size (Ix c)) (h0 : I 0 w) (Ax : Nat → Act → World → Prop)
    (hAx : ∀ k a' W l o o', Ax k a' W → w.heap.size ≤ l → W.heap[l]? = some o → o.isCells = false → Ax k a' (W.putObj l o'))
    (hassign : ∀ (l k : Nat) (W : World) (K : Act → World → Prop), I k W → w.heap.size < W.heap.size → (∀ a' W', KeepsFrom w.heap.size W W' → Kept S W W' → I k W' → Ax k a' W' → K a' W') →
      assign.wpIn (F.inRound l) (n - 1 - 1) P (Exit.then K (fun _ _ _ => False)) { tmps := (ps.zip #[vs k]).foldl (fun t (p, v) => t.setIfInBounds p v) a.tmps, defers := [] } W)
    (hbody : ∀ (l k : Nat) (a' : Act) (W : World), I k W → Ax k a' W → k < N → w.heap.size < W.heap.size → body.wpIn (F.inRound l) (n - 1 - 1) P (roundM w.heap.size S I Ix (k + 1) W) a' W)
    (hdone : ∀ (D : Nat) (W : World), w.heap.size ≤ D → I N W → W.heap[D]? = some (.deferred (some [])) → Q .normal { a with defers := { target := .collected D, args := #[] } :: a.defers } W)
    (hstop : ∀ (D : Nat) (c : Code) (k : Nat) (W : World), w.heap.size ≤ D → k < N → Ix c (k + 1) W → W.heap[D]? = some (.deferred (some [])) → c.wpIn F n P Q { a with defers := { target := .collected D, args := #[] } :: a.defers } W) :
    (Code.rangeFunc g ps assign body).wpIn F n P Q a w := by
  refine wpIn_rangeFunc ?_
  intro fn hfn
  rw [hro]
  let rec' : LoopState → Option Code → Loop := fun st pe => { state := st, pending := pe, fn, tmps := a.tmps, params := ps, assign, body, defers := w.heap.size }
  obtain ⟨W1, hW1⟩ : ∃ W1, (w.alloc (.deferred (some []))).alloc (.loop (rec' .ready none)) = W1 := ⟨_, rfl⟩
  have hz1 : W1.heap.size = w.heap.size + 2 := by rw [← hW1]; simp
  have hL1 : W1.heap[w.heap.size + 1]? = some (.loop (rec' .ready none)) := by
    rw [← hW1]; have := World.alloc_heap_new (w.alloc (.deferred (some []))) (.loop (rec' .ready none)); rwa [World.size_alloc] at this
  have hK1 : W1.heap[w.heap.size]? = some (.deferred (some [])) := by
    rw [← hW1]; exact (Below.heap_alloc _ _ _ (by simp)).trans (World.alloc_heap_new w _)
  have hI1 : I 0 W1 := by rw [← hW1]; exact hI.alloc _ (hI.alloc _ h0)
  have hb1 : Below w.heap.size w W1 := by
    rw [← hW1]; exact ((Below.refl _ w).alloc (Nat.le_refl _) _).alloc (by simp) _
  have hlS : w.heap.size + 1 ∉ S := fun h => by have := hS _ h; omega
  have inj : ∀ {A : World} {row : Option Nat}, (∀ r, row = some r → r = m) → (∀ r, row = some r → r = m ∨ (w.heap.size ≤ r ∧ ∃ o : Obj, A.heap[r]? = some o ∧ o.isCells = false)) := fun h r e => .inl (h r e)
  refine ⟨w.heap.size + 1, [{ target := .collected w.heap.size, args := #[] }], W1, { target := .fn (.func gf) lb, args := #[.func (.yield (w.heap.size + 1)) #[] #[]] }, W1, gf,
    #[.func (.yield (w.heap.size + 1)) #[] #[]] ++ lb, W1, ?_, ?_, ?_, ?_, fun _ => h1, ?_⟩
  · rw [← hW1]; exact run_enterLoop_outer _ _ _ _ _
  · simp only [resolve, hg]
    simp [go_sem]
  · intro f' hf'; simp [Target.leads] at hf'; subst hf'; exact hFg
  · simp [invoke, go_sem, eg]
  · refine (hseq (w.heap.size + 1)
      (fun k W => I k W ∧ W.heap[w.heap.size + 1]? = some (.loop (rec' .ready none)) ∧ W.heap[w.heap.size]? = some (.deferred (some [])))
      (fun k W => ∃ c, Ix c k W ∧ W.heap[w.heap.size + 1]? = some (.loop (rec' .done (some c))) ∧ W.heap[w.heap.size]? = some (.deferred (some [])))
      W1 hb1
      (fun k A B row hs hg' hr => ⟨hI k A B row hs.1 hg' (inj hr), grown_keeps hg' hr (by omega) hs.2.1, grown_keeps hg' hr (by omega) hs.2.2⟩)
      (fun k A B row hs hg' hr => by
        obtain ⟨c, hc, hl, hk⟩ := hs
        exact ⟨c, hIx c k A B row hc hg' (inj hr), grown_keeps hg' hr (by omega) hl, grown_keeps hg' hr (by omega) hk⟩)
      ?_ ⟨hI1, hL1, hK1⟩).mono ?_
    · rintro k W hkN ⟨hi, hl, hk⟩
      have hlt : w.heap.size + 1 < W.heap.size := (Array.getElem?_eq_some_iff.1 hl).1
      have hy := run_yield (P := P) (args := #[vs k]) hl (by simp [rec', hps])
      refine ⟨fn, _, assign, body, hy, roundIn_of_wpIn hfn (hassign _ k W _ hi (by omega) (fun a' V hkV hpV hiV hxV => ?_))⟩
      have hlV : V.heap[w.heap.size + 1]? = some (.loop (rec' .ready none)) := hkV.same _ _ (by omega) hl rfl
      have hdV : V.heap[w.heap.size]? = some (.deferred (some [])) := hkV.same _ _ (Nat.le_refl _) hk rfl
      have hltV : w.heap.size + 1 < V.heap.size := (Array.getElem?_eq_some_iff.1 hlV).1
      refine ⟨_, run_beginRound hlV rfl, ?_⟩
      have hl2 : (V.putObj (w.heap.size + 1) (.loop { rec' .ready none with state := .busy })).heap[w.heap.size + 1]? = some (.loop { rec' .ready none with state := .busy }) := World.putObj_heap_same hltV
      have hk2 : (V.putObj (w.heap.size + 1) (.loop { rec' .ready none with state := .busy })).heap[w.heap.size]? = some (.deferred (some [])) := (World.putObj_heap_other (by omega)).trans hdV
      refine wpIn_mono (hbody _ k a' _ (hI.putObj _ hiV (by omega) hlV rfl) (hAx _ _ _ _ _ _ hxV (by omega) hlV rfl) hkN (by simp; omega)) ?_
      have fin : ∀ (jump : Option Code) (W3 : World), KeepsFrom w.heap.size (V.putObj (w.heap.size + 1) (.loop { rec' .ready none with state := .busy })) W3 →
          (Instr.endRound (w.heap.size + 1) jump).run P W3 = .ok (.bool jump.isNone) (W3.putObj (w.heap.size + 1) (.loop (rec' (if jump.isNone then .ready else .done) jump))) ∧
          W3.heap[w.heap.size + 1]? = some (.loop { rec' .ready none with state := .busy }) ∧
          (W3.putObj (w.heap.size + 1) (.loop (rec' (if jump.isNone then .ready else .done) jump))).heap[w.heap.size + 1]? = some (.loop (rec' (if jump.isNone then .ready else .done) jump)) ∧
          (W3.putObj (w.heap.size + 1) (.loop (rec' (if jump.isNone then .ready else .done) jump))).heap[w.heap.size]? = some (.deferred (some [])) := fun jump W3 hk3 => by
        have hl3 := hk3.same _ _ (by omega) hl2 rfl
        exact ⟨run_endRound (P := P) jump hl3, hl3, World.putObj_heap_same (Array.getElem?_eq_some_iff.1 hl3).1, (World.putObj_heap_other (by omega)).trans (hk3.same _ _ (Nat.le_refl _) hk2 rfl)⟩
      rintro e a3 W3 hp
      cases e with
      | normal =>
        obtain ⟨hk3, hkp3, hi3⟩ := hp
        obtain ⟨hr, hl3, hl4, hk4⟩ := fin none W3 hk3
        exact ⟨_, _, hr, .inl ⟨rfl, ⟨hI.putObj _ hi3 (by omega) hl3 rfl, hl4, hk4⟩, (hpV.trans ((Kept.putObj _ hlS).trans hkp3)).trans (Kept.putObj _ hlS)⟩⟩
      | ret =>
        obtain ⟨hk3, hi3⟩ := hp
        obtain ⟨hr, hl3, hl4, hk4⟩ := fin (some .ret) W3 hk3
        exact ⟨_, _, hr, .inr ⟨rfl, .ret, (hIx _).putObj _ hi3 (by omega) hl3 rfl, hl4, hk4⟩⟩
      | exit id =>
        obtain ⟨hk3, hi3⟩ := hp
        obtain ⟨hr, hl3, hl4, hk4⟩ := fin (some (.exit id)) W3 hk3
        exact ⟨_, _, hr, .inr ⟨rfl, .exit id, (hIx _).putObj _ hi3 (by omega) hl3 rfl, hl4, hk4⟩⟩
      | goto t => exact hp.elim
      | panic ch => exact hp.elim
      | outgrown => exact hp.elim
    · rintro e W2 ⟨⟨v, rfl⟩, (⟨hi, hl, hk⟩ | ⟨k, hkN, c, hi, hl, hk⟩)⟩
      · exact ⟨none, _, run_endLoop (P := P) hl (by simp [rec']), hdone _ _ (Nat.le_refl _) (hI.putObj _ hi (by omega) hl rfl) ((World.putObj_heap_other (by omega)).trans hk)⟩
      · exact ⟨some c, _, run_endLoop (P := P) hl (by simp [rec']), hstop _ c k _ (Nat.le_refl _) hkN ((hIx c).putObj _ hi (by omega) hl rfl) ((World.putObj_heap_other (by omega)).trans hk)⟩

theorem wpListIn_load_mid {F : Fence} {n : Nat} {P : Program} {ops : Array Oper} {rest : List Oper} {op : Oper} {a : Act} {w : World} {Q : Exit → Act → World → Prop} (hgd : op.guard = none) (ty : TypeId) (x : Operand) (ho : op.op = .load ty x)
    (b o : Nat) (hx : a.eval x = .pointer (some ⟨b, o, none⟩)) (cs : List Value) (d : TypeDesc) (hc : w.rangeAt b o cs)
    (hu : P.underlying ty = some d) (hd : d.isRow = true) (hi : (P.info? ty).map (·.size) = some cs.length)
    (h : wpListIn F n P ops Q rest (a.put op.dst (.agg cs.toArray)) w) : wpListIn F n P ops Q (op :: rest) a w := by
  refine wpListIn_plain hgd fun K' hK' => ?_
  unfold Oper.wpIn
  refine ⟨by simp [Oper.about, ho], ?_⟩
  rw [Oper.semAt_plain F _ _ (by rw [ho]; intro c hc'; cases hc')]
  simp only [execOp, ho, hx, Sem.run_bind, run_loadAt_mid w b o ty cs d hc hu hd hi, Sem.run_pure, Result.andThen_ok]
  exact hK' _ _ h

theorem gen_listIn {F : Fence} {n : Nat} {P : Program} {ops : Array Oper} {Q : Exit → Act → World → Prop} {rest : List Oper} {a : Act} {w1 : World} (T : World → Prop) (h : T w1) (k : ∀ w2, T w2 → wpListIn F n P ops Q rest a w2) : wpListIn F n P ops Q rest a w1 := k _ h

/-- Block b is a map whose entries are told by f. -/
def MapF (W : World) (b : Nat) (f : Int → Value) : Prop :=
  ∃ es clock, W.heap[b]? = some (.map es clock) ∧ ∀ e ∈ es.toList, ∃ k : Int, e.key = .int .i64 k ∧ e.val = f k

theorem findNow_F {f : Int → Value} (y : Int) : ∀ (es : List MapEntry) (i : Nat), (∀ e ∈ es, ∃ k : Int, e.key = .int .i64 k ∧ e.val = f k) →
    Instr.findNow (.int .i64) (.int .i64 y) es i = some none ∨ ∃ j, Instr.findNow (.int .i64) (.int .i64 y) es i = some (some (j, f y)) ∧ j - i < es.length ∧ i ≤ j ∧ (es[j - i]?).map (·.key) = some (.int .i64 y)
  | [], i, _ => .inl rfl
  | e :: es, i, h => by
    obtain ⟨k, hk, hv⟩ := h e (by simp)
    by_cases hy : y = k
    · subst hy
      exact .inr ⟨i, by simp [Instr.findNow, Instr.sameNow, hk, hv], by simp, Nat.le_refl _, by simp [hk]⟩
    · have hyb : (y == k) = false := by simpa using hy
      rcases findNow_F y es (i + 1) (fun e' he' => h e' (by simp [he'])) with h1 | ⟨j, h1, h2, h3, h4⟩
      · exact .inl (by simp [Instr.findNow, Instr.sameNow, hk, hyb, h1])
      · refine .inr ⟨j, by simp [Instr.findNow, Instr.sameNow, hk, hyb, h1], ?_, by omega, ?_⟩
        · simp; omega
        · have : j - i = (j - (i + 1)) + 1 := by omega
          rw [this]; simpa using h4

theorem sameBits_int (y : Int) : Instr.sameBits 10000 (.int .i64 y) (.int .i64 y) = true := by
  unfold Instr.sameBits; simp

theorem lookup_F {P : Program} {t K E : TypeId} (ht : P.underlying t = some (.map K E)) (hK : P.underlying K = some (.int .i64)) {z : Value} {W : World} (hz : (zeroValue E).run P W = .ok z W)
    {b : Nat} {f : Int → Value} (h : MapF W b f) (y : Int) :
    (Instr.lookup t (.map (some b)) (.int .i64 y) true).run P W = .ok (.tuple #[z, .bool false]) W ∨ (Instr.lookup t (.map (some b)) (.int .i64 y) true).run P W = .ok (.tuple #[f y, .bool true]) W := by
  obtain ⟨es, clock, hb, hes⟩ := h
  have hc : ∀ e, (Instr.checkKey e 10000 K (.int .i64 y)).run P W = .ok () W := fun e => MapKept.run_checkKey hK (by trivial) e 9999
  rcases findNow_F y es.toList 0 hes with h1 | ⟨j, h1, _⟩
  · left
    simp [Instr.lookup, Instr.findKey, run_underlying ht, run_underlying hK, MapKept.run_getObj_map hb, hc, h1, hz, Result.andThen]
  · right
    simp [Instr.lookup, Instr.findKey, run_underlying ht, run_underlying hK, MapKept.run_getObj_map hb, hc, h1, Result.andThen]

theorem update_F {P : Program} {t K E : TypeId} (ht : P.underlying t = some (.map K E)) (hK : P.underlying K = some (.int .i64)) {W : World}
    {b : Nat} {f : Int → Value} (h : MapF W b f) (y : Int) :
    ∃ W', (Instr.mapUpdate t (.map (some b)) (.int .i64 y) (f y)).run P W = .ok () W' ∧ MapF W' b f ∧ W.grownBy W' (some b) := by
  obtain ⟨es, clock, hb, hes⟩ := h
  have hc : ∀ e, (Instr.checkKey e 10000 K (.int .i64 y)).run P W = .ok () W := fun e => MapKept.run_checkKey hK (by trivial) e 9999
  rcases findNow_F y es.toList 0 hes with h1 | ⟨j, h1, h2, h3, h4⟩
  · refine ⟨setBlock W b (.map (es.push ⟨.int .i64 y, f y, clock⟩) (clock + 1)), ?_, ⟨_, _, heap_setBlock_same hb _, ?_⟩, ⟨rfl, rfl, rfl, by simp [setBlock], fun i _ hi => heap_setBlock_other hb _ (fun e => hi (by rw [e]))⟩⟩
    · simp [Instr.mapUpdate, Instr.findKey, run_underlying ht, run_underlying hK, MapKept.run_getObj_map hb, hc, h1, MapKept.run_setObj_map _ hb, Result.andThen, setBlock]
    · intro e he
      simp only [Array.toList_push, List.mem_append, List.mem_singleton] at he
      rcases he with he | rfl
      · exact hes e he
      · exact ⟨y, rfl, rfl⟩
  · have hk : ((es[j]?).map (·.key)).getD (.int .i64 y) = .int .i64 y := by
      rw [Nat.sub_zero, Array.getElem?_toList] at h4; rw [h4]; rfl
    refine ⟨setBlock W b (.map (es.modify j fun e => { e with key := .int .i64 y, val := f y }) clock), ?_, ⟨_, _, heap_setBlock_same hb _, ?_⟩, ⟨rfl, rfl, rfl, by simp [setBlock], fun i _ hi => heap_setBlock_other hb _ (fun e => hi (by rw [e]))⟩⟩
    · simp [Instr.mapUpdate, Instr.findKey, run_underlying ht, run_underlying hK, MapKept.run_getObj_map hb, hc, h1, hk, Instr.keyThatStays, sameBits_int, MapKept.run_setObj_map _ hb, Result.andThen, setBlock]
    · intro e he
      rw [Array.toList_modify] at he
      obtain ⟨i, hi, rfl⟩ := List.mem_iff_getElem.1 he
      rw [List.getElem_modify]
      split
      · exact ⟨y, rfl, rfl⟩
      · exact hes _ (List.getElem_mem _)

theorem MapF.kept {W W' : World} {row : Option Nat} {b : Nat} {f : Int → Value} (h : MapF W b f) (hg : W.grownBy W' row) (hne : row ≠ some b) : MapF W' b f := by
  obtain ⟨es, clock, hb, hes⟩ := h
  exact ⟨es, clock, (hg.block b (Array.getElem?_eq_some_iff.1 hb).1 (fun e => hne e.symm)).trans hb, hes⟩

theorem MapF.same {W W' : World} {b : Nat} {f : Int → Value} (h : MapF W b f) (hg : W'.heap[b]? = W.heap[b]?) : MapF W' b f := by
  obtain ⟨es, clock, hb, hes⟩ := h
  exact ⟨es, clock, hg.trans hb, hes⟩

theorem MapF.made (W : World) (f : Int → Value) : MapF (W.alloc (.map #[] 0)) W.heap.size f :=
  ⟨#[], 0, World.alloc_heap_new W _, by simp⟩

end Go.Proofs.YtcgcljfdfimfgaaDoor.Fn
/- One shift of a year: calendar.shift, shifts, begin. -/
namespace Go.Proofs.YtcgcljfdfimfgaaDoor.Fn
open Go.RowKit
set_option linter.unusedVariables false

theorem okF_of {f : Ft} (h : okF f = true) : -50400 ≤ f.off ∧ f.off ≤ 50400 ∧ okH f.A = true ∧ okH f.B = true ∧ far f.A.m f.B.m = true ∧ f.h = true := by
  simp only [okF, Bool.and_eq_true, decide_eq_true_eq] at h
  exact ⟨h.1.1.1.1.2, h.1.1.1.2, h.1.1.2, h.1.2, h.2, h.1.1.1.1.1⟩

theorem reckon_any (f : Ft) (m : Nat) (y : Int) (hf : okF f = true) (hy : dyY y) (w : World) (hL0 : Cvl.Lens w) :
    Calls Tryd.prog 67 #[.agg (cL f m).toArray, .int .i64 y] w fun e w' => e = .returned (.agg (pairL (trOf f.off f.A f.B y) (trOf f.off f.B f.A y)).toArray) ∧ Below w.heap.size w w' := by
  obtain ⟨o1, o2, hA, hB, _⟩ := okF_of hf
  exact reckon_run f m y _ _ (fun w hw => to_any f m f.A f.B y hA hB o1 o2 hy w hw) (fun w hw => to_any f m f.B f.A y hB hA o1 o2 hy w hw) w hL0

/-- the earlier and the later shift of a year. -/
def sh1 (f : Ft) (y : Int) : Tr := if (trOf f.off f.B f.A y).t < (trOf f.off f.A f.B y).t then trOf f.off f.B f.A y else trOf f.off f.A f.B y
def sh2 (f : Ft) (y : Int) : Tr := if (trOf f.off f.B f.A y).t < (trOf f.off f.A f.B y).t then trOf f.off f.A f.B y else trOf f.off f.B f.A y
def prL (f : Ft) (y : Int) : List Value := tL (sh1 f y) ++ tL (sh2 f y)
def prV (f : Ft) (y : Int) : Value := .agg (prL f y).toArray
theorem pair_pr (f : Ft) (y : Int) : pairL (trOf f.off f.A f.B y) (trOf f.off f.B f.A y) = prL f y := by unfold pairL prL sh1 sh2; split <;> rfl
theorem lens_map {W : World} {m : Nat} {f : Int → Value} (hL : Cvl.Lens W) (hM : MapF W m f) : 1 ≠ m := fun e => by
  obtain ⟨es, c, hb, _⟩ := hM
  have := hL 0 (by decide)
  rw [e] at this
  simp [World.cell?, hb] at this

theorem setCells_heap (b : Nat) : ∀ (vs : List Value) (W : World) (i k : Nat), k ≠ b → (W.setCells b i vs).heap[k]? = W.heap[k]?
  | [], _, _, _, _ => rfl
  | v :: vs, W, i, k, h => by
    rw [World.setCells, setCells_heap b vs _ _ _ h]
    exact Below.heap_setCell _ _ _ _ h
theorem Bx.grown {W W' : World} {b m : Nat} {l : List Value} (h : Bx W b l) (hg : W.grownBy W' (some m)) (hb : b ≠ m) : Bx W' b l := by
  have e : W'.heap[b]? = W.heap[b]? := hg.block b h.1 (fun q => hb (by cases q; rfl))
  exact ⟨Nat.lt_of_lt_of_le h.1 hg.size, fun i v q => ⟨(World.cell?_of_block (w := W) e).trans (h.2 i v q).1, (World.frozen?_of_block (w := W) e).trans (h.2 i v q).2⟩⟩
theorem grown_of_below {w w' : World} {row : Option Nat} (h : Below w.heap.size w w') : w.grownBy w' row := ⟨h.os, h.tape, h.output, h.size, fun k hk _ => h.block k hk⟩
theorem grown_setCells {w : World} (b m : Nat) (hb : w.heap.size ≤ b) (vs : List Value) (W : World) (i : Nat) (h : w.grownBy W (some m)) : w.grownBy (W.setCells b i vs) (some m) := by
  induction vs generalizing W i with
  | nil => exact h
  | cons v vs ih =>
    refine ih _ _ ⟨h.os, h.tape, h.output, by simpa [World.setCell] using h.size, fun k hk hn => ?_⟩
    exact (Below.heap_setCell _ _ _ _ (by simp; omega)).trans (h.block k hk hn)

theorem gen_list {P : Program} {ops : Array Oper} {Q : Exit → Act → World → Prop} {rest : List Oper} {a : Act} {w1 : World} (T : World → Prop) (h : T w1) (k : ∀ w2, T w2 → wpList P ops Q rest a w2) : wpList P ops Q rest a w1 := k _ h
theorem gen_code {P : Program} {c : Code} {Q : Exit → Act → World → Prop} {a : Act} {w1 : World} (T : World → Prop) (h : T w1) (k : ∀ w2, T w2 → Code.wp P c Q a w2) : Code.wp P c Q a w1 := k _ h
theorem ret_tr {p q : Tr} (h : p = q) : Ending.returned (.agg #[.int .i64 p.t, .int .i64 p.o, .bool p.d, .string p.a]) = .returned (.agg (tL q).toArray) := by rw [h]; rfl
theorem pq_one (p q : Tr) : (#[.int .i64 p.t, .int .i64 p.o, .bool p.d, .string p.a, .int .i64 q.t, .int .i64 q.o, .bool q.d, .string q.a] : Array Value).all (·.oneCell') = true := all_oneCell_toArray (cs := [.int .i64 p.t, .int .i64 p.o, .bool p.d, .string p.a, .int .i64 q.t, .int .i64 q.o, .bool q.d, .string q.a]) (by intro v hv; simp at hv; rcases hv with rfl | rfl | rfl | rfl | rfl | rfl | rfl | rfl <;> rfl)

set_option maxRecDepth 100000 in
set_option maxHeartbeats 8000000 in
theorem shift_run (f : Ft) (m : Nat) (y i : Int) (hi : i = 0 ∨ i = 1) (p q : Tr) (F : Int → Value) (hF : F y = .agg #[.int .i64 p.t, .int .i64 p.o, .bool p.d, .string p.a, .int .i64 q.t, .int .i64 q.o, .bool q.d, .string q.a])
    (RK : Hid (∀ w : World, Cvl.Lens w → Calls Tryd.prog 67 #[.agg (cL f m).toArray, .int .i64 y] w fun e w' => e = .returned (.agg #[.int .i64 p.t, .int .i64 p.o, .bool p.d, .string p.a, .int .i64 q.t, .int .i64 q.o, .bool q.d, .string q.a]) ∧ Below w.heap.size w w'))
    (w : World) (hL0 : Hid (Cvl.Lens w)) (hM : MapF w m F) :
    Calls Tryd.prog 63 #[.agg #[.bool f.h, .int .i64 f.fr, .int .i64 f.off, .int .i64 f.A.m, .int .i64 f.A.k, .int .i64 f.A.d, .int .i64 f.A.n, .int .i64 f.A.s, .int .u8 f.A.z, .int .i64 f.A.v, .string f.A.t, .int .i64 f.B.m, .int .i64 f.B.k, .int .i64 f.B.d, .int .i64 f.B.n, .int .i64 f.B.s, .int .u8 f.B.z, .int .i64 f.B.v, .string f.B.t, .map (some m)], .int .i64 y, .int .i64 i] w fun e w' => e = .returned (.agg (tL (if i = 0 then p else q)).toArray) ∧ MapF w' m F ∧ w.grownBy w' (some m) := by
  have hml : m < w.heap.size := by obtain ⟨es, c, hb, _⟩ := hM; exact (Array.getElem?_eq_some_iff.1 hb).1
  have HB1 : Hid (Below w.heap.size w (((w.alloc (.cells #[.bool f.h, .int .i64 f.fr, .int .i64 f.off, .int .i64 f.A.m, .int .i64 f.A.k, .int .i64 f.A.d, .int .i64 f.A.n, .int .i64 f.A.s, .int .u8 f.A.z, .int .i64 f.A.v, .string f.A.t, .int .i64 f.B.m, .int .i64 f.B.k, .int .i64 f.B.d, .int .i64 f.B.n, .int .i64 f.B.s, .int .u8 f.B.z, .int .i64 f.B.v, .string f.B.t, .map (some m)] 107)).alloc (.cells #[.int .i64 0, .int .i64 0, .bool false, .string ⟨#[]⟩] 23)).alloc (.cells #[.int .i64 0, .int .i64 0, .bool false, .string ⟨#[]⟩, .int .i64 0, .int .i64 0, .bool false, .string ⟨#[]⟩] 120))) := ((((Below.refl _ _).alloc (by simp <;> omega) _).alloc (by simp <;> omega) _).alloc (by simp <;> omega) _)
  have Y0 : Hid (Bx (((w.alloc (.cells #[.bool f.h, .int .i64 f.fr, .int .i64 f.off, .int .i64 f.A.m, .int .i64 f.A.k, .int .i64 f.A.d, .int .i64 f.A.n, .int .i64 f.A.s, .int .u8 f.A.z, .int .i64 f.A.v, .string f.A.t, .int .i64 f.B.m, .int .i64 f.B.k, .int .i64 f.B.d, .int .i64 f.B.n, .int .i64 f.B.s, .int .u8 f.B.z, .int .i64 f.B.v, .string f.B.t, .map (some m)] 107)).alloc (.cells #[.int .i64 0, .int .i64 0, .bool false, .string ⟨#[]⟩] 23)).alloc (.cells #[.int .i64 0, .int .i64 0, .bool false, .string ⟨#[]⟩, .int .i64 0, .int .i64 0, .bool false, .string ⟨#[]⟩] 120)) (w.heap.size) (cL f m)) := (((Bx.newAt w (cL f m) _ _ (by simp)).alloc _).alloc _)
  have Y1 : Hid (Bx (((w.alloc (.cells #[.bool f.h, .int .i64 f.fr, .int .i64 f.off, .int .i64 f.A.m, .int .i64 f.A.k, .int .i64 f.A.d, .int .i64 f.A.n, .int .i64 f.A.s, .int .u8 f.A.z, .int .i64 f.A.v, .string f.A.t, .int .i64 f.B.m, .int .i64 f.B.k, .int .i64 f.B.d, .int .i64 f.B.n, .int .i64 f.B.s, .int .u8 f.B.z, .int .i64 f.B.v, .string f.B.t, .map (some m)] 107)).alloc (.cells #[.int .i64 0, .int .i64 0, .bool false, .string ⟨#[]⟩] 23)).alloc (.cells #[.int .i64 0, .int .i64 0, .bool false, .string ⟨#[]⟩, .int .i64 0, .int .i64 0, .bool false, .string ⟨#[]⟩] 120)) (w.heap.size + 1) (z4)) := ((Bx.newAt (w.alloc (.cells #[.bool f.h, .int .i64 f.fr, .int .i64 f.off, .int .i64 f.A.m, .int .i64 f.A.k, .int .i64 f.A.d, .int .i64 f.A.n, .int .i64 f.A.s, .int .u8 f.A.z, .int .i64 f.A.v, .string f.A.t, .int .i64 f.B.m, .int .i64 f.B.k, .int .i64 f.B.d, .int .i64 f.B.n, .int .i64 f.B.s, .int .u8 f.B.z, .int .i64 f.B.v, .string f.B.t, .map (some m)] 107)) (z4) _ _ (by simp)).alloc _)
  have Y2 : Hid (Bx (((w.alloc (.cells #[.bool f.h, .int .i64 f.fr, .int .i64 f.off, .int .i64 f.A.m, .int .i64 f.A.k, .int .i64 f.A.d, .int .i64 f.A.n, .int .i64 f.A.s, .int .u8 f.A.z, .int .i64 f.A.v, .string f.A.t, .int .i64 f.B.m, .int .i64 f.B.k, .int .i64 f.B.d, .int .i64 f.B.n, .int .i64 f.B.s, .int .u8 f.B.z, .int .i64 f.B.v, .string f.B.t, .map (some m)] 107)).alloc (.cells #[.int .i64 0, .int .i64 0, .bool false, .string ⟨#[]⟩] 23)).alloc (.cells #[.int .i64 0, .int .i64 0, .bool false, .string ⟨#[]⟩, .int .i64 0, .int .i64 0, .bool false, .string ⟨#[]⟩] 120)) (w.heap.size + 2) (z8)) := (Bx.newAt ((w.alloc (.cells #[.bool f.h, .int .i64 f.fr, .int .i64 f.off, .int .i64 f.A.m, .int .i64 f.A.k, .int .i64 f.A.d, .int .i64 f.A.n, .int .i64 f.A.s, .int .u8 f.A.z, .int .i64 f.A.v, .string f.A.t, .int .i64 f.B.m, .int .i64 f.B.k, .int .i64 f.B.d, .int .i64 f.B.n, .int .i64 f.B.s, .int .u8 f.B.z, .int .i64 f.B.v, .string f.B.t, .map (some m)] 107)).alloc (.cells #[.int .i64 0, .int .i64 0, .bool false, .string ⟨#[]⟩] 23)) (z8) _ _ (by simp))
  have L1 : Hid (Cvl.Lens (((w.alloc (.cells #[.bool f.h, .int .i64 f.fr, .int .i64 f.off, .int .i64 f.A.m, .int .i64 f.A.k, .int .i64 f.A.d, .int .i64 f.A.n, .int .i64 f.A.s, .int .u8 f.A.z, .int .i64 f.A.v, .string f.A.t, .int .i64 f.B.m, .int .i64 f.B.k, .int .i64 f.B.d, .int .i64 f.B.n, .int .i64 f.B.s, .int .u8 f.B.z, .int .i64 f.B.v, .string f.B.t, .map (some m)] 107)).alloc (.cells #[.int .i64 0, .int .i64 0, .bool false, .string ⟨#[]⟩] 23)).alloc (.cells #[.int .i64 0, .int .i64 0, .bool false, .string ⟨#[]⟩, .int .i64 0, .int .i64 0, .bool false, .string ⟨#[]⟩] 120))) := Lens_below hL0.out HB1.out (Lens_lt hL0.out)
  have M0 : MapF ((w.alloc (.cells #[.bool f.h, .int .i64 f.fr, .int .i64 f.off, .int .i64 f.A.m, .int .i64 f.A.k, .int .i64 f.A.d, .int .i64 f.A.n, .int .i64 f.A.s, .int .u8 f.A.z, .int .i64 f.A.v, .string f.A.t, .int .i64 f.B.m, .int .i64 f.B.k, .int .i64 f.B.d, .int .i64 f.B.n, .int .i64 f.B.s, .int .u8 f.B.z, .int .i64 f.B.v, .string f.B.t, .map (some m)] 107)).alloc (.cells #[.int .i64 0, .int .i64 0, .bool false, .string ⟨#[]⟩] 23)) m F := hM.same (((Below.refl _ w).alloc (Nat.le_refl _) _ |>.alloc (by simp) _).block m hml)
  rcases lookup_F (P := Tryd.prog) (t := 105) Tryd.underlying105 Tryd.underlying2 (Tryd.zeroValue120 _) M0 y with hlk | hlk
  · clear M0
    go_enter Tryd.func63, Tryd.ntmps63
    go_wp2_with (refine wpList_load_mid rfl 107 _ rfl w.heap.size 0 rfl (cL f m) _ Y0.out.all Tryd.underlying107 rfl (by kernel_rfl) ?_)
    refine (RK.out _ L1.out).mono ?_
    rintro e w1 ⟨rfl, hb⟩
    have HB2 := HB1.out.trans (hb.mono HB1.out.size)
    have M1 : MapF w1 m F := hM.same (HB2.block m hml)
    have A0 := Y0.out.below hb
    have A1 := Y1.out.below hb
    have A2 := Y2.out.below hb
    clear hb hlk HB1 Y0 Y1 Y2 L1 RK
    rcases hi with rfl | rfl
    · go_wp2_with (refine wpList_store_mid rfl 120 _ _ rfl (w.heap.size + 1 + 1) 0 #[.int .i64 p.t, .int .i64 p.o, .bool p.d, .string p.a, .int .i64 q.t, .int .i64 q.o, .bool q.d, .string q.a] rfl rfl A2.there (by kernel_rfl) (pq_one p q) ?_; refine gen_list (fun V => Bx V w.heap.size (cL f m) ∧ Bx V (w.heap.size + 1) z4 ∧ Bx V (w.heap.size + 1 + 1) [.int .i64 p.t, .int .i64 p.o, .bool p.d, .string p.a, .int .i64 q.t, .int .i64 q.o, .bool q.d, .string q.a] ∧ MapF V m F ∧ Below w.heap.size w V) ⟨A0.setOther (b := (w.heap.size + 1 + 1)) (by omega) [.int .i64 p.t, .int .i64 p.o, .bool p.d, .string p.a, .int .i64 q.t, .int .i64 q.o, .bool q.d, .string q.a], A1.setOther (b := (w.heap.size + 1 + 1)) (by omega) [.int .i64 p.t, .int .i64 p.o, .bool p.d, .string p.a, .int .i64 q.t, .int .i64 q.o, .bool q.d, .string q.a], A2.setAll [.int .i64 p.t, .int .i64 p.o, .bool p.d, .string p.a, .int .i64 q.t, .int .i64 q.o, .bool q.d, .string q.a] rfl, M1.same (setCells_heap _ _ _ _ _ (by omega)), below_setCells (by omega) _ _ _ HB2⟩ ?_; rintro V ⟨E0, E1, E2, N1, BV⟩; clear A0 A1 A2 M1 HB2; obtain ⟨w2, hup, M3, hg⟩ := update_F (P := Tryd.prog) (t := 105) Tryd.underlying105 Tryd.underlying2 N1 y; rw [hF] at hup; have C1 := E1.grown hg (by omega); have C2 := E2.grown hg (by omega); have G2 : w.grownBy w2 (some m) := (grown_of_below BV).trans hg; have a0 := E2.c 0 rfl; have a1 := E2.c 1 rfl; have a2 := E2.c 2 rfl; have a3 := E2.c 3 rfl; have a4 := E2.c 4 rfl; have a5 := E2.c 5 rfl; have a6 := E2.c 6 rfl; have a7 := E2.c 7 rfl; have k19 : V.cell? ⟨w.heap.size, 19, none⟩ = some (Value.map (some m)) := E0.c 19 rfl; clear E0 E1 E2 N1 BV hg; have c0 := C2.c 0 rfl; have c1 := C2.c 1 rfl; have c2 := C2.c 2 rfl; have c3 := C2.c 3 rfl; have r0 := C1.c 0 rfl; have s0 := C1.f 0 rfl; have r1 := C1.c 1 rfl; have s1 := C1.f 1 rfl; have r2 := C1.c 2 rfl; have s2 := C1.f 2 rfl; have r3 := C1.c 3 rfl; have s3 := C1.f 3 rfl; have D := C1.setAll (tL p) rfl; have y0 := D.c 0 rfl; have y1 := D.c 1 rfl; have y2 := D.c 2 rfl; have y3 := D.c 3 rfl; have M4 : Hid (MapF (w2.setCells (w.heap.size + 1) 0 (tL p)) m F) := M3.same (setCells_heap _ _ _ _ _ (by omega)); have G4 : Hid (w.grownBy (w2.setCells (w.heap.size + 1) 0 (tL p)) (some m)) := grown_setCells _ _ (by omega) _ _ _ G2; simp only [World.setCells, tL, Nat.zero_add, Nat.reduceAdd] at y0 y1 y2 y3 M4 G4; clear D C1 C2 M3 G2)
      refine bodyPost_ret (v := .agg #[.int .i64 p.t, .int .i64 p.o, .bool p.d, .string p.a]) (by simp [results, Tryd.results63, go_sem, y0, y1, y2, y3]) rfl ⟨ret_tr (by simp), M4.out, G4.out⟩
    · go_wp2_with (refine wpList_store_mid rfl 120 _ _ rfl (w.heap.size + 1 + 1) 0 #[.int .i64 p.t, .int .i64 p.o, .bool p.d, .string p.a, .int .i64 q.t, .int .i64 q.o, .bool q.d, .string q.a] rfl rfl A2.there (by kernel_rfl) (pq_one p q) ?_; refine gen_list (fun V => Bx V w.heap.size (cL f m) ∧ Bx V (w.heap.size + 1) z4 ∧ Bx V (w.heap.size + 1 + 1) [.int .i64 p.t, .int .i64 p.o, .bool p.d, .string p.a, .int .i64 q.t, .int .i64 q.o, .bool q.d, .string q.a] ∧ MapF V m F ∧ Below w.heap.size w V) ⟨A0.setOther (b := (w.heap.size + 1 + 1)) (by omega) [.int .i64 p.t, .int .i64 p.o, .bool p.d, .string p.a, .int .i64 q.t, .int .i64 q.o, .bool q.d, .string q.a], A1.setOther (b := (w.heap.size + 1 + 1)) (by omega) [.int .i64 p.t, .int .i64 p.o, .bool p.d, .string p.a, .int .i64 q.t, .int .i64 q.o, .bool q.d, .string q.a], A2.setAll [.int .i64 p.t, .int .i64 p.o, .bool p.d, .string p.a, .int .i64 q.t, .int .i64 q.o, .bool q.d, .string q.a] rfl, M1.same (setCells_heap _ _ _ _ _ (by omega)), below_setCells (by omega) _ _ _ HB2⟩ ?_; rintro V ⟨E0, E1, E2, N1, BV⟩; clear A0 A1 A2 M1 HB2; obtain ⟨w2, hup, M3, hg⟩ := update_F (P := Tryd.prog) (t := 105) Tryd.underlying105 Tryd.underlying2 N1 y; rw [hF] at hup; have C1 := E1.grown hg (by omega); have C2 := E2.grown hg (by omega); have G2 : w.grownBy w2 (some m) := (grown_of_below BV).trans hg; have a0 := E2.c 0 rfl; have a1 := E2.c 1 rfl; have a2 := E2.c 2 rfl; have a3 := E2.c 3 rfl; have a4 := E2.c 4 rfl; have a5 := E2.c 5 rfl; have a6 := E2.c 6 rfl; have a7 := E2.c 7 rfl; have k19 : V.cell? ⟨w.heap.size, 19, none⟩ = some (Value.map (some m)) := E0.c 19 rfl; clear E0 E1 E2 N1 BV hg; have c0 := C2.c 4 rfl; have c1 := C2.c 5 rfl; have c2 := C2.c 6 rfl; have c3 := C2.c 7 rfl; have r0 := C1.c 0 rfl; have s0 := C1.f 0 rfl; have r1 := C1.c 1 rfl; have s1 := C1.f 1 rfl; have r2 := C1.c 2 rfl; have s2 := C1.f 2 rfl; have r3 := C1.c 3 rfl; have s3 := C1.f 3 rfl; have D := C1.setAll (tL q) rfl; have y0 := D.c 0 rfl; have y1 := D.c 1 rfl; have y2 := D.c 2 rfl; have y3 := D.c 3 rfl; have M4 : Hid (MapF (w2.setCells (w.heap.size + 1) 0 (tL q)) m F) := M3.same (setCells_heap _ _ _ _ _ (by omega)); have G4 : Hid (w.grownBy (w2.setCells (w.heap.size + 1) 0 (tL q)) (some m)) := grown_setCells _ _ (by omega) _ _ _ G2; simp only [World.setCells, tL, Nat.zero_add, Nat.reduceAdd] at y0 y1 y2 y3 M4 G4; clear D C1 C2 M3 G2)
      refine bodyPost_ret (v := .agg #[.int .i64 q.t, .int .i64 q.o, .bool q.d, .string q.a]) (by simp [results, Tryd.results63, go_sem, y0, y1, y2, y3]) rfl ⟨ret_tr (by simp), M4.out, G4.out⟩
  · clear RK L1
    rw [hF] at hlk
    have M1 := hM.same (HB1.out.block m hml)
    clear M0
    rcases hi with rfl | rfl
    · go_enter Tryd.func63, Tryd.ntmps63
      go_wp2_with (refine wpList_store_mid rfl 120 _ _ rfl (w.heap.size + 1 + 1) 0 #[.int .i64 p.t, .int .i64 p.o, .bool p.d, .string p.a, .int .i64 q.t, .int .i64 q.o, .bool q.d, .string q.a] rfl rfl Y2.out.there (by kernel_rfl) (pq_one p q) ?_; refine gen_list (fun V => Bx V w.heap.size (cL f m) ∧ Bx V (w.heap.size + 1) z4 ∧ Bx V (w.heap.size + 1 + 1) [.int .i64 p.t, .int .i64 p.o, .bool p.d, .string p.a, .int .i64 q.t, .int .i64 q.o, .bool q.d, .string q.a] ∧ MapF V m F ∧ Below w.heap.size w V) ⟨Y0.out.setOther (b := (w.heap.size + 1 + 1)) (by omega) [.int .i64 p.t, .int .i64 p.o, .bool p.d, .string p.a, .int .i64 q.t, .int .i64 q.o, .bool q.d, .string q.a], Y1.out.setOther (b := (w.heap.size + 1 + 1)) (by omega) [.int .i64 p.t, .int .i64 p.o, .bool p.d, .string p.a, .int .i64 q.t, .int .i64 q.o, .bool q.d, .string q.a], Y2.out.setAll [.int .i64 p.t, .int .i64 p.o, .bool p.d, .string p.a, .int .i64 q.t, .int .i64 q.o, .bool q.d, .string q.a] rfl, M1.same (setCells_heap _ _ _ _ _ (by omega)), below_setCells (by omega) _ _ _ HB1.out⟩ ?_; rintro V ⟨E0, E1, E2, N1, BV⟩; clear M1 HB1 Y0 Y1 Y2; have C1 := E1; have C2 := E2; have M3 := N1; have G2 : w.grownBy V (some m) := grown_of_below BV; clear E0 E1 E2 N1 BV; have c0 := C2.c 0 rfl; have c1 := C2.c 1 rfl; have c2 := C2.c 2 rfl; have c3 := C2.c 3 rfl; have r0 := C1.c 0 rfl; have s0 := C1.f 0 rfl; have r1 := C1.c 1 rfl; have s1 := C1.f 1 rfl; have r2 := C1.c 2 rfl; have s2 := C1.f 2 rfl; have r3 := C1.c 3 rfl; have s3 := C1.f 3 rfl; have D := C1.setAll (tL p) rfl; have y0 := D.c 0 rfl; have y1 := D.c 1 rfl; have y2 := D.c 2 rfl; have y3 := D.c 3 rfl; have M4 : Hid (MapF (V.setCells (w.heap.size + 1) 0 (tL p)) m F) := M3.same (setCells_heap _ _ _ _ _ (by omega)); have G4 : Hid (w.grownBy (V.setCells (w.heap.size + 1) 0 (tL p)) (some m)) := grown_setCells _ _ (by omega) _ _ _ G2; simp only [World.setCells, tL, Nat.zero_add, Nat.reduceAdd] at y0 y1 y2 y3 M4 G4; clear D C1 C2 M3 G2)
      refine bodyPost_ret (v := .agg #[.int .i64 p.t, .int .i64 p.o, .bool p.d, .string p.a]) (by simp [results, Tryd.results63, go_sem, y0, y1, y2, y3]) rfl ⟨ret_tr (by simp), M4.out, G4.out⟩
    · go_enter Tryd.func63, Tryd.ntmps63
      go_wp2_with (refine wpList_store_mid rfl 120 _ _ rfl (w.heap.size + 1 + 1) 0 #[.int .i64 p.t, .int .i64 p.o, .bool p.d, .string p.a, .int .i64 q.t, .int .i64 q.o, .bool q.d, .string q.a] rfl rfl Y2.out.there (by kernel_rfl) (pq_one p q) ?_; refine gen_list (fun V => Bx V w.heap.size (cL f m) ∧ Bx V (w.heap.size + 1) z4 ∧ Bx V (w.heap.size + 1 + 1) [.int .i64 p.t, .int .i64 p.o, .bool p.d, .string p.a, .int .i64 q.t, .int .i64 q.o, .bool q.d, .string q.a] ∧ MapF V m F ∧ Below w.heap.size w V) ⟨Y0.out.setOther (b := (w.heap.size + 1 + 1)) (by omega) [.int .i64 p.t, .int .i64 p.o, .bool p.d, .string p.a, .int .i64 q.t, .int .i64 q.o, .bool q.d, .string q.a], Y1.out.setOther (b := (w.heap.size + 1 + 1)) (by omega) [.int .i64 p.t, .int .i64 p.o, .bool p.d, .string p.a, .int .i64 q.t, .int .i64 q.o, .bool q.d, .string q.a], Y2.out.setAll [.int .i64 p.t, .int .i64 p.o, .bool p.d, .string p.a, .int .i64 q.t, .int .i64 q.o, .bool q.d, .string q.a] rfl, M1.same (setCells_heap _ _ _ _ _ (by omega)), below_setCells (by omega) _ _ _ HB1.out⟩ ?_; rintro V ⟨E0, E1, E2, N1, BV⟩; clear M1 HB1 Y0 Y1 Y2; have C1 := E1; have C2 := E2; have M3 := N1; have G2 : w.grownBy V (some m) := grown_of_below BV; clear E0 E1 E2 N1 BV; have c0 := C2.c 4 rfl; have c1 := C2.c 5 rfl; have c2 := C2.c 6 rfl; have c3 := C2.c 7 rfl; have r0 := C1.c 0 rfl; have s0 := C1.f 0 rfl; have r1 := C1.c 1 rfl; have s1 := C1.f 1 rfl; have r2 := C1.c 2 rfl; have s2 := C1.f 2 rfl; have r3 := C1.c 3 rfl; have s3 := C1.f 3 rfl; have D := C1.setAll (tL q) rfl; have y0 := D.c 0 rfl; have y1 := D.c 1 rfl; have y2 := D.c 2 rfl; have y3 := D.c 3 rfl; have M4 : Hid (MapF (V.setCells (w.heap.size + 1) 0 (tL q)) m F) := M3.same (setCells_heap _ _ _ _ _ (by omega)); have G4 : Hid (w.grownBy (V.setCells (w.heap.size + 1) 0 (tL q)) (some m)) := grown_setCells _ _ (by omega) _ _ _ G2; simp only [World.setCells, tL, Nat.zero_add, Nat.reduceAdd] at y0 y1 y2 y3 M4 G4; clear D C1 C2 M3 G2)
      refine bodyPost_ret (v := .agg #[.int .i64 q.t, .int .i64 q.o, .bool q.d, .string q.a]) (by simp [results, Tryd.results63, go_sem, y0, y1, y2, y3]) rfl ⟨ret_tr (by simp), M4.out, G4.out⟩

theorem shift_any (f : Ft) (m : Nat) (y i : Int) (hi : i = 0 ∨ i = 1) (hf : okF f = true) (hy : dyY y) (w : World) (hL0 : Cvl.Lens w) (hM : MapF w m (prV f)) :
    Calls Tryd.prog 63 #[.agg (cL f m).toArray, .int .i64 y, .int .i64 i] w fun e w' => e = .returned (.agg (tL (if i = 0 then sh1 f y else sh2 f y)).toArray) ∧ MapF w' m (prV f) ∧ w.grownBy w' (some m) :=
  shift_run f m y i hi (sh1 f y) (sh2 f y) (prV f) rfl (fun w hw => by
    have R := reckon_any f m y hf hy w hw
    rw [pair_pr] at R
    exact R) w hL0 hM

end Go.Proofs.YtcgcljfdfimfgaaDoor.Fn
