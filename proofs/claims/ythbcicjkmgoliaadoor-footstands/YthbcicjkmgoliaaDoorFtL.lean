/- A loop over an iterator that keeps a map of its own (block m) and writes it between the rounds: what such an iterator owes, and what the loop then does. A map whose every entry is told by one function of its key. -/
import Derived.RangeFuncNested
import Derived.RangeFuncLeaves
import Derived.RangeFuncBox
import Derived.Maps.OwnIn
import Derived.Maps.AppendAt
import Derived.Deep.MidRow
namespace Go.Proofs.YthbcicjkmgoliaaDoor
open Go Go.RowKit
open Go.ChangeMaps (setBlock heap_setBlock_same heap_setBlock_other)

/-- J outlasts new blocks and turns of block m. -/
def Ab (m : Nat) (J : Nat → World → Prop) : Prop :=
  ∀ k W W' row, J k W → W.grownBy W' row → (∀ r, row = some r → r = m) → J k W'

/-- The blocks of S lie as they lay. -/
def Kept (S : List Nat) (W W' : World) : Prop := W.heap.size ≤ W'.heap.size ∧ ∀ k ∈ S, W'.heap[k]? = W.heap[k]?

theorem Kept.refl (S : List Nat) (W : World) : Kept S W W := ⟨Nat.le_refl _, fun _ _ => rfl⟩

theorem Kept.trans {S : List Nat} {A B C : World} (h : Kept S A B) (k : Kept S B C) : Kept S A C :=
  ⟨Nat.le_trans h.1 k.1, fun i hi => (k.2 i hi).trans (h.2 i hi)⟩

theorem Kept.putObj {S : List Nat} {W : World} {l : Nat} (o : Obj) (hl : l ∉ S) : Kept S W (W.putObj l o) :=
  ⟨by simp, fun k hk => World.putObj_heap_other (by intro e; subst e; exact hl hk)⟩

/-- What an iterator owes: N values come, one behind the other, unless a round says 'no more'. -/
def SeqM (F : Fence) (n : Nat) (P : Program) (gf : Nat) (lb : Array Value) (m : Nat) (S : List Nat) (vs : Nat → Value) (N : Nat) (w : World) : Prop :=
  ∀ (l : Nat) (J Jx : Nat → World → Prop) (W : World), Below w.heap.size w W → Ab m J → Ab m Jx →
    (∀ k W1, k < N → J k W1 → YieldAt F (n - 1) P l #[vs k] W1 fun e W' =>
      (e = .returned (.bool true) ∧ J (k + 1) W' ∧ Kept S W1 W') ∨ (e = .returned (.bool false) ∧ Jx (k + 1) W')) →
    J 0 W →
    CallsIn F n P gf (#[.func (.yield l) #[] #[]] ++ lb) W fun e W' => (∃ v, e = .returned v) ∧ (J N W' ∨ ∃ k, k < N ∧ Jx (k + 1) W')

/-- I outlasts new blocks, turns of block m, and turns of blocks from B on that are no cells. -/
def OwnM (m B : Nat) (I : Nat → World → Prop) : Prop :=
  ∀ k W W' row, I k W → W.grownBy W' row → (∀ r, row = some r → r = m ∨ (B ≤ r ∧ ∃ o : Obj, W.heap[r]? = some o ∧ o.isCells = false)) → I k W'

theorem OwnM.putObj {m B : Nat} {I : Nat → World → Prop} (h : OwnM m B I) {k : Nat} {W : World} {l : Nat} {o : Obj} (o' : Obj) (hs : I k W) (hB : B ≤ l) (hl : W.heap[l]? = some o) (ho : o.isCells = false) : I k (W.putObj l o') :=
  h k W _ (some l) hs (grownBy_putObj' W l o') (fun r e => by cases e; exact .inr ⟨hB, o, hl, ho⟩)

theorem OwnM.alloc {m B : Nat} {I : Nat → World → Prop} (h : OwnM m B I) {k : Nat} {W : World} (o : Obj) (hs : I k W) : I k (W.alloc o) :=
  h k W _ none hs (World.grownBy_alloc W o none) (fun r e => by cases e)

/-- How the body of a round may be left. -/
def roundM (B : Nat) (S : List Nat) (I : Nat → World → Prop) (Ix : Code → Nat → World → Prop) (k : Nat) (W : World) : Exit → Act → World → Prop
  | .normal, _, W' => KeepsFrom B W W' ∧ Kept S W W' ∧ I k W'
  | .ret, _, W' => KeepsFrom B W W' ∧ Ix .ret k W'
  | .exit id, _, W' => KeepsFrom B W W' ∧ Ix (.exit id) k W'
  | .goto _, _, _ => False
  | .panic _, _, _ => False
  | .outgrown, _, _ => False

theorem grown_keeps {W W' : World} {row : Option Nat} {k m : Nat} {o : Obj} (hg : W.grownBy W' row) (hr : ∀ r, row = some r → r = m) (hk : k ≠ m) (h : W.heap[k]? = some o) : W'.heap[k]? = some o :=
  (hg.block k (Array.getElem?_eq_some_iff.1 h).1 (fun e => hk (hr k e.symm))).trans h

theorem rangeM {F : Fence} {n : Nat} {P : Program} {g : Operand} {ps : Array Tmp} {assign body : Code} {Q : Exit → Act → World → Prop} {a : Act} {w : World}
    (hro : F.round = none) (h1 : 1 ≤ n) {gf : Nat} {lb : Array Value} (hg : a.eval g = .func (.func gf) #[] lb) (hFg : F.fn gf) (eg : ∀ args w, (callFunc gf args).run P w = .ok (.enter gf args) w)
    {m : Nat} {S : List Nat} {vs : Nat → Value} {N : Nat} (hseq : SeqM F (n - 1) P gf lb m S vs N w) (hm : m < w.heap.size) (hS : ∀ k ∈ S, k < w.heap.size) (hps : ps.size = 1)
    (I : Nat → World → Prop) (Ix : Code → Nat → World → Prop) (hI : OwnM m w.heap.size I) (hIx : ∀ c, OwnM m w.heap.size (Ix c)) (h0 : I 0 w) (Ax : Nat → Act → World → Prop)
    (hAx : ∀ k a' W l o o', Ax k a' W → w.heap.size ≤ l → W.heap[l]? = some o → o.isCells = false → Ax k a' (W.putObj l o'))
    (hassign : ∀ (l k : Nat) (W : World) (K : Act → World → Prop), I k W → w.heap.size < W.heap.size → (∀ a' W', KeepsFrom w.heap.size W W' → Kept S W W' → I k W' → Ax k a' W' → K a' W') →
      assign.wpIn (F.inRound l) (n - 1 - 1) P (Exit.then K (fun _ _ _ => False)) { tmps := (ps.zip #[vs k]).foldl (fun t (p, v) => t.setIfInBounds p v) a.tmps, defers := [] } W)
    (hbody : ∀ (l k : Nat) (a' : Act) (W : World), I k W → Ax k a' W → k < N → w.heap.size < W.heap.size → body.wpIn (F.inRound l) (n - 1 - 1) P (roundM w.heap.size S I Ix (k + 1) W) a' W)
    (hdone : ∀ (D : Nat) (W : World), w.heap.size ≤ D → I N W → W.heap[D]? = some (.deferred (some [])) → Q .normal { a with defers := { target := .collected D, args := #[] } :: a.defers } W)
    (hstop : ∀ (D : Nat) (c : Code) (k : Nat) (W : World), w.heap.size ≤ D → k < N → Ix c (k + 1) W → W.heap[D]? = some (.deferred (some [])) → c.wpIn F n P Q { a with defers := { target := .collected D, args := #[] } :: a.defers } W) :
    (Code.rangeFunc g ps assign body).wpIn F n P Q a w := by
  refine wpIn_rangeFunc ?_
  intro fn hfn
  rw [hro]
  let rec' : LoopState → Option Code → Loop := fun st pe => { state := st, pending := pe, fn, tmps := a.tmps, params := ps, assign, body, defers := w.heap.size }
  obtain ⟨W1, hW1⟩ : ∃ W1, (w.alloc (.deferred (some []))).alloc (.loop (rec' .ready none)) = W1 := ⟨_, rfl⟩
  have hz1 : W1.heap.size = w.heap.size + 2 := by rw [← hW1]; simp
  have hL1 : W1.heap[w.heap.size + 1]? = some (.loop (rec' .ready none)) := by
    rw [← hW1]; have := World.alloc_heap_new (w.alloc (.deferred (some []))) (.loop (rec' .ready none)); rwa [World.size_alloc] at this
  have hK1 : W1.heap[w.heap.size]? = some (.deferred (some [])) := by
    rw [← hW1]; exact (Below.heap_alloc _ _ _ (by simp)).trans (World.alloc_heap_new w _)
  have hI1 : I 0 W1 := by rw [← hW1]; exact hI.alloc _ (hI.alloc _ h0)
  have hb1 : Below w.heap.size w W1 := by
    rw [← hW1]; exact ((Below.refl _ w).alloc (Nat.le_refl _) _).alloc (by simp) _
  have hlS : w.heap.size + 1 ∉ S := fun h => by have := hS _ h; omega
  have inj : ∀ {A : World} {row : Option Nat}, (∀ r, row = some r → r = m) → (∀ r, row = some r → r = m ∨ (w.heap.size ≤ r ∧ ∃ o : Obj, A.heap[r]? = some o ∧ o.isCells = false)) := fun h r e => .inl (h r e)
  refine ⟨w.heap.size + 1, [{ target := .collected w.heap.size, args := #[] }], W1, { target := .fn (.func gf) lb, args := #[.func (.yield (w.heap.size + 1)) #[] #[]] }, W1, gf,
    #[.func (.yield (w.heap.size + 1)) #[] #[]] ++ lb, W1, ?_, ?_, ?_, ?_, fun _ => h1, ?_⟩
  · rw [← hW1]; exact run_enterLoop_outer _ _ _ _ _
  · simp only [resolve, hg]
    simp [go_sem]
  · intro f' hf'; simp [Target.leads] at hf'; subst hf'; exact hFg
  · simp [invoke, go_sem, eg]
  · refine (hseq (w.heap.size + 1)
      (fun k W => I k W ∧ W.heap[w.heap.size + 1]? = some (.loop (rec' .ready none)) ∧ W.heap[w.heap.size]? = some (.deferred (some [])))
      (fun k W => ∃ c, Ix c k W ∧ W.heap[w.heap.size + 1]? = some (.loop (rec' .done (some c))) ∧ W.heap[w.heap.size]? = some (.deferred (some [])))
      W1 hb1
      (fun k A B row hs hg' hr => ⟨hI k A B row hs.1 hg' (inj hr), grown_keeps hg' hr (by omega) hs.2.1, grown_keeps hg' hr (by omega) hs.2.2⟩)
      (fun k A B row hs hg' hr => by
        obtain ⟨c, hc, hl, hk⟩ := hs
        exact ⟨c, hIx c k A B row hc hg' (inj hr), grown_keeps hg' hr (by omega) hl, grown_keeps hg' hr (by omega) hk⟩)
      ?_ ⟨hI1, hL1, hK1⟩).mono ?_
    · rintro k W hkN ⟨hi, hl, hk⟩
      have hlt : w.heap.size + 1 < W.heap.size := (Array.getElem?_eq_some_iff.1 hl).1
      have hy := run_yield (P := P) (args := #[vs k]) hl (by simp [rec', hps])
      refine ⟨fn, _, assign, body, hy, roundIn_of_wpIn hfn (hassign _ k W _ hi (by omega) (fun a' V hkV hpV hiV hxV => ?_))⟩
      have hlV : V.heap[w.heap.size + 1]? = some (.loop (rec' .ready none)) := hkV.same _ _ (by omega) hl rfl
      have hdV : V.heap[w.heap.size]? = some (.deferred (some [])) := hkV.same _ _ (Nat.le_refl _) hk rfl
      have hltV : w.heap.size + 1 < V.heap.size := (Array.getElem?_eq_some_iff.1 hlV).1
      refine ⟨_, run_beginRound hlV rfl, ?_⟩
      have hl2 : (V.putObj (w.heap.size + 1) (.loop { rec' .ready none with state := .busy })).heap[w.heap.size + 1]? = some (.loop { rec' .ready none with state := .busy }) := World.putObj_heap_same hltV
      have hk2 : (V.putObj (w.heap.size + 1) (.loop { rec' .ready none with state := .busy })).heap[w.heap.size]? = some (.deferred (some [])) := (World.putObj_heap_other (by omega)).trans hdV
      refine wpIn_mono (hbody _ k a' _ (hI.putObj _ hiV (by omega) hlV rfl) (hAx _ _ _ _ _ _ hxV (by omega) hlV rfl) hkN (by simp; omega)) ?_
      have fin : ∀ (jump : Option Code) (W3 : World), KeepsFrom w.heap.size (V.putObj (w.heap.size + 1) (.loop { rec' .ready none with state := .busy })) W3 →
          (Instr.endRound (w.heap.size + 1) jump).run P W3 = .ok (.bool jump.isNone) (W3.putObj (w.heap.size + 1) (.loop (rec' (if jump.isNone then .ready else .done) jump))) ∧
          W3.heap[w.heap.size + 1]? = some (.loop { rec' .ready none with state := .busy }) ∧
          (W3.putObj (w.heap.size + 1) (.loop (rec' (if jump.isNone then .ready else .done) jump))).heap[w.heap.size + 1]? = some (.loop (rec' (if jump.isNone then .ready else .done) jump)) ∧
          (W3.putObj (w.heap.size + 1) (.loop (rec' (if jump.isNone then .ready else .done) jump))).heap[w.heap.size]? = some (.deferred (some [])) := fun jump W3 hk3 => by
        have hl3 := hk3.same _ _ (by omega) hl2 rfl
        exact ⟨run_endRound (P := P) jump hl3, hl3, World.putObj_heap_same (Array.getElem?_eq_some_iff.1 hl3).1, (World.putObj_heap_other (by omega)).trans (hk3.same _ _ (Nat.le_refl _) hk2 rfl)⟩
      rintro e a3 W3 hp
      cases e with
      | normal =>
        obtain ⟨hk3, hkp3, hi3⟩ := hp
        obtain ⟨hr, hl3, hl4, hk4⟩ := fin none W3 hk3
        exact ⟨_, _, hr, .inl ⟨rfl, ⟨hI.putObj _ hi3 (by omega) hl3 rfl, hl4, hk4⟩, (hpV.trans ((Kept.putObj _ hlS).trans hkp3)).trans (Kept.putObj _ hlS)⟩⟩
      | ret =>
        obtain ⟨hk3, hi3⟩ := hp
        obtain ⟨hr, hl3, hl4, hk4⟩ := fin (some .ret) W3 hk3
        exact ⟨_, _, hr, .inr ⟨rfl, .ret, (hIx _).putObj _ hi3 (by omega) hl3 rfl, hl4, hk4⟩⟩
      | exit id =>
        obtain ⟨hk3, hi3⟩ := hp
        obtain ⟨hr, hl3, hl4, hk4⟩ := fin (some (.exit id)) W3 hk3
        exact ⟨_, _, hr, .inr ⟨rfl, .exit id, (hIx _).putObj _ hi3 (by omega) hl3 rfl, hl4, hk4⟩⟩
      | goto t => exact hp.elim
      | panic ch => exact hp.elim
      | outgrown => exact hp.elim
    · rintro e W2 ⟨⟨v, rfl⟩, (⟨hi, hl, hk⟩ | ⟨k, hkN, c, hi, hl, hk⟩)⟩
      · exact ⟨none, _, run_endLoop (P := P) hl (by simp [rec']), hdone _ _ (Nat.le_refl _) (hI.putObj _ hi (by omega) hl rfl) ((World.putObj_heap_other (by omega)).trans hk)⟩
      · exact ⟨some c, _, run_endLoop (P := P) hl (by simp [rec']), hstop _ c k _ (Nat.le_refl _) hkN ((hIx c).putObj _ hi (by omega) hl rfl) ((World.putObj_heap_other (by omega)).trans hk)⟩

theorem wpListIn_load_mid {F : Fence} {n : Nat} {P : Program} {ops : Array Oper} {rest : List Oper} {op : Oper} {a : Act} {w : World} {Q : Exit → Act → World → Prop} (hgd : op.guard = none) (ty : TypeId) (x : Operand) (ho : op.op = .load ty x)
    (b o : Nat) (hx : a.eval x = .pointer (some ⟨b, o, none⟩)) (cs : List Value) (d : TypeDesc) (hc : w.rangeAt b o cs)
    (hu : P.underlying ty = some d) (hd : d.isRow = true) (hi : (P.info? ty).map (·.size) = some cs.length)
    (h : wpListIn F n P ops Q rest (a.put op.dst (.agg cs.toArray)) w) : wpListIn F n P ops Q (op :: rest) a w := by
  refine wpListIn_plain hgd fun K' hK' => ?_
  unfold Oper.wpIn
  refine ⟨by simp [Oper.about, ho], ?_⟩
  rw [Oper.semAt_plain F _ _ (by rw [ho]; intro c hc'; cases hc')]
  simp only [execOp, ho, hx, Sem.run_bind, run_loadAt_mid w b o ty cs d hc hu hd hi, Sem.run_pure, Result.andThen_ok]
  exact hK' _ _ h

theorem gen_listIn {F : Fence} {n : Nat} {P : Program} {ops : Array Oper} {Q : Exit → Act → World → Prop} {rest : List Oper} {a : Act} {w1 : World} (T : World → Prop) (h : T w1) (k : ∀ w2, T w2 → wpListIn F n P ops Q rest a w2) : wpListIn F n P ops Q rest a w1 := k _ h

/-- Block b is a map whose entries are told by f. -/
def MapF (W : World) (b : Nat) (f : Int → Value) : Prop :=
  ∃ es clock, W.heap[b]? = some (.map es clock) ∧ ∀ e ∈ es.toList, ∃ k : Int, e.key = .int .i64 k ∧ e.val = f k

theorem findNow_F {f : Int → Value} (y : Int) : ∀ (es : List MapEntry) (i : Nat), (∀ e ∈ es, ∃ k : Int, e.key = .int .i64 k ∧ e.val = f k) →
    Instr.findNow (.int .i64) (.int .i64 y) es i = some none ∨ ∃ j, Instr.findNow (.int .i64) (.int .i64 y) es i = some (some (j, f y)) ∧ j - i < es.length ∧ i ≤ j ∧ (es[j - i]?).map (·.key) = some (.int .i64 y)
  | [], i, _ => .inl rfl
  | e :: es, i, h => by
    obtain ⟨k, hk, hv⟩ := h e (by simp)
    by_cases hy : y = k
    · subst hy
      exact .inr ⟨i, by simp [Instr.findNow, Instr.sameNow, hk, hv], by simp, Nat.le_refl _, by simp [hk]⟩
    · have hyb : (y == k) = false := by simpa using hy
      rcases findNow_F y es (i + 1) (fun e' he' => h e' (by simp [he'])) with h1 | ⟨j, h1, h2, h3, h4⟩
      · exact .inl (by simp [Instr.findNow, Instr.sameNow, hk, hyb, h1])
      · refine .inr ⟨j, by simp [Instr.findNow, Instr.sameNow, hk, hyb, h1], ?_, by omega, ?_⟩
        · simp; omega
        · have : j - i = (j - (i + 1)) + 1 := by omega
          rw [this]; simpa using h4

theorem sameBits_int (y : Int) : Instr.sameBits 10000 (.int .i64 y) (.int .i64 y) = true := by
  unfold Instr.sameBits; simp

theorem lookup_F {P : Program} {t K E : TypeId} (ht : P.underlying t = some (.map K E)) (hK : P.underlying K = some (.int .i64)) {z : Value} {W : World} (hz : (zeroValue E).run P W = .ok z W)
    {b : Nat} {f : Int → Value} (h : MapF W b f) (y : Int) :
    (Instr.lookup t (.map (some b)) (.int .i64 y) true).run P W = .ok (.tuple #[z, .bool false]) W ∨ (Instr.lookup t (.map (some b)) (.int .i64 y) true).run P W = .ok (.tuple #[f y, .bool true]) W := by
  obtain ⟨es, clock, hb, hes⟩ := h
  have hc : ∀ e, (Instr.checkKey e 10000 K (.int .i64 y)).run P W = .ok () W := fun e => MapKept.run_checkKey hK (by trivial) e 9999
  rcases findNow_F y es.toList 0 hes with h1 | ⟨j, h1, _⟩
  · left
    simp [Instr.lookup, Instr.findKey, run_underlying ht, run_underlying hK, MapKept.run_getObj_map hb, hc, h1, hz, Result.andThen]
  · right
    simp [Instr.lookup, Instr.findKey, run_underlying ht, run_underlying hK, MapKept.run_getObj_map hb, hc, h1, Result.andThen]

theorem update_F {P : Program} {t K E : TypeId} (ht : P.underlying t = some (.map K E)) (hK : P.underlying K = some (.int .i64)) {W : World}
    {b : Nat} {f : Int → Value} (h : MapF W b f) (y : Int) :
    ∃ W', (Instr.mapUpdate t (.map (some b)) (.int .i64 y) (f y)).run P W = .ok () W' ∧ MapF W' b f ∧ W.grownBy W' (some b) := by
  obtain ⟨es, clock, hb, hes⟩ := h
  have hc : ∀ e, (Instr.checkKey e 10000 K (.int .i64 y)).run P W = .ok () W := fun e => MapKept.run_checkKey hK (by trivial) e 9999
  rcases findNow_F y es.toList 0 hes with h1 | ⟨j, h1, h2, h3, h4⟩
  · refine ⟨setBlock W b (.map (es.push ⟨.int .i64 y, f y, clock⟩) (clock + 1)), ?_, ⟨_, _, heap_setBlock_same hb _, ?_⟩, ⟨rfl, rfl, rfl, by simp [setBlock], fun i _ hi => heap_setBlock_other hb _ (fun e => hi (by rw [e]))⟩⟩
    · simp [Instr.mapUpdate, Instr.findKey, run_underlying ht, run_underlying hK, MapKept.run_getObj_map hb, hc, h1, MapKept.run_setObj_map _ hb, Result.andThen, setBlock]
    · intro e he
      simp only [Array.toList_push, List.mem_append, List.mem_singleton] at he
      rcases he with he | rfl
      · exact hes e he
      · exact ⟨y, rfl, rfl⟩
  · have hk : ((es[j]?).map (·.key)).getD (.int .i64 y) = .int .i64 y := by
      rw [Nat.sub_zero, Array.getElem?_toList] at h4; rw [h4]; rfl
    refine ⟨setBlock W b (.map (es.modify j fun e => { e with key := .int .i64 y, val := f y }) clock), ?_, ⟨_, _, heap_setBlock_same hb _, ?_⟩, ⟨rfl, rfl, rfl, by simp [setBlock], fun i _ hi => heap_setBlock_other hb _ (fun e => hi (by rw [e]))⟩⟩
    · simp [Instr.mapUpdate, Instr.findKey, run_underlying ht, run_underlying hK, MapKept.run_getObj_map hb, hc, h1, hk, Instr.keyThatStays, sameBits_int, MapKept.run_setObj_map _ hb, Result.andThen, setBlock]
    · intro e he
      rw [Array.toList_modify] at he
      obtain ⟨i, hi, rfl⟩ := List.mem_iff_getElem.1 he
      rw [List.getElem_modify]
      split
      · exact ⟨y, rfl, rfl⟩
      · exact hes _ (List.getElem_mem _)

theorem MapF.kept {W W' : World} {row : Option Nat} {b : Nat} {f : Int → Value} (h : MapF W b f) (hg : W.grownBy W' row) (hne : row ≠ some b) : MapF W' b f := by
  obtain ⟨es, clock, hb, hes⟩ := h
  exact ⟨es, clock, (hg.block b (Array.getElem?_eq_some_iff.1 hb).1 (fun e => hne e.symm)).trans hb, hes⟩

theorem MapF.same {W W' : World} {b : Nat} {f : Int → Value} (h : MapF W b f) (hg : W'.heap[b]? = W.heap[b]?) : MapF W' b f := by
  obtain ⟨es, clock, hb, hes⟩ := h
  exact ⟨es, clock, hg.trans hb, hes⟩

theorem MapF.made (W : World) (f : Int → Value) : MapF (W.alloc (.map #[] 0)) W.heap.size f :=
  ⟨#[], 0, World.alloc_heap_new W _, by simp⟩

end Go.Proofs.YthbcicjkmgoliaaDoor
