import Derived.Test.YtklehbmghjcmaaaGreatDoorSz
import Derived.Maps.OwnIn
import Derived.Maps.AppendAt
import Derived.RangeFuncNested
import Derived.Test.YtklehbmghjcmaaaGreatDoorS4
import Derived.Deep.Cut
import Derived.Deep.RegionHeld3
import Derived.Deep.MidRow
import Derived.Deep.DeepCutAuto
import Derived.Deep.CutRange
import Derived.OwnWalkIn
import Derived.TacticsInMore
import Derived.LoopNIn
import Derived.LoopIn
import Derived.RangeFuncBound
import Derived.RangeFuncCalls
import Derived.Shelf.Abstract
import Derived.Shelf.RegionOpen
open Go.Value renaming int → vi
open Go.IntKind renaming i64 → ki
open List renaming setIfInBounds_toArray → zb, set_cons_zero → zc, set_cons_succ → zd
open Go.Act renaming put → za
open Go.Ending renaming returned → zr
set_option maxRecDepth 100000
set_option maxHeartbeats 16000000
set_option linter.unusedVariables false
namespace Go.Proofs.YtklehbmghjcmaaaGreatDoor
open Go Go.RowKit
open Go.ChangeMaps (setBlock heap_setBlock_same heap_setBlock_other)
def MapZ (W : World) (b : Nat) (z : Value) (f : Int → Value) : Prop :=
 ∃ es clock, W.heap[b]? = some (.map es clock) ∧ (∀ e ∈ es.toList, ∃ k : Int, e.key = vi ki k ∧ e.val = f k) ∧ (∀ k : Int, (∀ e ∈ es.toList, e.key ≠ vi ki k) → f k = z) ∧ (es.toList.map (·.key)).Nodup
theorem findNow_Z {f : Int → Value} (y : Int) : ∀ (es : List MapEntry) (i : Nat), (∀ e ∈ es, ∃ k : Int, e.key = vi ki k ∧ e.val = f k) →
  (Instr.findNow (.int .i64) (vi ki y) es i = some none ∧ ∀ e ∈ es, e.key ≠ vi ki y) ∨ ∃ j, Instr.findNow (.int .i64) (vi ki y) es i = some (some (j, f y)) ∧ j - i < es.length ∧ i ≤ j ∧ (es[j - i]?).map (·.key) = some (vi ki y)
 | [], i, _ => .inl ⟨rfl, by simp⟩
 | e :: es, i, h => by
  obtain ⟨k, hk, hv⟩ := h e (by simp)
  by_cases hy : y = k
  ·subst hy
   exact .inr ⟨i, by simp [Instr.findNow, Instr.sameNow, hk, hv], by simp, Nat.le_refl _, by simp [hk]⟩
  ·have hyb : (y == k) = false := by simpa using hy
   rcases findNow_Z y es (i + 1) (fun e' he' => h e' (by simp [he'])) with ⟨h1, h2⟩ | ⟨j, h1, h2, h3, h4⟩
   ·refine .inl ⟨by simp [Instr.findNow, Instr.sameNow, hk, hyb, h1], ?_⟩
    intro e' he'
    rcases List.mem_cons.1 he' with rfl | he'
    ·rw [hk]; intro q; injection q with _ q; exact hy q.symm
    ·exact h2 e' he'
   ·refine .inr ⟨j, by simp [Instr.findNow, Instr.sameNow, hk, hyb, h1], ?_, by omega, ?_⟩
    ·simp; omega
    ·have : j - i = (j - (i + 1)) + 1 := by omega
     rw [this]; simpa using h4
theorem lookup_Z {P : Program} {t K E : TypeId} (ht : P.underlying t = some (.map K E)) (hK : P.underlying K = some (.int .i64)) {z : Value} {W : World} (hz : (zeroValue E).run P W = .ok z W)
  {b : Nat} {f : Int → Value} (h : MapZ W b z f) (y : Int) :
  (Instr.lookup t (.map (some b)) (vi ki y) false).run P W = .ok (f y) W := by
 obtain ⟨es, clock, hb, hes, hno, _⟩ := h
 have hc : ∀ e, (Instr.checkKey e 10000 K (vi ki y)).run P W = .ok () W := fun e => MapKept.run_checkKey hK (by trivial) e 9999
 rcases findNow_Z y es.toList 0 hes with ⟨h1, h2⟩ | ⟨j, h1, _⟩
 ·rw [hno y h2]
  simp [Instr.lookup, Instr.findKey, run_underlying ht, run_underlying hK, MapKept.run_getObj_map hb, hc, h1, hz, Result.andThen]
 ·simp [Instr.lookup, Instr.findKey, run_underlying ht, run_underlying hK, MapKept.run_getObj_map hb, hc, h1, Result.andThen]
theorem sameBits_z (y : Int) : Instr.sameBits 10000 (vi ki y) (vi ki y) = true := by
 unfold Instr.sameBits; simp
theorem nodup_at {l : List Value} (h : l.Nodup) {i j : Nat} {v : Value} (hi : l[i]? = some v) (hj : l[j]? = some v) : i = j := by
 obtain ⟨a, ha⟩ := List.getElem?_eq_some_iff.1 hi
 obtain ⟨b, hb⟩ := List.getElem?_eq_some_iff.1 hj
 exact (List.getElem_inj h).1 (ha.trans hb.symm)
theorem update_Z {P : Program} {t K E : TypeId} (ht : P.underlying t = some (.map K E)) (hK : P.underlying K = some (.int .i64)) {W : World} {z : Value}
  {b : Nat} {f : Int → Value} (h : MapZ W b z f) (y : Int) (v : Value) :
  ∃ W', (Instr.mapUpdate t (.map (some b)) (vi ki y) v).run P W = .ok () W' ∧ MapZ W' b z (fun k => if k = y then v else f k) ∧ W.grownBy W' (some b) := by
 obtain ⟨es, clock, hb, hes, hno, hnd⟩ := h
 have hc : ∀ e, (Instr.checkKey e 10000 K (vi ki y)).run P W = .ok () W := fun e => MapKept.run_checkKey hK (by trivial) e 9999
 rcases findNow_Z y es.toList 0 hes with ⟨h1, hn⟩ | ⟨j, h1, h2, h3, h4⟩
 ·refine ⟨setBlock W b (.map (es.push ⟨vi ki y, v, clock⟩) (clock + 1)), ?_, ⟨_, _, heap_setBlock_same hb _, ?_, ?_, ?_⟩, ⟨rfl, rfl, rfl, by simp [setBlock], fun i _ hi => heap_setBlock_other hb _ (fun e => hi (by rw [e]))⟩⟩
  ·simp [Instr.mapUpdate, Instr.findKey, run_underlying ht, run_underlying hK, MapKept.run_getObj_map hb, hc, h1, MapKept.run_setObj_map _ hb, Result.andThen, setBlock]
  ·intro e he
   simp only [Array.toList_push, List.mem_append, List.mem_singleton] at he
   rcases he with he | rfl
   ·obtain ⟨k, hk, hv⟩ := hes e he
    refine ⟨k, hk, ?_⟩
    exact hv.trans (if_neg (fun q => hn e he (by rw [hk, q]))).symm
   ·exact ⟨y, rfl, (if_pos rfl).symm⟩
  ·intro k hk
   have hky : k ≠ y := fun q => hk ⟨vi ki y, v, clock⟩ (by simp) (by rw [q])
   refine (if_neg hky).trans ?_
   exact hno k (fun e he => hk e (by simp only [Array.toList_push, List.mem_append]; exact .inl he))
  ·simp only [Array.toList_push, List.map_append, List.map_cons, List.map_nil]
   rw [List.nodup_append]
   refine ⟨hnd, by simp, ?_⟩
   intro a ha c hc2
   simp only [List.mem_singleton] at hc2
   subst hc2
   obtain ⟨e, he, rfl⟩ := List.mem_map.1 ha
   exact hn e he
 ·have hk : ((es[j]?).map (·.key)).getD (vi ki y) = vi ki y := by
   rw [Nat.sub_zero, Array.getElem?_toList] at h4; rw [h4]; rfl
  have hkeys : (es.modify j fun e => { e with key := vi ki y, val := v }).toList.map (·.key) = es.toList.map (·.key) := by
   apply List.ext_getElem?
   intro i
   rw [Array.toList_modify, List.getElem?_map, List.getElem?_map, List.getElem?_modify]
   by_cases hij : j = i
   ·subst hij
    rw [Nat.sub_zero] at h4
    cases hx : es.toList[j]? with
    | none => simp
    | some e => rw [hx] at h4; simp at h4; simp [h4]
   ·cases hx : es.toList[i]? <;> simp [hij]
  refine ⟨setBlock W b (.map (es.modify j fun e => { e with key := vi ki y, val := v }) clock), ?_, ⟨_, _, heap_setBlock_same hb _, ?_, ?_, ?_⟩, ⟨rfl, rfl, rfl, by simp [setBlock], fun i _ hi => heap_setBlock_other hb _ (fun e => hi (by rw [e]))⟩⟩
  ·simp [Instr.mapUpdate, Instr.findKey, run_underlying ht, run_underlying hK, MapKept.run_getObj_map hb, hc, h1, hk, Instr.keyThatStays, sameBits_z, MapKept.run_setObj_map _ hb, Result.andThen, setBlock]
  ·intro e he
   rw [Array.toList_modify] at he
   obtain ⟨i, hi, rfl⟩ := List.mem_iff_getElem.1 he
   have hi0 : i < es.toList.length := by rw [List.length_modify] at hi; exact hi
   rw [List.getElem_modify]
   split
   ·exact ⟨y, rfl, (if_pos rfl).symm⟩
   ·rename_i hij
    obtain ⟨k, hk2, hv2⟩ := hes _ (List.getElem_mem hi0)
    refine ⟨k, hk2, ?_⟩
    refine hv2.trans (if_neg ?_).symm
    ·intro q
     subst q
     rw [Nat.sub_zero] at h4
     have e1 : (es.toList.map (·.key))[j]? = some (vi ki k) := by rw [List.getElem?_map]; exact h4
     have e2 : (es.toList.map (·.key))[i]? = some (vi ki k) := by rw [List.getElem?_map, List.getElem?_eq_getElem hi0]; exact congrArg some hk2
     exact hij (nodup_at hnd e1 e2)
  ·intro k hk2
   have hh : ∀ e ∈ es.toList, e.key ≠ vi ki k := fun e he q => by
    have m1 : e.key ∈ es.toList.map (·.key) := List.mem_map_of_mem he
    rw [← hkeys] at m1
    obtain ⟨e', he', hq⟩ := List.mem_map.1 m1
    exact hk2 e' he' (hq.trans q)
   have hky : k ≠ y := fun q => by
    subst q
    rw [Nat.sub_zero] at h4
    cases hx : es.toList[j]? with
    | none => rw [hx] at h4; simp at h4
    | some e => rw [hx] at h4; simp at h4; exact hh e (List.mem_of_getElem? hx) h4
   exact (if_neg hky).trans (hno k hh)
  ·rw [hkeys]; exact hnd
theorem MapZ.kept {W W' : World} {row : Option Nat} {b : Nat} {z : Value} {f : Int → Value} (h : MapZ W b z f) (hg : W.grownBy W' row) (hne : row ≠ some b) : MapZ W' b z f := by
 obtain ⟨es, clock, hb, hes⟩ := h
 exact ⟨es, clock, (hg.block b (Array.getElem?_eq_some_iff.1 hb).1 (fun e => hne e.symm)).trans hb, hes⟩
theorem MapZ.same {W W' : World} {b : Nat} {z : Value} {f : Int → Value} (h : MapZ W b z f) (hg : W'.heap[b]? = W.heap[b]?) : MapZ W' b z f := by
 obtain ⟨es, clock, hb, hes⟩ := h
 exact ⟨es, clock, hg.trans hb, hes⟩
theorem MapZ.lt {W : World} {b : Nat} {z : Value} {f : Int → Value} (h : MapZ W b z f) : b < W.heap.size := by
 obtain ⟨es, clock, hb, _⟩ := h
 exact (Array.getElem?_eq_some_iff.1 hb).1
theorem MapZ.made (W : World) (z : Value) : MapZ (W.alloc (.map #[] 0)) W.heap.size z (fun _ => z) :=
 ⟨#[], 0, World.alloc_heap_new W _, by simp, fun _ _ => rfl, by simp⟩
end Go.Proofs.YtklehbmghjcmaaaGreatDoor
namespace Go.Proofs.YtklehbmghjcmaaaGreatDoor
open Go.RowKit Sr
theorem changes_mk (T : List Value) (hT : T.length = 25) (a b : Int) (w : World) :
  Calls Tryz.prog 181 #[.agg T.toArray, vi ki a, vi ki b] w fun e w' => e = zr (.func (.func 205) #[] #[.pointer (some ⟨w.heap.size, 0, none⟩), .pointer (some ⟨w.heap.size + 1, 0, none⟩), .pointer (some ⟨w.heap.size + 2, 0, none⟩)]) ∧ w' = ((w.alloc (.cells T.toArray 44)).alloc (.cells #[vi ki a] 2)).alloc (.cells #[vi ki b] 2) := by
 have hmf : ∀ (fn : Fn) (first cap : Array Value) (w : World), (Instr.makeFunc fn first cap).run Tryz.prog w = .ok (.func fn first cap) w := fun _ _ _ _ => rfl
 go_enter Tryz.func181, Tryz.ntmps181
 generalize hUA : T.toArray = UA at *
 go_wp2
 go_ret
 exact ⟨rfl, rfl⟩
theorem strs_mk (T : List Value) (hT : T.length = 25) (a b : Int) (w : World) :
  Calls Tryz.prog 134 #[.agg T.toArray, vi ki a, vi ki b] w fun e w' => e = zr (.func (.func 180) #[] #[.pointer (some ⟨w.heap.size + 1, 0, none⟩), .pointer (some ⟨w.heap.size, 0, none⟩), .pointer (some ⟨w.heap.size + 2, 0, none⟩)]) ∧ w' = ((w.alloc (.cells T.toArray 44)).alloc (.cells #[vi ki a] 2)).alloc (.cells #[vi ki b] 2) := by
 have hmf : ∀ (fn : Fn) (first cap : Array Value) (w : World), (Instr.makeFunc fn first cap).run Tryz.prog w = .ok (.func fn first cap) w := fun _ _ _ _ => rfl
 go_enter Tryz.func134, Tryz.ntmps134
 generalize hUA : T.toArray = UA at *
 go_wp2
 go_ret
 exact ⟨rfl, rfl⟩
def sdV (x : Int) (s : Zm.St) : Int := if Zm.less x s then 0 else if Zm.says x s then 1 else 2
def stC (s : Zm.St) : List Value := [vi ki s.a, vi ki s.b, vi ki s.o]
theorem side_any (x : Int) (s : Zm.St) (h1 : -9223372036854775808 ≤ x - s.o) (h2 : x - s.o ≤ 9223372036854775807) (w : World) :
  Calls Tryz.prog 135 #[.agg #[vi ki s.a, vi ki s.b, vi ki s.o], vi ki x] w fun e w' => e = zr (vi ki (sdV x s)) ∧ Below w.heap.size w w' := by
 have HB : Hid (Below w.heap.size w (w.alloc (.cells #[vi ki s.a, vi ki s.b, vi ki s.o] 177))) := (Below.refl _ _).alloc (Nat.le_refl _) _
 obtain ⟨a, b, o⟩ := s
 simp only [] at h1 h2 HB ⊢
 by_cases k1 : b ≤ x - o
 ·rw [show sdV x ⟨a, b, o⟩ = 0 from if_pos k1]
  go_enter Tryz.func135, Tryz.ntmps135
  go_wp2
  go_ret
  exact ⟨rfl, HB.out⟩
 ·by_cases k2 : a ≤ x - o
  ·rw [show sdV x ⟨a, b, o⟩ = 1 from (if_neg k1).trans (if_pos ⟨k2, by show x - o < b; omega⟩)]
   go_enter Tryz.func135, Tryz.ntmps135
   go_wp2
   go_ret
   exact ⟨rfl, HB.out⟩
  ·rw [show sdV x ⟨a, b, o⟩ = 2 from (if_neg k1).trans (if_neg (fun q => k2 q.1))]
   go_enter Tryz.func135, Tryz.ntmps135
   go_wp2
   go_ret
   exact ⟨rfl, HB.out⟩
attribute [local go_sem] Oper.semAt_some
theorem exec_row {P : Program} {ρ : Operand → Value} {o : Oper} {w : World} {b off : Nat} {ty : TypeId} {x : Operand} {cs : List Value} {d : TypeDesc} (ho : o.op = .load ty x) (hx : ρ x = .pointer (some ⟨b, off, none⟩)) (hc : w.rangeAt b off cs)
    (hu : P.underlying ty = some d) (hd : d.isRow = true) (hi : (P.info? ty).map (·.size) = some cs.length) : (execOp ρ o).run P w = .ok (.value (.agg cs.toArray)) w := by
  simp only [execOp, ho, hx, Sem.run_bind, run_loadAt_mid w b off ty cs d hc hu hd hi, Sem.run_pure, Result.andThen_ok]
def np (Q : Exit → Act → World → Prop) : Exit → Act → World → Prop
  | .panic _, _, _ => False
  | .outgrown, _, _ => False
  | .normal, a, w => Q .normal a w
  | .ret, a, w => Q .ret a w
  | .exit i, a, w => Q (.exit i) a w
  | .goto i, a, w => Q (.goto i) a w
theorem np_out {Q : Exit → Act → World → Prop} : ∀ (e : Exit) (a : Act) (w : World), np Q e a w → Q e a w
  | .panic _, _, _, h => h.elim
  | .outgrown, _, _, h => h.elim
  | .normal, _, _, h => h
  | .ret, _, _, h => h
  | .exit _, _, _, h => h
  | .goto _, _, _, h => h
structure OkS (S : List Nat) (Ok : World → Prop) : Prop where
  keep : ∀ W W', Ok W → W.heap.size ≤ W'.heap.size → (∀ k ∈ S, W'.heap[k]? = W.heap[k]?) → Ok W'
  lt : ∀ W, Ok W → ∀ k ∈ S, k < W.heap.size
  drew : ∀ W : World, Ok W → Ok W.drew
theorem OkS.below {S : List Nat} {Ok : World → Prop} (h : OkS S Ok) {W W' : World} (hW : Ok W) (hb : Below W.heap.size W W') : Ok W' := h.keep W W' hW hb.size (fun k hk => hb.block k (h.lt W hW k hk))
theorem OkS.turns {S : List Nat} {Ok : World → Prop} (h : OkS S Ok) {M : List Nat} {W W' : World} (hW : Ok W) (ht : Turns M W W') (hM : ∀ k ∈ S, k ∉ M) : Ok W' := h.keep W W' hW ht.size (fun k hk => ht.block k (h.lt W hW k hk) (hM k hk))
theorem bx_turns {M : List Nat} {W W' : World} {b : Nat} {l : List Value} (h : Bx W b l) (ht : Turns M W W') (hb : b ∉ M) : Bx W' b l :=
  ⟨Nat.lt_of_lt_of_le h.1 ht.size, fun i v e => ⟨(World.cell?_of_block (w := W) (ht.block b h.1 hb)).trans (h.2 i v e).1, (World.frozen?_of_block (w := W) (ht.block b h.1 hb)).trans (h.2 i v e).2⟩⟩
structure StS (W : World) (T : List Value) (bt bf bo yb : Nat) (a e : Int) (l : Nat) (Ok : World → Prop) (S : List Nat) (V : World) : Prop where
  xt : Bx V bt T
  xf : Bx V bf [vi ki a]
  xo : Bx V bo [vi ki e]
  xy : Bx V yb [.func (.yield l) #[] #[]]
  okS : OkS S Ok
  ok : Ok V
  bel : Below W.heap.size W V
  slt : ∀ k ∈ S, k < W.heap.size
  blt : bt < W.heap.size ∧ bf < W.heap.size ∧ bo < W.heap.size ∧ W.heap.size ≤ yb
theorem StS.below {W : World} {T : List Value} {bt bf bo yb : Nat} {a e : Int} {l : Nat} {Ok : World → Prop} {S : List Nat} {V V' : World} (h : StS W T bt bf bo yb a e l Ok S V) (hb : Below V.heap.size V V') : StS W T bt bf bo yb a e l Ok S V' :=
  ⟨h.xt.below hb, h.xf.below hb, h.xo.below hb, h.xy.below hb, h.okS, h.okS.below h.ok hb, h.bel.trans (hb.mono h.bel.size), h.slt, h.blt⟩
theorem StS.drew {W : World} {T : List Value} {bt bf bo yb : Nat} {a e : Int} {l : Nat} {Ok : World → Prop} {S : List Nat} {V : World} (h : StS W T bt bf bo yb a e l Ok S V) : StS W T bt bf bo yb a e l Ok S V.drew :=
  ⟨h.xt, h.xf, h.xo, h.xy, h.okS, h.okS.drew _ h.ok, h.bel.drew, h.slt, h.blt⟩
theorem StS.turns {W : World} {T : List Value} {bt bf bo yb : Nat} {a e : Int} {l : Nat} {Ok : World → Prop} {S : List Nat} {V V' : World} {M : List Nat} (h : StS W T bt bf bo yb a e l Ok S V) (ht : Turns M V V') (hM : ∀ k ∈ M, yb < k) : StS W T bt bf bo yb a e l Ok S V' :=
  have b4 := h.blt
  have no : ∀ k, k ≤ yb → k ∉ M := fun k hk q => by have := hM k q; omega
  ⟨bx_turns h.xt ht (no _ (by omega)), bx_turns h.xf ht (no _ (by omega)), bx_turns h.xo ht (no _ (by omega)), bx_turns h.xy ht (no _ (Nat.le_refl _)), h.okS, h.okS.turns h.ok ht (fun k hk => no k (by have := h.slt k hk; omega)), h.bel.trans (ht.below h.bel.size (fun k hk => by have := hM k hk; omega)), h.slt, h.blt⟩
theorem turns_setCells (b : Nat) : ∀ (vs : List Value) (W : World) (i : Nat), Turns [b] W (W.setCells b i vs)
  | [], W, _ => Turns.refl _ W
  | v :: vs, W, i => (Turns.setCell W ⟨b, i, none⟩ v (by simp)).trans (turns_setCells b vs _ _)
theorem StS.pair {W : World} {T : List Value} {bt bf bo yb : Nat} {a e : Int} {l : Nat} {Ok : World → Prop} {S : List Nat} {V : World} {cs : List Value} {t : TypeId} (h0 : StS W T bt bf bo yb a e l Ok S V) (h : StS W T bt bf bo yb a e l Ok S (V.alloc (.cells cs.toArray t))) : Bx (V.alloc (.cells cs.toArray t)) V.heap.size cs ∧ yb < V.heap.size := ⟨Bx.new V cs t, h0.xy.1⟩
theorem bx_mv {n : Nat} {V V' : World} {b : Nat} {l : List Value} (h : Bx V b l) (hn : b < n) (hb : Below n V V') : Bx V' b l :=
  ⟨Nat.lt_of_lt_of_le h.1 hb.size, fun i v e => ⟨(hb.cell (p := ⟨b, i, none⟩) hn).trans (h.2 i v e).1, (hb.frozen (p := ⟨b, i, none⟩) hn).trans (h.2 i v e).2⟩⟩
structure InS (W : World) (T : List Value) (bt bf bo yb : Nat) (a e : Int) (l : Nat) (Ok : World → Prop) (S : List Nat) (nb cb : Nat) (V : World) : Prop where
  xt : Bx V bt T
  xf : Bx V bf [vi ki a]
  xo : Bx V bo [vi ki e]
  xy : Bx V yb [.func (.yield l) #[] #[]]
  okS : OkS S Ok
  ok : Ok V
  slt : ∀ k ∈ S, k < W.heap.size
  blt : bt < W.heap.size ∧ bf < W.heap.size ∧ bo < W.heap.size ∧ W.heap.size ≤ yb
  y1 : Bx V cb T
  y2 : Bx V (cb + 1) [vi ki a]
  y3 : Bx V (cb + 2) [vi ki (e - 1)]
  hnb : yb < nb
  hcb : nb < cb
theorem InS.mv {W : World} {T : List Value} {bt bf bo yb : Nat} {a e : Int} {l : Nat} {Ok : World → Prop} {S : List Nat} {nb cb : Nat} {n : Nat} {V V' : World} (h : InS W T bt bf bo yb a e l Ok S nb cb V) (hn : cb + 2 < n) (hb : Below n V V') : InS W T bt bf bo yb a e l Ok S nb cb V' :=
  have b4 := h.blt
  have b5 := h.hnb
  have b6 := h.hcb
  ⟨bx_mv h.xt (by omega) hb, bx_mv h.xf (by omega) hb, bx_mv h.xo (by omega) hb, bx_mv h.xy (by omega) hb, h.okS, h.okS.keep _ _ h.ok hb.size (fun k hk => hb.block k (by have := h.slt k hk; omega)), h.slt, h.blt,
   bx_mv h.y1 (by omega) hb, bx_mv h.y2 (by omega) hb, bx_mv h.y3 (by omega) hb, h.hnb, h.hcb⟩
theorem InS.turns {W : World} {T : List Value} {bt bf bo yb : Nat} {a e : Int} {l : Nat} {Ok : World → Prop} {S : List Nat} {nb cb : Nat} {M : List Nat} {V V' : World} (h : InS W T bt bf bo yb a e l Ok S nb cb V) (ht : Turns M V V') (hM : ∀ k ∈ M, k = nb ∨ (k < W.heap.size ∧ ¬ (k = bt ∨ k = bf ∨ k = bo ∨ k ∈ S))) : InS W T bt bf bo yb a e l Ok S nb cb V' :=
  have b4 := h.blt
  have b5 := h.hnb
  have b6 := h.hcb
  have no : ∀ k, k ≠ nb → (W.heap.size ≤ k ∨ k = bt ∨ k = bf ∨ k = bo ∨ k ∈ S) → k ∉ M := fun k h1 h2 q => by
    rcases hM k q with h3 | ⟨h3, h4⟩
    · exact h1 h3
    · rcases h2 with h5 | h5
      · omega
      · exact h4 h5
  ⟨bx_turns h.xt ht (no _ (by omega) (.inr (.inl rfl))), bx_turns h.xf ht (no _ (by omega) (.inr (.inr (.inl rfl)))), bx_turns h.xo ht (no _ (by omega) (.inr (.inr (.inr (.inl rfl))))), bx_turns h.xy ht (no _ (by omega) (.inl (by omega))), h.okS, h.okS.turns h.ok ht (fun k hk => no k (by have := h.slt k hk; omega) (.inr (.inr (.inr (.inr hk))))), h.slt, h.blt,
   bx_turns h.y1 ht (no _ (by omega) (.inl (by omega))), bx_turns h.y2 ht (no _ (by omega) (.inl (by omega))), bx_turns h.y3 ht (no _ (by omega) (.inl (by omega))), h.hnb, h.hcb⟩
theorem bx_set1 {V : World} {b : Nat} {l : List Value} (h : Bx V b l) (i : Nat) (v : Value) (hi : i < l.length) : Bx (V.setCell ⟨b, i, none⟩ v) b (l.set i v) :=
  ⟨by simpa using h.1, fun j x e => by
    by_cases hj : i = j
    · subst hj
      rw [List.getElem?_set_self hi] at e
      cases e
      exact ⟨World.cell?_setCell_same _ _ _ (h.2 i l[i] (List.getElem?_eq_getElem hi)).1, by rw [World.frozen?_setCell]; exact (h.2 i l[i] (List.getElem?_eq_getElem hi)).2⟩
    · rw [List.getElem?_set_ne hj] at e
      exact ⟨(World.cell?_setCell_other _ _ _ _ (fun q => hj (by cases q; rfl))).trans (h.2 j x e).1, by rw [World.frozen?_setCell]; exact (h.2 j x e).2⟩⟩
theorem curT_next (f : TrR) (ch : List TrR) (k : Nat) (hk : k < ch.length) : curT f ch (k + 1) = ch.getD k zTr := by
  rw [curT_succ (List.getElem?_eq_getElem hk), List.getD_eq_getElem?_getD, List.getElem?_eq_getElem hk]; rfl
theorem strs_get (e : Int) : ∀ (ch : List TrR) (f : TrR) (k : Nat), k < ch.length → (Zm.strs f.at_ e f.off (ch.map fun c => (c.at_, c.off))).getD k ⟨0, 0, 0⟩ = ⟨(curT f ch k).at_, (ch.getD k zTr).at_, (curT f ch k).off⟩
  | [], f, k, h => by simp at h
  | x :: l, f, 0, _ => rfl
  | x :: l, f, k + 1, h => by
    have ih := strs_get e l x k (by simpa using h)
    rw [List.map_cons, Zm.strs, List.getD_cons_succ, List.getD_cons_succ, ih, curT_next f (x :: l) k (by omega)]
    cases k with
    | zero => rfl
    | succ j => rw [curT_next x l j (by simp at h; omega), List.getD_cons_succ]
theorem strs_last (e : Int) : ∀ (ch : List TrR) (f : TrR), (Zm.strs f.at_ e f.off (ch.map fun c => (c.at_, c.off))).getD ch.length ⟨0, 0, 0⟩ = ⟨(curT f ch ch.length).at_, e, (curT f ch ch.length).off⟩
  | [], f => rfl
  | x :: l, f => by
    have ih := strs_last e l x
    rw [List.map_cons, Zm.strs, List.length_cons, List.getD_cons_succ, ih, curT_next f (x :: l) l.length (by simp)]
    cases l with
    | nil => rfl
    | cons z l => rw [List.length_cons, curT_next x (z :: l) l.length (by simp), List.getD_cons_succ]
theorem strs_seq (T : List Value) (hT : T.length = 25) (S : List Nat) (Ok : World → Prop) (hOk : OkS S Ok) (a e : Int) (e1 : -9223372036854775808 ≤ e - 1) (e2 : e - 1 ≤ 9223372036854775807) (x0 : TrR) (ch : List TrR)
    (ST : Hid (∀ W : World, Ok W → Calls Tryz.prog 79 #[.agg T.toArray, vi ki a] W fun r w' => r = zr (.agg #[vi ki x0.at_, vi ki x0.off, .bool x0.dst, .string x0.ab]) ∧ Below W.heap.size W w'))
    (CH : Hid (∀ (W : World) (b n : Nat), Ok W → Bx W b T → Bx W (b + 1) [vi ki a] → Bx W (b + 2) [vi ki (e - 1)] → SeqB n Tryz.prog 205 #[.pointer (some ⟨b, 0, none⟩), .pointer (some ⟨b + 1, 0, none⟩), .pointer (some ⟨b + 2, 0, none⟩)] (b :: (b + 1) :: (b + 2) :: S) (fun k => trV (ch.getD k zTr)) ch.length W))
    (w : World) (n : Nat) (hn : 5 ≤ n) (bf bt bo : Nat) (X1 : Bx w bf [vi ki a]) (X2 : Bx w bt T) (X3 : Bx w bo [vi ki e]) (O : Ok w) :
    SeqB n Tryz.prog 180 #[.pointer (some ⟨bf, 0, none⟩), .pointer (some ⟨bt, 0, none⟩), .pointer (some ⟨bo, 0, none⟩)] (bf :: bt :: bo :: S) (fun k => .agg (stC ((Zm.strs a e x0.off (ch.map fun c => (c.at_, c.off))).getD k ⟨0, 0, 0⟩)).toArray) (ch.length + 1) w := by
  intro l M J W hb hM hSM hJ hY h0
  have HS0 : Hid (StS W T bt bf bo W.heap.size a e l Ok S (W.alloc (.cells #[.func (.yield l) #[] #[]] 210))) :=
    ⟨(X2.below hb).alloc _, (X1.below hb).alloc _, (X3.below hb).alloc _, Bx.new W [.func (.yield l) #[] #[]] _, hOk, hOk.below (hOk.below O hb) ((Below.refl _ W).alloc (Nat.le_refl _) _), (Below.refl _ W).alloc (Nat.le_refl _) _, fun k hk => Nat.lt_of_lt_of_le (hOk.lt w O k hk) hb.size, Nat.lt_of_lt_of_le X2.1 hb.size, Nat.lt_of_lt_of_le X1.1 hb.size, Nat.lt_of_lt_of_le X3.1 hb.size, Nat.le_refl _⟩
  refine callsIn_of_wp_marks Tryz.func180 rfl trivial ?_ rfl
  simp only [Tryz.ntmps180, List.size_toArray, List.length_cons, List.length_nil, Nat.reduceAdd, Nat.reduceSub, Array.replicate_succ, Array.replicate_zero, List.push_toArray, List.append_toArray, List.nil_append, List.cons_append]
  refine wpIn_mono (Q := np _) ?_ np_out
  refine wpIn_wide.2 ?_
  go_upto_region 1 with fail
  refine gen_code (StS W T bt bf bo W.heap.size a e l Ok S) HS0.out ?_
  clear HS0
  intro W1 HS1'
  have HS1 : Hid (StS W T bt bf bo W.heap.size a e l Ok S W1) := HS1'
  clear HS1'
  go_cut [5] from 6 (fun v wx => ∃ nb, v = .pointer (some ⟨nb, 0, none⟩) ∧ Hid (StS W T bt bf bo W.heap.size a e l Ok S wx ∧ Bx wx nb [vi ki a, vi ki 0, vi ki x0.off] ∧ W.heap.size < nb))
  case first =>
    refine wp_region_held_drew (S := StS W T bt bf bo W.heap.size a e l Ok S) (by kernel_rfl) HS1.out.drew (fun hHeld => ?_)
    refine tk (v := ?_) 0 ⟨some 7, _, _, _, _, none⟩ rfl ?_ ?_
    case refine_2 => (intro w9 hSw; have l1 := hSw.xf.c 0 rfl; clear hSw; go_simp; try with_reducible rfl)
    simp only [za, zb, zc, zd]
    refine wpAnyH_take (i := 1) (v := .agg T.toArray) (oi := ⟨some 8, _, _, _, _, none⟩) rfl (by kernel_rfl) (by kernel_rfl) (by kernel_rfl) (fun _ _ _ h => h) (Or.inl ⟨by kernel_rfl, ?_⟩) (by assumption) ?_
    case refine_1 => (intro w9 hSw; exact exec_row rfl rfl hSw.xt.all Tryz.underlying44 rfl (by rw [hT]; kernel_rfl))
    simp only [za, zb, zc, zd]
    refine tk (v := ?_) 2 ⟨some 9, _, _, _, _, none⟩ rfl ?_ ?_
    case refine_2 => (intro w9 hSw; have l1 := hSw.xf.c 0 rfl; clear hSw; go_simp; try with_reducible rfl)
    simp only [za, zb, zc, zd]
    refine wpAnyH_ready (rs := [3, 6]) (by kernel_rfl) (by simp) (AllReadyH.cons (o := ⟨some 10, _, _, _, _, none⟩) rfl (fun K hK => ?_) (AllReadyH.cons (o := ⟨some 5, _, _, _, _, none⟩) rfl (fun K hK => ?_) AllReadyH.nil))
    ·
      go_simp
      refine (ST.out _ hHeld.ok).mono ?_
      rintro e v1 ⟨rfl, hb1⟩
      refine hK.out _ _ (hHeld.below hb1) (fun hHeld => ?_)
      try (have HN2 := HN.out.1.below hb1; have HM := HN.out.2; clear HN; have HN : Hid (Bx _ _ _ ∧ _) := ⟨HN2, HM⟩; clear HN2 HM)
      clear hK K hb1
      refine wpAnyH_take (i := 4) (v := vi ki x0.off) (oi := ⟨some 11, _, _, _, _, none⟩) rfl (by kernel_rfl) (by kernel_rfl) (by kernel_rfl) (fun _ _ _ h => h) (Or.inl ⟨by kernel_rfl, ?_⟩) (by assumption) ?_
      case refine_1 => (intro w9 hSw; kernel_rfl)
      simp only [za, zb, zc, zd]
      refine tks 5 ⟨some 12, _, _, _, _, none⟩ rfl ?_
      simp only [za, zb, zc, zd]
      refine rd 6 ⟨some 5, _, _, _, _, none⟩ rfl (fun K hK => ?_)
      go_simp
      have hH0 := hHeld
      refine hK.out _ _ (hHeld.below ((Below.refl _ _).alloc (Nat.le_refl _) _)) (fun hHeld => ?_)
      have HN : Hid (Bx _ _ [vi ki 0, vi ki 0, vi ki 0] ∧ _) := hH0.pair hHeld
      clear hK K hH0
      refine rd 7 ⟨none, _, _, _, _, none⟩ rfl (fun K hK => ?_)
      have HM := HN.out.2
      refine (if_pos (by kernel_rfl)).mpr (wp_store_mid 177 _ _ rfl _ 0 #[vi ki a, vi ki 0, vi ki x0.off] rfl rfl HN.out.1.there (by kernel_rfl) (by simp [Value.oneCell']) (hK.out _ _ (hHeld.turns (turns_setCells _ _ _ _) (fun k hk => by rw [List.mem_singleton] at hk; rw [hk]; exact HM)) (fun hHeld => ?_)))
      have HN2 : Hid (Bx _ _ [vi ki a, vi ki 0, vi ki x0.off] ∧ _) := ⟨HN.out.1.setAll [vi ki a, vi ki 0, vi ki x0.off] rfl, HM⟩
      clear hK K HN HM
      refine wpAnyH_done (by kernel_rfl) ?_ _
      go_wp2_with fail
      go_meet
      case rel => exact ⟨_, rfl, hHeld, HN2.out.1, HN2.out.2⟩
    ·
      go_simp
      have hH0 := hHeld
      refine hK.out _ _ (hHeld.below ((Below.refl _ _).alloc (Nat.le_refl _) _)) (fun hHeld => ?_)
      have HN : Hid (Bx _ _ [vi ki 0, vi ki 0, vi ki 0] ∧ _) := hH0.pair hHeld
      clear hK K hH0
      refine rd 3 ⟨some 10, _, _, _, _, none⟩ rfl (fun K hK => ?_)
      go_simp
      refine (ST.out _ hHeld.ok).mono ?_
      rintro e v5 ⟨rfl, hb5⟩
      refine hK.out _ _ (hHeld.below hb5) (fun hHeld => ?_)
      try (have HN2 := HN.out.1.below hb5; have HM := HN.out.2; clear HN; have HN : Hid (Bx _ _ _ ∧ _) := ⟨HN2, HM⟩; clear HN2 HM)
      clear hK K hb5
      refine wpAnyH_take (i := 4) (v := vi ki x0.off) (oi := ⟨some 11, _, _, _, _, none⟩) rfl (by kernel_rfl) (by kernel_rfl) (by kernel_rfl) (fun _ _ _ h => h) (Or.inl ⟨by kernel_rfl, ?_⟩) (by assumption) ?_
      case refine_1 => (intro w9 hSw; kernel_rfl)
      simp only [za, zb, zc, zd]
      refine tks 5 ⟨some 12, _, _, _, _, none⟩ rfl ?_
      simp only [za, zb, zc, zd]
      refine rd 7 ⟨none, _, _, _, _, none⟩ rfl (fun K hK => ?_)
      have HM := HN.out.2
      refine (if_pos (by kernel_rfl)).mpr (wp_store_mid 177 _ _ rfl _ 0 #[vi ki a, vi ki 0, vi ki x0.off] rfl rfl HN.out.1.there (by kernel_rfl) (by simp [Value.oneCell']) (hK.out _ _ (hHeld.turns (turns_setCells _ _ _ _) (fun k hk => by rw [List.mem_singleton] at hk; rw [hk]; exact HM)) (fun hHeld => ?_)))
      have HN2 : Hid (Bx _ _ [vi ki a, vi ki 0, vi ki x0.off] ∧ _) := ⟨HN.out.1.setAll [vi ki a, vi ki 0, vi ki x0.off] rfl, HM⟩
      clear hK K HN HM
      refine wpAnyH_done (by kernel_rfl) ?_ _
      go_wp2_with fail
      go_meet
      case rel => exact ⟨_, rfl, hHeld, HN2.out.1, HN2.out.2⟩
  case rest =>
    obtain ⟨nb, rfl, HC⟩ := hcut
    have HS2 : Hid (StS W T bt bf bo W.heap.size a e l Ok S wc) := HC.out.1
    have HN2 : Hid (Bx wc nb [vi ki a, vi ki 0, vi ki x0.off]) := HC.out.2.1
    have hnb := HC.out.2.2
    have c1 := HS2.out.xf.c 0 rfl
    have c3 := HS2.out.xo.c 0 rfl
    clear HC HS1
    go_wp2_with (first | (refine wpList_load_mid rfl 44 _ rfl bt 0 rfl T _ HS2.out.xt.all Tryz.underlying44 rfl (by rw [hT]; kernel_rfl) ?_) | fail)
    refine (changes_mk T hT a (e - 1) _).mono ?_
    rintro r' w5 ⟨rfl, rfl⟩
    clear c1 c3
    have b5 : Below wc.heap.size wc (((wc.alloc (.cells T.toArray 44)).alloc (.cells #[vi ki a] 2)).alloc (.cells #[vi ki (e - 1)] 2)) := (((Below.refl _ wc).alloc (Nat.le_refl _) _).alloc (by simp) _).alloc (by simp; omega) _
    have HI5 : Hid (InS W T bt bf bo W.heap.size a e l Ok S nb wc.heap.size (((wc.alloc (.cells T.toArray 44)).alloc (.cells #[vi ki a] 2)).alloc (.cells #[vi ki (e - 1)] 2)) ∧ Bx (((wc.alloc (.cells T.toArray 44)).alloc (.cells #[vi ki a] 2)).alloc (.cells #[vi ki (e - 1)] 2)) nb [vi ki a, vi ki 0, vi ki x0.off] ∧ Below W.heap.size W (((wc.alloc (.cells T.toArray 44)).alloc (.cells #[vi ki a] 2)).alloc (.cells #[vi ki (e - 1)] 2))) :=
      ⟨⟨HS2.out.xt.below b5, HS2.out.xf.below b5, HS2.out.xo.below b5, HS2.out.xy.below b5, hOk, hOk.below HS2.out.ok b5, HS2.out.slt, HS2.out.blt, ((Bx.new wc T _).alloc _).alloc _, (Bx.newAt (wc.alloc (.cells T.toArray 44)) [vi ki a] 2 _ (by simp)).alloc _, Bx.newAt ((wc.alloc (.cells T.toArray 44)).alloc (.cells #[vi ki a] 2)) [vi ki (e - 1)] 2 _ (by simp), hnb, HN2.out.1⟩, HN2.out.below b5, HS2.out.bel.trans (b5.mono HS2.out.bel.size)⟩
    clear b5 HS2 HN2
    go_wp2_with fail
    refine gen_code (fun V => InS W T bt bf bo W.heap.size a e l Ok S nb wc.heap.size V ∧ Bx V nb [vi ki a, vi ki 0, vi ki x0.off] ∧ Below W.heap.size W V) HI5.out ?_
    clear HI5
    rintro W5 ⟨HI5, HN5, hW5⟩
    have hb5 := HI5.y3.1
    have hnc := HI5.hcb
    refine wpIn_wide.1 (rangeB (n := 10) (by decide) (gf := 205) (lb := #[.pointer (some ⟨wc.heap.size, 0, none⟩), .pointer (some ⟨wc.heap.size + 1, 0, none⟩), .pointer (some ⟨wc.heap.size + 2, 0, none⟩)]) rfl (enters_of Tryz.func205 (by kernel_rfl) rfl)
      (CH.out W5 wc.heap.size _ HI5.ok HI5.y1 HI5.y2 HI5.y3) (nb :: M)
      (by intro k hk; rcases List.mem_cons.1 hk with rfl | hk; exact HN5.1; have := hM k hk; omega)
      (by intro k hk; simp only [List.mem_cons] at hk; rcases hk with rfl | rfl | rfl | hk; omega; omega; omega; have := HI5.slt k hk; omega)
      ?hSM rfl
      (fun k V => InS W T bt bf bo W.heap.size a e l Ok S nb wc.heap.size V ∧ Bx V nb [vi ki (curT ⟨a, x0.off, x0.dst, x0.ab⟩ ch k).at_, vi ki 0, vi ki (curT ⟨a, x0.off, x0.dst, x0.ab⟩ ch k).off] ∧ J k V ∧ W.heap.size ≤ V.heap.size)
      ?hI ⟨HI5, HN5, hJ _ _ _ h0 hW5, hW5.size⟩
      (fun k a' V => ∃ bx, nb < bx ∧ Bx V bx [vi ki (ch.getD k zTr).at_, vi ki (ch.getD k zTr).off, .bool (ch.getD k zTr).dst, .string (ch.getD k zTr).ab] ∧ a' = { tmps := #[.func (.yield l) #[] #[], .pointer (some ⟨bf, 0, none⟩), .pointer (some ⟨bt, 0, none⟩), .pointer (some ⟨bo, 0, none⟩), .pointer (some ⟨W.heap.size, 0, none⟩), .pointer (some ⟨nb, 0, none⟩), .pointer (some ⟨bx, 0, none⟩), u7, u8, u9, u10, u11, u12, .agg T.toArray, vi ki a, vi ki e, vi ki (e - 1), .func (.func 205) #[] #[.pointer (some ⟨wc.heap.size, 0, none⟩), .pointer (some ⟨wc.heap.size + 1, 0, none⟩), .pointer (some ⟨wc.heap.size + 2, 0, none⟩)], .agg #[vi ki (ch.getD k zTr).at_, vi ki (ch.getD k zTr).off, .bool (ch.getD k zTr).dst, .string (ch.getD k zTr).ab], u19, u20, u21, u22, u23, u24, u25, u26, u27, u28, u29, u30, u31, u32, u33, u34, u35], defers := [] })
      ?hAx ?assign ?body ?done)
    case hSM =>
      intro k hk q
      rcases List.mem_cons.1 q with rfl | q
      · simp only [List.mem_cons] at hk
        rcases hk with h | h | h | hk
        · omega
        · omega
        · omega
        · have := HI5.slt k hk; have := HI5.hnb; omega
      · have h1 := hM k q
        simp only [List.mem_cons] at hk
        rcases hk with h | h | h | hk
        · have := HI5.hnb; omega
        · have := HI5.hnb; omega
        · have := HI5.hnb; omega
        · exact hSM k (by simp [hk]) q
    case hI =>
      rintro k A A' ⟨p1, p2, p3, p4⟩ hbA
      exact ⟨p1.mv hb5 hbA, bx_mv p2 (by omega) hbA, hJ _ _ _ p3 (hbA.mono hW5.size), Nat.le_trans p4 hbA.size⟩
    case hAx =>
      rintro k a' V l2 o o' ⟨bx, h1, h2, h3⟩ ho hc
      refine ⟨bx, h1, bx_turns h2 (Turns.putObj (M := [l2]) V o' (by simp)) (fun q => ?_), h3⟩
      simp at q
      subst q
      have := (h2.2 0 _ rfl).1
      simp [World.cell?, ho] at this
      cases o <;> simp_all [Obj.isCells]
    case assign =>
      rintro l2 k V K' hlt hK
      simp only [trV]
      generalize ch.getD k zTr = x at *
      gi_wp2
      exact hK _ _ ((Below.refl _ V).alloc (Nat.le_refl _) _) ⟨V.heap.size, by omega, Bx.new V [vi ki x.at_, vi ki x.off, .bool x.dst, .string x.ab] _, rfl⟩
    case body =>
      rintro l2 k a' V ⟨p1, p2, p3, p4⟩ ⟨bx, hx1, hx2, rfl⟩ hk hlt
      have hY1 := hY k
      have hsk : (Zm.strs a e x0.off (ch.map fun c => (c.at_, c.off))).getD k ⟨0, 0, 0⟩ = ⟨(curT ⟨a, x0.off, x0.dst, x0.ab⟩ ch k).at_, (ch.getD k zTr).at_, (curT ⟨a, x0.off, x0.dst, x0.ab⟩ ch k).off⟩ := strs_get e ch ⟨a, x0.off, x0.dst, x0.ab⟩ k hk
      rw [hsk] at hY1
      have hnx : curT ⟨a, x0.off, x0.dst, x0.ab⟩ ch (k + 1) = ch.getD k zTr := curT_next _ ch k hk
      rw [hnx]
      generalize curT ⟨a, x0.off, x0.dst, x0.ab⟩ ch k = y at *
      generalize ch.getD k zTr = x at *
      clear hsk hnx hY CH ST HI5 HN5
      have n0 := p2.c 0 rfl
      have n1 := p2.c 1 rfl
      have n2 := p2.c 2 rfl
      have f0 := p2.f 0 rfl
      have f1 := p2.f 1 rfl
      have f2 := p2.f 2 rfl
      have d0 := hx2.c 0 rfl
      have d1 := hx2.c 1 rfl
      have yb := p1.xy.c 0 rfl
      have hbn := p1.hnb
      have tA : Turns [nb] V (V.setCell ⟨nb, 1, none⟩ (vi ki x.at_)) := Turns.setCell _ _ _ (by simp)
      obtain ⟨fn, tmps, assign, body, hy, hR⟩ := YieldAt_round (l2 := l2) (m' := 10 - 1 - 1 - 1) (hY1 (V.setCell ⟨nb, 1, none⟩ (vi ki x.at_)) (by omega) (by simp; omega) (hJ _ _ _ p3 (tA.below p4 (by intro q hq; simp at hq; omega))))
      simp only [stC] at hy
      have HR : Hid (RoundIn (Fence.wide.inRound l2) (10 - 1 - 1 - 1) Tryz.prog l fn tmps assign body (V.setCell ⟨nb, 1, none⟩ (vi ki x.at_)) fun e W' => e = zr (.bool true) ∧ J (k + 1) W' ∧ Turns M (V.setCell ⟨nb, 1, none⟩ (vi ki x.at_)) W') := hR
      clear hR
      have hnM : nb ∉ M := fun q => by have := hM nb q; omega
      have hxM : bx ∉ M := fun q => by have := hM bx q; omega
      have q2 : Bx (V.setCell ⟨nb, 1, none⟩ (vi ki x.at_)) nb [vi ki y.at_, vi ki x.at_, vi ki y.off] := bx_set1 p2 1 (vi ki x.at_) (by simp)
      have q3 : Bx (V.setCell ⟨nb, 1, none⟩ (vi ki x.at_)) bx [vi ki x.at_, vi ki x.off, .bool x.dst, .string x.ab] := bx_turns hx2 tA (by simp; omega)
      have q1 : InS W T bt bf bo W.heap.size a e l Ok S nb wc.heap.size (V.setCell ⟨nb, 1, none⟩ (vi ki x.at_)) := p1.turns tA (by intro q hq; simp at hq; exact .inl hq)
      gi_wp2
      refine HR.out.mono ?_
      rintro e' W7 ⟨rfl, hJ7, ht7⟩
      have r2 := bx_turns q2 ht7 hnM
      have r3 := bx_turns q3 ht7 hxM
      have r1 : InS W T bt bf bo W.heap.size a e l Ok S nb wc.heap.size W7 := q1.turns ht7 (by intro q hq; exact .inr ⟨hM q hq, fun h5 => hSM q (by simp only [List.mem_cons]; rcases h5 with h | h | h | h; exact .inr (.inl h); exact .inl h; exact .inr (.inr (.inl h)); exact .inr (.inr (.inr h))) hq⟩)
      have hT7 : Turns (nb :: M) V W7 := (tA.mono (by simp)).trans (ht7.mono (fun q hq => by simp [hq]))
      clear HR hy ht7 q1 q2 q3 n0 n1 n2 f0 f1 f2 d0 d1 yb p1 p2 p3 tA hY1 hx2
      have n0 := r2.c 0 rfl
      have n1 := r2.c 1 rfl
      have n2 := r2.c 2 rfl
      have f0 := r2.f 0 rfl
      have f1 := r2.f 1 rfl
      have f2 := r2.f 2 rfl
      have d0 := r3.c 0 rfl
      have d1 := r3.c 1 rfl
      have hs7 := hT7.size
      gi_wp2
      have tB : Turns [nb] W7 (W7.setCells nb 0 [vi ki x.at_, vi ki 0, vi ki x.off]) := turns_setCells _ _ _ _
      exact ⟨hT7.trans (tB.mono (by simp)), r1.turns tB (by intro q hq; simp at hq; exact .inl hq), r2.setAll [vi ki x.at_, vi ki 0, vi ki x.off] rfl, hJ _ _ _ hJ7 (tB.below (by omega) (by intro q hq; simp at hq; omega)), Nat.le_trans p4 (Nat.le_trans hs7 tB.size)⟩
    case done =>
      rintro D V hD ⟨p1, p2, p3, p4⟩ hK
      have hY1 := hY ch.length
      rw [strs_last e ch ⟨a, x0.off, x0.dst, x0.ab⟩] at hY1
      generalize curT ⟨a, x0.off, x0.dst, x0.ab⟩ ch ch.length = y at *
      clear hY CH ST HI5 HN5
      have n0 := p2.c 0 rfl
      have n1 := p2.c 1 rfl
      have n2 := p2.c 2 rfl
      have f0 := p2.f 0 rfl
      have f1 := p2.f 1 rfl
      have f2 := p2.f 2 rfl
      have yb := p1.xy.c 0 rfl
      have ec := p1.xo.c 0 rfl
      have hbn := p1.hnb
      have tA : Turns [nb] V (V.setCell ⟨nb, 1, none⟩ (vi ki e)) := Turns.setCell _ _ _ (by simp)
      obtain ⟨fn, tmps, assign, body, hy, hR⟩ := YieldAt_wide (m' := 10 - 1) (hY1 (V.setCell ⟨nb, 1, none⟩ (vi ki e)) (by omega) (by simp; omega) (hJ _ _ _ p3 (tA.below p4 (by intro q hq; simp at hq; omega))))
      simp only [stC] at hy
      have HR : Hid (RoundIn Fence.wide (10 - 1) Tryz.prog l fn tmps assign body (V.setCell ⟨nb, 1, none⟩ (vi ki e)) fun r' W' => r' = zr (.bool true) ∧ J (ch.length + 1) W' ∧ Turns M (V.setCell ⟨nb, 1, none⟩ (vi ki e)) W') := hR
      clear hR
      have hkD : (V.setCell ⟨nb, 1, none⟩ (vi ki e)).heap[D]? = some (.deferred (some [])) := (tA.block D (Array.getElem?_eq_some_iff.1 hK).1 (by simp; omega)).trans hK
      have q2 : Bx (V.setCell ⟨nb, 1, none⟩ (vi ki e)) nb [vi ki y.at_, vi ki e, vi ki y.off] := bx_set1 p2 1 (vi ki e) (by simp)
      have yb2 : (V.setCell ⟨nb, 1, none⟩ (vi ki e)).cell? ⟨W.heap.size, 0, none⟩ = some (.func (.yield l) #[] #[]) := (bx_turns p1.xy tA (by simp; omega)).c 0 rfl
      go_upto_region 8 with fail
      clear n0 n1 n2 f0 f1 f2 yb ec
      have n0 := q2.c 0 rfl
      have n1 := q2.c 1 rfl
      have n2 := q2.c 2 rfl
      have hDM : D ∉ M := fun q => by have := hM D q; omega
      have hlD := (Array.getElem?_eq_some_iff.1 hkD).1
      have HKD : Hid ((V.setCell ⟨nb, 1, none⟩ (vi ki e)).heap[D]? = some (.deferred (some []))) := hkD
      clear hkD hK
      refine (wpIn_wide (n := 10)).1 ?_
      gi_wp2
      refine HR.out.mono ?_
      rintro r' W7 ⟨rfl, hJ7, ht7⟩
      have hk7 := (ht7.block D hlD hDM).trans HKD.out
      gi_wp2
      refine ⟨by simp, .inl ⟨_, _, rfl, run_takeDeferred hk7, ?_⟩⟩
      exact ⟨_, results_none rfl _ _ _, ⟨_, rfl⟩, hJ _ _ _ hJ7 ((Turns.putObj (M := [D]) W7 _ (by simp)).below (by have := ht7.size; simp at this; omega) (by intro q hq; simp at hq; omega))⟩
end Go.Proofs.YtklehbmghjcmaaaGreatDoor
