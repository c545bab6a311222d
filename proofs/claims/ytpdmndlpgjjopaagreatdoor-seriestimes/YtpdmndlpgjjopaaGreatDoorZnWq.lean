/- The iterator of stretches. -/
import Derived.Test.YtpdmndlpgjjopaaGreatDoorZnVq
import Derived.Deep.RegionHeld3
import Derived.Deep.MidRow
import Derived.Deep.DeepCutAuto
import Derived.Deep.CutRange
import Derived.OwnWalkIn
import Derived.TacticsInMore
import Derived.LoopNIn
import Derived.LoopIn
import Derived.RangeFuncBound
import Derived.RangeFuncCalls
import Derived.Shelf.Abstract
import Derived.Shelf.RegionOpen
namespace Go.Proofs.YtpdmndlpgjjopaaGreatDoor
open Go.RowKit Sr
set_option linter.unusedVariables false
attribute [local go_sem] Oper.semAt_some

theorem exec_row {P : Program} {ρ : Operand → Value} {o : Oper} {w : World} {b off : Nat} {ty : TypeId} {x : Operand} {cs : List Value} {d : TypeDesc} (ho : o.op = .load ty x) (hx : ρ x = .pointer (some ⟨b, off, none⟩)) (hc : w.rangeAt b off cs)
    (hu : P.underlying ty = some d) (hd : d.isRow = true) (hi : (P.info? ty).map (·.size) = some cs.length) : (execOp ρ o).run P w = .ok (.value (.agg cs.toArray)) w := by
  simp only [execOp, ho, hx, Sem.run_bind, run_loadAt_mid w b off ty cs d hc hu hd hi, Sem.run_pure, Result.andThen_ok]
/-- no panic, nothing outgrown. -/
def np (Q : Exit → Act → World → Prop) : Exit → Act → World → Prop
  | .panic _, _, _ => False
  | .outgrown, _, _ => False
  | .normal, a, w => Q .normal a w
  | .ret, a, w => Q .ret a w
  | .exit i, a, w => Q (.exit i) a w
  | .goto i, a, w => Q (.goto i) a w
theorem np_out {Q : Exit → Act → World → Prop} : ∀ (e : Exit) (a : Act) (w : World), np Q e a w → Q e a w
  | .panic _, _, _, h => h.elim
  | .outgrown, _, _, h => h.elim
  | .normal, _, _, h => h
  | .ret, _, _, h => h
  | .exit _, _, _, h => h
  | .goto _, _, _, h => h
/-- what a world must keep that a table may be read there, told by blocks. -/
structure OkS (S : List Nat) (Ok : World → Prop) : Prop where
  keep : ∀ W W', Ok W → W.heap.size ≤ W'.heap.size → (∀ k ∈ S, W'.heap[k]? = W.heap[k]?) → Ok W'
  lt : ∀ W, Ok W → ∀ k ∈ S, k < W.heap.size
  drew : ∀ W : World, Ok W → Ok W.drew
theorem OkS.below {S : List Nat} {Ok : World → Prop} (h : OkS S Ok) {W W' : World} (hW : Ok W) (hb : Below W.heap.size W W') : Ok W' := h.keep W W' hW hb.size (fun k hk => hb.block k (h.lt W hW k hk))
theorem OkS.turns {S : List Nat} {Ok : World → Prop} (h : OkS S Ok) {M : List Nat} {W W' : World} (hW : Ok W) (ht : Turns M W W') (hM : ∀ k ∈ S, k ∉ M) : Ok W' := h.keep W W' hW ht.size (fun k hk => ht.block k (h.lt W hW k hk) (hM k hk))
theorem bx_turns {M : List Nat} {W W' : World} {b : Nat} {l : List Value} (h : Bx W b l) (ht : Turns M W W') (hb : b ∉ M) : Bx W' b l :=
  ⟨Nat.lt_of_lt_of_le h.1 ht.size, fun i v e => ⟨(World.cell?_of_block (w := W) (ht.block b h.1 hb)).trans (h.2 i v e).1, (World.frozen?_of_block (w := W) (ht.block b h.1 hb)).trans (h.2 i v e).2⟩⟩

/-- what the iterator of stretches holds. -/
structure StS (W : World) (T : List Value) (bt bf bo yb : Nat) (a e : Int) (l : Nat) (Ok : World → Prop) (S : List Nat) (V : World) : Prop where
  xt : Bx V bt T
  xf : Bx V bf [.int .i64 a]
  xo : Bx V bo [.int .i64 e]
  xy : Bx V yb [.func (.yield l) #[] #[]]
  okS : OkS S Ok
  ok : Ok V
  bel : Below W.heap.size W V
  slt : ∀ k ∈ S, k < W.heap.size
  blt : bt < W.heap.size ∧ bf < W.heap.size ∧ bo < W.heap.size ∧ W.heap.size ≤ yb
theorem StS.below {W : World} {T : List Value} {bt bf bo yb : Nat} {a e : Int} {l : Nat} {Ok : World → Prop} {S : List Nat} {V V' : World} (h : StS W T bt bf bo yb a e l Ok S V) (hb : Below V.heap.size V V') : StS W T bt bf bo yb a e l Ok S V' :=
  ⟨h.xt.below hb, h.xf.below hb, h.xo.below hb, h.xy.below hb, h.okS, h.okS.below h.ok hb, h.bel.trans (hb.mono h.bel.size), h.slt, h.blt⟩
theorem StS.drew {W : World} {T : List Value} {bt bf bo yb : Nat} {a e : Int} {l : Nat} {Ok : World → Prop} {S : List Nat} {V : World} (h : StS W T bt bf bo yb a e l Ok S V) : StS W T bt bf bo yb a e l Ok S V.drew :=
  ⟨h.xt, h.xf, h.xo, h.xy, h.okS, h.okS.drew _ h.ok, h.bel.drew, h.slt, h.blt⟩
theorem StS.turns {W : World} {T : List Value} {bt bf bo yb : Nat} {a e : Int} {l : Nat} {Ok : World → Prop} {S : List Nat} {V V' : World} {M : List Nat} (h : StS W T bt bf bo yb a e l Ok S V) (ht : Turns M V V') (hM : ∀ k ∈ M, yb < k) : StS W T bt bf bo yb a e l Ok S V' :=
  have b4 := h.blt
  have no : ∀ k, k ≤ yb → k ∉ M := fun k hk q => by have := hM k q; omega
  ⟨bx_turns h.xt ht (no _ (by omega)), bx_turns h.xf ht (no _ (by omega)), bx_turns h.xo ht (no _ (by omega)), bx_turns h.xy ht (no _ (Nat.le_refl _)), h.okS, h.okS.turns h.ok ht (fun k hk => no k (by have := h.slt k hk; omega)), h.bel.trans (ht.below h.bel.size (fun k hk => by have := hM k hk; omega)), h.slt, h.blt⟩
theorem turns_setCells (b : Nat) : ∀ (vs : List Value) (W : World) (i : Nat), Turns [b] W (W.setCells b i vs)
  | [], W, _ => Turns.refl _ W
  | v :: vs, W, i => (Turns.setCell W ⟨b, i, none⟩ v (by simp)).trans (turns_setCells b vs _ _)
theorem StS.pair {W : World} {T : List Value} {bt bf bo yb : Nat} {a e : Int} {l : Nat} {Ok : World → Prop} {S : List Nat} {V : World} {cs : List Value} {t : TypeId} (h0 : StS W T bt bf bo yb a e l Ok S V) (h : StS W T bt bf bo yb a e l Ok S (V.alloc (.cells cs.toArray t))) : Bx (V.alloc (.cells cs.toArray t)) V.heap.size cs ∧ yb < V.heap.size := ⟨Bx.new V cs t, h0.xy.1⟩

theorem bx_mv {n : Nat} {V V' : World} {b : Nat} {l : List Value} (h : Bx V b l) (hn : b < n) (hb : Below n V V') : Bx V' b l :=
  ⟨Nat.lt_of_lt_of_le h.1 hb.size, fun i v e => ⟨(hb.cell (p := ⟨b, i, none⟩) hn).trans (h.2 i v e).1, (hb.frozen (p := ⟨b, i, none⟩) hn).trans (h.2 i v e).2⟩⟩
/-- the same, and the boxes that zone.changes made, and the stretch under way. -/
structure InS (W : World) (T : List Value) (bt bf bo yb : Nat) (a e : Int) (l : Nat) (Ok : World → Prop) (S : List Nat) (nb cb : Nat) (V : World) : Prop where
  xt : Bx V bt T
  xf : Bx V bf [.int .i64 a]
  xo : Bx V bo [.int .i64 e]
  xy : Bx V yb [.func (.yield l) #[] #[]]
  okS : OkS S Ok
  ok : Ok V
  slt : ∀ k ∈ S, k < W.heap.size
  blt : bt < W.heap.size ∧ bf < W.heap.size ∧ bo < W.heap.size ∧ W.heap.size ≤ yb
  y1 : Bx V cb T
  y2 : Bx V (cb + 1) [.int .i64 a]
  y3 : Bx V (cb + 2) [.int .i64 (e - 1)]
  hnb : yb < nb
  hcb : nb < cb
theorem InS.mv {W : World} {T : List Value} {bt bf bo yb : Nat} {a e : Int} {l : Nat} {Ok : World → Prop} {S : List Nat} {nb cb : Nat} {n : Nat} {V V' : World} (h : InS W T bt bf bo yb a e l Ok S nb cb V) (hn : cb + 2 < n) (hb : Below n V V') : InS W T bt bf bo yb a e l Ok S nb cb V' :=
  have b4 := h.blt
  have b5 := h.hnb
  have b6 := h.hcb
  ⟨bx_mv h.xt (by omega) hb, bx_mv h.xf (by omega) hb, bx_mv h.xo (by omega) hb, bx_mv h.xy (by omega) hb, h.okS, h.okS.keep _ _ h.ok hb.size (fun k hk => hb.block k (by have := h.slt k hk; omega)), h.slt, h.blt,
   bx_mv h.y1 (by omega) hb, bx_mv h.y2 (by omega) hb, bx_mv h.y3 (by omega) hb, h.hnb, h.hcb⟩
theorem InS.turns {W : World} {T : List Value} {bt bf bo yb : Nat} {a e : Int} {l : Nat} {Ok : World → Prop} {S : List Nat} {nb cb : Nat} {M : List Nat} {V V' : World} (h : InS W T bt bf bo yb a e l Ok S nb cb V) (ht : Turns M V V') (hM : ∀ k ∈ M, k = nb ∨ (k < W.heap.size ∧ ¬ (k = bt ∨ k = bf ∨ k = bo ∨ k ∈ S))) : InS W T bt bf bo yb a e l Ok S nb cb V' :=
  have b4 := h.blt
  have b5 := h.hnb
  have b6 := h.hcb
  have no : ∀ k, k ≠ nb → (W.heap.size ≤ k ∨ k = bt ∨ k = bf ∨ k = bo ∨ k ∈ S) → k ∉ M := fun k h1 h2 q => by
    rcases hM k q with h3 | ⟨h3, h4⟩
    · exact h1 h3
    · rcases h2 with h5 | h5
      · omega
      · exact h4 h5
  ⟨bx_turns h.xt ht (no _ (by omega) (.inr (.inl rfl))), bx_turns h.xf ht (no _ (by omega) (.inr (.inr (.inl rfl)))), bx_turns h.xo ht (no _ (by omega) (.inr (.inr (.inr (.inl rfl))))), bx_turns h.xy ht (no _ (by omega) (.inl (by omega))), h.okS, h.okS.turns h.ok ht (fun k hk => no k (by have := h.slt k hk; omega) (.inr (.inr (.inr (.inr hk))))), h.slt, h.blt,
   bx_turns h.y1 ht (no _ (by omega) (.inl (by omega))), bx_turns h.y2 ht (no _ (by omega) (.inl (by omega))), bx_turns h.y3 ht (no _ (by omega) (.inl (by omega))), h.hnb, h.hcb⟩
theorem bx_set1 {V : World} {b : Nat} {l : List Value} (h : Bx V b l) (i : Nat) (v : Value) (hi : i < l.length) : Bx (V.setCell ⟨b, i, none⟩ v) b (l.set i v) :=
  ⟨by simpa using h.1, fun j x e => by
    by_cases hj : i = j
    · subst hj
      rw [List.getElem?_set_self hi] at e
      cases e
      exact ⟨World.cell?_setCell_same _ _ _ (h.2 i l[i] (List.getElem?_eq_getElem hi)).1, by rw [World.frozen?_setCell]; exact (h.2 i l[i] (List.getElem?_eq_getElem hi)).2⟩
    · rw [List.getElem?_set_ne hj] at e
      exact ⟨(World.cell?_setCell_other _ _ _ _ (fun q => hj (by cases q; rfl))).trans (h.2 j x e).1, by rw [World.frozen?_setCell]; exact (h.2 j x e).2⟩⟩
theorem curT_next (f : TrR) (ch : List TrR) (k : Nat) (hk : k < ch.length) : curT f ch (k + 1) = ch.getD k zTr := by
  rw [curT_succ (List.getElem?_eq_getElem hk), List.getD_eq_getElem?_getD, List.getElem?_eq_getElem hk]; rfl
theorem strs_get (e : Int) : ∀ (ch : List TrR) (f : TrR) (k : Nat), k < ch.length → (Zm.strs f.at_ e f.off (ch.map fun c => (c.at_, c.off))).getD k ⟨0, 0, 0⟩ = ⟨(curT f ch k).at_, (ch.getD k zTr).at_, (curT f ch k).off⟩
  | [], f, k, h => by simp at h
  | x :: l, f, 0, _ => rfl
  | x :: l, f, k + 1, h => by
    have ih := strs_get e l x k (by simpa using h)
    rw [List.map_cons, Zm.strs, List.getD_cons_succ, List.getD_cons_succ, ih, curT_next f (x :: l) k (by omega)]
    cases k with
    | zero => rfl
    | succ j => rw [curT_next x l j (by simp at h; omega), List.getD_cons_succ]
theorem strs_last (e : Int) : ∀ (ch : List TrR) (f : TrR), (Zm.strs f.at_ e f.off (ch.map fun c => (c.at_, c.off))).getD ch.length ⟨0, 0, 0⟩ = ⟨(curT f ch ch.length).at_, e, (curT f ch ch.length).off⟩
  | [], f => rfl
  | x :: l, f => by
    have ih := strs_last e l x
    rw [List.map_cons, Zm.strs, List.length_cons, List.getD_cons_succ, ih, curT_next f (x :: l) l.length (by simp)]
    cases l with
    | nil => rfl
    | cons z l => rw [List.length_cons, curT_next x (z :: l) l.length (by simp), List.getD_cons_succ]

set_option maxRecDepth 100000 in
set_option maxHeartbeats 16000000 in
theorem strs_seq (T : List Value) (hT : T.length = 25) (S : List Nat) (Ok : World → Prop) (hOk : OkS S Ok) (a e : Int) (e1 : -9223372036854775808 ≤ e - 1) (e2 : e - 1 ≤ 9223372036854775807) (x0 : TrR) (ch : List TrR)
    (ST : Hid (∀ W : World, Ok W → Calls Tryz.prog 97 #[.agg T.toArray, .int .i64 a] W fun r w' => r = .returned (.agg #[.int .i64 x0.at_, .int .i64 x0.off, .bool x0.dst, .string x0.ab]) ∧ Below W.heap.size W w'))
    (CH : Hid (∀ (W : World) (b n : Nat), Ok W → Bx W b T → Bx W (b + 1) [.int .i64 a] → Bx W (b + 2) [.int .i64 (e - 1)] → SeqB n Tryz.prog 134 #[.pointer (some ⟨b, 0, none⟩), .pointer (some ⟨b + 1, 0, none⟩), .pointer (some ⟨b + 2, 0, none⟩)] (b :: (b + 1) :: (b + 2) :: S) (fun k => trV (ch.getD k zTr)) ch.length W))
    (w : World) (n : Nat) (hn : 5 ≤ n) (bf bt bo : Nat) (X1 : Bx w bf [.int .i64 a]) (X2 : Bx w bt T) (X3 : Bx w bo [.int .i64 e]) (O : Ok w) :
    SeqB n Tryz.prog 128 #[.pointer (some ⟨bf, 0, none⟩), .pointer (some ⟨bt, 0, none⟩), .pointer (some ⟨bo, 0, none⟩)] (bf :: bt :: bo :: S) (fun k => .agg (stC ((Zm.strs a e x0.off (ch.map fun c => (c.at_, c.off))).getD k ⟨0, 0, 0⟩)).toArray) (ch.length + 1) w := by
  intro l M J W hb hM hSM hJ hY h0
  have HS0 : Hid (StS W T bt bf bo W.heap.size a e l Ok S (W.alloc (.cells #[.func (.yield l) #[] #[]] 183))) :=
    ⟨(X2.below hb).alloc _, (X1.below hb).alloc _, (X3.below hb).alloc _, Bx.new W [.func (.yield l) #[] #[]] _, hOk, hOk.below (hOk.below O hb) ((Below.refl _ W).alloc (Nat.le_refl _) _), (Below.refl _ W).alloc (Nat.le_refl _) _, fun k hk => Nat.lt_of_lt_of_le (hOk.lt w O k hk) hb.size, Nat.lt_of_lt_of_le X2.1 hb.size, Nat.lt_of_lt_of_le X1.1 hb.size, Nat.lt_of_lt_of_le X3.1 hb.size, Nat.le_refl _⟩
  refine callsIn_of_wp_marks Tryz.func128 rfl trivial ?_ rfl
  simp only [Tryz.ntmps128, List.size_toArray, List.length_cons, List.length_nil, Nat.reduceAdd, Nat.reduceSub, Array.replicate_succ, Array.replicate_zero, List.push_toArray, List.append_toArray, List.nil_append, List.cons_append]
  refine wpIn_mono (Q := np _) ?_ np_out
  refine wpIn_wide.2 ?_
  go_upto_region 1 with fail
  refine gen_code (StS W T bt bf bo W.heap.size a e l Ok S) HS0.out ?_
  clear HS0
  intro W1 HS1'
  have HS1 : Hid (StS W T bt bf bo W.heap.size a e l Ok S W1) := HS1'
  clear HS1'
  go_cut [5] from 6 (fun v wx => ∃ nb, v = .pointer (some ⟨nb, 0, none⟩) ∧ Hid (StS W T bt bf bo W.heap.size a e l Ok S wx ∧ Bx wx nb [.int .i64 a, .int .i64 0, .int .i64 x0.off] ∧ W.heap.size < nb))
  case first =>
    refine wp_region_held_drew (S := StS W T bt bf bo W.heap.size a e l Ok S) (by kernel_rfl) HS1.out.drew (fun hHeld => ?_)
    refine wpAnyH_take (i := 0) (v := ?_) (oi := { dst := some 7, op := _, type := _, pos := _, after := _, guard := none }) rfl (by kernel_rfl) (by kernel_rfl) (by kernel_rfl) (fun _ _ _ h => h) (Or.inl ⟨by kernel_rfl, ?_⟩) (by assumption) ?_
    case refine_2 => (intro w9 hSw; have l1 := hSw.xf.c 0 rfl; clear hSw; go_simp; try with_reducible rfl)
    simp only [Act.put, List.setIfInBounds_toArray, List.set_cons_zero, List.set_cons_succ]
    refine wpAnyH_take (i := 1) (v := .agg T.toArray) (oi := { dst := some 8, op := _, type := _, pos := _, after := _, guard := none }) rfl (by kernel_rfl) (by kernel_rfl) (by kernel_rfl) (fun _ _ _ h => h) (Or.inl ⟨by kernel_rfl, ?_⟩) (by assumption) ?_
    case refine_1 => (intro w9 hSw; exact exec_row rfl rfl hSw.xt.all Tryz.underlying46 rfl (by rw [hT]; kernel_rfl))
    simp only [Act.put, List.setIfInBounds_toArray, List.set_cons_zero, List.set_cons_succ]
    refine wpAnyH_take (i := 2) (v := ?_) (oi := { dst := some 9, op := _, type := _, pos := _, after := _, guard := none }) rfl (by kernel_rfl) (by kernel_rfl) (by kernel_rfl) (fun _ _ _ h => h) (Or.inl ⟨by kernel_rfl, ?_⟩) (by assumption) ?_
    case refine_2 => (intro w9 hSw; have l1 := hSw.xf.c 0 rfl; clear hSw; go_simp; try with_reducible rfl)
    simp only [Act.put, List.setIfInBounds_toArray, List.set_cons_zero, List.set_cons_succ]
    refine wpAnyH_ready (rs := [3, 6]) (by kernel_rfl) (by simp) (AllReadyH.cons (o := { dst := some 10, op := _, type := _, pos := _, after := _, guard := none }) rfl (fun K hK => ?_) (AllReadyH.cons (o := { dst := some 5, op := _, type := _, pos := _, after := _, guard := none }) rfl (fun K hK => ?_) AllReadyH.nil))
    ·
      go_simp
      refine (ST.out _ hHeld.ok).mono ?_
      rintro e v1 ⟨rfl, hb1⟩
      refine hK.out _ _ (hHeld.below hb1) (fun hHeld => ?_)
      try (have HN2 := HN.out.1.below hb1; have HM := HN.out.2; clear HN; have HN : Hid (Bx _ _ _ ∧ _) := ⟨HN2, HM⟩; clear HN2 HM)
      clear hK K hb1
      refine wpAnyH_take (i := 4) (v := .int .i64 x0.off) (oi := { dst := some 11, op := _, type := _, pos := _, after := _, guard := none }) rfl (by kernel_rfl) (by kernel_rfl) (by kernel_rfl) (fun _ _ _ h => h) (Or.inl ⟨by kernel_rfl, ?_⟩) (by assumption) ?_
      case refine_1 => (intro w9 hSw; kernel_rfl)
      simp only [Act.put, List.setIfInBounds_toArray, List.set_cons_zero, List.set_cons_succ]
      refine wpAnyH_take (i := 5) (v := ?_) (oi := { dst := some 12, op := _, type := _, pos := _, after := _, guard := none }) rfl (by kernel_rfl) (by kernel_rfl) (by kernel_rfl) (fun _ _ _ h => h) (Or.inl ⟨by kernel_rfl, ?_⟩) (by assumption) ?_
      case refine_2 => (intro w9 hSw; clear hSw; go_simp; try with_reducible rfl)
      simp only [Act.put, List.setIfInBounds_toArray, List.set_cons_zero, List.set_cons_succ]
      refine wpAnyH_ready (rs := [6]) (by kernel_rfl) (by simp) (AllReadyH.cons (o := { dst := some 5, op := _, type := _, pos := _, after := _, guard := none }) rfl (fun K hK => ?_) AllReadyH.nil)
      go_simp
      have hH0 := hHeld
      refine hK.out _ _ (hHeld.below ((Below.refl _ _).alloc (Nat.le_refl _) _)) (fun hHeld => ?_)
      have HN : Hid (Bx _ _ [.int .i64 0, .int .i64 0, .int .i64 0] ∧ _) := hH0.pair hHeld
      clear hK K hH0
      refine wpAnyH_ready (rs := [7]) (by kernel_rfl) (by simp) (AllReadyH.cons (o := { dst := none, op := _, type := _, pos := _, after := _, guard := none }) rfl (fun K hK => ?_) AllReadyH.nil)
      have HM := HN.out.2
      refine (if_pos (by kernel_rfl)).mpr (wp_store_mid 174 _ _ rfl _ 0 #[.int .i64 a, .int .i64 0, .int .i64 x0.off] rfl rfl HN.out.1.there (by kernel_rfl) (by simp [Value.oneCell']) (hK.out _ _ (hHeld.turns (turns_setCells _ _ _ _) (fun k hk => by rw [List.mem_singleton] at hk; rw [hk]; exact HM)) (fun hHeld => ?_)))
      have HN2 : Hid (Bx _ _ [.int .i64 a, .int .i64 0, .int .i64 x0.off] ∧ _) := ⟨HN.out.1.setAll [.int .i64 a, .int .i64 0, .int .i64 x0.off] rfl, HM⟩
      clear hK K HN HM
      refine wpAnyH_done (by kernel_rfl) ?_ _
      go_wp2_with fail
      go_meet
      case rel => exact ⟨_, rfl, hHeld, HN2.out.1, HN2.out.2⟩
    ·
      go_simp
      have hH0 := hHeld
      refine hK.out _ _ (hHeld.below ((Below.refl _ _).alloc (Nat.le_refl _) _)) (fun hHeld => ?_)
      have HN : Hid (Bx _ _ [.int .i64 0, .int .i64 0, .int .i64 0] ∧ _) := hH0.pair hHeld
      clear hK K hH0
      refine wpAnyH_ready (rs := [3]) (by kernel_rfl) (by simp) (AllReadyH.cons (o := { dst := some 10, op := _, type := _, pos := _, after := _, guard := none }) rfl (fun K hK => ?_) AllReadyH.nil)
      go_simp
      refine (ST.out _ hHeld.ok).mono ?_
      rintro e v5 ⟨rfl, hb5⟩
      refine hK.out _ _ (hHeld.below hb5) (fun hHeld => ?_)
      try (have HN2 := HN.out.1.below hb5; have HM := HN.out.2; clear HN; have HN : Hid (Bx _ _ _ ∧ _) := ⟨HN2, HM⟩; clear HN2 HM)
      clear hK K hb5
      refine wpAnyH_take (i := 4) (v := .int .i64 x0.off) (oi := { dst := some 11, op := _, type := _, pos := _, after := _, guard := none }) rfl (by kernel_rfl) (by kernel_rfl) (by kernel_rfl) (fun _ _ _ h => h) (Or.inl ⟨by kernel_rfl, ?_⟩) (by assumption) ?_
      case refine_1 => (intro w9 hSw; kernel_rfl)
      simp only [Act.put, List.setIfInBounds_toArray, List.set_cons_zero, List.set_cons_succ]
      refine wpAnyH_take (i := 5) (v := ?_) (oi := { dst := some 12, op := _, type := _, pos := _, after := _, guard := none }) rfl (by kernel_rfl) (by kernel_rfl) (by kernel_rfl) (fun _ _ _ h => h) (Or.inl ⟨by kernel_rfl, ?_⟩) (by assumption) ?_
      case refine_2 => (intro w9 hSw; clear hSw; go_simp; try with_reducible rfl)
      simp only [Act.put, List.setIfInBounds_toArray, List.set_cons_zero, List.set_cons_succ]
      refine wpAnyH_ready (rs := [7]) (by kernel_rfl) (by simp) (AllReadyH.cons (o := { dst := none, op := _, type := _, pos := _, after := _, guard := none }) rfl (fun K hK => ?_) AllReadyH.nil)
      have HM := HN.out.2
      refine (if_pos (by kernel_rfl)).mpr (wp_store_mid 174 _ _ rfl _ 0 #[.int .i64 a, .int .i64 0, .int .i64 x0.off] rfl rfl HN.out.1.there (by kernel_rfl) (by simp [Value.oneCell']) (hK.out _ _ (hHeld.turns (turns_setCells _ _ _ _) (fun k hk => by rw [List.mem_singleton] at hk; rw [hk]; exact HM)) (fun hHeld => ?_)))
      have HN2 : Hid (Bx _ _ [.int .i64 a, .int .i64 0, .int .i64 x0.off] ∧ _) := ⟨HN.out.1.setAll [.int .i64 a, .int .i64 0, .int .i64 x0.off] rfl, HM⟩
      clear hK K HN HM
      refine wpAnyH_done (by kernel_rfl) ?_ _
      go_wp2_with fail
      go_meet
      case rel => exact ⟨_, rfl, hHeld, HN2.out.1, HN2.out.2⟩
  case rest =>
    obtain ⟨nb, rfl, HC⟩ := hcut
    have HS2 : Hid (StS W T bt bf bo W.heap.size a e l Ok S wc) := HC.out.1
    have HN2 : Hid (Bx wc nb [.int .i64 a, .int .i64 0, .int .i64 x0.off]) := HC.out.2.1
    have hnb := HC.out.2.2
    have c1 := HS2.out.xf.c 0 rfl
    have c3 := HS2.out.xo.c 0 rfl
    clear HC HS1
    go_wp2_with (first | (refine wpList_load_mid rfl 46 _ rfl bt 0 rfl T _ HS2.out.xt.all Tryz.underlying46 rfl (by rw [hT]; kernel_rfl) ?_) | fail)
    refine (changes_mk T hT a (e - 1) _).mono ?_
    rintro r' w5 ⟨rfl, rfl⟩
    clear c1 c3
    have b5 : Below wc.heap.size wc (((wc.alloc (.cells T.toArray 46)).alloc (.cells #[.int .i64 a] 2)).alloc (.cells #[.int .i64 (e - 1)] 2)) := (((Below.refl _ wc).alloc (Nat.le_refl _) _).alloc (by simp) _).alloc (by simp; omega) _
    have HI5 : Hid (InS W T bt bf bo W.heap.size a e l Ok S nb wc.heap.size (((wc.alloc (.cells T.toArray 46)).alloc (.cells #[.int .i64 a] 2)).alloc (.cells #[.int .i64 (e - 1)] 2)) ∧ Bx (((wc.alloc (.cells T.toArray 46)).alloc (.cells #[.int .i64 a] 2)).alloc (.cells #[.int .i64 (e - 1)] 2)) nb [.int .i64 a, .int .i64 0, .int .i64 x0.off] ∧ Below W.heap.size W (((wc.alloc (.cells T.toArray 46)).alloc (.cells #[.int .i64 a] 2)).alloc (.cells #[.int .i64 (e - 1)] 2))) :=
      ⟨⟨HS2.out.xt.below b5, HS2.out.xf.below b5, HS2.out.xo.below b5, HS2.out.xy.below b5, hOk, hOk.below HS2.out.ok b5, HS2.out.slt, HS2.out.blt, ((Bx.new wc T _).alloc _).alloc _, (Bx.newAt (wc.alloc (.cells T.toArray 46)) [.int .i64 a] 2 _ (by simp)).alloc _, Bx.newAt ((wc.alloc (.cells T.toArray 46)).alloc (.cells #[.int .i64 a] 2)) [.int .i64 (e - 1)] 2 _ (by simp), hnb, HN2.out.1⟩, HN2.out.below b5, HS2.out.bel.trans (b5.mono HS2.out.bel.size)⟩
    clear b5 HS2 HN2
    go_wp2_with fail
    refine gen_code (fun V => InS W T bt bf bo W.heap.size a e l Ok S nb wc.heap.size V ∧ Bx V nb [.int .i64 a, .int .i64 0, .int .i64 x0.off] ∧ Below W.heap.size W V) HI5.out ?_
    clear HI5
    rintro W5 ⟨HI5, HN5, hW5⟩
    have hb5 := HI5.y3.1
    have hnc := HI5.hcb
    refine wpIn_wide.1 (rangeB (n := 10) (by decide) (gf := 134) (lb := #[.pointer (some ⟨wc.heap.size, 0, none⟩), .pointer (some ⟨wc.heap.size + 1, 0, none⟩), .pointer (some ⟨wc.heap.size + 2, 0, none⟩)]) rfl (enters_of Tryz.func134 (by kernel_rfl) rfl)
      (CH.out W5 wc.heap.size _ HI5.ok HI5.y1 HI5.y2 HI5.y3) (nb :: M)
      (by intro k hk; rcases List.mem_cons.1 hk with rfl | hk; exact HN5.1; have := hM k hk; omega)
      (by intro k hk; simp only [List.mem_cons] at hk; rcases hk with rfl | rfl | rfl | hk; omega; omega; omega; have := HI5.slt k hk; omega)
      ?hSM rfl
      (fun k V => InS W T bt bf bo W.heap.size a e l Ok S nb wc.heap.size V ∧ Bx V nb [.int .i64 (curT ⟨a, x0.off, x0.dst, x0.ab⟩ ch k).at_, .int .i64 0, .int .i64 (curT ⟨a, x0.off, x0.dst, x0.ab⟩ ch k).off] ∧ J k V ∧ W.heap.size ≤ V.heap.size)
      ?hI ⟨HI5, HN5, hJ _ _ _ h0 hW5, hW5.size⟩
      (fun k a' V => ∃ bx, nb < bx ∧ Bx V bx [.int .i64 (ch.getD k zTr).at_, .int .i64 (ch.getD k zTr).off, .bool (ch.getD k zTr).dst, .string (ch.getD k zTr).ab] ∧ a' = { tmps := #[.func (.yield l) #[] #[], .pointer (some ⟨bf, 0, none⟩), .pointer (some ⟨bt, 0, none⟩), .pointer (some ⟨bo, 0, none⟩), .pointer (some ⟨W.heap.size, 0, none⟩), .pointer (some ⟨nb, 0, none⟩), .pointer (some ⟨bx, 0, none⟩), u7, u8, u9, u10, u11, u12, .agg T.toArray, .int .i64 a, .int .i64 e, .int .i64 (e - 1), .func (.func 134) #[] #[.pointer (some ⟨wc.heap.size, 0, none⟩), .pointer (some ⟨wc.heap.size + 1, 0, none⟩), .pointer (some ⟨wc.heap.size + 2, 0, none⟩)], .agg #[.int .i64 (ch.getD k zTr).at_, .int .i64 (ch.getD k zTr).off, .bool (ch.getD k zTr).dst, .string (ch.getD k zTr).ab], u19, u20, u21, u22, u23, u24, u25, u26, u27, u28, u29, u30, u31, u32, u33, u34, u35], defers := [] })
      ?hAx ?assign ?body ?done)
    case hSM =>
      intro k hk q
      rcases List.mem_cons.1 q with rfl | q
      · simp only [List.mem_cons] at hk
        rcases hk with h | h | h | hk
        · omega
        · omega
        · omega
        · have := HI5.slt k hk; have := HI5.hnb; omega
      · have h1 := hM k q
        simp only [List.mem_cons] at hk
        rcases hk with h | h | h | hk
        · have := HI5.hnb; omega
        · have := HI5.hnb; omega
        · have := HI5.hnb; omega
        · exact hSM k (by simp [hk]) q
    case hI =>
      rintro k A A' ⟨p1, p2, p3, p4⟩ hbA
      exact ⟨p1.mv hb5 hbA, bx_mv p2 (by omega) hbA, hJ _ _ _ p3 (hbA.mono hW5.size), Nat.le_trans p4 hbA.size⟩
    case hAx =>
      rintro k a' V l2 o o' ⟨bx, h1, h2, h3⟩ ho hc
      refine ⟨bx, h1, bx_turns h2 (Turns.putObj (M := [l2]) V o' (by simp)) (fun q => ?_), h3⟩
      simp at q
      subst q
      have := (h2.2 0 _ rfl).1
      simp [World.cell?, ho] at this
      cases o <;> simp_all [Obj.isCells]
    case assign =>
      rintro l2 k V K' hlt hK
      simp only [trV]
      generalize ch.getD k zTr = x at *
      gi_wp2
      exact hK _ _ ((Below.refl _ V).alloc (Nat.le_refl _) _) ⟨V.heap.size, by omega, Bx.new V [.int .i64 x.at_, .int .i64 x.off, .bool x.dst, .string x.ab] _, rfl⟩
    case body =>
      rintro l2 k a' V ⟨p1, p2, p3, p4⟩ ⟨bx, hx1, hx2, rfl⟩ hk hlt
      have hY1 := hY k
      have hsk : (Zm.strs a e x0.off (ch.map fun c => (c.at_, c.off))).getD k ⟨0, 0, 0⟩ = ⟨(curT ⟨a, x0.off, x0.dst, x0.ab⟩ ch k).at_, (ch.getD k zTr).at_, (curT ⟨a, x0.off, x0.dst, x0.ab⟩ ch k).off⟩ := strs_get e ch ⟨a, x0.off, x0.dst, x0.ab⟩ k hk
      rw [hsk] at hY1
      have hnx : curT ⟨a, x0.off, x0.dst, x0.ab⟩ ch (k + 1) = ch.getD k zTr := curT_next _ ch k hk
      rw [hnx]
      generalize curT ⟨a, x0.off, x0.dst, x0.ab⟩ ch k = y at *
      generalize ch.getD k zTr = x at *
      clear hsk hnx hY CH ST HI5 HN5
      have n0 := p2.c 0 rfl
      have n1 := p2.c 1 rfl
      have n2 := p2.c 2 rfl
      have f0 := p2.f 0 rfl
      have f1 := p2.f 1 rfl
      have f2 := p2.f 2 rfl
      have d0 := hx2.c 0 rfl
      have d1 := hx2.c 1 rfl
      have yb := p1.xy.c 0 rfl
      have hbn := p1.hnb
      have tA : Turns [nb] V (V.setCell ⟨nb, 1, none⟩ (.int .i64 x.at_)) := Turns.setCell _ _ _ (by simp)
      obtain ⟨fn, tmps, assign, body, hy, hR⟩ := YieldAt_round (l2 := l2) (m' := 10 - 1 - 1 - 1) (hY1 (V.setCell ⟨nb, 1, none⟩ (.int .i64 x.at_)) (by omega) (by simp; omega) (hJ _ _ _ p3 (tA.below p4 (by intro q hq; simp at hq; omega))))
      simp only [stC] at hy
      have HR : Hid (RoundIn (Fence.wide.inRound l2) (10 - 1 - 1 - 1) Tryz.prog l fn tmps assign body (V.setCell ⟨nb, 1, none⟩ (.int .i64 x.at_)) fun e W' => e = .returned (.bool true) ∧ J (k + 1) W' ∧ Turns M (V.setCell ⟨nb, 1, none⟩ (.int .i64 x.at_)) W') := hR
      clear hR
      have hnM : nb ∉ M := fun q => by have := hM nb q; omega
      have hxM : bx ∉ M := fun q => by have := hM bx q; omega
      have q2 : Bx (V.setCell ⟨nb, 1, none⟩ (.int .i64 x.at_)) nb [.int .i64 y.at_, .int .i64 x.at_, .int .i64 y.off] := bx_set1 p2 1 (.int .i64 x.at_) (by simp)
      have q3 : Bx (V.setCell ⟨nb, 1, none⟩ (.int .i64 x.at_)) bx [.int .i64 x.at_, .int .i64 x.off, .bool x.dst, .string x.ab] := bx_turns hx2 tA (by simp; omega)
      have q1 : InS W T bt bf bo W.heap.size a e l Ok S nb wc.heap.size (V.setCell ⟨nb, 1, none⟩ (.int .i64 x.at_)) := p1.turns tA (by intro q hq; simp at hq; exact .inl hq)
      gi_wp2
      refine HR.out.mono ?_
      rintro e' W7 ⟨rfl, hJ7, ht7⟩
      have r2 := bx_turns q2 ht7 hnM
      have r3 := bx_turns q3 ht7 hxM
      have r1 : InS W T bt bf bo W.heap.size a e l Ok S nb wc.heap.size W7 := q1.turns ht7 (by intro q hq; exact .inr ⟨hM q hq, fun h5 => hSM q (by simp only [List.mem_cons]; rcases h5 with h | h | h | h; exact .inr (.inl h); exact .inl h; exact .inr (.inr (.inl h)); exact .inr (.inr (.inr h))) hq⟩)
      have hT7 : Turns (nb :: M) V W7 := (tA.mono (by simp)).trans (ht7.mono (fun q hq => by simp [hq]))
      clear HR hy ht7 q1 q2 q3 n0 n1 n2 f0 f1 f2 d0 d1 yb p1 p2 p3 tA hY1 hx2
      have n0 := r2.c 0 rfl
      have n1 := r2.c 1 rfl
      have n2 := r2.c 2 rfl
      have f0 := r2.f 0 rfl
      have f1 := r2.f 1 rfl
      have f2 := r2.f 2 rfl
      have d0 := r3.c 0 rfl
      have d1 := r3.c 1 rfl
      have hs7 := hT7.size
      gi_wp2
      have tB : Turns [nb] W7 (W7.setCells nb 0 [.int .i64 x.at_, .int .i64 0, .int .i64 x.off]) := turns_setCells _ _ _ _
      exact ⟨hT7.trans (tB.mono (by simp)), r1.turns tB (by intro q hq; simp at hq; exact .inl hq), r2.setAll [.int .i64 x.at_, .int .i64 0, .int .i64 x.off] rfl, hJ _ _ _ hJ7 (tB.below (by omega) (by intro q hq; simp at hq; omega)), Nat.le_trans p4 (Nat.le_trans hs7 tB.size)⟩
    case done =>
      rintro D V hD ⟨p1, p2, p3, p4⟩ hK
      have hY1 := hY ch.length
      rw [strs_last e ch ⟨a, x0.off, x0.dst, x0.ab⟩] at hY1
      generalize curT ⟨a, x0.off, x0.dst, x0.ab⟩ ch ch.length = y at *
      clear hY CH ST HI5 HN5
      have n0 := p2.c 0 rfl
      have n1 := p2.c 1 rfl
      have n2 := p2.c 2 rfl
      have f0 := p2.f 0 rfl
      have f1 := p2.f 1 rfl
      have f2 := p2.f 2 rfl
      have yb := p1.xy.c 0 rfl
      have ec := p1.xo.c 0 rfl
      have hbn := p1.hnb
      have tA : Turns [nb] V (V.setCell ⟨nb, 1, none⟩ (.int .i64 e)) := Turns.setCell _ _ _ (by simp)
      obtain ⟨fn, tmps, assign, body, hy, hR⟩ := YieldAt_wide (m' := 10 - 1) (hY1 (V.setCell ⟨nb, 1, none⟩ (.int .i64 e)) (by omega) (by simp; omega) (hJ _ _ _ p3 (tA.below p4 (by intro q hq; simp at hq; omega))))
      simp only [stC] at hy
      have HR : Hid (RoundIn Fence.wide (10 - 1) Tryz.prog l fn tmps assign body (V.setCell ⟨nb, 1, none⟩ (.int .i64 e)) fun r' W' => r' = .returned (.bool true) ∧ J (ch.length + 1) W' ∧ Turns M (V.setCell ⟨nb, 1, none⟩ (.int .i64 e)) W') := hR
      clear hR
      have hkD : (V.setCell ⟨nb, 1, none⟩ (.int .i64 e)).heap[D]? = some (.deferred (some [])) := (tA.block D (Array.getElem?_eq_some_iff.1 hK).1 (by simp; omega)).trans hK
      have q2 : Bx (V.setCell ⟨nb, 1, none⟩ (.int .i64 e)) nb [.int .i64 y.at_, .int .i64 e, .int .i64 y.off] := bx_set1 p2 1 (.int .i64 e) (by simp)
      have yb2 : (V.setCell ⟨nb, 1, none⟩ (.int .i64 e)).cell? ⟨W.heap.size, 0, none⟩ = some (.func (.yield l) #[] #[]) := (bx_turns p1.xy tA (by simp; omega)).c 0 rfl
      go_upto_region 8 with fail
      clear n0 n1 n2 f0 f1 f2 yb ec
      have n0 := q2.c 0 rfl
      have n1 := q2.c 1 rfl
      have n2 := q2.c 2 rfl
      have hDM : D ∉ M := fun q => by have := hM D q; omega
      have hlD := (Array.getElem?_eq_some_iff.1 hkD).1
      have HKD : Hid ((V.setCell ⟨nb, 1, none⟩ (.int .i64 e)).heap[D]? = some (.deferred (some []))) := hkD
      clear hkD hK
      refine (wpIn_wide (n := 10)).1 ?_
      gi_wp2
      refine HR.out.mono ?_
      rintro r' W7 ⟨rfl, hJ7, ht7⟩
      have hk7 := (ht7.block D hlD hDM).trans HKD.out
      gi_wp2
      refine ⟨by simp, .inl ⟨_, _, rfl, run_takeDeferred hk7, ?_⟩⟩
      exact ⟨_, results_none rfl _ _ _, ⟨_, rfl⟩, hJ _ _ _ hJ7 ((Turns.putObj (M := [D]) W7 _ (by simp)).below (by have := ht7.size; simp at this; omega) (by intro q hq; simp at hq; omega))⟩

end Go.Proofs.YtpdmndlpgjjopaaGreatDoor
