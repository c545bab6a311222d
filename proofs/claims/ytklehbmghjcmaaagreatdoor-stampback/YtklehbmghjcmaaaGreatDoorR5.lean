import Derived.Test.YtklehbmghjcmaaaGreatDoorRz
import Derived.Test.YtklehbmghjcmaaaGreatDoorR4
import Derived.Deep.RegionHeld3
import Derived.Deep.MidRow
import Derived.Deep.DeepCutAuto
import Derived.Deep.CutRange
import Derived.OwnWalkIn
import Derived.TacticsInMore
import Derived.LoopNIn
import Derived.LoopIn
import Derived.RangeFuncBound
import Derived.RangeFuncCalls
import Derived.Shelf.Abstract
import Derived.Shelf.RegionOpen
open Go.Value renaming int → vi
open Go.IntKind renaming i64 → ki
open List renaming setIfInBounds_toArray → zb, set_cons_zero → zc, set_cons_succ → zd
open Go.Act renaming put → za
open Go.Ending renaming returned → zr
set_option maxRecDepth 100000
set_option maxHeartbeats 16000000
set_option linter.unusedVariables false
namespace Go.Proofs.YtklehbmghjcmaaaGreatDoor
open Go.RowKit Sr
attribute [local go_sem] Oper.semAt_some
theorem exec_row {P : Program} {ρ : Operand → Value} {o : Oper} {w : World} {b off : Nat} {ty : TypeId} {x : Operand} {cs : List Value} {d : TypeDesc} (ho : o.op = .load ty x) (hx : ρ x = .pointer (some ⟨b, off, none⟩)) (hc : w.rangeAt b off cs)
    (hu : P.underlying ty = some d) (hd : d.isRow = true) (hi : (P.info? ty).map (·.size) = some cs.length) : (execOp ρ o).run P w = .ok (.value (.agg cs.toArray)) w := by
  simp only [execOp, ho, hx, Sem.run_bind, run_loadAt_mid w b off ty cs d hc hu hd hi, Sem.run_pure, Result.andThen_ok]
def np (Q : Exit → Act → World → Prop) : Exit → Act → World → Prop
  | .panic _, _, _ => False
  | .outgrown, _, _ => False
  | .normal, a, w => Q .normal a w
  | .ret, a, w => Q .ret a w
  | .exit i, a, w => Q (.exit i) a w
  | .goto i, a, w => Q (.goto i) a w
theorem np_out {Q : Exit → Act → World → Prop} : ∀ (e : Exit) (a : Act) (w : World), np Q e a w → Q e a w
  | .panic _, _, _, h => h.elim
  | .outgrown, _, _, h => h.elim
  | .normal, _, _, h => h
  | .ret, _, _, h => h
  | .exit _, _, _, h => h
  | .goto _, _, _, h => h
structure OkS (S : List Nat) (Ok : World → Prop) : Prop where
  keep : ∀ W W', Ok W → W.heap.size ≤ W'.heap.size → (∀ k ∈ S, W'.heap[k]? = W.heap[k]?) → Ok W'
  lt : ∀ W, Ok W → ∀ k ∈ S, k < W.heap.size
  drew : ∀ W : World, Ok W → Ok W.drew
theorem OkS.below {S : List Nat} {Ok : World → Prop} (h : OkS S Ok) {W W' : World} (hW : Ok W) (hb : Below W.heap.size W W') : Ok W' := h.keep W W' hW hb.size (fun k hk => hb.block k (h.lt W hW k hk))
theorem OkS.turns {S : List Nat} {Ok : World → Prop} (h : OkS S Ok) {M : List Nat} {W W' : World} (hW : Ok W) (ht : Turns M W W') (hM : ∀ k ∈ S, k ∉ M) : Ok W' := h.keep W W' hW ht.size (fun k hk => ht.block k (h.lt W hW k hk) (hM k hk))
theorem bx_turns {M : List Nat} {W W' : World} {b : Nat} {l : List Value} (h : Bx W b l) (ht : Turns M W W') (hb : b ∉ M) : Bx W' b l :=
  ⟨Nat.lt_of_lt_of_le h.1 ht.size, fun i v e => ⟨(World.cell?_of_block (w := W) (ht.block b h.1 hb)).trans (h.2 i v e).1, (World.frozen?_of_block (w := W) (ht.block b h.1 hb)).trans (h.2 i v e).2⟩⟩
structure StS (W : World) (T : List Value) (bt bf bo yb : Nat) (a e : Int) (l : Nat) (Ok : World → Prop) (S : List Nat) (V : World) : Prop where
  xt : Bx V bt T
  xf : Bx V bf [vi ki a]
  xo : Bx V bo [vi ki e]
  xy : Bx V yb [.func (.yield l) #[] #[]]
  okS : OkS S Ok
  ok : Ok V
  bel : Below W.heap.size W V
  slt : ∀ k ∈ S, k < W.heap.size
  blt : bt < W.heap.size ∧ bf < W.heap.size ∧ bo < W.heap.size ∧ W.heap.size ≤ yb
theorem StS.below {W : World} {T : List Value} {bt bf bo yb : Nat} {a e : Int} {l : Nat} {Ok : World → Prop} {S : List Nat} {V V' : World} (h : StS W T bt bf bo yb a e l Ok S V) (hb : Below V.heap.size V V') : StS W T bt bf bo yb a e l Ok S V' :=
  ⟨h.xt.below hb, h.xf.below hb, h.xo.below hb, h.xy.below hb, h.okS, h.okS.below h.ok hb, h.bel.trans (hb.mono h.bel.size), h.slt, h.blt⟩
theorem StS.drew {W : World} {T : List Value} {bt bf bo yb : Nat} {a e : Int} {l : Nat} {Ok : World → Prop} {S : List Nat} {V : World} (h : StS W T bt bf bo yb a e l Ok S V) : StS W T bt bf bo yb a e l Ok S V.drew :=
  ⟨h.xt, h.xf, h.xo, h.xy, h.okS, h.okS.drew _ h.ok, h.bel.drew, h.slt, h.blt⟩
theorem StS.turns {W : World} {T : List Value} {bt bf bo yb : Nat} {a e : Int} {l : Nat} {Ok : World → Prop} {S : List Nat} {V V' : World} {M : List Nat} (h : StS W T bt bf bo yb a e l Ok S V) (ht : Turns M V V') (hM : ∀ k ∈ M, yb < k) : StS W T bt bf bo yb a e l Ok S V' :=
  have b4 := h.blt
  have no : ∀ k, k ≤ yb → k ∉ M := fun k hk q => by have := hM k q; omega
  ⟨bx_turns h.xt ht (no _ (by omega)), bx_turns h.xf ht (no _ (by omega)), bx_turns h.xo ht (no _ (by omega)), bx_turns h.xy ht (no _ (Nat.le_refl _)), h.okS, h.okS.turns h.ok ht (fun k hk => no k (by have := h.slt k hk; omega)), h.bel.trans (ht.below h.bel.size (fun k hk => by have := hM k hk; omega)), h.slt, h.blt⟩
theorem turns_setCells (b : Nat) : ∀ (vs : List Value) (W : World) (i : Nat), Turns [b] W (W.setCells b i vs)
  | [], W, _ => Turns.refl _ W
  | v :: vs, W, i => (Turns.setCell W ⟨b, i, none⟩ v (by simp)).trans (turns_setCells b vs _ _)
theorem StS.pair {W : World} {T : List Value} {bt bf bo yb : Nat} {a e : Int} {l : Nat} {Ok : World → Prop} {S : List Nat} {V : World} {cs : List Value} {t : TypeId} (h0 : StS W T bt bf bo yb a e l Ok S V) (h : StS W T bt bf bo yb a e l Ok S (V.alloc (.cells cs.toArray t))) : Bx (V.alloc (.cells cs.toArray t)) V.heap.size cs ∧ yb < V.heap.size := ⟨Bx.new V cs t, h0.xy.1⟩
theorem bx_mv {n : Nat} {V V' : World} {b : Nat} {l : List Value} (h : Bx V b l) (hn : b < n) (hb : Below n V V') : Bx V' b l :=
  ⟨Nat.lt_of_lt_of_le h.1 hb.size, fun i v e => ⟨(hb.cell (p := ⟨b, i, none⟩) hn).trans (h.2 i v e).1, (hb.frozen (p := ⟨b, i, none⟩) hn).trans (h.2 i v e).2⟩⟩
structure InS (W : World) (T : List Value) (bt bf bo yb : Nat) (a e : Int) (l : Nat) (Ok : World → Prop) (S : List Nat) (nb cb : Nat) (V : World) : Prop where
  xt : Bx V bt T
  xf : Bx V bf [vi ki a]
  xo : Bx V bo [vi ki e]
  xy : Bx V yb [.func (.yield l) #[] #[]]
  okS : OkS S Ok
  ok : Ok V
  slt : ∀ k ∈ S, k < W.heap.size
  blt : bt < W.heap.size ∧ bf < W.heap.size ∧ bo < W.heap.size ∧ W.heap.size ≤ yb
  y1 : Bx V cb T
  y2 : Bx V (cb + 1) [vi ki a]
  y3 : Bx V (cb + 2) [vi ki (e - 1)]
  hnb : yb < nb
  hcb : nb < cb
theorem InS.mv {W : World} {T : List Value} {bt bf bo yb : Nat} {a e : Int} {l : Nat} {Ok : World → Prop} {S : List Nat} {nb cb : Nat} {n : Nat} {V V' : World} (h : InS W T bt bf bo yb a e l Ok S nb cb V) (hn : cb + 2 < n) (hb : Below n V V') : InS W T bt bf bo yb a e l Ok S nb cb V' :=
  have b4 := h.blt
  have b5 := h.hnb
  have b6 := h.hcb
  ⟨bx_mv h.xt (by omega) hb, bx_mv h.xf (by omega) hb, bx_mv h.xo (by omega) hb, bx_mv h.xy (by omega) hb, h.okS, h.okS.keep _ _ h.ok hb.size (fun k hk => hb.block k (by have := h.slt k hk; omega)), h.slt, h.blt,
   bx_mv h.y1 (by omega) hb, bx_mv h.y2 (by omega) hb, bx_mv h.y3 (by omega) hb, h.hnb, h.hcb⟩
theorem InS.turns {W : World} {T : List Value} {bt bf bo yb : Nat} {a e : Int} {l : Nat} {Ok : World → Prop} {S : List Nat} {nb cb : Nat} {M : List Nat} {V V' : World} (h : InS W T bt bf bo yb a e l Ok S nb cb V) (ht : Turns M V V') (hM : ∀ k ∈ M, k = nb ∨ (k < W.heap.size ∧ ¬ (k = bt ∨ k = bf ∨ k = bo ∨ k ∈ S))) : InS W T bt bf bo yb a e l Ok S nb cb V' :=
  have b4 := h.blt
  have b5 := h.hnb
  have b6 := h.hcb
  have no : ∀ k, k ≠ nb → (W.heap.size ≤ k ∨ k = bt ∨ k = bf ∨ k = bo ∨ k ∈ S) → k ∉ M := fun k h1 h2 q => by
    rcases hM k q with h3 | ⟨h3, h4⟩
    · exact h1 h3
    · rcases h2 with h5 | h5
      · omega
      · exact h4 h5
  ⟨bx_turns h.xt ht (no _ (by omega) (.inr (.inl rfl))), bx_turns h.xf ht (no _ (by omega) (.inr (.inr (.inl rfl)))), bx_turns h.xo ht (no _ (by omega) (.inr (.inr (.inr (.inl rfl))))), bx_turns h.xy ht (no _ (by omega) (.inl (by omega))), h.okS, h.okS.turns h.ok ht (fun k hk => no k (by have := h.slt k hk; omega) (.inr (.inr (.inr (.inr hk))))), h.slt, h.blt,
   bx_turns h.y1 ht (no _ (by omega) (.inl (by omega))), bx_turns h.y2 ht (no _ (by omega) (.inl (by omega))), bx_turns h.y3 ht (no _ (by omega) (.inl (by omega))), h.hnb, h.hcb⟩
theorem bx_set1 {V : World} {b : Nat} {l : List Value} (h : Bx V b l) (i : Nat) (v : Value) (hi : i < l.length) : Bx (V.setCell ⟨b, i, none⟩ v) b (l.set i v) :=
  ⟨by simpa using h.1, fun j x e => by
    by_cases hj : i = j
    · subst hj
      rw [List.getElem?_set_self hi] at e
      cases e
      exact ⟨World.cell?_setCell_same _ _ _ (h.2 i l[i] (List.getElem?_eq_getElem hi)).1, by rw [World.frozen?_setCell]; exact (h.2 i l[i] (List.getElem?_eq_getElem hi)).2⟩
    · rw [List.getElem?_set_ne hj] at e
      exact ⟨(World.cell?_setCell_other _ _ _ _ (fun q => hj (by cases q; rfl))).trans (h.2 j x e).1, by rw [World.frozen?_setCell]; exact (h.2 j x e).2⟩⟩
theorem curT_next (f : TrR) (ch : List TrR) (k : Nat) (hk : k < ch.length) : curT f ch (k + 1) = ch.getD k zTr := by
  rw [curT_succ (List.getElem?_eq_getElem hk), List.getD_eq_getElem?_getD, List.getElem?_eq_getElem hk]; rfl
theorem strs_get (e : Int) : ∀ (ch : List TrR) (f : TrR) (k : Nat), k < ch.length → (Zm.strs f.at_ e f.off (ch.map fun c => (c.at_, c.off))).getD k ⟨0, 0, 0⟩ = ⟨(curT f ch k).at_, (ch.getD k zTr).at_, (curT f ch k).off⟩
  | [], f, k, h => by simp at h
  | x :: l, f, 0, _ => rfl
  | x :: l, f, k + 1, h => by
    have ih := strs_get e l x k (by simpa using h)
    rw [List.map_cons, Zm.strs, List.getD_cons_succ, List.getD_cons_succ, ih, curT_next f (x :: l) k (by omega)]
    cases k with
    | zero => rfl
    | succ j => rw [curT_next x l j (by simp at h; omega), List.getD_cons_succ]
theorem strs_last (e : Int) : ∀ (ch : List TrR) (f : TrR), (Zm.strs f.at_ e f.off (ch.map fun c => (c.at_, c.off))).getD ch.length ⟨0, 0, 0⟩ = ⟨(curT f ch ch.length).at_, e, (curT f ch ch.length).off⟩
  | [], f => rfl
  | x :: l, f => by
    have ih := strs_last e l x
    rw [List.map_cons, Zm.strs, List.length_cons, List.getD_cons_succ, ih, curT_next f (x :: l) l.length (by simp)]
    cases l with
    | nil => rfl
    | cons z l => rw [List.length_cons, curT_next x (z :: l) l.length (by simp), List.getD_cons_succ]
theorem strs_seq (T : List Value) (hT : T.length = 25) (S : List Nat) (Ok : World → Prop) (hOk : OkS S Ok) (a e : Int) (e1 : -9223372036854775808 ≤ e - 1) (e2 : e - 1 ≤ 9223372036854775807) (x0 : TrR) (ch : List TrR)
    (ST : Hid (∀ W : World, Ok W → Calls Tryz.prog 79 #[.agg T.toArray, vi ki a] W fun r w' => r = zr (.agg #[vi ki x0.at_, vi ki x0.off, .bool x0.dst, .string x0.ab]) ∧ Below W.heap.size W w'))
    (CH : Hid (∀ (W : World) (b n : Nat), Ok W → Bx W b T → Bx W (b + 1) [vi ki a] → Bx W (b + 2) [vi ki (e - 1)] → SeqB n Tryz.prog 205 #[.pointer (some ⟨b, 0, none⟩), .pointer (some ⟨b + 1, 0, none⟩), .pointer (some ⟨b + 2, 0, none⟩)] (b :: (b + 1) :: (b + 2) :: S) (fun k => trV (ch.getD k zTr)) ch.length W))
    (w : World) (n : Nat) (hn : 5 ≤ n) (bf bt bo : Nat) (X1 : Bx w bf [vi ki a]) (X2 : Bx w bt T) (X3 : Bx w bo [vi ki e]) (O : Ok w) :
    SeqB n Tryz.prog 180 #[.pointer (some ⟨bf, 0, none⟩), .pointer (some ⟨bt, 0, none⟩), .pointer (some ⟨bo, 0, none⟩)] (bf :: bt :: bo :: S) (fun k => .agg (stC ((Zm.strs a e x0.off (ch.map fun c => (c.at_, c.off))).getD k ⟨0, 0, 0⟩)).toArray) (ch.length + 1) w := by
  intro l M J W hb hM hSM hJ hY h0
  have HS0 : Hid (StS W T bt bf bo W.heap.size a e l Ok S (W.alloc (.cells #[.func (.yield l) #[] #[]] 210))) :=
    ⟨(X2.below hb).alloc _, (X1.below hb).alloc _, (X3.below hb).alloc _, Bx.new W [.func (.yield l) #[] #[]] _, hOk, hOk.below (hOk.below O hb) ((Below.refl _ W).alloc (Nat.le_refl _) _), (Below.refl _ W).alloc (Nat.le_refl _) _, fun k hk => Nat.lt_of_lt_of_le (hOk.lt w O k hk) hb.size, Nat.lt_of_lt_of_le X2.1 hb.size, Nat.lt_of_lt_of_le X1.1 hb.size, Nat.lt_of_lt_of_le X3.1 hb.size, Nat.le_refl _⟩
  refine callsIn_of_wp_marks Tryz.func180 rfl trivial ?_ rfl
  simp only [Tryz.ntmps180, List.size_toArray, List.length_cons, List.length_nil, Nat.reduceAdd, Nat.reduceSub, Array.replicate_succ, Array.replicate_zero, List.push_toArray, List.append_toArray, List.nil_append, List.cons_append]
  refine wpIn_mono (Q := np _) ?_ np_out
  refine wpIn_wide.2 ?_
  go_upto_region 1 with fail
  refine gen_code (StS W T bt bf bo W.heap.size a e l Ok S) HS0.out ?_
  clear HS0
  intro W1 HS1'
  have HS1 : Hid (StS W T bt bf bo W.heap.size a e l Ok S W1) := HS1'
  clear HS1'
  go_cut [5] from 6 (fun v wx => ∃ nb, v = .pointer (some ⟨nb, 0, none⟩) ∧ Hid (StS W T bt bf bo W.heap.size a e l Ok S wx ∧ Bx wx nb [vi ki a, vi ki 0, vi ki x0.off] ∧ W.heap.size < nb))
  case first =>
    refine wp_region_held_drew (S := StS W T bt bf bo W.heap.size a e l Ok S) (by kernel_rfl) HS1.out.drew (fun hHeld => ?_)
    refine tk (v := ?_) 0 ⟨some 7, _, _, _, _, none⟩ rfl ?_ ?_
    case refine_2 => (intro w9 hSw; have l1 := hSw.xf.c 0 rfl; clear hSw; go_simp; try with_reducible rfl)
    simp only [za, zb, zc, zd]
    refine wpAnyH_take (i := 1) (v := .agg T.toArray) (oi := ⟨some 8, _, _, _, _, none⟩) rfl (by kernel_rfl) (by kernel_rfl) (by kernel_rfl) (fun _ _ _ h => h) (Or.inl ⟨by kernel_rfl, ?_⟩) (by assumption) ?_
    case refine_1 => (intro w9 hSw; exact exec_row rfl rfl hSw.xt.all Tryz.underlying44 rfl (by rw [hT]; kernel_rfl))
    simp only [za, zb, zc, zd]
    refine tk (v := ?_) 2 ⟨some 9, _, _, _, _, none⟩ rfl ?_ ?_
    case refine_2 => (intro w9 hSw; have l1 := hSw.xf.c 0 rfl; clear hSw; go_simp; try with_reducible rfl)
    simp only [za, zb, zc, zd]
    refine wpAnyH_ready (rs := [3, 6]) (by kernel_rfl) (by simp) (AllReadyH.cons (o := ⟨some 10, _, _, _, _, none⟩) rfl (fun K hK => ?_) (AllReadyH.cons (o := ⟨some 5, _, _, _, _, none⟩) rfl (fun K hK => ?_) AllReadyH.nil))
    ·
      go_simp
      refine (ST.out _ hHeld.ok).mono ?_
      rintro e v1 ⟨rfl, hb1⟩
      refine hK.out _ _ (hHeld.below hb1) (fun hHeld => ?_)
      try (have HN2 := HN.out.1.below hb1; have HM := HN.out.2; clear HN; have HN : Hid (Bx _ _ _ ∧ _) := ⟨HN2, HM⟩; clear HN2 HM)
      clear hK K hb1
      refine wpAnyH_take (i := 4) (v := vi ki x0.off) (oi := ⟨some 11, _, _, _, _, none⟩) rfl (by kernel_rfl) (by kernel_rfl) (by kernel_rfl) (fun _ _ _ h => h) (Or.inl ⟨by kernel_rfl, ?_⟩) (by assumption) ?_
      case refine_1 => (intro w9 hSw; kernel_rfl)
      simp only [za, zb, zc, zd]
      refine tks 5 ⟨some 12, _, _, _, _, none⟩ rfl ?_
      simp only [za, zb, zc, zd]
      refine rd 6 ⟨some 5, _, _, _, _, none⟩ rfl (fun K hK => ?_)
      go_simp
      have hH0 := hHeld
      refine hK.out _ _ (hHeld.below ((Below.refl _ _).alloc (Nat.le_refl _) _)) (fun hHeld => ?_)
      have HN : Hid (Bx _ _ [vi ki 0, vi ki 0, vi ki 0] ∧ _) := hH0.pair hHeld
      clear hK K hH0
      refine rd 7 ⟨none, _, _, _, _, none⟩ rfl (fun K hK => ?_)
      have HM := HN.out.2
      refine (if_pos (by kernel_rfl)).mpr (wp_store_mid 177 _ _ rfl _ 0 #[vi ki a, vi ki 0, vi ki x0.off] rfl rfl HN.out.1.there (by kernel_rfl) (by simp [Value.oneCell']) (hK.out _ _ (hHeld.turns (turns_setCells _ _ _ _) (fun k hk => by rw [List.mem_singleton] at hk; rw [hk]; exact HM)) (fun hHeld => ?_)))
      have HN2 : Hid (Bx _ _ [vi ki a, vi ki 0, vi ki x0.off] ∧ _) := ⟨HN.out.1.setAll [vi ki a, vi ki 0, vi ki x0.off] rfl, HM⟩
      clear hK K HN HM
      refine wpAnyH_done (by kernel_rfl) ?_ _
      go_wp2_with fail
      go_meet
      case rel => exact ⟨_, rfl, hHeld, HN2.out.1, HN2.out.2⟩
    ·
      go_simp
      have hH0 := hHeld
      refine hK.out _ _ (hHeld.below ((Below.refl _ _).alloc (Nat.le_refl _) _)) (fun hHeld => ?_)
      have HN : Hid (Bx _ _ [vi ki 0, vi ki 0, vi ki 0] ∧ _) := hH0.pair hHeld
      clear hK K hH0
      refine rd 3 ⟨some 10, _, _, _, _, none⟩ rfl (fun K hK => ?_)
      go_simp
      refine (ST.out _ hHeld.ok).mono ?_
      rintro e v5 ⟨rfl, hb5⟩
      refine hK.out _ _ (hHeld.below hb5) (fun hHeld => ?_)
      try (have HN2 := HN.out.1.below hb5; have HM := HN.out.2; clear HN; have HN : Hid (Bx _ _ _ ∧ _) := ⟨HN2, HM⟩; clear HN2 HM)
      clear hK K hb5
      refine wpAnyH_take (i := 4) (v := vi ki x0.off) (oi := ⟨some 11, _, _, _, _, none⟩) rfl (by kernel_rfl) (by kernel_rfl) (by kernel_rfl) (fun _ _ _ h => h) (Or.inl ⟨by kernel_rfl, ?_⟩) (by assumption) ?_
      case refine_1 => (intro w9 hSw; kernel_rfl)
      simp only [za, zb, zc, zd]
      refine tks 5 ⟨some 12, _, _, _, _, none⟩ rfl ?_
      simp only [za, zb, zc, zd]
      refine rd 7 ⟨none, _, _, _, _, none⟩ rfl (fun K hK => ?_)
      have HM := HN.out.2
      refine (if_pos (by kernel_rfl)).mpr (wp_store_mid 177 _ _ rfl _ 0 #[vi ki a, vi ki 0, vi ki x0.off] rfl rfl HN.out.1.there (by kernel_rfl) (by simp [Value.oneCell']) (hK.out _ _ (hHeld.turns (turns_setCells _ _ _ _) (fun k hk => by rw [List.mem_singleton] at hk; rw [hk]; exact HM)) (fun hHeld => ?_)))
      have HN2 : Hid (Bx _ _ [vi ki a, vi ki 0, vi ki x0.off] ∧ _) := ⟨HN.out.1.setAll [vi ki a, vi ki 0, vi ki x0.off] rfl, HM⟩
      clear hK K HN HM
      refine wpAnyH_done (by kernel_rfl) ?_ _
      go_wp2_with fail
      go_meet
      case rel => exact ⟨_, rfl, hHeld, HN2.out.1, HN2.out.2⟩
  case rest =>
    obtain ⟨nb, rfl, HC⟩ := hcut
    have HS2 : Hid (StS W T bt bf bo W.heap.size a e l Ok S wc) := HC.out.1
    have HN2 : Hid (Bx wc nb [vi ki a, vi ki 0, vi ki x0.off]) := HC.out.2.1
    have hnb := HC.out.2.2
    have c1 := HS2.out.xf.c 0 rfl
    have c3 := HS2.out.xo.c 0 rfl
    clear HC HS1
    go_wp2_with (first | (refine wpList_load_mid rfl 44 _ rfl bt 0 rfl T _ HS2.out.xt.all Tryz.underlying44 rfl (by rw [hT]; kernel_rfl) ?_) | fail)
    refine (changes_mk T hT a (e - 1) _).mono ?_
    rintro r' w5 ⟨rfl, rfl⟩
    clear c1 c3
    have b5 : Below wc.heap.size wc (((wc.alloc (.cells T.toArray 44)).alloc (.cells #[vi ki a] 2)).alloc (.cells #[vi ki (e - 1)] 2)) := (((Below.refl _ wc).alloc (Nat.le_refl _) _).alloc (by simp) _).alloc (by simp; omega) _
    have HI5 : Hid (InS W T bt bf bo W.heap.size a e l Ok S nb wc.heap.size (((wc.alloc (.cells T.toArray 44)).alloc (.cells #[vi ki a] 2)).alloc (.cells #[vi ki (e - 1)] 2)) ∧ Bx (((wc.alloc (.cells T.toArray 44)).alloc (.cells #[vi ki a] 2)).alloc (.cells #[vi ki (e - 1)] 2)) nb [vi ki a, vi ki 0, vi ki x0.off] ∧ Below W.heap.size W (((wc.alloc (.cells T.toArray 44)).alloc (.cells #[vi ki a] 2)).alloc (.cells #[vi ki (e - 1)] 2))) :=
      ⟨⟨HS2.out.xt.below b5, HS2.out.xf.below b5, HS2.out.xo.below b5, HS2.out.xy.below b5, hOk, hOk.below HS2.out.ok b5, HS2.out.slt, HS2.out.blt, ((Bx.new wc T _).alloc _).alloc _, (Bx.newAt (wc.alloc (.cells T.toArray 44)) [vi ki a] 2 _ (by simp)).alloc _, Bx.newAt ((wc.alloc (.cells T.toArray 44)).alloc (.cells #[vi ki a] 2)) [vi ki (e - 1)] 2 _ (by simp), hnb, HN2.out.1⟩, HN2.out.below b5, HS2.out.bel.trans (b5.mono HS2.out.bel.size)⟩
    clear b5 HS2 HN2
    go_wp2_with fail
    refine gen_code (fun V => InS W T bt bf bo W.heap.size a e l Ok S nb wc.heap.size V ∧ Bx V nb [vi ki a, vi ki 0, vi ki x0.off] ∧ Below W.heap.size W V) HI5.out ?_
    clear HI5
    rintro W5 ⟨HI5, HN5, hW5⟩
    have hb5 := HI5.y3.1
    have hnc := HI5.hcb
    refine wpIn_wide.1 (rangeB (n := 10) (by decide) (gf := 205) (lb := #[.pointer (some ⟨wc.heap.size, 0, none⟩), .pointer (some ⟨wc.heap.size + 1, 0, none⟩), .pointer (some ⟨wc.heap.size + 2, 0, none⟩)]) rfl (enters_of Tryz.func205 (by kernel_rfl) rfl)
      (CH.out W5 wc.heap.size _ HI5.ok HI5.y1 HI5.y2 HI5.y3) (nb :: M)
      (by intro k hk; rcases List.mem_cons.1 hk with rfl | hk; exact HN5.1; have := hM k hk; omega)
      (by intro k hk; simp only [List.mem_cons] at hk; rcases hk with rfl | rfl | rfl | hk; omega; omega; omega; have := HI5.slt k hk; omega)
      ?hSM rfl
      (fun k V => InS W T bt bf bo W.heap.size a e l Ok S nb wc.heap.size V ∧ Bx V nb [vi ki (curT ⟨a, x0.off, x0.dst, x0.ab⟩ ch k).at_, vi ki 0, vi ki (curT ⟨a, x0.off, x0.dst, x0.ab⟩ ch k).off] ∧ J k V ∧ W.heap.size ≤ V.heap.size)
      ?hI ⟨HI5, HN5, hJ _ _ _ h0 hW5, hW5.size⟩
      (fun k a' V => ∃ bx, nb < bx ∧ Bx V bx [vi ki (ch.getD k zTr).at_, vi ki (ch.getD k zTr).off, .bool (ch.getD k zTr).dst, .string (ch.getD k zTr).ab] ∧ a' = { tmps := #[.func (.yield l) #[] #[], .pointer (some ⟨bf, 0, none⟩), .pointer (some ⟨bt, 0, none⟩), .pointer (some ⟨bo, 0, none⟩), .pointer (some ⟨W.heap.size, 0, none⟩), .pointer (some ⟨nb, 0, none⟩), .pointer (some ⟨bx, 0, none⟩), u7, u8, u9, u10, u11, u12, .agg T.toArray, vi ki a, vi ki e, vi ki (e - 1), .func (.func 205) #[] #[.pointer (some ⟨wc.heap.size, 0, none⟩), .pointer (some ⟨wc.heap.size + 1, 0, none⟩), .pointer (some ⟨wc.heap.size + 2, 0, none⟩)], .agg #[vi ki (ch.getD k zTr).at_, vi ki (ch.getD k zTr).off, .bool (ch.getD k zTr).dst, .string (ch.getD k zTr).ab], u19, u20, u21, u22, u23, u24, u25, u26, u27, u28, u29, u30, u31, u32, u33, u34, u35], defers := [] })
      ?hAx ?assign ?body ?done)
    case hSM =>
      intro k hk q
      rcases List.mem_cons.1 q with rfl | q
      · simp only [List.mem_cons] at hk
        rcases hk with h | h | h | hk
        · omega
        · omega
        · omega
        · have := HI5.slt k hk; have := HI5.hnb; omega
      · have h1 := hM k q
        simp only [List.mem_cons] at hk
        rcases hk with h | h | h | hk
        · have := HI5.hnb; omega
        · have := HI5.hnb; omega
        · have := HI5.hnb; omega
        · exact hSM k (by simp [hk]) q
    case hI =>
      rintro k A A' ⟨p1, p2, p3, p4⟩ hbA
      exact ⟨p1.mv hb5 hbA, bx_mv p2 (by omega) hbA, hJ _ _ _ p3 (hbA.mono hW5.size), Nat.le_trans p4 hbA.size⟩
    case hAx =>
      rintro k a' V l2 o o' ⟨bx, h1, h2, h3⟩ ho hc
      refine ⟨bx, h1, bx_turns h2 (Turns.putObj (M := [l2]) V o' (by simp)) (fun q => ?_), h3⟩
      simp at q
      subst q
      have := (h2.2 0 _ rfl).1
      simp [World.cell?, ho] at this
      cases o <;> simp_all [Obj.isCells]
    case assign =>
      rintro l2 k V K' hlt hK
      simp only [trV]
      generalize ch.getD k zTr = x at *
      gi_wp2
      exact hK _ _ ((Below.refl _ V).alloc (Nat.le_refl _) _) ⟨V.heap.size, by omega, Bx.new V [vi ki x.at_, vi ki x.off, .bool x.dst, .string x.ab] _, rfl⟩
    case body =>
      rintro l2 k a' V ⟨p1, p2, p3, p4⟩ ⟨bx, hx1, hx2, rfl⟩ hk hlt
      have hY1 := hY k
      have hsk : (Zm.strs a e x0.off (ch.map fun c => (c.at_, c.off))).getD k ⟨0, 0, 0⟩ = ⟨(curT ⟨a, x0.off, x0.dst, x0.ab⟩ ch k).at_, (ch.getD k zTr).at_, (curT ⟨a, x0.off, x0.dst, x0.ab⟩ ch k).off⟩ := strs_get e ch ⟨a, x0.off, x0.dst, x0.ab⟩ k hk
      rw [hsk] at hY1
      have hnx : curT ⟨a, x0.off, x0.dst, x0.ab⟩ ch (k + 1) = ch.getD k zTr := curT_next _ ch k hk
      rw [hnx]
      generalize curT ⟨a, x0.off, x0.dst, x0.ab⟩ ch k = y at *
      generalize ch.getD k zTr = x at *
      clear hsk hnx hY CH ST HI5 HN5
      have n0 := p2.c 0 rfl
      have n1 := p2.c 1 rfl
      have n2 := p2.c 2 rfl
      have f0 := p2.f 0 rfl
      have f1 := p2.f 1 rfl
      have f2 := p2.f 2 rfl
      have d0 := hx2.c 0 rfl
      have d1 := hx2.c 1 rfl
      have yb := p1.xy.c 0 rfl
      have hbn := p1.hnb
      have tA : Turns [nb] V (V.setCell ⟨nb, 1, none⟩ (vi ki x.at_)) := Turns.setCell _ _ _ (by simp)
      obtain ⟨fn, tmps, assign, body, hy, hR⟩ := YieldAt_round (l2 := l2) (m' := 10 - 1 - 1 - 1) (hY1 (V.setCell ⟨nb, 1, none⟩ (vi ki x.at_)) (by omega) (by simp; omega) (hJ _ _ _ p3 (tA.below p4 (by intro q hq; simp at hq; omega))))
      simp only [stC] at hy
      have HR : Hid (RoundIn (Fence.wide.inRound l2) (10 - 1 - 1 - 1) Tryz.prog l fn tmps assign body (V.setCell ⟨nb, 1, none⟩ (vi ki x.at_)) fun e W' => e = zr (.bool true) ∧ J (k + 1) W' ∧ Turns M (V.setCell ⟨nb, 1, none⟩ (vi ki x.at_)) W') := hR
      clear hR
      have hnM : nb ∉ M := fun q => by have := hM nb q; omega
      have hxM : bx ∉ M := fun q => by have := hM bx q; omega
      have q2 : Bx (V.setCell ⟨nb, 1, none⟩ (vi ki x.at_)) nb [vi ki y.at_, vi ki x.at_, vi ki y.off] := bx_set1 p2 1 (vi ki x.at_) (by simp)
      have q3 : Bx (V.setCell ⟨nb, 1, none⟩ (vi ki x.at_)) bx [vi ki x.at_, vi ki x.off, .bool x.dst, .string x.ab] := bx_turns hx2 tA (by simp; omega)
      have q1 : InS W T bt bf bo W.heap.size a e l Ok S nb wc.heap.size (V.setCell ⟨nb, 1, none⟩ (vi ki x.at_)) := p1.turns tA (by intro q hq; simp at hq; exact .inl hq)
      gi_wp2
      refine HR.out.mono ?_
      rintro e' W7 ⟨rfl, hJ7, ht7⟩
      have r2 := bx_turns q2 ht7 hnM
      have r3 := bx_turns q3 ht7 hxM
      have r1 : InS W T bt bf bo W.heap.size a e l Ok S nb wc.heap.size W7 := q1.turns ht7 (by intro q hq; exact .inr ⟨hM q hq, fun h5 => hSM q (by simp only [List.mem_cons]; rcases h5 with h | h | h | h; exact .inr (.inl h); exact .inl h; exact .inr (.inr (.inl h)); exact .inr (.inr (.inr h))) hq⟩)
      have hT7 : Turns (nb :: M) V W7 := (tA.mono (by simp)).trans (ht7.mono (fun q hq => by simp [hq]))
      clear HR hy ht7 q1 q2 q3 n0 n1 n2 f0 f1 f2 d0 d1 yb p1 p2 p3 tA hY1 hx2
      have n0 := r2.c 0 rfl
      have n1 := r2.c 1 rfl
      have n2 := r2.c 2 rfl
      have f0 := r2.f 0 rfl
      have f1 := r2.f 1 rfl
      have f2 := r2.f 2 rfl
      have d0 := r3.c 0 rfl
      have d1 := r3.c 1 rfl
      have hs7 := hT7.size
      gi_wp2
      have tB : Turns [nb] W7 (W7.setCells nb 0 [vi ki x.at_, vi ki 0, vi ki x.off]) := turns_setCells _ _ _ _
      exact ⟨hT7.trans (tB.mono (by simp)), r1.turns tB (by intro q hq; simp at hq; exact .inl hq), r2.setAll [vi ki x.at_, vi ki 0, vi ki x.off] rfl, hJ _ _ _ hJ7 (tB.below (by omega) (by intro q hq; simp at hq; omega)), Nat.le_trans p4 (Nat.le_trans hs7 tB.size)⟩
    case done =>
      rintro D V hD ⟨p1, p2, p3, p4⟩ hK
      have hY1 := hY ch.length
      rw [strs_last e ch ⟨a, x0.off, x0.dst, x0.ab⟩] at hY1
      generalize curT ⟨a, x0.off, x0.dst, x0.ab⟩ ch ch.length = y at *
      clear hY CH ST HI5 HN5
      have n0 := p2.c 0 rfl
      have n1 := p2.c 1 rfl
      have n2 := p2.c 2 rfl
      have f0 := p2.f 0 rfl
      have f1 := p2.f 1 rfl
      have f2 := p2.f 2 rfl
      have yb := p1.xy.c 0 rfl
      have ec := p1.xo.c 0 rfl
      have hbn := p1.hnb
      have tA : Turns [nb] V (V.setCell ⟨nb, 1, none⟩ (vi ki e)) := Turns.setCell _ _ _ (by simp)
      obtain ⟨fn, tmps, assign, body, hy, hR⟩ := YieldAt_wide (m' := 10 - 1) (hY1 (V.setCell ⟨nb, 1, none⟩ (vi ki e)) (by omega) (by simp; omega) (hJ _ _ _ p3 (tA.below p4 (by intro q hq; simp at hq; omega))))
      simp only [stC] at hy
      have HR : Hid (RoundIn Fence.wide (10 - 1) Tryz.prog l fn tmps assign body (V.setCell ⟨nb, 1, none⟩ (vi ki e)) fun r' W' => r' = zr (.bool true) ∧ J (ch.length + 1) W' ∧ Turns M (V.setCell ⟨nb, 1, none⟩ (vi ki e)) W') := hR
      clear hR
      have hkD : (V.setCell ⟨nb, 1, none⟩ (vi ki e)).heap[D]? = some (.deferred (some [])) := (tA.block D (Array.getElem?_eq_some_iff.1 hK).1 (by simp; omega)).trans hK
      have q2 : Bx (V.setCell ⟨nb, 1, none⟩ (vi ki e)) nb [vi ki y.at_, vi ki e, vi ki y.off] := bx_set1 p2 1 (vi ki e) (by simp)
      have yb2 : (V.setCell ⟨nb, 1, none⟩ (vi ki e)).cell? ⟨W.heap.size, 0, none⟩ = some (.func (.yield l) #[] #[]) := (bx_turns p1.xy tA (by simp; omega)).c 0 rfl
      go_upto_region 8 with fail
      clear n0 n1 n2 f0 f1 f2 yb ec
      have n0 := q2.c 0 rfl
      have n1 := q2.c 1 rfl
      have n2 := q2.c 2 rfl
      have hDM : D ∉ M := fun q => by have := hM D q; omega
      have hlD := (Array.getElem?_eq_some_iff.1 hkD).1
      have HKD : Hid ((V.setCell ⟨nb, 1, none⟩ (vi ki e)).heap[D]? = some (.deferred (some []))) := hkD
      clear hkD hK
      refine (wpIn_wide (n := 10)).1 ?_
      gi_wp2
      refine HR.out.mono ?_
      rintro r' W7 ⟨rfl, hJ7, ht7⟩
      have hk7 := (ht7.block D hlD hDM).trans HKD.out
      gi_wp2
      refine ⟨by simp, .inl ⟨_, _, rfl, run_takeDeferred hk7, ?_⟩⟩
      exact ⟨_, results_none rfl _ _ _, ⟨_, rfl⟩, hJ _ _ _ hJ7 ((Turns.putObj (M := [D]) W7 _ (by simp)).below (by have := ht7.size; simp at this; omega) (by intro q hq; simp at hq; omega))⟩
attribute [local go_sem] Oper.semAt_some
def Zm.chg (a b : Int) (L : List TrR) : List TrR := (L.drop (Zm.cntLe a (L.map (·.at_)))).takeWhile (fun x => decide (x.at_ ≤ b))
theorem Zm.tw_get {p : TrR → Bool} : ∀ {D : List TrR} {j : Nat} {x : TrR}, D[j]? = some x → j < (D.takeWhile p).length → (D.takeWhile p).getD j zTr = x
 | [], j, x, h, _ => by simp at h
 | y :: D, j, x, h, hl => by
  by_cases hp : p y = true
  ·rw [List.takeWhile_cons_of_pos hp] at hl ⊢
   cases j with
   | zero => simpa using h
   | succ j => rw [List.getD_cons_succ]; exact Zm.tw_get (by simpa using h) (by simpa using hl)
  ·rw [List.takeWhile_cons_of_neg hp] at hl; simp at hl
theorem Zm.tw_all {p : TrR → Bool} : ∀ {D : List TrR}, (∀ (j : Nat) (x : TrR), D[j]? = some x → p x = true) → (D.takeWhile p).length = D.length
 | [], _ => rfl
 | y :: D, h => by
  rw [List.takeWhile_cons_of_pos (h 0 y rfl), List.length_cons, List.length_cons, Zm.tw_all (fun j x hx => h (j + 1) x (by simpa using hx))]
theorem Zm.tw_at {p : TrR → Bool} : ∀ {D : List TrR} {i : Nat} {x : TrR}, (∀ (j : Nat) (y : TrR), j < i → D[j]? = some y → p y = true) → D[i]? = some x → p x = false → (D.takeWhile p).length = i
 | [], i, x, _, h, _ => by simp at h
 | y :: D, 0, x, _, h, hp => by
  obtain rfl : y = x := by simpa using h
  rw [List.takeWhile_cons_of_neg (by rw [hp]; decide)]; rfl
 | y :: D, i + 1, x, h, hx, hp => by
  rw [List.takeWhile_cons_of_pos (h 0 y (Nat.succ_pos _) rfl), List.length_cons, Zm.tw_at (i := i) (x := x) (fun j z hj hz => h (j + 1) z (Nat.succ_lt_succ hj) (by simpa using hz)) (by simpa using hx) hp]
theorem Zm.tw_lt {p : TrR → Bool} : ∀ {D : List TrR} {i : Nat} {x : TrR}, (∀ (j : Nat) (y : TrR), j < i → D[j]? = some y → p y = true) → D[i]? = some x → p x = true → i < (D.takeWhile p).length
 | [], i, x, _, h, _ => by simp at h
 | y :: D, 0, x, _, h, hp => by
  obtain rfl : y = x := by simpa using h
  rw [List.takeWhile_cons_of_pos hp]; simp
 | y :: D, i + 1, x, h, hx, hp => by
  rw [List.takeWhile_cons_of_pos (h 0 y (Nat.succ_pos _) rfl), List.length_cons]
  exact Nat.succ_lt_succ (Zm.tw_lt (i := i) (x := x) (fun j z hj hz => h (j + 1) z (Nat.succ_lt_succ hj) (by simpa using hz)) (by simpa using hx) hp)
structure ChS (W : World) (T : List Value) (bt bf bo : Nat) (a b : Int) (Ok : World → Prop) (S : List Nat) (V : World) : Prop where
 xt : Bx V bt T
 xf : Bx V bf [vi ki a]
 xo : Bx V bo [vi ki b]
 okS : OkS S Ok
 ok : Ok V
 slt : ∀ k ∈ S, k < W.heap.size
 blt : bt < W.heap.size ∧ bf < W.heap.size ∧ bo < W.heap.size
 wsz : W.heap.size ≤ V.heap.size
theorem ChS.below {W : World} {T : List Value} {bt bf bo : Nat} {a b : Int} {Ok : World → Prop} {S : List Nat} {V V' : World} (h : ChS W T bt bf bo a b Ok S V) (hb : Below V.heap.size V V') : ChS W T bt bf bo a b Ok S V' :=
 ⟨h.xt.below hb, h.xf.below hb, h.xo.below hb, h.okS, h.okS.below h.ok hb, h.slt, h.blt, Nat.le_trans h.wsz hb.size⟩
theorem ChS.drew {W : World} {T : List Value} {bt bf bo : Nat} {a b : Int} {Ok : World → Prop} {S : List Nat} {V : World} (h : ChS W T bt bf bo a b Ok S V) : ChS W T bt bf bo a b Ok S V.drew :=
 ⟨h.xt, h.xf, h.xo, h.okS, h.okS.drew _ h.ok, h.slt, h.blt, h.wsz⟩
theorem ChS.turns {W : World} {T : List Value} {bt bf bo : Nat} {a b : Int} {Ok : World → Prop} {S : List Nat} {M : List Nat} {V V' : World} (h : ChS W T bt bf bo a b Ok S V) (ht : Turns M V V') (hM : ∀ k ∈ bt :: bf :: bo :: S, k ∉ M) : ChS W T bt bf bo a b Ok S V' :=
 ⟨bx_turns h.xt ht (hM _ (by simp)), bx_turns h.xf ht (hM _ (by simp)), bx_turns h.xo ht (hM _ (by simp)), h.okS, h.okS.turns h.ok ht (fun k hk => hM k (by simp [hk])), h.slt, h.blt, Nat.le_trans h.wsz ht.size⟩
structure ChB (W : World) (T : List Value) (bt bf bo : Nat) (a b : Int) (Ok : World → Prop) (S : List Nat) (V : World) : Prop where
 cs : ChS W T bt bf bo a b Ok S V
 bel : Below W.heap.size W V
theorem ChB.below {W : World} {T : List Value} {bt bf bo : Nat} {a b : Int} {Ok : World → Prop} {S : List Nat} {V V' : World} (h : ChB W T bt bf bo a b Ok S V) (hb : Below V.heap.size V V') : ChB W T bt bf bo a b Ok S V' := ⟨h.cs.below hb, h.bel.trans (hb.mono h.bel.size)⟩
theorem ChB.drew {W : World} {T : List Value} {bt bf bo : Nat} {a b : Int} {Ok : World → Prop} {S : List Nat} {V : World} (h : ChB W T bt bf bo a b Ok S V) : ChB W T bt bf bo a b Ok S V.drew := ⟨h.cs.drew, h.bel.drew⟩
theorem exec_slice {P : Program} {ρ : Operand → Value} {o : Oper} {w : World} {ty : TypeId} {x y : Operand} {sv lo v : Value} (ho : o.op = .slice ty x (some y) none none) (hx : ρ x = sv) (hy : ρ y = lo) (h : (Instr.sliceAt ty sv (some lo) none none).run P w = .ok v w) : (execOp ρ o).run P w = .ok (.value v) w := by
 simp [execOp, ho, hx, hy, h]
theorem run_slT (ao : Option Addr) (n c C : Nat) (hC : C ≤ n) (w : World) : (Instr.sliceAt 24 (.slice ao n c) (some (vi ki (C : Int))) none none).run Tryz.prog w = .ok (.slice (if c = C then ao else ao.map (·.add (C * 4))) (n - C) (c - C)) w := by
 have hs : (sizeOf 23).run Tryz.prog w = .ok 4 w := by kernel_rfl
 have hi : ((C : Int)).toNat = C := by simp
 have hb : (Instr.sliceBound (vi ki (C : Int)) n .sliceB).run Tryz.prog w = .ok C w := by
  simp [Instr.sliceBound, asIntOf, hC]
 simp [Instr.sliceAt, Instr.slice, run_underlying Tryz.underlying24, Instr.sliceBounds, hb, hs, Result.andThen]
theorem TrAt.drop {W : World} {ao : Option Addr} {n c C : Nat} {L : List TrR} (h : TrAt W (.slice ao n c) L) (hn : n ≤ c) (hC : C ≤ n) : TrAt W (.slice (if c = C then ao else ao.map (·.add (C * 4))) (n - C) (c - C)) (L.drop C) := by
 obtain ⟨⟨ao1, c1, h1⟩, h2, h3⟩ := h
 simp only [Value.slice.injEq] at h1
 obtain ⟨rfl, rfl, rfl⟩ := h1
 refine ⟨⟨_, _, by rw [List.length_drop]⟩, by rw [List.length_drop]; omega, ?_⟩
 by_cases hCn : C = L.length
 ·exact .inl (by rw [hCn, List.drop_length])
 ·rw [if_neg (show ¬ c = C by omega)]
  rcases h3 with rfl | ⟨g, o, c', e, hg, hc⟩
  ·simp at hC; subst hC; exact absurd rfl hCn
  ·simp only [Value.slice.injEq] at e
   obtain ⟨rfl, -, rfl⟩ := e
   refine .inr ⟨g, o + C * 4, c - C, by rw [List.length_drop]; simp [Addr.add], hg, fun j u hj => ?_⟩
   have hsp : trCs L = trCs (L.take C) ++ trCs (L.drop C) := by rw [← trCs_app, List.take_append_drop]
   have hl : (trCs (L.take C)).length = C * 4 := by rw [trCs_len, List.length_take, Nat.min_eq_left hC]
   have := hc (C * 4 + j) u (by rw [hsp, List.getElem?_append_right (by omega), hl, Nat.add_sub_cancel_left]; exact hj)
   rwa [← Nat.add_assoc] at this
theorem chs_no (T : List Value) (hT : T.length = 25) (S : List Nat) (Ok : World → Prop) (hOk : OkS S Ok) (a b : Int) (ao : Option Addr) (n c : Nat) (hnc : n ≤ c) (L : List TrR) (h5 : T[5]? = some (.slice ao n c)) (h6 : T[6]? = some (.bool false)) (hr : Zm.Rises (L.map (·.at_))) (h4 : L.length ≤ 4096) (hn : L.length = n)
  (TR : ∀ W, Ok W → TrAt W (.slice ao n c) L)
  (w : World) (m : Nat) (bt bf bo : Nat) (X1 : Bx w bt T) (X2 : Bx w bf [vi ki a]) (X3 : Bx w bo [vi ki b]) (O : Ok w) :
  SeqB m Tryz.prog 205 #[.pointer (some ⟨bt, 0, none⟩), .pointer (some ⟨bf, 0, none⟩), .pointer (some ⟨bo, 0, none⟩)] (bt :: bf :: bo :: S) (fun k => trV ((Zm.chg a b L).getD k zTr)) (Zm.chg a b L).length w := by
 intro l M J W hb hM hSM hJ hY h0
 have HS0 : Hid (ChB W T bt bf bo a b Ok S W) :=
  ⟨⟨X1.below hb, X2.below hb, X3.below hb, hOk, hOk.below O hb, fun k hk => Nat.lt_of_lt_of_le (hOk.lt w O k hk) hb.size, ⟨Nat.lt_of_lt_of_le X1.1 hb.size, Nat.lt_of_lt_of_le X2.1 hb.size, Nat.lt_of_lt_of_le X3.1 hb.size⟩, Nat.le_refl _⟩, Below.refl _ _⟩
 have BH : Hid (∀ V : World, Ok V → Calls Tryz.prog 127 #[.agg T.toArray, vi ki a] V fun r w' => r = zr (vi ki ((Zm.cntLe a (L.map (·.at_)) : Nat) : Int)) ∧ Below V.heap.size V w') := fun V hV => behind_any T hT L _ h5 a hr h4 V (TR V hV)
 have hC0 : Zm.cntLe a (L.map (·.at_)) ≤ n := by have := Zm.cntLe_le a (L.map (·.at_)); rw [List.length_map, hn] at this; exact this
 unfold Zm.chg at hY ⊢
 generalize Zm.cntLe a (L.map (·.at_)) = C at *
 have SL : Hid (∀ V : World, (Instr.sliceAt 24 (.slice ao n c) (some (vi ki (C : Int))) none none).run Tryz.prog V = .ok (.slice (if c = C then ao else ao.map (·.add (C * 4))) (n - C) (c - C)) V) := fun V => run_slT ao n c C hC0 V
 have TD : Hid (∀ V, Ok V → TrAt V (.slice (if c = C then ao else ao.map (·.add (C * 4))) (n - C) (c - C)) (L.drop C)) := fun V hV => (TR V hV).drop hnc hC0
 have hlen : (L.drop C).length = n - C := by rw [List.length_drop, hn]
 have hm4 : n - C ≤ 4096 := by omega
 generalize L.drop C = D at *
 generalize (if c = C then ao else ao.map (·.add (C * 4))) = a5 at *
 obtain ⟨m5, hm5⟩ : ∃ m5, n - C = m5 := ⟨_, rfl⟩
 rw [hm5] at SL TD hlen hm4
 generalize c - C = c5 at *
 refine callsIn_wide.2 ?_
 go_enter Tryz.func205, Tryz.ntmps205
 go_upto_region 0 with fail
 go_cut [15, 16, 17] (fun v15 v16 v17 wx => v15 = .slice a5 m5 c5 ∧ v16 = vi ki (m5 : Int) ∧ v17 = vi ki 0 ∧ Hid (ChB W T bt bf bo a b Ok S wx))
 case first =>
  refine wp_region_held_drew (S := ChB W T bt bf bo a b Ok S) (by kernel_rfl) HS0.out.drew (fun hHeld => ?_)
  refine tks 0 ⟨some 10, _, _, _, _, none⟩ rfl ?_
  simp only [za, zb, zc, zd]
  refine tk (v := ?_) 1 ⟨some 11, _, _, _, _, none⟩ rfl ?_ ?_
  case refine_2 => (intro w9 hSw; have l1 := hSw.cs.xf.c 0 rfl; have l2 := hSw.cs.xt.c 5 h5; clear hSw; go_simp; try with_reducible rfl)
  simp only [za, zb, zc, zd]
  refine wpAnyH_take (i := 2) (v := .agg T.toArray) (oi := ⟨some 12, _, _, _, _, none⟩) rfl (by kernel_rfl) (by kernel_rfl) (by kernel_rfl) (fun _ _ _ h => h) (Or.inl ⟨by kernel_rfl, ?_⟩) (by assumption) ?_
  case refine_1 => (intro w9 hSw; exact exec_row rfl rfl hSw.cs.xt.all Tryz.underlying44 rfl (by rw [hT]; kernel_rfl))
  simp only [za, zb, zc, zd]
  refine tk (v := ?_) 3 ⟨some 13, _, _, _, _, none⟩ rfl ?_ ?_
  case refine_2 => (intro w9 hSw; have l1 := hSw.cs.xf.c 0 rfl; have l2 := hSw.cs.xt.c 5 h5; clear hSw; go_simp; try with_reducible rfl)
  simp only [za, zb, zc, zd]
  refine tks 7 ⟨some 17, _, _, _, _, none⟩ rfl ?_
  simp only [za, zb, zc, zd]
  refine rd 4 ⟨some 14, _, _, _, _, none⟩ rfl (fun K hK => ?_)
  go_simp
  refine (BH.out _ hHeld.cs.ok).mono ?_
  rintro e v1 ⟨rfl, hb1⟩
  refine hK.out _ _ (hHeld.below hb1) (fun hHeld => ?_)
  clear hK K hb1
  refine wpAnyH_take (i := 5) (v := .slice a5 m5 c5) (oi := ⟨some 15, _, _, _, _, none⟩) rfl (by kernel_rfl) (by kernel_rfl) (by kernel_rfl) (fun _ _ _ h => h) (Or.inl ⟨by kernel_rfl, ?_⟩) (by assumption) ?_
  case refine_1 => (intro w9 hSw; exact exec_slice rfl rfl rfl (SL.out w9))
  simp only [za, zb, zc, zd]
  refine tks 6 ⟨some 16, _, _, _, _, none⟩ rfl ?_
  simp only [za, zb, zc, zd]
  refine wpAnyH_done (by kernel_rfl) ?_ _
  go_wp2_with fail
  go_meet
  case rel => exact ⟨rfl, rfl, rfl, hHeld⟩
 case rest =>
  obtain ⟨rfl, rfl, rfl, HS1⟩ := hcut
  have J1 : J 0 wc := hJ _ _ _ h0 HS1.out.bel
  have AL : Hid (∀ j x, D[j]? = some x → x.at_ ≤ b → j < (D.takeWhile (fun x => decide (x.at_ ≤ b))).length → (D.takeWhile (fun x => decide (x.at_ ≤ b))).getD j zTr = x) := fun j x hx _ hj => Zm.tw_get hx hj
  go_wp2_with fail
  go_loopw [17] (fun iv wr => ∃ i : Nat, iv = vi ki (i : Int) ∧ i ≤ m5 ∧ Hid (ChS W T bt bf bo a b Ok S wr ∧ J i wr ∧ ∀ j x, j < i → D[j]? = some x → x.at_ ≤ b)) (fun iv _ => m5 - (intOf iv).toNat)
  case atStart => exact ⟨0, rfl, Nat.zero_le _, HS1.out.cs, J1, fun j x hj => absurd hj (Nat.not_lt_zero _)⟩
  case round =>
   obtain ⟨i, rfl, hi, HR⟩ := hrel
   by_cases hlt : i < m5
   ·obtain ⟨x, hx⟩ : ∃ x, D[i]? = some x := ⟨_, List.getElem?_eq_getElem (by omega)⟩
    obtain ⟨g, o, c', hsv, hrg⟩ := (TD.out wr HR.out.1.ok).row hx
    rw [hlen] at hsv
    simp only [Value.slice.injEq, true_and] at hsv
    obtain ⟨rfl, rfl⟩ := hsv
    have HRG : Hid (wr.rangeAt g (o + i * 4) [vi ki x.at_, vi ki x.off, .bool x.dst, .string x.ab]) := hrg
    clear hrg
    have hlt' : (i : Int) < (m5 : Int) := by omega
    have hn5 := HR.out.1
    have hba : Below wr.heap.size wr (wr.alloc (.cells #[vi ki x.at_, vi ki x.off, .bool x.dst, .string x.ab] 23)) := (Below.refl _ _).alloc (Nat.le_refl _) _
    have HZ : Hid (ChS W T bt bf bo a b Ok S (wr.alloc (.cells #[vi ki x.at_, vi ki x.off, .bool x.dst, .string x.ab] 23)) ∧ J i (wr.alloc (.cells #[vi ki x.at_, vi ki x.off, .bool x.dst, .string x.ab] 23)) ∧ Bx (wr.alloc (.cells #[vi ki x.at_, vi ki x.off, .bool x.dst, .string x.ab] 23)) wr.heap.size [vi ki x.at_, vi ki x.off, .bool x.dst, .string x.ab]) := ⟨hn5.below hba, hJ _ _ _ HR.out.2.1 (hba.mono hn5.wsz), Bx.new wr [vi ki x.at_, vi ki x.off, .bool x.dst, .string x.ab] _⟩
    have hwr := hn5.wsz
    have HP : Hid (∀ j x, j < i → D[j]? = some x → x.at_ ≤ b) := HR.out.2.2
    clear hn5 HR hba
    go_upto_region 3 with (first | (refine wpList_load_mid rfl 23 _ rfl g (o + i * 4) rfl [vi ki x.at_, vi ki x.off, .bool x.dst, .string x.ab] _ HRG.out Tryz.underlying23 rfl (by kernel_rfl) ?_) | fail)
    refine gen_code (fun V => ChS W T bt bf bo a b Ok S V ∧ J i V ∧ Bx V wr.heap.size [vi ki x.at_, vi ki x.off, .bool x.dst, .string x.ab]) HZ.out ?_
    clear HZ HRG
    rintro V ⟨C1, J2, B1⟩
    have o0 := C1.xo.c 0 rfl
    have x0 := B1.c 0 rfl
    have x1 := B1.c 1 rfl
    have x2 := B1.c 2 rfl
    have x3 := B1.c 3 rfl
    by_cases hgt : b < x.at_
    ·have hN : (D.takeWhile (fun x => decide (x.at_ ≤ b))).length = i := Zm.tw_at (fun j y hj hy => decide_eq_true (HP.out j y hj hy)) hx (decide_eq_false (by omega))
     have HJ2 : Hid (J (D.takeWhile (fun x => decide (x.at_ ≤ b))).length V) := by rw [hN]; exact J2
     clear hY C1 B1 J2 AL
     refine (wpIn_wide (n := 10)).1 ?_
     gi_wp2
     refine ⟨fun _ h => (by cases h), ?_⟩
     gi_wp2
     go_wp2_with fail
     refine bodyPost_ret (results_none rfl _ _ _) rfl ?_
     exact ⟨⟨_, rfl⟩, HJ2.out⟩
    ·have hle : x.at_ ≤ b := by omega
     have hiN := Zm.tw_lt (fun j y hj hy => decide_eq_true (HP.out j y hj hy)) hx (decide_eq_true hle)
     have hY1 := hY i V hiN C1.wsz J2
     rw [Zm.tw_get hx hiN] at hY1
     obtain ⟨fn, tmps, assign, body, hy, hR⟩ := YieldAt_wide (m' := 10 - 1) hY1
     simp only [trV] at hy
     have HR : Hid (RoundIn Fence.wide (10 - 1) Tryz.prog l fn tmps assign body V fun e W' => e = zr (.bool true) ∧ J (i + 1) W' ∧ Turns M V W') := hR
     clear hR hY1 J2 B1
     refine (wpIn_wide (n := 10)).1 ?_
     gi_wp2
     refine HR.out.mono ?_
     rintro e' V7 ⟨rfl, hJ7, ht7⟩
     have C7 := C1.turns ht7 hSM
     clear HR hy C1 o0 x0 x1 x2 x3
     gi_wp2
     go_wp2_with fail
     exact ⟨⟨i + 1, by simp, by omega, C7, hJ7, fun j y hj hy => by
      by_cases hji : j = i
      ·subst hji; rw [hx] at hy; cases hy; exact hle
      ·exact HP.out j y (by omega) hy⟩, by simp [intOf]; omega⟩
   ·obtain rfl : i = m5 := by omega
    have f6 : wr.cell? ⟨bt, 6, none⟩ = some (.bool false) := HR.out.1.xt.c 6 h6
    have hN : (D.takeWhile (fun x => decide (x.at_ ≤ b))).length = i := by
     rw [Zm.tw_all (fun j x hx => decide_eq_true (HR.out.2.2 j x (by have := (List.getElem?_eq_some_iff.1 hx).1; omega) hx))]; exact hlen
    go_wp2_with fail
    refine bodyPost_ret (results_none rfl _ _ _) rfl ?_
    exact ⟨⟨_, rfl⟩, by rw [hN]; exact HR.out.2.1⟩
end Go.Proofs.YtklehbmghjcmaaaGreatDoor
