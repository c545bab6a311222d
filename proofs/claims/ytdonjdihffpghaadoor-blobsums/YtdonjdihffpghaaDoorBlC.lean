/- Contracts: what Put's closure does: bytes more behind the bytes. -/
import Derived.Test.YtdonjdihffpghaaDoorBlB
import Derived.RangeFuncBox
import Derived.Laws.AppendOwn
import Derived.ArgAppend
namespace Go.Proofs.YtdonjdihffpghaaDoor
open Go.RowKit Sr
set_option linter.unusedVariables false

/-- all blocks but bb and rows of bytes lie as they lay. -/
def KT (bb : Nat) (W W' : World) : Prop := W.heap.size ≤ W'.heap.size ∧ ∀ k o, W.heap[k]? = some o → k ≠ bb → (∀ cs fz, o ≠ .cells cs 5 fz) → W'.heap[k]? = some o
theorem KT.refl (bb : Nat) (W : World) : KT bb W W := ⟨Nat.le_refl _, fun _ _ h _ _ => h⟩
theorem KT.trans {bb : Nat} {A B C : World} (h : KT bb A B) (k : KT bb B C) : KT bb A C := ⟨Nat.le_trans h.1 k.1, fun i o hi hb hn => k.2 i o (h.2 i o hi hb hn) hb hn⟩
theorem KT.of_below {bb : Nat} {A B : World} (h : Below A.heap.size A B) : KT bb A B := ⟨h.size, fun i o hi _ _ => (h.block i (Array.getElem?_eq_some_iff.1 hi).1).trans hi⟩
theorem KT.boxed {bb : Nat} {A B : World} (h : KT bb A B) {b : Nat} {t : TypeId} {v : Value} (hb : Boxed A b t v) (hn : b ≠ bb) (ht : t ≠ 5) : Boxed B b t v := h.2 _ _ hb hn (fun cs fz e => ht (by cases e; rfl))
/-- a row of bytes that is the call's own, or a full one. -/
def RowQ (W : World) (base : Nat) (v : Value) (L : List UInt8) : Prop := W.ownsRow base 5 1 v L.length (cellsB L) ∨ ∃ g cur fz, v = .slice (some ⟨g, 0, none⟩) L.length L.length ∧ base ≤ g ∧ W.heap[g]? = some (.cells cur 5 fz) ∧ cur.toList = cellsB L
theorem RowQ.lt {W : World} {base : Nat} {v : Value} {L : List UInt8} (h : RowQ W base v L) : ∀ k, v.ownBlock = some k → base ≤ k := by
  rcases h with h | ⟨g, cur, fz, rfl, hb, _⟩
  · exact fun k hk => (h.lt k hk).1
  · intro k hk; simp [Value.ownBlock] at hk; omega
theorem RowQ.blk5 {W : World} {base : Nat} {v : Value} {L : List UInt8} (h : RowQ W base v L) : ∀ k, v.ownBlock = some k → ∃ cs fz, W.heap[k]? = some (.cells cs 5 fz) := by
  intro k hk
  rcases h with h | ⟨g, cur, fz, rfl, hb, hg, _⟩
  · rcases h.2 with ⟨rfl, _⟩ | ⟨g, cap, cur, rfl, _, hg, _⟩
    · simp [Value.ownBlock] at hk
    · simp [Value.ownBlock] at hk; subst hk; exact ⟨_, _, hg⟩
  · simp [Value.ownBlock] at hk; subst hk; exact ⟨_, _, hg⟩
theorem RowQ.mv {W W' : World} {base : Nat} {v : Value} {L : List UInt8} (h : RowQ W base v L) (hk : ∀ g o, v.ownBlock = some g → W.heap[g]? = some o → W'.heap[g]? = some o) : RowQ W' base v L := by
  rcases h with ⟨h1, h2⟩ | ⟨g, cur, fz, rfl, hb, hg, hc⟩
  · refine .inl ⟨h1, ?_⟩
    rcases h2 with h2 | ⟨g, cap, cur, a, b, c, d⟩
    · exact .inl h2
    · exact .inr ⟨g, cap, cur, a, b, hk g _ (by rw [a]; rfl) c, d⟩
  · exact .inr ⟨g, cur, fz, rfl, hb, hk g _ rfl hg, hc⟩
theorem RowQ.rd {W : World} {base : Nat} {v : Value} {L : List UInt8} (h : RowQ W base v L) (h0 : 0 < L.length) : ∃ g c, v = .slice (some ⟨g, 0, none⟩) L.length c ∧ ∀ j u, (cellsB L)[j]? = some u → W.cell? ((⟨g, 0, none⟩ : Addr).add j) = some u := by
  rcases h with h | ⟨g, cur, fz, rfl, hb, hg, hc⟩
  · rcases h.2 with ⟨_, z⟩ | ⟨g, cap, cur, rfl, _⟩
    · omega
    · exact ⟨g, cap, rfl, fun j u hu => h.cells rfl j u hu⟩
  · refine ⟨g, _, rfl, fun j u hu => ?_⟩
    have ha : ((⟨g, 0, none⟩ : Addr).add j) = ⟨g, j, none⟩ := by cases j <;> simp [Addr.add]
    rw [ha]
    simp only [World.cell?, hg]
    rw [← hc] at hu
    simpa using hu
theorem run_append_Q {W : World} {base : Nat} {v : Value} {L M : List UInt8} (h : RowQ W base v L) (hL : 0 < L.length) (hbase : base ≤ W.heap.size) (ty : TypeId) (ad : Addr) (m c : Nat) (hM : M.length = m) (hm : 0 < m ∨ W.ownsRow base 5 1 v L.length (cellsB L)) (hlen : L.length + m ≤ 1000000)
    (HR : ∀ j u, (cellsB M)[j]? = some u → W.cell? (ad.add j) = some u) :
    ∃ v' w', (Builtin.append_ #[22, 22] ty #[v, .slice (some ad) m c]).run Tryd.prog W = .ok v' w' ∧ w'.ownsRow base 5 1 v' (L.length + m) (cellsB L ++ cellsB M) ∧ W.grownBy w' v.ownBlock := by
  obtain ⟨i0, hi, hz0, hz1, hz2⟩ := info_parts infoU8
  have one : ∀ u ∈ cellsB M, u.oneCell' = true := by
    intro u hu
    simp only [cellsB, List.mem_map] at hu
    obtain ⟨x, _, rfl⟩ := hu
    rfl
  have strong : W.ownsRow base 5 1 v L.length (cellsB L) → ∃ v' w', (Builtin.append_ #[22, 22] ty #[v, .slice (some ad) m c]).run Tryd.prog W = .ok v' w' ∧ w'.ownsRow base 5 1 v' (L.length + m) (cellsB L ++ cellsB M) ∧ W.grownBy w' v.ownBlock := fun ho => by
    obtain ⟨v', w', a, b, c', _⟩ := run_append_own (P := Tryd.prog) W base 22 ty 5 i0 (.int .u8 0) 1 1 Tryd.underlying22 hi hz0 hz1 hz2 rfl (by decide) v L.length (cellsB L) ho ad m c (cellsB M) (by rw [cellsB_len, hM, Nat.mul_one]) HR one (by unfold maxLen; omega) (by omega) hbase
    exact ⟨v', w', a, b, c'⟩
  rcases hm with hm | hs
  · rcases h with h | h
    · exact strong h
    · obtain ⟨g, c9, e, hrd⟩ := RowQ.rd (.inr h) hL
      obtain ⟨g', cur, fz, e', hb', hg', hc'⟩ := h
      rw [e'] at e
      simp at e
      obtain ⟨rfl, rfl⟩ := e
      subst e'
      obtain ⟨v', w', a, b, c'⟩ := run_append_arg_grows (P := Tryd.prog) W 22 ty 5 i0 (.int .u8 0) 1 1 Tryd.underlying22 hi hz0 hz1 hz2 rfl (by decide) ⟨g', 0, none⟩ L.length L.length (cellsB L) (by rw [cellsB_len, Nat.mul_one]) hrd ad m c (cellsB M) (by rw [cellsB_len, hM, Nat.mul_one]) HR (by omega) (by unfold maxLen; omega) (by omega)
      refine ⟨v', w', a, ⟨b.1, ?_⟩, ⟨c'.os, c'.tape, c'.output, c'.size, fun k hk _ => c'.block k hk (by simp)⟩⟩
      rcases b.2 with b2 | ⟨g2, cap, cur2, a2, b2, c2⟩
      · exact .inl b2
      · exact .inr ⟨g2, cap, cur2, a2, by omega, c2⟩
  · exact strong hs
theorem wp_append_Q {o : Oper} {a : Act} {K : Act → World → Prop} {Q : Exit → Act → World → Prop} (s x : Operand) (ho : o.op = .call { callee := .builtin .append, args := #[s, x], argTypes := #[22, 22] })
    {W : World} {base : Nat} {v : Value} {L M : List UInt8} (h : RowQ W base v L) (hL : 0 < L.length) (hbase : base ≤ W.heap.size) (hs : a.eval s = v) (ad : Addr) (m c : Nat) (hx : a.eval x = .slice (some ad) m c) (hM : M.length = m) (hm : 0 < m ∨ W.ownsRow base 5 1 v L.length (cellsB L)) (hlen : L.length + m ≤ 1000000)
    (HR : ∀ j u, (cellsB M)[j]? = some u → W.cell? (ad.add j) = some u) (hK : ∀ v' w', w'.ownsRow base 5 1 v' (L.length + m) (cellsB L ++ cellsB M) → W.grownBy w' v.ownBlock → K (a.put o.dst v') w') : o.wp Tryd.prog a W K Q := by
  obtain ⟨v', w', hr, h2, h3⟩ := run_append_Q h hL hbase o.type ad m c hM hm hlen HR
  unfold Oper.wp execOp
  simp only [ho, resolve, invoke, builtin, Sem.run_bind, Sem.run_pure, Result.andThen_ok, List.map_toArray, List.map_cons, List.map_nil, hs, hx, hr]
  exact hK v' w' h2 h3
theorem wpList_append_Q {ops : Array Oper} {rest : List Oper} {o : Oper} {a : Act} {Q : Exit → Act → World → Prop} (hgd : o.guard = none) (s x : Operand) (ho : o.op = .call { callee := .builtin .append, args := #[s, x], argTypes := #[22, 22] })
    {W : World} {base : Nat} {v : Value} {L M : List UInt8} (h : RowQ W base v L) (hL : 0 < L.length) (hbase : base ≤ W.heap.size) (hs : a.eval s = v) (ad : Addr) (m c : Nat) (hx : a.eval x = .slice (some ad) m c) (hM : M.length = m) (hm : 0 < m ∨ W.ownsRow base 5 1 v L.length (cellsB L)) (hlen : L.length + m ≤ 1000000)
    (HR : ∀ j u, (cellsB M)[j]? = some u → W.cell? (ad.add j) = some u) (hK : ∀ v' w', w'.ownsRow base 5 1 v' (L.length + m) (cellsB L ++ cellsB M) → W.grownBy w' v.ownBlock → wpList Tryd.prog ops Q rest (a.put o.dst v') w') : wpList Tryd.prog ops Q (o :: rest) a W :=
  wpList_plain hgd fun _ hK' => wp_append_Q s x ho h hL hbase hs ad m c hx hM hm hlen HR fun v' w' h2 h3 => hK' _ _ (hK v' w' h2 h3)
/-- what Put holds: its bytes, behind a box. -/
structure WS (w0 : World) (bb base : Nat) (W : World) (L : List UInt8) : Prop where
  below : Below w0.heap.size w0 W
  hb : w0.heap.size ≤ bb
  hbase : w0.heap.size ≤ base
  hsz : base ≤ W.heap.size
  le : base ≤ bb
  own : ∃ v, Boxed W bb 22 v ∧ RowQ W base v L
theorem WS.mv {w0 : World} {bb base : Nat} {W W' : World} {L : List UInt8} (h : WS w0 bb base W L) (hb : Below W.heap.size W W') : WS w0 bb base W' L := by
  obtain ⟨v, hv, ho⟩ := h.own
  refine ⟨h.below.trans (hb.mono h.below.size), h.hb, h.hbase, Nat.le_trans h.hsz hb.size, h.le, v, (hb.block _ hv.lt).trans hv, ?_⟩
  exact ho.mv (fun g o _ hg => (hb.block g (Array.getElem?_eq_some_iff.1 hg).1).trans hg)
/-- .. and it is the call's own. -/
def Own1 (bb base : Nat) (W : World) (L : List UInt8) : Prop := ∃ v, Boxed W bb 22 v ∧ W.ownsRow base 5 1 v L.length (cellsB L)
theorem Own1.mv {bb base : Nat} {W W' : World} {L : List UInt8} (h : Own1 bb base W L) (hb : Below W.heap.size W W') : Own1 bb base W' L := by
  obtain ⟨v, hv, h1, h2⟩ := h
  refine ⟨v, (hb.block _ hv.lt).trans hv, h1, ?_⟩
  rcases h2 with h2 | ⟨g, cap, cur, a, b, c, d⟩
  · exact .inl h2
  · exact .inr ⟨g, cap, cur, a, b, (hb.block g (Array.getElem?_eq_some_iff.1 c).1).trans c, d⟩

/-- a cell that lies neither in bb nor in a row of bytes. -/
def CT (W : World) (bb : Nat) (p : Addr) (v : Value) : Prop := W.cell? p = some v ∧ p.block ≠ bb ∧ ∃ o, W.heap[p.block]? = some o ∧ ∀ cs fz, o ≠ .cells cs 5 fz
theorem CT.kt {W W' : World} {bb : Nat} {p : Addr} {v : Value} (h : CT W bb p v) (k : KT bb W W') : CT W' bb p v := by
  obtain ⟨h1, h2, o, h3, h4⟩ := h
  have := k.2 _ _ h3 h2 h4
  exact ⟨(World.cell?_of_block (this.trans h3.symm)).trans h1, h2, o, this, h4⟩
theorem CT.mv {W W' : World} {bb : Nat} {p : Addr} {v : Value} (h : CT W bb p v) (k : Below W.heap.size W W') : CT W' bb p v := h.kt (KT.of_below k)
/-- the closure that Put hands to writer. -/
abbrev putF (bb : Nat) : Value := .func (.func 20) #[] #[.pointer (some ⟨bb, 0, none⟩)]
/-- what a closure of writer's finds: the bytes, its own cell, the box of put. -/
def WC (w0 : World) (bb base pb : Nat) (p : Addr) (x : Value) (W : World) : Prop := ∃ L, WS w0 bb base W L ∧ CT W bb p x ∧ CT W bb ⟨pb, 0, none⟩ (putF bb)
theorem WC.below {w0 : World} {bb base pb : Nat} {p : Addr} {x : Value} {W W' : World} (h : WC w0 bb base pb p x W) (k : Below W.heap.size W W') : WC w0 bb base pb p x W' := by
  obtain ⟨L, h1, h2, h3⟩ := h
  exact ⟨L, h1.mv k, h2.mv k, h3.mv k⟩
theorem below_drew1 (W : World) : Below W.heap.size W W.drew := ⟨rfl, rfl, rfl, Nat.le_refl _, fun _ _ => rfl⟩

set_option maxRecDepth 100000 in
set_option maxHeartbeats 4000000 in
theorem put1_any (w0 : World) (bb base : Nat) (W : World) (L M : List UInt8) (HS : Hid (WS w0 bb base W L)) (ad : Addr) (m c : Nat) (hM : M.length = m) (hm : 0 < m ∨ Own1 bb base W L) (hlen : L.length + m ≤ 1000000) (hL : 0 < L.length)
    (HR : Hid (∀ j x, M[j]? = some x → W.cell? (ad.add j) = some (.int .u8 (x.toNat : Int)))) :
    Calls Tryd.prog 20 #[.slice (some ad) m c, .pointer (some ⟨bb, 0, none⟩)] W fun e W' => (∃ v, e = .returned v) ∧ WS w0 bb base W' (L ++ M) ∧ KT bb W W' ∧ Own1 bb base W' (L ++ M) := by
  obtain ⟨v, hv, ho⟩ := HS.out.own
  have hm' : 0 < m ∨ W.ownsRow base 5 1 v L.length (cellsB L) := by
    rcases hm with h | ⟨v2, hv2, h2⟩
    · exact .inl h
    · have : (Obj.cells #[v2] 22 (0, 0)) = .cells #[v] 22 (0, 0) := Option.some.inj ((show W.heap[bb]? = _ from hv2).symm.trans hv)
      simp at this; subst this; exact .inr h2
  have HV : Hid (Boxed W bb 22 v) := hv
  have hcell := hv.cell
  have hfz := hv.frozen
  have HO : Hid (RowQ W base v L) := ho
  have HRQ : Hid (∀ j u, (cellsB M)[j]? = some u → W.cell? (ad.add j) = some u) := by
    intro j u hu
    obtain ⟨x, hx, rfl⟩ : ∃ x, M[j]? = some x ∧ u = .int .u8 (x.toNat : Int) := by
      simp only [cellsB, List.getElem?_map, Option.map_eq_some_iff] at hu
      obtain ⟨x, hx, he⟩ := hu
      exact ⟨x, hx, he.symm⟩
    exact HR.out j x hx
  have HM : Hid (0 < m ∨ W.ownsRow base 5 1 v L.length (cellsB L)) := hm'
  have hnb : some bb ≠ v.ownBlock := by
    intro e
    obtain ⟨cs, fz, h9⟩ := ho.blk5 bb e.symm
    rw [show W.heap[bb]? = _ from hv] at h9
    simp at h9
  have HNB : Hid (some bb ≠ v.ownBlock) := hnb
  clear hv ho hm hm' hnb HR
  go_enter Tryd.func20, Tryd.ntmps20
  go_wp2_with (at_builtin; refine wpList_append_Q rfl _ _ rfl HO.out hL HS.out.hsz rfl ad m c rfl hM HM.out hlen HRQ.out ?_)
  intro v' w3 hown' hgrow3
  obtain ⟨g, cap, rfl⟩ : ∃ g cap, v' = .slice (some ⟨g, 0, none⟩) (L.length + m) cap := by
    rcases hown'.2 with ⟨_, h0⟩ | ⟨g, cap, _, rfl, _⟩
    · omega
    · exact ⟨g, cap, rfl⟩
  have hv1 : Boxed w3 bb 22 v := HV.out.kept hgrow3 HNB.out
  have c1 := hv1.cell
  have f1 := hv1.frozen
  have ho3 : (w3.setCell ⟨bb, 0, none⟩ (.slice (some ⟨g, 0, none⟩) (L.length + m) cap)).ownsRow base 5 1 (.slice (some ⟨g, 0, none⟩) (L.length + m) cap) (L ++ M).length (cellsB (L ++ M)) := by
    rw [List.length_append, hM, cellsB_app]
    exact hown'.kept (grownBy_setCell' w3 bb _) (.inr (hv1.not_row (by decide) hown').symm)
  have HW : Hid (WS w0 bb base (w3.setCell ⟨bb, 0, none⟩ (.slice (some ⟨g, 0, none⟩) (L.length + m) cap)) (L ++ M) ∧ Own1 bb base (w3.setCell ⟨bb, 0, none⟩ (.slice (some ⟨g, 0, none⟩) (L.length + m) cap)) (L ++ M)) := by
    refine ⟨⟨?_, HS.out.hb, HS.out.hbase, ?_, HS.out.le, _, hv1.set _, .inl ho3⟩, _, hv1.set _, ho3⟩
    · exact (Below.grown HS.out.below hgrow3 (HS.out.below.size) (fun k hk => by have := HO.out.lt k hk; have := HS.out.hbase; omega)).setCell (p := ⟨bb, 0, none⟩) HS.out.hb _
    · have := hgrow3.size; have := HS.out.hsz; simp; omega
  have HKT : Hid (KT bb W (w3.setCell ⟨bb, 0, none⟩ (.slice (some ⟨g, 0, none⟩) (L.length + m) cap))) := by
    refine ⟨by have := hgrow3.size; simp; omega, fun k o hk hn h5 => ?_⟩
    have hlt := (Array.getElem?_eq_some_iff.1 hk).1
    have hne : some k ≠ v.ownBlock := by
      intro e
      obtain ⟨cs, fz, h9⟩ := HO.out.blk5 k e.symm
      rw [h9] at hk
      cases hk
      exact h5 _ _ rfl
    exact ((grownBy_setCell' w3 bb _).block k (Nat.lt_of_lt_of_le hlt hgrow3.size) (by simp; exact hn)).trans ((hgrow3.block k hlt hne).trans hk)
  clear hown' hgrow3 hv1 HV HO HS HRQ HM HNB ho3 hcell hfz
  go_wp2_with fail
  exact bodyPost_end (v := .tuple #[]) (by simp [results, Tryd.results20, go_sem]) rfl ⟨⟨_, rfl⟩, HW.out.1, HKT.out, HW.out.2⟩

end Go.Proofs.YtdonjdihffpghaaDoor
