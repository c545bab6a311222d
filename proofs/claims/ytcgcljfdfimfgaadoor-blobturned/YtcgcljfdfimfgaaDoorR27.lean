import Derived.Test.YtcgcljfdfimfgaaDoorR18
import Derived.Deep.MidRow
import Derived.Deep.RegionHeld3
import Derived.Test.YtcgcljfdfimfgaaDoorR7
import Derived.Test.YtcgcljfdfimfgaaDoorR26
import Derived.Test.YtcgcljfdfimfgaaDoorR17
/- What the statements' given (law14's) leans on. -/
namespace Go.Proofs.YtcgcljfdfimfgaaDoor
open Go.RowKit Sr
set_option linter.unusedVariables false
attribute [local go_sem] Oper.semAt_some

/-- Of the blocks that lay, only those of M are turned. -/
structure Turns (M : List Nat) (W W' : World) : Prop where
  os : W'.os = W.os
  tape : W'.tape = W.tape
  output : W'.output = W.output
  size : W.heap.size ≤ W'.heap.size
  block : ∀ k, k < W.heap.size → k ∉ M → W'.heap[k]? = W.heap[k]?

theorem Turns.refl (M : List Nat) (W : World) : Turns M W W := ⟨rfl, rfl, rfl, Nat.le_refl _, fun _ _ _ => rfl⟩
theorem Turns.trans {M : List Nat} {A B C : World} (h : Turns M A B) (k : Turns M B C) : Turns M A C :=
  ⟨k.os.trans h.os, k.tape.trans h.tape, k.output.trans h.output, Nat.le_trans h.size k.size, fun i hi hm => (k.block i (Nat.lt_of_lt_of_le hi h.size) hm).trans (h.block i hi hm)⟩
theorem Turns.mono {M M' : List Nat} {A B : World} (h : Turns M A B) (hm : ∀ k ∈ M, k ∈ M') : Turns M' A B := ⟨h.os, h.tape, h.output, h.size, fun k hk h' => h.block k hk (fun q => h' (hm k q))⟩
theorem Turns.setCell {M : List Nat} (W : World) (a : Addr) (v : Value) (hl : a.block ∈ M) : Turns M W (W.setCell a v) :=
  ⟨rfl, rfl, rfl, by show W.heap.size ≤ (W.heap.modify _ _).size; rw [Array.size_modify]; exact Nat.le_refl _, fun k _ hm => Below.heap_setCell W a v k (by intro e; subst e; exact hm hl)⟩
theorem turns_setCells (b : Nat) : ∀ (vs : List Value) (W : World) (i : Nat), Turns [b] W (W.setCells b i vs)
  | [], W, _ => Turns.refl _ W
  | v :: vs, W, i => (Turns.setCell W ⟨b, i, none⟩ v (by simp)).trans (turns_setCells b vs _ _)
theorem exec_row {P : Program} {ρ : Operand → Value} {o : Oper} {w : World} {b off : Nat} {ty : TypeId} {x : Operand} {cs : List Value} {d : TypeDesc} (ho : o.op = .load ty x) (hx : ρ x = .pointer (some ⟨b, off, none⟩)) (hc : w.rangeAt b off cs)
    (hu : P.underlying ty = some d) (hd : d.isRow = true) (hi : (P.info? ty).map (·.size) = some cs.length) : (execOp ρ o).run P w = .ok (.value (.agg cs.toArray)) w := by
  simp only [execOp, ho, hx, Sem.run_bind, run_loadAt_mid w b off ty cs d hc hu hd hi, Sem.run_pure, Result.andThen_ok]
theorem bx_turns {M : List Nat} {W W' : World} {b : Nat} {l : List Value} (h : Bx W b l) (ht : Turns M W W') (hb : b ∉ M) : Bx W' b l :=
  ⟨Nat.lt_of_lt_of_le h.1 ht.size, fun i v e => ⟨(World.cell?_of_block (w := W) (ht.block b h.1 hb)).trans (h.2 i v e).1, (World.frozen?_of_block (w := W) (ht.block b h.1 hb)).trans (h.2 i v e).2⟩⟩
theorem bx_set1 {V : World} {b : Nat} {l : List Value} (h : Bx V b l) (i : Nat) (v : Value) (hi : i < l.length) : Bx (V.setCell ⟨b, i, none⟩ v) b (l.set i v) :=
  ⟨by simpa using h.1, fun j x e => by
    by_cases hj : i = j
    · subst hj
      rw [List.getElem?_set_self hi] at e
      cases e
      exact ⟨World.cell?_setCell_same _ _ _ (h.2 i l[i] (List.getElem?_eq_getElem hi)).1, by rw [World.frozen?_setCell]; exact (h.2 i l[i] (List.getElem?_eq_getElem hi)).2⟩
    · rw [List.getElem?_set_ne hj] at e
      exact ⟨(World.cell?_setCell_other _ _ _ _ (fun q => hj (by cases q; rfl))).trans (h.2 j x e).1, by rw [World.frozen?_setCell]; exact (h.2 j x e).2⟩⟩
/-- the cells of a table: its name, its first stand, its changes, its foot. -/
def tbF (nm : ByteArray) (f : TrR) (sv : Value) (FL : List Value) : List Value := .string nm :: (trC f ++ (sv :: FL))
theorem tbF_len {nm : ByteArray} {f : TrR} {sv : Value} {FL : List Value} (h : FL.length = 19) : (tbF nm f sv FL).length = 25 := by simp [tbF, trC, h]
def zeF : List Value := [.bool false, .int .i64 0, .int .i64 0, .int .i64 0, .int .i64 0, .int .i64 0, .int .i64 0, .int .i64 0, .int .u8 0, .int .i64 0, .string ⟨#[]⟩, .int .i64 0, .int .i64 0, .int .i64 0, .int .i64 0, .int .i64 0, .int .u8 0, .int .i64 0, .string ⟨#[]⟩]
def zeT : List Value := tbF ⟨#[]⟩ ⟨0, 0, false, ⟨#[]⟩⟩ (.slice none 0 0) zeF
theorem results_c1 {P : Program} {fn : Func} {p : Tmp} {ty : TypeId} (h : fn.results = #[.cell p ty]) (tmps : Array Value) (w : World) (a : Addr) (v : Value) (hp : tmps[p]?.getD undef = .pointer (some a)) (hl : (loadVar ty a).run P w = .ok v w) :
    (results fn tmps).run P w = .ok v w := by
  simp [results, h, hp, asAddr, hl]
theorem infoT9 : (Tryd.prog.info? 23).map (fun i => (i.zero, i.size, i.bytes)) = some (some (.agg #[.int .i64 0, .int .i64 0, .bool false, .string ⟨#[]⟩]), 4, 40) := by kernel_rfl
/-- the changes L are a row of one's own. -/
def TrO (W : World) (sv : Value) (L : List TrR) : Prop := W.ownsRow 0 23 4 sv L.length (trCs L)
theorem TrO.at {W : World} {sv : Value} {L : List TrR} (h : TrO W sv L) : TrAt W sv L := TrAt.of_own h
theorem TrO.of {W : World} {base : Nat} {sv : Value} {L : List TrR} (h : W.ownsRow base 23 4 sv L.length (trCs L)) : TrO W sv L :=
  ⟨h.1, h.2.imp_right fun ⟨g, cap, cur, a, _, r⟩ => ⟨g, cap, cur, a, Nat.zero_le _, r⟩⟩
theorem TrO.blk {W W' : World} {sv : Value} {L : List TrR} (h : TrO W sv L) (hb : ∀ (a : Addr) (m k : Nat), sv = .slice (some a) m k → W'.heap[a.block]? = W.heap[a.block]?) : TrO W' sv L :=
  ⟨h.1, h.2.imp_right fun ⟨g, cap, cur, a, b, c, r⟩ => ⟨g, cap, cur, a, b, (hb _ _ _ a).trans c, r⟩⟩
theorem TrO.lt {W : World} {sv : Value} {L : List TrR} (h : TrO W sv L) : ∀ (a : Addr) (m k : Nat), sv = .slice (some a) m k → a.block < W.heap.size := fun a m k e => by
  rcases h.2 with ⟨e2, _⟩ | ⟨g, cap, cur, e2, _, c, _⟩
  · rw [e2] at e; cases e
  · rw [e2] at e; cases e; exact (Array.getElem?_eq_some_iff.1 c).1
theorem TrO.mv {W W' : World} {sv : Value} {L : List TrR} (h : TrO W sv L) (k : Below W.heap.size W W') : TrO W' sv L := h.blk fun a m c e => k.block _ (h.lt a m c e)
theorem TrO.setC {W : World} {b i : Nat} {v sv : Value} {L : List TrR} (h : TrO W sv L) (hg : ∀ a n c, sv = .slice (some a) n c → a.block ≠ b) : TrO (W.setCell ⟨b, i, none⟩ v) sv L :=
  h.blk fun a m c e => (Turns.setCell (M := [b]) W ⟨b, i, none⟩ v (by simp)).block _ (h.lt a m c e) (by simpa using hg a m c e)
theorem tro_setCells {W : World} {b i : Nat} {vs : List Value} {sv : Value} {L : List TrR} (h : TrO W sv L) (hg : ∀ (a : Addr) (m k : Nat), sv = .slice (some a) m k → a.block ≠ b) : TrO (W.setCells b i vs) sv L :=
  h.blk fun a m c e => (turns_setCells b vs W i).block _ (h.lt a m c e) (by simpa using hg a m c e)

end Go.Proofs.YtcgcljfdfimfgaaDoor
/- Contract: blob.Put of any table whose changes are a row of the caller's own. -/
namespace Go.Proofs.YtcgcljfdfimfgaaDoor
open Go.RowKit Sr
set_option linter.unusedVariables false

/-- a text, a number, a change, a half as bytes. -/
def txB (s : ByteArray) : List UInt8 := UInt8.ofNat s.size :: s.data.toList
def nB (x : Int) : List UInt8 := beB 8 (u64N x)
def trB (x : TrR) : List UInt8 := nB x.at_ ++ (nB x.off ++ ([flB x.dst] ++ txB x.ab))
def trsB : List TrR → List UInt8
  | [] => []
  | x :: l => trB x ++ trsB l
def to8 (a : Fn.Hf) : H8 := ⟨a.m, a.k, a.d, a.n, a.s, a.v, UInt8.ofNat a.z.toNat, a.t⟩
def hfB (σ : List UInt8) (h : H8) : List UInt8 := σ ++ nB h.mo ++ nB h.k ++ nB h.d ++ nB h.n ++ nB h.s ++ [h.z] ++ nB h.v ++ txB h.t
def pre3 (t : TbR) : List UInt8 := tz40 ++ txB t.nm ++ nB t.first.off ++ [flB t.first.dst] ++ txB t.first.ab ++ nB (t.trs.length : Int)
def preB (t : TbR) : List UInt8 := pre3 t ++ trsB t.trs ++ [flB t.foot.h]
def bodB (t : TbR) : List UInt8 := if t.foot.h then hfB (hfB (preB t ++ nB t.foot.fr ++ nB t.foot.off) (to8 t.foot.A)) (to8 t.foot.B) else preB t
theorem tx_len (s : ByteArray) : (txB s).length = s.size + 1 := by
  have hz : s.data.toList.length = s.size := Array.length_toList
  simp only [txB, List.length_cons, hz]
theorem nB_len (x : Int) : (nB x).length = 8 := beB_len 8 _
theorem trsB_len : ∀ (l : List TrR), abB l = true → (trsB l).length ≤ 50 * l.length
  | [], _ => by simp [trsB]
  | x :: l, h => by
    have h1 : decide (x.ab.size ≤ 32) = true ∧ abB l = true := by rw [← Bool.and_eq_true]; exact h
    have := trsB_len l h1.2
    have h2 := of_decide_eq_true h1.1
    simp only [trsB, trB, List.length_append, nB_len, tx_len, List.length_cons, List.length_nil]
    omega
theorem hfB_len (σ : List UInt8) (h : H8) : (hfB σ h).length = σ.length + 50 + h.t.size := by
  simp only [hfB, List.length_append, nB_len, tx_len, List.length_cons, List.length_nil]
  omega
theorem bodB_len (t : TbR) (hn : nameB t.nm = true) (hs : shortB t = true) (h4 : t.trs.length ≤ 4096) : (bodB t).length ≤ 900000 := by
  have h1 : t.nm.size ≤ 32 := by
    unfold nameB at hn
    rw [Bool.and_eq_true, Bool.and_eq_true] at hn
    exact of_decide_eq_true hn.2.2
  unfold shortB at hs
  rw [Bool.and_eq_true, Bool.and_eq_true, Bool.and_eq_true] at hs
  obtain ⟨h2, ⟨h3, h5⟩, h6⟩ := hs
  have h3 := of_decide_eq_true h3
  have h5 := of_decide_eq_true h5
  have h6 := of_decide_eq_true h6
  have h7 := trsB_len t.trs h2
  have h8 : (preB t).length ≤ 300000 := by
    simp only [preB, pre3, List.length_append, nB_len, tx_len, List.length_cons, List.length_nil]
    have : tz40.length = 4 := rfl
    omega
  unfold bodB
  split
  · rw [hfB_len, hfB_len, List.length_append, List.length_append, nB_len, nB_len]
    show (preB t).length + 8 + 8 + 50 + t.foot.A.t.size + 50 + t.foot.B.t.size ≤ 900000
    omega
  · omega
def Pz (l : List UInt8) : Prop := ∃ R, l = tz40 ++ R
theorem Pz.app {l : List UInt8} (h : Pz l) (b : List UInt8) : Pz (l ++ b) := by
  obtain ⟨R, rfl⟩ := h
  exact ⟨R ++ b, List.append_assoc _ _ _⟩
theorem Pz.half {l : List UInt8} (h : Pz l) (a : H8) : Pz (hfB l a) := (((((((h.app _).app _).app _).app _).app _).app _).app _).app _
theorem bodB_tz (t : TbR) : ∃ R, bodB t = tz40 ++ R := by
  have h0 : Pz tz40 := ⟨[], by simp⟩
  have h3 : Pz (preB t) := (((((((h0.app _).app _).app _).app _).app _).app _).app _)
  show Pz (bodB t)
  unfold bodB
  split
  · exact ((((h3.app _).app _).half _).half _)
  · exact h3
theorem wp_loop (w : World) (bb base pb : Nat) : ∀ (L : List TrR) (σ : List UInt8), loopF (wPM w bb base pb) L.length L σ = (σ ++ trsB L, L)
  | [], σ => by rw [trsB, List.append_nil]; rfl
  | x :: L, σ => by
    have h := wp_loop w bb base pb L (σ ++ trB x)
    have ht : trF (wPM w bb base pb) σ x = (σ ++ trB x, x) := by
      show ((((σ ++ nB x.at_) ++ nB x.off) ++ [flB x.dst]) ++ txB x.ab, x) = _
      rw [trB]
      simp only [List.append_assoc]
    show ((loopF (wPM w bb base pb) L.length L (trF (wPM w bb base pb) σ x).1).1, (trF (wPM w bb base pb) σ x).2 :: (loopF (wPM w bb base pb) L.length L (trF (wPM w bb base pb) σ x).1).2) = _
    rw [ht, h, trsB, List.append_assoc]
theorem u8_back {z : Int} (h : (Lit.int .u8 z).wf = true) : ((UInt8.ofNat z.toNat).toNat : Int) = z := by
  rw [u8_of]
  have h1 : 0 ≤ z ∧ z ≤ 255 := by
    simp only [Lit.wf, Bool.and_eq_true, decide_eq_true_eq] at h
    exact h
  omega

set_option maxRecDepth 100000 in
theorem passW_any (t : TbR) (sv : Value) (w : World) (HT : TrO w sv t.trs) (h4 : t.trs.length ≤ 4096) (hwf : Fn.wfF t.foot) (hB : (bodB t).length ≤ 900000) : PassW (tbL t sv) w (bodB t) := by
  intro bb pb W hS hblk hb1 hb2
  have hO : TrO W sv t.trs := HT.blk fun a m c e => hS.out.1.below.block _ (HT.lt a m c e)
  obtain ⟨ao, c, rfl⟩ := tr_len hO
  have hz1 := u8_back hwf.2.1.2.2.2.2.2.1
  have hz2 := u8_back hwf.2.2.2.2.2.2.2.1
  have hNK : (min (t.trs.length : Int) 4096).toNat = t.trs.length := by omega
  have hLP : Hid (loopF (wPM w bb w.heap.size pb) (t.trs.length - 0) t.trs (pre3 t) = (pre3 t ++ trsB t.trs, t.trs.drop 0)) := wp_loop w bb w.heap.size pb t.trs (pre3 t)
  cases hh : t.foot.h
  · have hb : bodB t = preB t := by unfold bodB; rw [if_neg (by rw [hh]; decide)]
    rw [hb] at hB ⊢
    refine (pass_none (wPM w bb w.heap.size pb) W tz40 w.heap.size _ t.nm t.first.off t.first.dst t.first.ab t.foot.h ao t.trs.length c t.trs t.trs (t.trs.length : Int) t.trs.length hS hblk hb1 hb2 (Nat.zero_le _) (Nat.le_refl _) rfl rfl rfl rfl rfl rfl rfl hO
      (tz40 ++ txB t.nm) (tz40 ++ txB t.nm ++ nB t.first.off ++ [flB t.first.dst] ++ txB t.first.ab) (pre3 t) (pre3 t ++ trsB t.trs) rfl rfl rfl hNK hLP (.inr (Nat.le_refl _)) hh hB).mono ?_
    rintro e W' ⟨hv, hs, _⟩
    exact ⟨hv, hs⟩
  · have hb : bodB t = hfB (hfB (preB t ++ nB t.foot.fr ++ nB t.foot.off) (to8 t.foot.A)) (to8 t.foot.B) := by unfold bodB; rw [if_pos hh]
    rw [hb] at hB ⊢
    refine (pass_foot (wPM w bb w.heap.size pb) W tz40 w.heap.size _ t.nm t.first.off t.first.dst t.first.ab t.foot.h ao t.trs.length c t.trs t.trs (t.trs.length : Int) t.trs.length hS hblk hb1 hb2 (Nat.zero_le _) (Nat.le_refl _) rfl rfl rfl rfl rfl rfl rfl hO
      (tz40 ++ txB t.nm) (tz40 ++ txB t.nm ++ nB t.first.off ++ [flB t.first.dst] ++ txB t.first.ab) (pre3 t) (pre3 t ++ trsB t.trs) rfl rfl rfl hNK hLP (.inr (Nat.le_refl _)) t.foot.fr t.foot.off (to8 t.foot.A) (to8 t.foot.B) rfl rfl rfl rfl rfl rfl rfl (congrArg (fun z => some (Value.int .u8 z)) hz1.symm) rfl rfl rfl rfl rfl rfl rfl (congrArg (fun z => some (Value.int .u8 z)) hz2.symm) rfl rfl hh hB).mono ?_
    rintro e W' ⟨hv, hs, _⟩
    exact ⟨hv, hs⟩

/-- what Put answers of any table: bytes of the call's own, or ErrArg. -/
theorem put14 (t : TbR) (sv : Value) (wr : (Lit.int .i64 t.foot.fr).wf = true) (hwf : Fn.wfF t.foot) (s1 : t.nm.size ≤ maxLen) (s2 : t.first.ab.size ≤ maxLen) (s3 : t.foot.A.t.size ≤ maxLen) (s4 : t.foot.B.t.size ≤ maxLen) (s5 : ∀ x ∈ t.trs, x.ab.size ≤ maxLen) (w : World) (hL : Cvl.Lens w) (hT : Clk.Tab w) (HT : TrO w sv t.trs) :
    Calls Tryd.prog 4 #[.agg (tbL t sv).toArray] w fun e w' => Below w.heap.size w w' ∧ (e = .returned (.tuple #[.slice none 0 0, .int .i64 1]) ∨ ((bodB t).length ≤ 900000 ∧ ∃ v, e = .returned (.tuple #[v, .int .i64 0]) ∧ w'.ownsRow w.heap.size 5 1 v ((bodB t).length + 4) (cellsB (bodB t ++ beB 4 (smB (bodB t)))))) := by
  have hfr : -9223372036854775808 ≤ t.foot.fr ∧ t.foot.fr ≤ 9223372036854775807 := by
    simp only [Lit.wf, Bool.and_eq_true, decide_eq_true_eq] at wr
    exact wr
  obtain ⟨b, hR, RT⟩ := right_any t sv hfr.1 hfr.2
  have HTm : ∀ w1 : World, Below w.heap.size w w1 → TrO w1 sv t.trs := fun w1 k => HT.mv k
  have HR : ∀ w1 : World, Below w.heap.size w w1 → Calls Tryd.prog 9 #[.agg (tbL t sv).toArray] w1 fun e w' => e = .returned (.bool b) ∧ Below w1.heap.size w1 w' := fun w1 k => RT w1 (Fn.bel_lens k hL) (hT.below k) (HTm w1 k).at
  cases b
  · refine (put_no1 (tbL t sv) rfl t.nm rfl w HR).mono ?_
    rintro e w' ⟨rfl, hb⟩
    exact ⟨hb, .inl rfl⟩
  · have HN : ∀ w1 : World, Below w.heap.size w w1 → Calls Tryd.prog 10 #[.string t.nm] w1 fun e w' => e = .returned (.bool (nameB t.nm)) ∧ Below w1.heap.size w1 w' := fun w1 _ => name_full t.nm s1 w1
    cases hn : nameB t.nm
    · rw [hn] at HN
      refine (put_no2 (tbL t sv) rfl t.nm rfl w HR HN).mono ?_
      rintro e w' ⟨rfl, hb⟩
      exact ⟨hb, .inl rfl⟩
    · rw [hn] at HN
      have HA : ∀ w1 : World, Below w.heap.size w w1 → Calls Tryd.prog 11 #[.agg (tbL t sv).toArray] w1 fun e w' => e = .returned (.bool (shortB t)) ∧ Below w1.heap.size w1 w' := fun w1 k => short_any t sv w1 (HTm w1 k).at s2 s3 s4 s5
      cases hs : shortB t
      · rw [hs] at HA
        refine (put_no3 (tbL t sv) rfl t.nm rfl w HR HN HA).mono ?_
        rintro e w' ⟨rfl, hb⟩
        exact ⟨hb, .inl rfl⟩
      · rw [hs] at HA
        obtain ⟨r, _, hr⟩ := hR
        have h4 := (hr.1 rfl).2.2.1
        have hB := bodB_len t hn hs h4
        refine (put_on (tbL t sv) rfl t.nm rfl w (bodB t) hB HR HN HA (passW_any t sv w HT h4 hwf hB)).mono ?_
        rintro e w' ⟨v, rfl, ho, hb⟩
        exact ⟨hb, .inr ⟨hB, v, rfl, ho⟩⟩

end Go.Proofs.YtcgcljfdfimfgaaDoor
/- law14's half, given: a table of the law's as the program has it. -/
namespace Go.Proofs.YtcgcljfdfimfgaaDoor.Fn
open Go.RowKit
set_option linter.unusedVariables false

set_option maxRecDepth 100000 in
set_option maxHeartbeats 8000000 in
theorem h14_any (a : Hf) (w : World) :
    Calls Tryd.prog 16 #[.agg (hL a).toArray] w fun e w' => e = .returned (.agg (hL a).toArray) ∧ Below w.heap.size w w' := by
  have Z1 : Hid (Bx (w.alloc (.cells #[.int .i64 a.m, .int .i64 a.k, .int .i64 a.d, .int .i64 a.n, .int .i64 a.s, .int .u8 a.z, .int .i64 a.v, .string a.t] 30) |>.alloc (.cells #[.int .i64 0, .int .i64 0, .int .i64 0, .int .i64 0, .int .i64 0, .int .u8 0, .int .i64 0, .string ⟨#[]⟩] 42)) (w.heap.size + 1) [.int .i64 0, .int .i64 0, .int .i64 0, .int .i64 0, .int .i64 0, .int .u8 0, .int .i64 0, .string ⟨#[]⟩]) := Bx.newAt _ [.int .i64 0, .int .i64 0, .int .i64 0, .int .i64 0, .int .i64 0, .int .u8 0, .int .i64 0, .string ⟨#[]⟩] _ _ (by simp)
  have ZB : Hid (Below w.heap.size w (w.alloc (.cells #[.int .i64 a.m, .int .i64 a.k, .int .i64 a.d, .int .i64 a.n, .int .i64 a.s, .int .u8 a.z, .int .i64 a.v, .string a.t] 30) |>.alloc (.cells #[.int .i64 0, .int .i64 0, .int .i64 0, .int .i64 0, .int .i64 0, .int .u8 0, .int .i64 0, .string ⟨#[]⟩] 42))) := ((Below.refl _ _).alloc (by simp) _).alloc (by simp) _
  show Calls Tryd.prog 16 #[.agg #[.int .i64 a.m, .int .i64 a.k, .int .i64 a.d, .int .i64 a.n, .int .i64 a.s, .int .u8 a.z, .int .i64 a.v, .string a.t]] w _
  go_enter Tryd.func16, Tryd.ntmps16
  go_wp2_with (first | (refine wpList_store_mid rfl 42 _ _ rfl (w.heap.size + 1) 0 #[.int .i64 a.m, .int .i64 a.k, .int .i64 a.d, .int .i64 a.n, .int .i64 a.s, .int .u8 a.z, .int .i64 a.v, .string a.t] rfl rfl Z1.out.there (by kernel_rfl) (hL_one a) ?_; refine gen_list (fun V => Bx V (w.heap.size + 1) (hL a) ∧ Below w.heap.size w V) ⟨Z1.out.setAll (hL a) rfl, below_setCells (by omega) _ _ _ ZB.out⟩ ?_; rintro V ⟨U1, UB⟩) | fail)
  exact bodyPost_ret (v := .agg (hL a).toArray) (results_cell1 rfl _ _ _ _ rfl (run_loadVar_mid _ _ _ _ (hL a) _ U1.all Tryd.underlying42 rfl (by kernel_rfl))) rfl ⟨rfl, UB⟩

end Go.Proofs.YtcgcljfdfimfgaaDoor.Fn
