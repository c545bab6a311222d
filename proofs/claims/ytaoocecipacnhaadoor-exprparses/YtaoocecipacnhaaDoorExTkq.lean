/- law22's taken: a node as the reference has it. -/
import Derived.Test.YtaoocecipacnhaaDoorExSmq
import Derived.Test.YtaoocecipacnhaaDoorExXq
namespace Go.Proofs.YtaoocecipacnhaaDoor
open Go.RowKit
set_option linter.unusedVariables false

theorem infoRNode : (Tryd.prog.info? 30).map (fun i => (i.zero, i.size, i.bytes)) = some (some (.agg #[.int .i64 0, .string ByteArray.empty, .slice none 0 0, .int .i64 0]), 4, 56) := by kernel_rfl
theorem wp_append_new {P : Program} {w : World} {o : Oper} {a : Act} {K : Act → World → Prop} {Q : Exit → Act → World → Prop} (s x : Operand) (t : TypeId)
    (ho : o.op = .call { callee := .builtin .append, args := #[s, x], argTypes := #[t, t] })
    (base : Nat) (e : TypeId) (i : TypeInfo) (z : Value) (size bytes : Nat) (ht : P.underlying t = some (.slice e)) (hi : P.info? e = some i) (hz : i.zero = some z)
    (hsize : i.size = size) (hby : i.bytes = bytes) (hzs : z.cells.size = size) (hsz : 0 < size)
    (v : Value) (n : Nat) (xs : List Value) (hs : a.eval s = v) (hown : w.ownsRow base e size v n xs)
    (ad : Addr) (c : Nat) (news : List Value) (hx : a.eval x = .slice (some ad) 1 c) (hl : news.length = 1 * size) (hnews : ∀ j u, news[j]? = some u → w.cell? (ad.add j) = some u) (h1 : ∀ u ∈ news, u.oneCell' = true)
    (h63 : n + 1 ≤ maxLen) (hbytes : (n + 1) * bytes ≤ 140737488355328) (hbase : base ≤ w.heap.size)
    (h : ∀ v' w', w'.ownsRow base e size v' (n + 1) (xs ++ news) → w.grownBy w' v.ownBlock → (∀ k, v'.ownBlock = some k → v.ownBlock = some k ∨ k = w.heap.size) → K (a.put o.dst v') w') : o.wp P a w K Q := by
  obtain ⟨v', w', hr, h2, h3, h4⟩ := append_new (P := P) w base t o.type e i z size bytes ht hi hz hsize hby hzs hsz v n xs hown ad c news hl hnews h1 h63 hbytes hbase
  unfold Oper.wp
  simp [execOp, ho, resolve, invoke, builtin, hs, hx, hr, Result.andThen]
  exact h v' w' h2 h3 h4

/-- a node under way: its kids so far. -/
def TkL (w : World) (C : List Value) (k : Int) (t : ByteArray) (a : Int) (acc : List Nd) (sq : Option Addr) (sn sc : Nat) (xs : List Value) (V : World) : Prop :=
  Below w.heap.size w V ∧ Bx V w.heap.size C ∧ Bx V (w.heap.size + 1) [.int .i64 0, .string ⟨#[]⟩, .slice none 0 0, .int .i64 0] ∧ Bx V (w.heap.size + 2) [.int .i64 k, .string t, .slice sq sn sc, .int .i64 a] ∧ V.ownsRow (w.heap.size + 3) 30 4 (.slice sq sn sc) acc.length xs ∧ KidsL (fun c => w.heap.size + 3 ≤ c ∧ (Value.slice sq sn sc).ownBlock ≠ some c) V acc xs ∧ (acc = [] → sq = none ∧ sn = 0 ∧ sc = 0)
theorem TkL.below {w : World} {C : List Value} {k : Int} {t : ByteArray} {a : Int} {acc : List Nd} {sq : Option Addr} {sn sc : Nat} {xs : List Value} {V : World} {V' : World} (h : TkL w C k t a acc sq sn sc xs V) (hb : Below V.heap.size V V') : TkL w C k t a acc sq sn sc xs V' :=
  ⟨h.1.trans (hb.mono h.1.size), h.2.1.below hb, h.2.2.1.below hb, h.2.2.2.1.below hb, ownsRow_keep h.2.2.2.2.1 (fun c _ hl => hb.block c hl), KidsL.keep hb.size (fun c hc hl => ⟨hc, hb.block c hl⟩) _ _ h.2.2.2.2.2.1, h.2.2.2.2.2.2⟩
theorem TkL.ob {w : World} {C : List Value} {k : Int} {t : ByteArray} {a : Int} {acc : List Nd} {sq : Option Addr} {sn sc : Nat} {xs : List Value} {V : World} (h : TkL w C k t a acc sq sn sc xs V) {c : Nat} (hc : (Value.slice sq sn sc).ownBlock = some c) : w.heap.size + 3 ≤ c ∧ c < V.heap.size := ob_lt h.2.2.2.2.1 hc
theorem TkL.bl {w : World} {C : List Value} {k : Int} {t : ByteArray} {a : Int} {acc : List Nd} {sq : Option Addr} {sn sc : Nat} {xs : List Value} {V : World} {V' : World} (h : TkL w C k t a acc sq sn sc xs V) (hgr : V.grownBy V' (Value.slice sq sn sc).ownBlock) {b : Nat} {l : List Value} (hb : b < w.heap.size + 3) (hB : Bx V b l) : Bx V' b l := by
  have q := hgr.block b hB.1 (fun e => by have := (h.ob e.symm).1; omega)
  exact ⟨Nat.lt_of_lt_of_le hB.1 hgr.size, fun i v e => ⟨(World.cell?_of_block (w := V) (a := ⟨b, i, none⟩) q).trans (hB.2 i v e).1, (World.frozen?_of_block (w := V) (a := ⟨b, i, none⟩) q).trans (hB.2 i v e).2⟩⟩
theorem TkL.low {w : World} {C : List Value} {k : Int} {t : ByteArray} {a : Int} {acc : List Nd} {sq : Option Addr} {sn sc : Nat} {xs : List Value} {V : World} {V' : World} (h : TkL w C k t a acc sq sn sc xs V) (hgr : V.grownBy V' (Value.slice sq sn sc).ownBlock) : Below w.heap.size w V' :=
  ⟨hgr.os.trans h.1.os, hgr.tape.trans h.1.tape, hgr.output.trans h.1.output, Nat.le_trans h.1.size hgr.size, fun c hc => (hgr.block c (Nat.lt_of_lt_of_le hc h.1.size) (fun e => by have := (h.ob e.symm).1; omega)).trans (h.1.block c hc)⟩
theorem TkL.more {w : World} {C : List Value} {k : Int} {t : ByteArray} {a : Int} {acc : List Nd} {sq : Option Addr} {sn sc : Nat} {xs : List Value} {V : World} {V' : World} {sq' : Option Addr} {sn' sc' : Nat} {n : Nd} {c0 c1 c2 c3 : Value} (h : TkL w C k t a acc sq sn sc xs V) (hn : NdAt (fun c => w.heap.size + 3 ≤ c ∧ (Value.slice sq sn sc).ownBlock ≠ some c) V n [c0, c1, c2, c3]) (hgr : V.grownBy V' (Value.slice sq sn sc).ownBlock)
    (hnew : ∀ c, (Value.slice sq' sn' sc').ownBlock = some c → (Value.slice sq sn sc).ownBlock = some c ∨ c = V.heap.size) (hown : V'.ownsRow (w.heap.size + 3) 30 4 (.slice sq' sn' sc') (acc.length + 1) (xs ++ [c0, c1, c2, c3])) :
    TkL w C k t a (acc ++ [n]) sq' sn' sc' (xs ++ [c0, c1, c2, c3]) (V'.setCell ⟨w.heap.size + 2, 2, none⟩ (.slice sq' sn' sc')) := by
  have hz := h.2.2.2.1.1
  have k2 : ∀ c, c ≠ w.heap.size + 2 → (V'.setCell ⟨w.heap.size + 2, 2, none⟩ (.slice sq' sn' sc')).heap[c]? = V'.heap[c]? := fun c hc => Below.heap_setCell _ _ _ _ hc
  refine ⟨(h.low hgr).setCell (p := ⟨w.heap.size + 2, 2, none⟩) (by show _ ≤ w.heap.size + 2; omega) _, (h.bl hgr (by omega) h.2.1).setOther (by omega) [_] 2, (h.bl hgr (by omega) h.2.2.1).setOther (by omega) [_] 2, (h.bl hgr (by omega) h.2.2.2.1).set1 2 _ (by simp), ?_, ?_, by simp⟩
  · rw [List.length_append]; exact ownsRow_keep hown (fun c h1 h2 => k2 c (by omega))
  · refine KidsL.keep (w := V) (by simpa using hgr.size) (fun c hc hl => ⟨⟨hc.1, fun e => (hnew c e).elim (fun q => hc.2 q) (fun q => by omega)⟩, ?_⟩) _ _ (KidsL.snoc hn _ _ h.2.2.2.2.2.1)
    rw [k2 c (by omega)]
    exact hgr.block c hl (fun e => hc.2 e.symm)
theorem TkL.node {w : World} {C : List Value} {k : Int} {t : ByteArray} {a : Int} {acc : List Nd} {sq : Option Addr} {sn sc : Nat} {xs : List Value} {V : World} (h : TkL w C k t a acc sq sn sc xs V) : NdAt (fun c => w.heap.size + 3 ≤ c) V (.mk k t acc a) [.int .i64 k, .string t, .slice sq sn sc, .int .i64 a] := by
  cases hacc : acc with
  | nil =>
    obtain ⟨rfl, rfl, rfl⟩ := h.2.2.2.2.2.2 hacc
    exact NdAt.leaf _ _ _ _ _
  | cons m l =>
    have h0 : 0 < acc.length := by rw [hacc]; simp
    rw [← hacc]
    have hown := h.2.2.2.2.1
    rcases hown.2 with ⟨e, h1⟩ | ⟨g1, cp, cur, e, h1, h2, h3, h4, h5, h6⟩
    · omega
    · cases e
      have hlt := (Array.getElem?_eq_some_iff.1 h2).1
      refine NdAt.row h0 h3 h4 h1 hlt (KidsL.row acc xs 0 (fun j v hv => ?_) (KidsL.keep (Nat.le_refl _) (fun c hc _ => ⟨hc.1, rfl⟩) _ _ h.2.2.2.2.2.1))
      have hj := (List.getElem?_eq_some_iff.1 hv).1
      rw [hown.1] at hj
      rw [Nat.zero_mul, Nat.zero_add, hown.cellAt j hj]; exact hv

theorem bdrew (W : World) : Below W.heap.size W W.drew := ⟨rfl, rfl, rfl, Nat.le_refl _, fun _ _ => rfl⟩
theorem bs_set2 {w W : World} {l : List (Nat × List Value)} (h : BS w l W) {b : Nat} (hb : w.heap.size ≤ b) (hn : ∀ x ∈ l, x.1 ≠ b) {i : Nat} {v : Value} : BS w l (W.setCell ⟨b, i, none⟩ v) :=
  ⟨h.1.setCell (p := ⟨b, i, none⟩) hb v, fun x hx => ⟨(h.2 x hx).1, (h.2 x hx).2.setOther (hn x hx) [v] i⟩⟩

set_option maxRecDepth 100000 in
set_option maxHeartbeats 4000000 in
theorem taken_any (n : Nd) : cnN n ≤ 100000 → ∀ (X : Nat → Prop) (w : World) (c0 c1 c2 c3 : Value), NdAt X w n [c0, c1, c2, c3] →
    Calls Tryd.prog 8 #[.agg #[c0, c1, c2, c3]] w fun e w' => Below w.heap.size w w' ∧ ∃ k t sq sn sc a, e = .returned (.agg #[.int .i64 k, .string t, .slice sq sn sc, .int .i64 a]) ∧ NdAt (fun c => w.heap.size ≤ c) w' n [.int .i64 k, .string t, .slice sq sn sc, .int .i64 a] := by
  have hn := PlN.all n
  obtain ⟨i0, hi0, iz0, iz1, iz2⟩ := info_parts infoRNode
  induction hn with
  | mk k t ks a ha hk ih =>
    intro hcn X w c0 c1 c2 c3 h1
    obtain ⟨rfl, rfl, rfl, sv, sw, rfl, hkl, HG⟩ := h1.kids
    have HI : Hid (∀ n ∈ ks, cnN n ≤ 100000 → ∀ (X : Nat → Prop) (w : World) (c0 c1 c2 c3 : Value), NdAt X w n [c0, c1, c2, c3] → Calls Tryd.prog 8 #[.agg #[c0, c1, c2, c3]] w fun e w' => Below w.heap.size w w' ∧ ∃ k t sq sn sc a, e = .returned (.agg #[.int .i64 k, .string t, .slice sq sn sc, .int .i64 a]) ∧ NdAt (fun c => w.heap.size ≤ c) w' n [.int .i64 k, .string t, .slice sq sn sc, .int .i64 a]) := ih
    rw [cnN] at hcn
    have hkk : ks.length ≤ 100000 := by have := cnL_len ks; omega
    have HCn : Hid (∀ n ∈ ks, cnN n ≤ 100000) := fun n hn => by have := cnL_mem hn; omega
    have hklI : (ks.length : Int) ≤ 100000 := by omega
    clear hk ih ha h1 hcn
    go_enter Tryd.func8, Tryd.ntmps8
    go_wp2_with fail
    go_loopw [4] (fun i W => ∃ (j : Nat) (sq : Option Addr) (sn sc : Nat) (xs : List Value), i = .int .i64 (j : Int) ∧ j ≤ ks.length ∧ Hid (TkL w [.int .i64 k, .string t, .slice sv ks.length sw, .int .i64 a] k t a (ks.take j) sq sn sc xs W)) (fun i _ => ks.length - (intOf i).toNat)
    case atStart =>
      have B := (((BS.start w).new [.int .i64 k, .string t, .slice sv ks.length sw, .int .i64 a] 24 rfl).new [.int .i64 0, .string ⟨#[]⟩, .slice none 0 0, .int .i64 0] 30 (b := w.heap.size + 1) (by simp)).new [.int .i64 k, .string t, .slice none 0 0, .int .i64 a] 30 (b := w.heap.size + 2) (by simp)
      exact ⟨0, none, 0, 0, [], rfl, Nat.zero_le _, B.1, B.at (w.heap.size) [.int .i64 k, .string t, .slice sv ks.length sw, .int .i64 a] (by simp), B.at (w.heap.size + 1) [.int .i64 0, .string ⟨#[]⟩, .slice none 0 0, .int .i64 0] (by simp), B.at (w.heap.size + 2) [.int .i64 k, .string t, .slice none 0 0, .int .i64 a] (by simp), World.ownsRow_nil _ _ _ _, rfl, fun _ => ⟨rfl, rfl, rfl⟩⟩
    case round =>
      obtain ⟨j, sq, sn, sc, xs, rfl, hj, HS⟩ := hrel
      have x2 := HS.out.2.1.c 2 rfl
      have hlt := HS.out.2.1.1
      have hj0 : (0 : Int) ≤ (j : Int) := by omega
      by_cases hjl : j < ks.length
      · have hjI : (j : Int) < (ks.length : Int) := by omega
        have hjw : IntKind.i64.wrap ((j : Int) + 1) = (j : Int) + 1 := by rw [IntKind.wrap_i64]; omega
        obtain ⟨r1, rfl, hsc1, -, hr1, d0, d1, d2, d3, y0, y1, y2, y3, hn1⟩ := HG.out j _ (List.getElem?_eq_getElem hjl)
        have HC : Hid (∀ V : World, Below w.heap.size w V → Calls Tryd.prog 8 #[.agg #[d0, d1, d2, d3]] V fun e w' => Below V.heap.size V w' ∧ ∃ k t sq sn sc a, e = .returned (.agg #[.int .i64 k, .string t, .slice sq sn sc, .int .i64 a]) ∧ NdAt (fun c => V.heap.size ≤ c) w' ks[j] [.int .i64 k, .string t, .slice sq sn sc, .int .i64 a]) := fun V hV => HI.out _ (List.getElem_mem hjl) (HCn.out _ (List.getElem_mem hjl)) X V d0 d1 d2 d3 (hn1.below hV)
        have htk : ks.take (j + 1) = ks.take j ++ [ks[j]] := by rw [List.take_add_one, List.getElem?_eq_getElem hjl]; rfl
        have htl : (ks.take j).length = j := by rw [List.length_take]; omega
        have BB : Hid (BS w [(w.heap.size, [.int .i64 k, .string t, .slice (some ⟨r1, 0, none⟩) ks.length sw, .int .i64 a])] wr) := ⟨HS.out.1, fun x hx => by simp at hx; subst hx; exact ⟨Nat.le_refl _, HS.out.2.1⟩⟩
        clear hn1 HI HG HCn
        go_upto_region 5 with fail
        have HS2 : Hid (TkL w [.int .i64 k, .string t, .slice (some ⟨r1, 0, none⟩) ks.length sw, .int .i64 a] k t a (ks.take j) sq sn sc xs wr.drew) := HS.out.below (bdrew _)
        clear HS
        have HS : Hid (TkL w [.int .i64 k, .string t, .slice (some ⟨r1, 0, none⟩) ks.length sw, .int .i64 a] k t a (ks.take j) sq sn sc xs wr.drew) := HS2.out
        clear HS2
        refine wp_region_held_drew (S := BS w [(w.heap.size, [.int .i64 k, .string t, .slice (some ⟨r1, 0, none⟩) ks.length sw, .int .i64 a])]) (by kernel_rfl) (BB.out).drew (fun hHeld => ?_)
        refine wpAnyH_take (i := 0) (v := ?_) (oi := { dst := some 19, op := _, type := _, pos := _, after := _, guard := none }) rfl (by kernel_rfl) (by kernel_rfl) (by kernel_rfl) (fun _ _ _ h => h) (Or.inl ⟨by kernel_rfl, ?_⟩) (by assumption) ?_
        case refine_2 => (intro w9 hSw; clear hSw; go_simp; try with_reducible rfl)
        simp only [Act.put, List.setIfInBounds_toArray, List.set_cons_zero, List.set_cons_succ]
        refine wpAnyH_take (i := 2) (v := ?_) (oi := { dst := some 21, op := _, type := _, pos := _, after := _, guard := none }) rfl (by kernel_rfl) (by kernel_rfl) (by kernel_rfl) (fun _ _ _ h => h) (Or.inl ⟨by kernel_rfl, ?_⟩) (by assumption) ?_
        case refine_2 => (intro w9 hSw; clear hSw; go_simp; try with_reducible rfl)
        simp only [Act.put, List.setIfInBounds_toArray, List.set_cons_zero, List.set_cons_succ]
        refine wpAnyH_take (i := 3) (v := ?_) (oi := { dst := some 22, op := _, type := _, pos := _, after := _, guard := none }) rfl (by kernel_rfl) (by kernel_rfl) (by kernel_rfl) (fun _ _ _ h => h) (Or.inl ⟨by kernel_rfl, ?_⟩) (by assumption) ?_
        case refine_2 => (intro w9 hSw; have q2 := (hSw.at (w.heap.size) [.int .i64 k, .string t, .slice (some ⟨r1, 0, none⟩) ks.length sw, .int .i64 a] (by simp)).c 2 rfl; have g1 := (hSw.at (w.heap.size) [.int .i64 k, .string t, .slice (some ⟨r1, 0, none⟩) ks.length sw, .int .i64 a] (by simp)).1; have hz := hSw.1.size; have l0 := (hSw.1.cell (p := ⟨r1, j * 4, none⟩) hr1).trans y0; have l1 := (hSw.1.cell (p := ⟨r1, j * 4 + 1, none⟩) hr1).trans y1; have l2 := (hSw.1.cell (p := ⟨r1, j * 4 + 2, none⟩) hr1).trans y2; have l3 := (hSw.1.cell (p := ⟨r1, j * 4 + 3, none⟩) hr1).trans y3; have o1 : r1 < w9.heap.size := (by omega); clear hSw; go_simp; try with_reducible rfl)
        simp only [Act.put, List.setIfInBounds_toArray, List.set_cons_zero, List.set_cons_succ]
        refine wpAnyH_take (i := 4) (v := ?_) (oi := { dst := some 23, op := _, type := _, pos := _, after := _, guard := none }) rfl (by kernel_rfl) (by kernel_rfl) (by kernel_rfl) (fun _ _ _ h => h) (Or.inl ⟨by kernel_rfl, ?_⟩) (by assumption) ?_
        case refine_2 => (intro w9 hSw; clear hSw; go_simp; try with_reducible rfl)
        simp only [Act.put, List.setIfInBounds_toArray, List.set_cons_zero, List.set_cons_succ]
        refine wpAnyH_take (i := 5) (v := ?_) (oi := { dst := some 24, op := _, type := _, pos := _, after := _, guard := none }) rfl (by kernel_rfl) (by kernel_rfl) (by kernel_rfl) (fun _ _ _ h => h) (Or.inl ⟨by kernel_rfl, ?_⟩) (by assumption) ?_
        case refine_2 => (intro w9 hSw; clear hSw; go_simp; try with_reducible rfl)
        simp only [Act.put, List.setIfInBounds_toArray, List.set_cons_zero, List.set_cons_succ]
        refine wpAnyH_take (i := 6) (v := ?_) (oi := { dst := some 25, op := _, type := _, pos := _, after := _, guard := none }) rfl (by kernel_rfl) (by kernel_rfl) (by kernel_rfl) (fun _ _ _ h => h) (Or.inl ⟨by kernel_rfl, ?_⟩) (by assumption) ?_
        case refine_2 => (intro w9 hSw; have q2 := (hSw.at (w.heap.size) [.int .i64 k, .string t, .slice (some ⟨r1, 0, none⟩) ks.length sw, .int .i64 a] (by simp)).c 2 rfl; have g1 := (hSw.at (w.heap.size) [.int .i64 k, .string t, .slice (some ⟨r1, 0, none⟩) ks.length sw, .int .i64 a] (by simp)).1; have hz := hSw.1.size; have l0 := (hSw.1.cell (p := ⟨r1, j * 4, none⟩) hr1).trans y0; have l1 := (hSw.1.cell (p := ⟨r1, j * 4 + 1, none⟩) hr1).trans y1; have l2 := (hSw.1.cell (p := ⟨r1, j * 4 + 2, none⟩) hr1).trans y2; have l3 := (hSw.1.cell (p := ⟨r1, j * 4 + 3, none⟩) hr1).trans y3; have o1 : r1 < w9.heap.size := (by omega); clear hSw; go_simp; try with_reducible rfl)
        simp only [Act.put, List.setIfInBounds_toArray, List.set_cons_zero, List.set_cons_succ]
        refine wpAnyH_ready (rs := [1, 7]) (by kernel_rfl) (by simp) (AllReadyH.cons (o := { dst := some 20, op := _, type := _, pos := _, after := _, guard := none }) rfl (fun K hK => ?_) (AllReadyH.cons (o := { dst := some 26, op := _, type := _, pos := _, after := _, guard := none }) rfl (fun K hK => ?_) AllReadyH.nil))
        ·
          have s2 := HS.out.2.2.2.1.c 2 rfl
          have sl := HS.out.2.2.2.1.1
          go_simp
          refine hK.out _ _ hHeld (fun hHeld => ?_)
          clear hK K s2 sl
          refine wpAnyH_ready (rs := [7]) (by kernel_rfl) (by simp) (AllReadyH.cons (o := { dst := some 26, op := _, type := _, pos := _, after := _, guard := none }) rfl (fun K hK => ?_) AllReadyH.nil)
          go_simp
          refine (HC.out _ hHeld.1).mono ?_
          rintro e v2 ⟨hb2, k2, t2, sq2, sn2, sc2, a2, rfl, hnd2⟩
          have HN : Hid (NdAt (fun c => w.heap.size + 3 ≤ c ∧ (Value.slice sq sn sc).ownBlock ≠ some c) v2 ks[j] [.int .i64 k2, .string t2, .slice sq2 sn2 sc2, .int .i64 a2]) := NdAt.keep (Nat.le_refl _) (fun c hc hl => ⟨⟨by have := HS.out.2.2.2.1.1; omega, fun q => by have := (HS.out.ob q).2; omega⟩, rfl⟩) _ _ hnd2
          have HS2 : Hid (TkL w [.int .i64 k, .string t, .slice (some ⟨r1, 0, none⟩) ks.length sw, .int .i64 a] k t a (ks.take j) sq sn sc xs v2) := HS.out.below hb2
          clear HS
          have HS : Hid (TkL w [.int .i64 k, .string t, .slice (some ⟨r1, 0, none⟩) ks.length sw, .int .i64 a] k t a (ks.take j) sq sn sc xs v2) := HS2.out
          clear HS2
          refine hK.out _ _ (hHeld.below hb2) (fun hHeld => ?_)
          clear hK K hb2 hnd2
          refine wpAnyH_ready (rs := [8]) (by kernel_rfl) (by simp) (AllReadyH.cons (o := { dst := some 27, op := _, type := _, pos := _, after := _, guard := none }) rfl (fun K hK => ?_) AllReadyH.nil)
          go_simp
          have HX : Hid (Bx (v2.alloc (.cells [.int .i64 k2, .string t2, .slice sq2 sn2 sc2, .int .i64 a2].toArray 30)) v2.heap.size [.int .i64 k2, .string t2, .slice sq2 sn2 sc2, .int .i64 a2]) := Bx.new v2 [.int .i64 k2, .string t2, .slice sq2 sn2 sc2, .int .i64 a2] 30
          have HS2 : Hid (TkL w [.int .i64 k, .string t, .slice (some ⟨r1, 0, none⟩) ks.length sw, .int .i64 a] k t a (ks.take j) sq sn sc xs (v2.alloc (.cells [.int .i64 k2, .string t2, .slice sq2 sn2 sc2, .int .i64 a2].toArray 30))) := HS.out.below ((Below.refl _ v2).alloc (Nat.le_refl _) _)
          clear HS
          have HS : Hid (TkL w [.int .i64 k, .string t, .slice (some ⟨r1, 0, none⟩) ks.length sw, .int .i64 a] k t a (ks.take j) sq sn sc xs (v2.alloc (.cells [.int .i64 k2, .string t2, .slice sq2 sn2 sc2, .int .i64 a2].toArray 30))) := HS2.out
          clear HS2
          have HN2 : Hid (NdAt (fun c => w.heap.size + 3 ≤ c ∧ (Value.slice sq sn sc).ownBlock ≠ some c) (v2.alloc (.cells [.int .i64 k2, .string t2, .slice sq2 sn2 sc2, .int .i64 a2].toArray 30)) ks[j] [.int .i64 k2, .string t2, .slice sq2 sn2 sc2, .int .i64 a2]) := HN.out.below ((Below.refl _ v2).alloc (Nat.le_refl _) _)
          clear HN
          have HN : Hid (NdAt (fun c => w.heap.size + 3 ≤ c ∧ (Value.slice sq sn sc).ownBlock ≠ some c) (v2.alloc (.cells [.int .i64 k2, .string t2, .slice sq2 sn2 sc2, .int .i64 a2].toArray 30)) ks[j] [.int .i64 k2, .string t2, .slice sq2 sn2 sc2, .int .i64 a2]) := HN2.out
          clear HN2
          refine hK.out _ _ (hHeld.alloc _) (fun hHeld => ?_)
          clear hK K
          refine wpAnyH_ready (rs := [9]) (by kernel_rfl) (by simp) (AllReadyH.cons (o := { dst := some 28, op := _, type := _, pos := _, after := _, guard := none }) rfl (fun K hK => ?_) AllReadyH.nil)
          refine (if_pos (by kernel_rfl)).mpr (wp_append_new _ _ 28 rfl (w.heap.size + 3) 30 i0 (.agg #[.int .i64 0, .string ByteArray.empty, .slice none 0 0, .int .i64 0]) 4 56 Tryd.underlying28 hi0 iz0 iz1 iz2 rfl (by decide) (.slice sq sn sc) (ks.take j).length xs rfl HS.out.2.2.2.2.1 ⟨v2.heap.size, 0, none⟩ 1 [.int .i64 k2, .string t2, .slice sq2 sn2 sc2, .int .i64 a2] rfl rfl (fun j u hj => by rw [show (⟨v2.heap.size, 0, none⟩ : Addr).add j = ⟨v2.heap.size, j, none⟩ from by rw [Addr.add_lit]; simp]; exact (HX.out.2 j u hj).1) (by intro u hu; simp at hu; rcases hu with rfl | rfl | rfl | rfl <;> rfl) (by rw [htl]; unfold maxLen; omega) (by rw [htl]; omega) (by have := HS.out.2.2.2.1.1; omega) ?_)
          intro v' w4 hown' hgrow hnew
          obtain ⟨sq', sn', sc', hv'⟩ := own_form hown'
          subst hv'
          have HO : Hid _ := hown'
          have HGr : Hid _ := hgrow
          have HNw : Hid _ := hnew
          have hB4 := HS.out.bl hgrow (by omega) HS.out.2.2.2.1
          have hB5 : BS w [(w.heap.size, [.int .i64 k, .string t, .slice (some ⟨r1, 0, none⟩) ks.length sw, .int .i64 a])] w4 := ⟨HS.out.low hgrow, fun x hx => by simp at hx; subst hx; exact ⟨Nat.le_refl _, HS.out.bl hgrow (by simp) HS.out.2.1⟩⟩
          have c41 := hB4.c 2 rfl
          have z41 := hB4.f 2 rfl
          have hl4 := hB4.1
          refine hK.out _ _ hB5 (fun hHeld => ?_)
          clear hK K hown' hgrow hnew hB4 hB5 HX
          refine wpAnyH_take (i := 10) (v := ?_) (oi := { dst := some 29, op := _, type := _, pos := _, after := _, guard := none }) rfl (by kernel_rfl) (by kernel_rfl) (by kernel_rfl) (fun _ _ _ h => h) (Or.inl ⟨by kernel_rfl, ?_⟩) (by assumption) ?_
          case refine_2 => (intro w9 hSw; clear hSw; go_simp; try with_reducible rfl)
          simp only [Act.put, List.setIfInBounds_toArray, List.set_cons_zero, List.set_cons_succ]
          refine wpAnyH_ready (rs := [11]) (by kernel_rfl) (by simp) (AllReadyH.cons (o := { dst := none, op := _, type := _, pos := _, after := _, guard := none }) rfl (fun K hK => ?_) AllReadyH.nil)
          go_simp
          refine hK.out _ _ (bs_set2 hHeld (by omega) (by intro x hx; simp at hx; subst hx; show w.heap.size ≠ _; omega)) (fun hHeld => ?_)
          clear hK K c41 z41 hl4
          refine wpAnyH_done (by kernel_rfl) ?_ _
          have HF : Hid (TkL w [.int .i64 k, .string t, .slice (some ⟨r1, 0, none⟩) ks.length sw, .int .i64 a] k t a (ks.take (j + 1)) sq' sn' sc' (xs ++ [.int .i64 k2, .string t2, .slice sq2 sn2 sc2, .int .i64 a2]) (w4.setCell ⟨w.heap.size + 2, 2, none⟩ (.slice sq' sn' sc'))) := by (have q := HS.out.more HN.out HGr.out HNw.out HO.out; rw [← htk] at q; exact q)
          clear hHeld HC HS HN HGr HNw HO
          go_wp2_with fail
          go_roundw
          case rel => exact ⟨j + 1, sq', sn', sc', _, by go_num, by omega, HF⟩
          case measure => simp [intOf]; omega
        ·
          go_simp
          refine (HC.out _ hHeld.1).mono ?_
          rintro e v6 ⟨hb6, k2, t2, sq2, sn2, sc2, a2, rfl, hnd6⟩
          have HN : Hid (NdAt (fun c => w.heap.size + 3 ≤ c ∧ (Value.slice sq sn sc).ownBlock ≠ some c) v6 ks[j] [.int .i64 k2, .string t2, .slice sq2 sn2 sc2, .int .i64 a2]) := NdAt.keep (Nat.le_refl _) (fun c hc hl => ⟨⟨by have := HS.out.2.2.2.1.1; omega, fun q => by have := (HS.out.ob q).2; omega⟩, rfl⟩) _ _ hnd6
          have HS2 : Hid (TkL w [.int .i64 k, .string t, .slice (some ⟨r1, 0, none⟩) ks.length sw, .int .i64 a] k t a (ks.take j) sq sn sc xs v6) := HS.out.below hb6
          clear HS
          have HS : Hid (TkL w [.int .i64 k, .string t, .slice (some ⟨r1, 0, none⟩) ks.length sw, .int .i64 a] k t a (ks.take j) sq sn sc xs v6) := HS2.out
          clear HS2
          refine hK.out _ _ (hHeld.below hb6) (fun hHeld => ?_)
          clear hK K hb6 hnd6
          refine wpAnyH_ready (rs := [1, 8]) (by kernel_rfl) (by simp) (AllReadyH.cons (o := { dst := some 20, op := _, type := _, pos := _, after := _, guard := none }) rfl (fun K hK => ?_) (AllReadyH.cons (o := { dst := some 27, op := _, type := _, pos := _, after := _, guard := none }) rfl (fun K hK => ?_) AllReadyH.nil))
          ·
            have s2 := HS.out.2.2.2.1.c 2 rfl
            have sl := HS.out.2.2.2.1.1
            go_simp
            refine hK.out _ _ hHeld (fun hHeld => ?_)
            clear hK K s2 sl
            refine wpAnyH_ready (rs := [8]) (by kernel_rfl) (by simp) (AllReadyH.cons (o := { dst := some 27, op := _, type := _, pos := _, after := _, guard := none }) rfl (fun K hK => ?_) AllReadyH.nil)
            go_simp
            have HX : Hid (Bx (v6.alloc (.cells [.int .i64 k2, .string t2, .slice sq2 sn2 sc2, .int .i64 a2].toArray 30)) v6.heap.size [.int .i64 k2, .string t2, .slice sq2 sn2 sc2, .int .i64 a2]) := Bx.new v6 [.int .i64 k2, .string t2, .slice sq2 sn2 sc2, .int .i64 a2] 30
            have HS2 : Hid (TkL w [.int .i64 k, .string t, .slice (some ⟨r1, 0, none⟩) ks.length sw, .int .i64 a] k t a (ks.take j) sq sn sc xs (v6.alloc (.cells [.int .i64 k2, .string t2, .slice sq2 sn2 sc2, .int .i64 a2].toArray 30))) := HS.out.below ((Below.refl _ v6).alloc (Nat.le_refl _) _)
            clear HS
            have HS : Hid (TkL w [.int .i64 k, .string t, .slice (some ⟨r1, 0, none⟩) ks.length sw, .int .i64 a] k t a (ks.take j) sq sn sc xs (v6.alloc (.cells [.int .i64 k2, .string t2, .slice sq2 sn2 sc2, .int .i64 a2].toArray 30))) := HS2.out
            clear HS2
            have HN2 : Hid (NdAt (fun c => w.heap.size + 3 ≤ c ∧ (Value.slice sq sn sc).ownBlock ≠ some c) (v6.alloc (.cells [.int .i64 k2, .string t2, .slice sq2 sn2 sc2, .int .i64 a2].toArray 30)) ks[j] [.int .i64 k2, .string t2, .slice sq2 sn2 sc2, .int .i64 a2]) := HN.out.below ((Below.refl _ v6).alloc (Nat.le_refl _) _)
            clear HN
            have HN : Hid (NdAt (fun c => w.heap.size + 3 ≤ c ∧ (Value.slice sq sn sc).ownBlock ≠ some c) (v6.alloc (.cells [.int .i64 k2, .string t2, .slice sq2 sn2 sc2, .int .i64 a2].toArray 30)) ks[j] [.int .i64 k2, .string t2, .slice sq2 sn2 sc2, .int .i64 a2]) := HN2.out
            clear HN2
            refine hK.out _ _ (hHeld.alloc _) (fun hHeld => ?_)
            clear hK K
            refine wpAnyH_ready (rs := [9]) (by kernel_rfl) (by simp) (AllReadyH.cons (o := { dst := some 28, op := _, type := _, pos := _, after := _, guard := none }) rfl (fun K hK => ?_) AllReadyH.nil)
            refine (if_pos (by kernel_rfl)).mpr (wp_append_new _ _ 28 rfl (w.heap.size + 3) 30 i0 (.agg #[.int .i64 0, .string ByteArray.empty, .slice none 0 0, .int .i64 0]) 4 56 Tryd.underlying28 hi0 iz0 iz1 iz2 rfl (by decide) (.slice sq sn sc) (ks.take j).length xs rfl HS.out.2.2.2.2.1 ⟨v6.heap.size, 0, none⟩ 1 [.int .i64 k2, .string t2, .slice sq2 sn2 sc2, .int .i64 a2] rfl rfl (fun j u hj => by rw [show (⟨v6.heap.size, 0, none⟩ : Addr).add j = ⟨v6.heap.size, j, none⟩ from by rw [Addr.add_lit]; simp]; exact (HX.out.2 j u hj).1) (by intro u hu; simp at hu; rcases hu with rfl | rfl | rfl | rfl <;> rfl) (by rw [htl]; unfold maxLen; omega) (by rw [htl]; omega) (by have := HS.out.2.2.2.1.1; omega) ?_)
            intro v' w4 hown' hgrow hnew
            obtain ⟨sq', sn', sc', hv'⟩ := own_form hown'
            subst hv'
            have HO : Hid _ := hown'
            have HGr : Hid _ := hgrow
            have HNw : Hid _ := hnew
            have hB4 := HS.out.bl hgrow (by omega) HS.out.2.2.2.1
            have hB5 : BS w [(w.heap.size, [.int .i64 k, .string t, .slice (some ⟨r1, 0, none⟩) ks.length sw, .int .i64 a])] w4 := ⟨HS.out.low hgrow, fun x hx => by simp at hx; subst hx; exact ⟨Nat.le_refl _, HS.out.bl hgrow (by simp) HS.out.2.1⟩⟩
            have c41 := hB4.c 2 rfl
            have z41 := hB4.f 2 rfl
            have hl4 := hB4.1
            refine hK.out _ _ hB5 (fun hHeld => ?_)
            clear hK K hown' hgrow hnew hB4 hB5 HX
            refine wpAnyH_take (i := 10) (v := ?_) (oi := { dst := some 29, op := _, type := _, pos := _, after := _, guard := none }) rfl (by kernel_rfl) (by kernel_rfl) (by kernel_rfl) (fun _ _ _ h => h) (Or.inl ⟨by kernel_rfl, ?_⟩) (by assumption) ?_
            case refine_2 => (intro w9 hSw; clear hSw; go_simp; try with_reducible rfl)
            simp only [Act.put, List.setIfInBounds_toArray, List.set_cons_zero, List.set_cons_succ]
            refine wpAnyH_ready (rs := [11]) (by kernel_rfl) (by simp) (AllReadyH.cons (o := { dst := none, op := _, type := _, pos := _, after := _, guard := none }) rfl (fun K hK => ?_) AllReadyH.nil)
            go_simp
            refine hK.out _ _ (bs_set2 hHeld (by omega) (by intro x hx; simp at hx; subst hx; show w.heap.size ≠ _; omega)) (fun hHeld => ?_)
            clear hK K c41 z41 hl4
            refine wpAnyH_done (by kernel_rfl) ?_ _
            have HF : Hid (TkL w [.int .i64 k, .string t, .slice (some ⟨r1, 0, none⟩) ks.length sw, .int .i64 a] k t a (ks.take (j + 1)) sq' sn' sc' (xs ++ [.int .i64 k2, .string t2, .slice sq2 sn2 sc2, .int .i64 a2]) (w4.setCell ⟨w.heap.size + 2, 2, none⟩ (.slice sq' sn' sc'))) := by (have q := HS.out.more HN.out HGr.out HNw.out HO.out; rw [← htk] at q; exact q)
            clear hHeld HC HS HN HGr HNw HO
            go_wp2_with fail
            go_roundw
            case rel => exact ⟨j + 1, sq', sn', sc', _, by go_num, by omega, HF⟩
            case measure => simp [intOf]; omega
          ·
            go_simp
            have HX : Hid (Bx (v6.alloc (.cells [.int .i64 k2, .string t2, .slice sq2 sn2 sc2, .int .i64 a2].toArray 30)) v6.heap.size [.int .i64 k2, .string t2, .slice sq2 sn2 sc2, .int .i64 a2]) := Bx.new v6 [.int .i64 k2, .string t2, .slice sq2 sn2 sc2, .int .i64 a2] 30
            have HS2 : Hid (TkL w [.int .i64 k, .string t, .slice (some ⟨r1, 0, none⟩) ks.length sw, .int .i64 a] k t a (ks.take j) sq sn sc xs (v6.alloc (.cells [.int .i64 k2, .string t2, .slice sq2 sn2 sc2, .int .i64 a2].toArray 30))) := HS.out.below ((Below.refl _ v6).alloc (Nat.le_refl _) _)
            clear HS
            have HS : Hid (TkL w [.int .i64 k, .string t, .slice (some ⟨r1, 0, none⟩) ks.length sw, .int .i64 a] k t a (ks.take j) sq sn sc xs (v6.alloc (.cells [.int .i64 k2, .string t2, .slice sq2 sn2 sc2, .int .i64 a2].toArray 30))) := HS2.out
            clear HS2
            have HN2 : Hid (NdAt (fun c => w.heap.size + 3 ≤ c ∧ (Value.slice sq sn sc).ownBlock ≠ some c) (v6.alloc (.cells [.int .i64 k2, .string t2, .slice sq2 sn2 sc2, .int .i64 a2].toArray 30)) ks[j] [.int .i64 k2, .string t2, .slice sq2 sn2 sc2, .int .i64 a2]) := HN.out.below ((Below.refl _ v6).alloc (Nat.le_refl _) _)
            clear HN
            have HN : Hid (NdAt (fun c => w.heap.size + 3 ≤ c ∧ (Value.slice sq sn sc).ownBlock ≠ some c) (v6.alloc (.cells [.int .i64 k2, .string t2, .slice sq2 sn2 sc2, .int .i64 a2].toArray 30)) ks[j] [.int .i64 k2, .string t2, .slice sq2 sn2 sc2, .int .i64 a2]) := HN2.out
            clear HN2
            refine hK.out _ _ (hHeld.alloc _) (fun hHeld => ?_)
            clear hK K
            refine wpAnyH_ready (rs := [1]) (by kernel_rfl) (by simp) (AllReadyH.cons (o := { dst := some 20, op := _, type := _, pos := _, after := _, guard := none }) rfl (fun K hK => ?_) AllReadyH.nil)
            have s2 := HS.out.2.2.2.1.c 2 rfl
            have sl := HS.out.2.2.2.1.1
            go_simp
            refine hK.out _ _ hHeld (fun hHeld => ?_)
            clear hK K s2 sl
            refine wpAnyH_ready (rs := [9]) (by kernel_rfl) (by simp) (AllReadyH.cons (o := { dst := some 28, op := _, type := _, pos := _, after := _, guard := none }) rfl (fun K hK => ?_) AllReadyH.nil)
            refine (if_pos (by kernel_rfl)).mpr (wp_append_new _ _ 28 rfl (w.heap.size + 3) 30 i0 (.agg #[.int .i64 0, .string ByteArray.empty, .slice none 0 0, .int .i64 0]) 4 56 Tryd.underlying28 hi0 iz0 iz1 iz2 rfl (by decide) (.slice sq sn sc) (ks.take j).length xs rfl HS.out.2.2.2.2.1 ⟨v6.heap.size, 0, none⟩ 1 [.int .i64 k2, .string t2, .slice sq2 sn2 sc2, .int .i64 a2] rfl rfl (fun j u hj => by rw [show (⟨v6.heap.size, 0, none⟩ : Addr).add j = ⟨v6.heap.size, j, none⟩ from by rw [Addr.add_lit]; simp]; exact (HX.out.2 j u hj).1) (by intro u hu; simp at hu; rcases hu with rfl | rfl | rfl | rfl <;> rfl) (by rw [htl]; unfold maxLen; omega) (by rw [htl]; omega) (by have := HS.out.2.2.2.1.1; omega) ?_)
            intro v' w4 hown' hgrow hnew
            obtain ⟨sq', sn', sc', hv'⟩ := own_form hown'
            subst hv'
            have HO : Hid _ := hown'
            have HGr : Hid _ := hgrow
            have HNw : Hid _ := hnew
            have hB4 := HS.out.bl hgrow (by omega) HS.out.2.2.2.1
            have hB5 : BS w [(w.heap.size, [.int .i64 k, .string t, .slice (some ⟨r1, 0, none⟩) ks.length sw, .int .i64 a])] w4 := ⟨HS.out.low hgrow, fun x hx => by simp at hx; subst hx; exact ⟨Nat.le_refl _, HS.out.bl hgrow (by simp) HS.out.2.1⟩⟩
            have c41 := hB4.c 2 rfl
            have z41 := hB4.f 2 rfl
            have hl4 := hB4.1
            refine hK.out _ _ hB5 (fun hHeld => ?_)
            clear hK K hown' hgrow hnew hB4 hB5 HX
            refine wpAnyH_take (i := 10) (v := ?_) (oi := { dst := some 29, op := _, type := _, pos := _, after := _, guard := none }) rfl (by kernel_rfl) (by kernel_rfl) (by kernel_rfl) (fun _ _ _ h => h) (Or.inl ⟨by kernel_rfl, ?_⟩) (by assumption) ?_
            case refine_2 => (intro w9 hSw; clear hSw; go_simp; try with_reducible rfl)
            simp only [Act.put, List.setIfInBounds_toArray, List.set_cons_zero, List.set_cons_succ]
            refine wpAnyH_ready (rs := [11]) (by kernel_rfl) (by simp) (AllReadyH.cons (o := { dst := none, op := _, type := _, pos := _, after := _, guard := none }) rfl (fun K hK => ?_) AllReadyH.nil)
            go_simp
            refine hK.out _ _ (bs_set2 hHeld (by omega) (by intro x hx; simp at hx; subst hx; show w.heap.size ≠ _; omega)) (fun hHeld => ?_)
            clear hK K c41 z41 hl4
            refine wpAnyH_done (by kernel_rfl) ?_ _
            have HF : Hid (TkL w [.int .i64 k, .string t, .slice (some ⟨r1, 0, none⟩) ks.length sw, .int .i64 a] k t a (ks.take (j + 1)) sq' sn' sc' (xs ++ [.int .i64 k2, .string t2, .slice sq2 sn2 sc2, .int .i64 a2]) (w4.setCell ⟨w.heap.size + 2, 2, none⟩ (.slice sq' sn' sc'))) := by (have q := HS.out.more HN.out HGr.out HNw.out HO.out; rw [← htk] at q; exact q)
            clear hHeld HC HS HN HGr HNw HO
            go_wp2_with fail
            go_roundw
            case rel => exact ⟨j + 1, sq', sn', sc', _, by go_num, by omega, HF⟩
            case measure => simp [intOf]; omega
      · have hjI : ¬ (j : Int) < (ks.length : Int) := by omega
        obtain rfl : j = ks.length := by omega
        rw [List.take_length] at HS
        obtain ⟨k1, k2, k3, k4⟩ := fin4 (g := w.heap.size) [] (.int .i64 k) (.string t) (.slice sq sn sc) (.int .i64 a) (Kp.of HS.out.1) (by omega) HS.out.2.2.1
        have HNF : Hid (NdAt (fun c => w.heap.size ≤ c) _ _ _) := NdAt.off HS.out.node k3 k4 (Y := fun c => w.heap.size ≤ c) (fun c hc => ⟨by omega, by omega⟩)
        have HK : Hid (Below w.heap.size w _) := k1.below (Nat.le_refl _) (Nat.le_refl _)
        have y0 := k2.c 0 rfl
        have y1 := k2.c 1 rfl
        have y2 := k2.c 2 rfl
        have y3 := k2.c 3 rfl
        simp only [List.foldl, World.setCells, Nat.zero_add, Nat.reduceAdd] at y0 y1 y2 y3
        have e0 := HS.out.2.2.1.c 0 rfl
        have e1 := HS.out.2.2.1.c 1 rfl
        have e2 := HS.out.2.2.1.c 2 rfl
        have e3 := HS.out.2.2.1.c 3 rfl
        have z0 := HS.out.2.2.1.f 0 rfl
        have z1 := HS.out.2.2.1.f 1 rfl
        have z2 := HS.out.2.2.1.f 2 rfl
        have z3 := HS.out.2.2.1.f 3 rfl
        have hlz := HS.out.2.2.1.1
        have f0 := HS.out.2.2.2.1.c 0 rfl
        have f1 := HS.out.2.2.2.1.c 1 rfl
        have f2 := HS.out.2.2.2.1.c 2 rfl
        have f3 := HS.out.2.2.2.1.c 3 rfl
        have hlf := HS.out.2.2.2.1.1
        clear k1 k2 k3 k4 HS
        go_wp2
        exact bodyPost_ret (v := .agg #[.int .i64 k, .string t, .slice sq sn sc, .int .i64 a]) (by simp [results, Tryd.results8, go_sem, y0, y1, y2, y3]) rfl ⟨HK.out, _, _, _, _, _, _, rfl, HNF.out⟩

end Go.Proofs.YtaoocecipacnhaaDoor
