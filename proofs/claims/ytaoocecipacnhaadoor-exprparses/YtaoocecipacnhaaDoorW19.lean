import Derived.Test.YtaoocecipacnhaaDoorWz
import Derived.Test.YtaoocecipacnhaaDoorW18
import Derived.Test.YtaoocecipacnhaaDoorW11
import Derived.Test.YtaoocecipacnhaaDoorW2
open Go.Value renaming int → vi
open Go.IntKind renaming i64 → ki
open List renaming setIfInBounds_toArray → zb, set_cons_zero → zc, set_cons_succ → zd
open Go.Act renaming put → za
open Go.Ending renaming returned → zr
set_option maxRecDepth 100000
set_option maxHeartbeats 16000000
set_option linter.unusedVariables false
namespace Go.Proofs.YtaoocecipacnhaaDoor
open Go.RowKit
theorem infoRNode : (Tryd.prog.info? 30).map (fun i => (i.zero, i.size, i.bytes)) = some (some (.agg #[vi ki 0, .string ByteArray.empty, .slice none 0 0, vi ki 0]), 4, 56) := by kernel_rfl
theorem wp_append_new {P : Program} {w : World} {o : Oper} {a : Act} {K : Act → World → Prop} {Q : Exit → Act → World → Prop} (s x : Operand) (t : TypeId)
  (ho : o.op = .call { callee := .builtin .append, args := #[s, x], argTypes := #[t, t] })
  (base : Nat) (e : TypeId) (i : TypeInfo) (z : Value) (size bytes : Nat) (ht : P.underlying t = some (.slice e)) (hi : P.info? e = some i) (hz : i.zero = some z)
  (hsize : i.size = size) (hby : i.bytes = bytes) (hzs : z.cells.size = size) (hsz : 0 < size)
  (v : Value) (n : Nat) (xs : List Value) (hs : a.eval s = v) (hown : w.ownsRow base e size v n xs)
  (ad : Addr) (c : Nat) (news : List Value) (hx : a.eval x = .slice (some ad) 1 c) (hl : news.length = 1 * size) (hnews : ∀ j u, news[j]? = some u → w.cell? (ad.add j) = some u) (h1 : ∀ u ∈ news, u.oneCell' = true)
  (h63 : n + 1 ≤ maxLen) (hbytes : (n + 1) * bytes ≤ 140737488355328) (hbase : base ≤ w.heap.size)
  (h : ∀ v' w', w'.ownsRow base e size v' (n + 1) (xs ++ news) → w.grownBy w' v.ownBlock → (∀ k, v'.ownBlock = some k → v.ownBlock = some k ∨ k = w.heap.size) → K (a.put o.dst v') w') : o.wp P a w K Q := by
 obtain ⟨v', w', hr, h2, h3, h4⟩ := append_new (P := P) w base t o.type e i z size bytes ht hi hz hsize hby hzs hsz v n xs hown ad c news hl hnews h1 h63 hbytes hbase
 unfold Oper.wp
 simp [execOp, ho, resolve, invoke, builtin, hs, hx, hr, Result.andThen]
 exact h v' w' h2 h3 h4
def TkL (w : World) (C : List Value) (k : Int) (t : ByteArray) (a : Int) (acc : List Nd) (sq : Option Addr) (sn sc : Nat) (xs : List Value) (V : World) : Prop :=
 Below w.heap.size w V ∧ Bx V w.heap.size C ∧ Bx V (w.heap.size + 1) [vi ki 0, .string ⟨#[]⟩, .slice none 0 0, vi ki 0] ∧ Bx V (w.heap.size + 2) [vi ki k, .string t, .slice sq sn sc, vi ki a] ∧ V.ownsRow (w.heap.size + 3) 30 4 (.slice sq sn sc) acc.length xs ∧ KidsL (fun c => w.heap.size + 3 ≤ c ∧ (Value.slice sq sn sc).ownBlock ≠ some c) V acc xs ∧ (acc = [] → sq = none ∧ sn = 0 ∧ sc = 0)
theorem TkL.below {w : World} {C : List Value} {k : Int} {t : ByteArray} {a : Int} {acc : List Nd} {sq : Option Addr} {sn sc : Nat} {xs : List Value} {V : World} {V' : World} (h : TkL w C k t a acc sq sn sc xs V) (hb : Below V.heap.size V V') : TkL w C k t a acc sq sn sc xs V' :=
 ⟨h.1.trans (hb.mono h.1.size), h.2.1.below hb, h.2.2.1.below hb, h.2.2.2.1.below hb, ownsRow_keep h.2.2.2.2.1 (fun c _ hl => hb.block c hl), KidsL.keep hb.size (fun c hc hl => ⟨hc, hb.block c hl⟩) _ _ h.2.2.2.2.2.1, h.2.2.2.2.2.2⟩
theorem TkL.ob {w : World} {C : List Value} {k : Int} {t : ByteArray} {a : Int} {acc : List Nd} {sq : Option Addr} {sn sc : Nat} {xs : List Value} {V : World} (h : TkL w C k t a acc sq sn sc xs V) {c : Nat} (hc : (Value.slice sq sn sc).ownBlock = some c) : w.heap.size + 3 ≤ c ∧ c < V.heap.size := ob_lt h.2.2.2.2.1 hc
theorem TkL.bl {w : World} {C : List Value} {k : Int} {t : ByteArray} {a : Int} {acc : List Nd} {sq : Option Addr} {sn sc : Nat} {xs : List Value} {V : World} {V' : World} (h : TkL w C k t a acc sq sn sc xs V) (hgr : V.grownBy V' (Value.slice sq sn sc).ownBlock) {b : Nat} {l : List Value} (hb : b < w.heap.size + 3) (hB : Bx V b l) : Bx V' b l := by
 have q := hgr.block b hB.1 (fun e => by have := (h.ob e.symm).1; omega)
 exact ⟨Nat.lt_of_lt_of_le hB.1 hgr.size, fun i v e => ⟨(World.cell?_of_block (w := V) (a := ⟨b, i, none⟩) q).trans (hB.2 i v e).1, (World.frozen?_of_block (w := V) (a := ⟨b, i, none⟩) q).trans (hB.2 i v e).2⟩⟩
theorem TkL.low {w : World} {C : List Value} {k : Int} {t : ByteArray} {a : Int} {acc : List Nd} {sq : Option Addr} {sn sc : Nat} {xs : List Value} {V : World} {V' : World} (h : TkL w C k t a acc sq sn sc xs V) (hgr : V.grownBy V' (Value.slice sq sn sc).ownBlock) : Below w.heap.size w V' :=
 ⟨hgr.os.trans h.1.os, hgr.tape.trans h.1.tape, hgr.output.trans h.1.output, Nat.le_trans h.1.size hgr.size, fun c hc => (hgr.block c (Nat.lt_of_lt_of_le hc h.1.size) (fun e => by have := (h.ob e.symm).1; omega)).trans (h.1.block c hc)⟩
theorem TkL.more {w : World} {C : List Value} {k : Int} {t : ByteArray} {a : Int} {acc : List Nd} {sq : Option Addr} {sn sc : Nat} {xs : List Value} {V : World} {V' : World} {sq' : Option Addr} {sn' sc' : Nat} {n : Nd} {c0 c1 c2 c3 : Value} (h : TkL w C k t a acc sq sn sc xs V) (hn : NdAt (fun c => w.heap.size + 3 ≤ c ∧ (Value.slice sq sn sc).ownBlock ≠ some c) V n [c0, c1, c2, c3]) (hgr : V.grownBy V' (Value.slice sq sn sc).ownBlock)
  (hnew : ∀ c, (Value.slice sq' sn' sc').ownBlock = some c → (Value.slice sq sn sc).ownBlock = some c ∨ c = V.heap.size) (hown : V'.ownsRow (w.heap.size + 3) 30 4 (.slice sq' sn' sc') (acc.length + 1) (xs ++ [c0, c1, c2, c3])) :
  TkL w C k t a (acc ++ [n]) sq' sn' sc' (xs ++ [c0, c1, c2, c3]) (V'.setCell ⟨w.heap.size + 2, 2, none⟩ (.slice sq' sn' sc')) := by
 have hz := h.2.2.2.1.1
 have k2 : ∀ c, c ≠ w.heap.size + 2 → (V'.setCell ⟨w.heap.size + 2, 2, none⟩ (.slice sq' sn' sc')).heap[c]? = V'.heap[c]? := fun c hc => Below.heap_setCell _ _ _ _ hc
 refine ⟨(h.low hgr).setCell (p := ⟨w.heap.size + 2, 2, none⟩) (by show _ ≤ w.heap.size + 2; omega) _, (h.bl hgr (by omega) h.2.1).setOther (by omega) [_] 2, (h.bl hgr (by omega) h.2.2.1).setOther (by omega) [_] 2, (h.bl hgr (by omega) h.2.2.2.1).set1 2 _ (by simp), ?_, ?_, by simp⟩
 ·rw [List.length_append]; exact ownsRow_keep hown (fun c h1 h2 => k2 c (by omega))
 ·refine KidsL.keep (w := V) (by simpa using hgr.size) (fun c hc hl => ⟨⟨hc.1, fun e => (hnew c e).elim (fun q => hc.2 q) (fun q => by omega)⟩, ?_⟩) _ _ (KidsL.snoc hn _ _ h.2.2.2.2.2.1)
  rw [k2 c (by omega)]
  exact hgr.block c hl (fun e => hc.2 e.symm)
theorem TkL.node {w : World} {C : List Value} {k : Int} {t : ByteArray} {a : Int} {acc : List Nd} {sq : Option Addr} {sn sc : Nat} {xs : List Value} {V : World} (h : TkL w C k t a acc sq sn sc xs V) : NdAt (fun c => w.heap.size + 3 ≤ c) V (.mk k t acc a) [vi ki k, .string t, .slice sq sn sc, vi ki a] := by
 cases hacc : acc with
 | nil =>
  obtain ⟨rfl, rfl, rfl⟩ := h.2.2.2.2.2.2 hacc
  exact NdAt.leaf _ _ _ _ _
 | cons m l =>
  have h0 : 0 < acc.length := by rw [hacc]; simp
  rw [← hacc]
  have hown := h.2.2.2.2.1
  rcases hown.2 with ⟨e, h1⟩ | ⟨g1, cp, cur, e, h1, h2, h3, h4, h5, h6⟩
  ·omega
  ·cases e
   have hlt := (Array.getElem?_eq_some_iff.1 h2).1
   refine NdAt.row h0 h3 h4 h1 hlt (KidsL.row acc xs 0 (fun j v hv => ?_) (KidsL.keep (Nat.le_refl _) (fun c hc _ => ⟨hc.1, rfl⟩) _ _ h.2.2.2.2.2.1))
   have hj := (List.getElem?_eq_some_iff.1 hv).1
   rw [hown.1] at hj
   rw [Nat.zero_mul, Nat.zero_add, hown.cellAt j hj]; exact hv
theorem bdrew (W : World) : Below W.heap.size W W.drew := ⟨rfl, rfl, rfl, Nat.le_refl _, fun _ _ => rfl⟩
theorem bs_set2 {w W : World} {l : List (Nat × List Value)} (h : BS w l W) {b : Nat} (hb : w.heap.size ≤ b) (hn : ∀ x ∈ l, x.1 ≠ b) {i : Nat} {v : Value} : BS w l (W.setCell ⟨b, i, none⟩ v) :=
 ⟨h.1.setCell (p := ⟨b, i, none⟩) hb v, fun x hx => ⟨(h.2 x hx).1, (h.2 x hx).2.setOther (hn x hx) [v] i⟩⟩
theorem taken_any (n : Nd) : cnN n ≤ 100000 → ∀ (X : Nat → Prop) (w : World) (c0 c1 c2 c3 : Value), NdAt X w n [c0, c1, c2, c3] →
  Calls Tryd.prog 8 #[.agg #[c0, c1, c2, c3]] w fun e w' => Below w.heap.size w w' ∧ ∃ k t sq sn sc a, e = zr (.agg #[vi ki k, .string t, .slice sq sn sc, vi ki a]) ∧ NdAt (fun c => w.heap.size ≤ c) w' n [vi ki k, .string t, .slice sq sn sc, vi ki a] := by
 have hn := PlN.all n
 obtain ⟨i0, hi0, iz0, iz1, iz2⟩ := info_parts infoRNode
 induction hn with
 | mk k t ks a ha hk ih =>
  intro hcn X w c0 c1 c2 c3 h1
  obtain ⟨rfl, rfl, rfl, sv, sw, rfl, hkl, HG⟩ := h1.kids
  have HI : Hid (∀ n ∈ ks, cnN n ≤ 100000 → ∀ (X : Nat → Prop) (w : World) (c0 c1 c2 c3 : Value), NdAt X w n [c0, c1, c2, c3] → Calls Tryd.prog 8 #[.agg #[c0, c1, c2, c3]] w fun e w' => Below w.heap.size w w' ∧ ∃ k t sq sn sc a, e = zr (.agg #[vi ki k, .string t, .slice sq sn sc, vi ki a]) ∧ NdAt (fun c => w.heap.size ≤ c) w' n [vi ki k, .string t, .slice sq sn sc, vi ki a]) := ih
  rw [cnN] at hcn
  have hkk : ks.length ≤ 100000 := by have := cnL_len ks; omega
  have HCn : Hid (∀ n ∈ ks, cnN n ≤ 100000) := fun n hn => by have := cnL_mem hn; omega
  have hklI : (ks.length : Int) ≤ 100000 := by omega
  clear hk ih ha h1 hcn
  go_enter Tryd.func8, Tryd.ntmps8
  go_wp2_with fail
  go_loopw [4] (fun i W => ∃ (j : Nat) (sq : Option Addr) (sn sc : Nat) (xs : List Value), i = vi ki (j : Int) ∧ j ≤ ks.length ∧ Hid (TkL w [vi ki k, .string t, .slice sv ks.length sw, vi ki a] k t a (ks.take j) sq sn sc xs W)) (fun i _ => ks.length - (intOf i).toNat)
  case atStart =>
   have B := (((BS.start w).new [vi ki k, .string t, .slice sv ks.length sw, vi ki a] 24 rfl).new [vi ki 0, .string ⟨#[]⟩, .slice none 0 0, vi ki 0] 30 (b := w.heap.size + 1) (by simp)).new [vi ki k, .string t, .slice none 0 0, vi ki a] 30 (b := w.heap.size + 2) (by simp)
   exact ⟨0, none, 0, 0, [], rfl, Nat.zero_le _, B.1, B.at (w.heap.size) [vi ki k, .string t, .slice sv ks.length sw, vi ki a] (by simp), B.at (w.heap.size + 1) [vi ki 0, .string ⟨#[]⟩, .slice none 0 0, vi ki 0] (by simp), B.at (w.heap.size + 2) [vi ki k, .string t, .slice none 0 0, vi ki a] (by simp), World.ownsRow_nil _ _ _ _, rfl, fun _ => ⟨rfl, rfl, rfl⟩⟩
  case round =>
   obtain ⟨j, sq, sn, sc, xs, rfl, hj, HS⟩ := hrel
   have x2 := HS.out.2.1.c 2 rfl
   have hlt := HS.out.2.1.1
   have hj0 : (0 : Int) ≤ (j : Int) := by omega
   by_cases hjl : j < ks.length
   ·have hjI : (j : Int) < (ks.length : Int) := by omega
    have hjw : IntKind.i64.wrap ((j : Int) + 1) = (j : Int) + 1 := by rw [IntKind.wrap_i64]; omega
    obtain ⟨r1, rfl, hsc1, -, hr1, d0, d1, d2, d3, y0, y1, y2, y3, hn1⟩ := HG.out j _ (List.getElem?_eq_getElem hjl)
    have HC : Hid (∀ V : World, Below w.heap.size w V → Calls Tryd.prog 8 #[.agg #[d0, d1, d2, d3]] V fun e w' => Below V.heap.size V w' ∧ ∃ k t sq sn sc a, e = zr (.agg #[vi ki k, .string t, .slice sq sn sc, vi ki a]) ∧ NdAt (fun c => V.heap.size ≤ c) w' ks[j] [vi ki k, .string t, .slice sq sn sc, vi ki a]) := fun V hV => HI.out _ (List.getElem_mem hjl) (HCn.out _ (List.getElem_mem hjl)) X V d0 d1 d2 d3 (hn1.below hV)
    have htk : ks.take (j + 1) = ks.take j ++ [ks[j]] := by rw [List.take_add_one, List.getElem?_eq_getElem hjl]; rfl
    have htl : (ks.take j).length = j := by rw [List.length_take]; omega
    have BB : Hid (BS w [(w.heap.size, [vi ki k, .string t, .slice (some ⟨r1, 0, none⟩) ks.length sw, vi ki a])] wr) := ⟨HS.out.1, fun x hx => by simp at hx; subst hx; exact ⟨Nat.le_refl _, HS.out.2.1⟩⟩
    clear hn1 HI HG HCn
    go_upto_region 5 with fail
    have HS2 : Hid (TkL w [vi ki k, .string t, .slice (some ⟨r1, 0, none⟩) ks.length sw, vi ki a] k t a (ks.take j) sq sn sc xs wr.drew) := HS.out.below (bdrew _)
    clear HS
    have HS : Hid (TkL w [vi ki k, .string t, .slice (some ⟨r1, 0, none⟩) ks.length sw, vi ki a] k t a (ks.take j) sq sn sc xs wr.drew) := HS2.out
    clear HS2
    refine wp_region_held_drew (S := BS w [(w.heap.size, [vi ki k, .string t, .slice (some ⟨r1, 0, none⟩) ks.length sw, vi ki a])]) (by kernel_rfl) (BB.out).drew (fun hHeld => ?_)
    refine tks 0 ⟨some 19, _, _, _, _, none⟩ rfl ?_
    simp only [za, zb, zc, zd]
    refine tks 2 ⟨some 21, _, _, _, _, none⟩ rfl ?_
    simp only [za, zb, zc, zd]
    refine tk (v := ?_) 3 ⟨some 22, _, _, _, _, none⟩ rfl ?_ ?_
    case refine_2 => (intro w9 hSw; have q2 := (hSw.at (w.heap.size) [vi ki k, .string t, .slice (some ⟨r1, 0, none⟩) ks.length sw, vi ki a] (by simp)).c 2 rfl; have g1 := (hSw.at (w.heap.size) [vi ki k, .string t, .slice (some ⟨r1, 0, none⟩) ks.length sw, vi ki a] (by simp)).1; have hz := hSw.1.size; have l0 := (hSw.1.cell (p := ⟨r1, j * 4, none⟩) hr1).trans y0; have l1 := (hSw.1.cell (p := ⟨r1, j * 4 + 1, none⟩) hr1).trans y1; have l2 := (hSw.1.cell (p := ⟨r1, j * 4 + 2, none⟩) hr1).trans y2; have l3 := (hSw.1.cell (p := ⟨r1, j * 4 + 3, none⟩) hr1).trans y3; have o1 : r1 < w9.heap.size := (by omega); clear hSw; go_simp; try with_reducible rfl)
    simp only [za, zb, zc, zd]
    refine tks 4 ⟨some 23, _, _, _, _, none⟩ rfl ?_
    simp only [za, zb, zc, zd]
    refine tks 5 ⟨some 24, _, _, _, _, none⟩ rfl ?_
    simp only [za, zb, zc, zd]
    refine tk (v := ?_) 6 ⟨some 25, _, _, _, _, none⟩ rfl ?_ ?_
    case refine_2 => (intro w9 hSw; have q2 := (hSw.at (w.heap.size) [vi ki k, .string t, .slice (some ⟨r1, 0, none⟩) ks.length sw, vi ki a] (by simp)).c 2 rfl; have g1 := (hSw.at (w.heap.size) [vi ki k, .string t, .slice (some ⟨r1, 0, none⟩) ks.length sw, vi ki a] (by simp)).1; have hz := hSw.1.size; have l0 := (hSw.1.cell (p := ⟨r1, j * 4, none⟩) hr1).trans y0; have l1 := (hSw.1.cell (p := ⟨r1, j * 4 + 1, none⟩) hr1).trans y1; have l2 := (hSw.1.cell (p := ⟨r1, j * 4 + 2, none⟩) hr1).trans y2; have l3 := (hSw.1.cell (p := ⟨r1, j * 4 + 3, none⟩) hr1).trans y3; have o1 : r1 < w9.heap.size := (by omega); clear hSw; go_simp; try with_reducible rfl)
    simp only [za, zb, zc, zd]
    refine wpAnyH_ready (rs := [1, 7]) (by kernel_rfl) (by simp) (AllReadyH.cons (o := ⟨some 20, _, _, _, _, none⟩) rfl (fun K hK => ?_) (AllReadyH.cons (o := ⟨some 26, _, _, _, _, none⟩) rfl (fun K hK => ?_) AllReadyH.nil))
    ·
     have s2 := HS.out.2.2.2.1.c 2 rfl
     have sl := HS.out.2.2.2.1.1
     go_simp
     refine hK.out _ _ hHeld (fun hHeld => ?_)
     clear hK K s2 sl
     refine rd 7 ⟨some 26, _, _, _, _, none⟩ rfl (fun K hK => ?_)
     go_simp
     refine (HC.out _ hHeld.1).mono ?_
     rintro e v2 ⟨hb2, k2, t2, sq2, sn2, sc2, a2, rfl, hnd2⟩
     have HN : Hid (NdAt (fun c => w.heap.size + 3 ≤ c ∧ (Value.slice sq sn sc).ownBlock ≠ some c) v2 ks[j] [vi ki k2, .string t2, .slice sq2 sn2 sc2, vi ki a2]) := NdAt.keep (Nat.le_refl _) (fun c hc hl => ⟨⟨by have := HS.out.2.2.2.1.1; omega, fun q => by have := (HS.out.ob q).2; omega⟩, rfl⟩) _ _ hnd2
     have HS2 : Hid (TkL w [vi ki k, .string t, .slice (some ⟨r1, 0, none⟩) ks.length sw, vi ki a] k t a (ks.take j) sq sn sc xs v2) := HS.out.below hb2
     clear HS
     have HS : Hid (TkL w [vi ki k, .string t, .slice (some ⟨r1, 0, none⟩) ks.length sw, vi ki a] k t a (ks.take j) sq sn sc xs v2) := HS2.out
     clear HS2
     refine hK.out _ _ (hHeld.below hb2) (fun hHeld => ?_)
     clear hK K hb2 hnd2
     refine rd 8 ⟨some 27, _, _, _, _, none⟩ rfl (fun K hK => ?_)
     go_simp
     have HX : Hid (Bx (v2.alloc (.cells [vi ki k2, .string t2, .slice sq2 sn2 sc2, vi ki a2].toArray 30)) v2.heap.size [vi ki k2, .string t2, .slice sq2 sn2 sc2, vi ki a2]) := Bx.new v2 [vi ki k2, .string t2, .slice sq2 sn2 sc2, vi ki a2] 30
     have HS2 : Hid (TkL w [vi ki k, .string t, .slice (some ⟨r1, 0, none⟩) ks.length sw, vi ki a] k t a (ks.take j) sq sn sc xs (v2.alloc (.cells [vi ki k2, .string t2, .slice sq2 sn2 sc2, vi ki a2].toArray 30))) := HS.out.below ((Below.refl _ v2).alloc (Nat.le_refl _) _)
     clear HS
     have HS : Hid (TkL w [vi ki k, .string t, .slice (some ⟨r1, 0, none⟩) ks.length sw, vi ki a] k t a (ks.take j) sq sn sc xs (v2.alloc (.cells [vi ki k2, .string t2, .slice sq2 sn2 sc2, vi ki a2].toArray 30))) := HS2.out
     clear HS2
     have HN2 : Hid (NdAt (fun c => w.heap.size + 3 ≤ c ∧ (Value.slice sq sn sc).ownBlock ≠ some c) (v2.alloc (.cells [vi ki k2, .string t2, .slice sq2 sn2 sc2, vi ki a2].toArray 30)) ks[j] [vi ki k2, .string t2, .slice sq2 sn2 sc2, vi ki a2]) := HN.out.below ((Below.refl _ v2).alloc (Nat.le_refl _) _)
     clear HN
     have HN : Hid (NdAt (fun c => w.heap.size + 3 ≤ c ∧ (Value.slice sq sn sc).ownBlock ≠ some c) (v2.alloc (.cells [vi ki k2, .string t2, .slice sq2 sn2 sc2, vi ki a2].toArray 30)) ks[j] [vi ki k2, .string t2, .slice sq2 sn2 sc2, vi ki a2]) := HN2.out
     clear HN2
     refine hK.out _ _ (hHeld.alloc _) (fun hHeld => ?_)
     clear hK K
     refine rd 9 ⟨some 28, _, _, _, _, none⟩ rfl (fun K hK => ?_)
     refine (if_pos (by kernel_rfl)).mpr (wp_append_new _ _ 28 rfl (w.heap.size + 3) 30 i0 (.agg #[vi ki 0, .string ByteArray.empty, .slice none 0 0, vi ki 0]) 4 56 Tryd.underlying28 hi0 iz0 iz1 iz2 rfl (by decide) (.slice sq sn sc) (ks.take j).length xs rfl HS.out.2.2.2.2.1 ⟨v2.heap.size, 0, none⟩ 1 [vi ki k2, .string t2, .slice sq2 sn2 sc2, vi ki a2] rfl rfl (fun j u hj => by rw [show (⟨v2.heap.size, 0, none⟩ : Addr).add j = ⟨v2.heap.size, j, none⟩ from by rw [Addr.add_lit]; simp]; exact (HX.out.2 j u hj).1) (by intro u hu; simp at hu; rcases hu with rfl | rfl | rfl | rfl <;> rfl) (by rw [htl]; unfold maxLen; omega) (by rw [htl]; omega) (by have := HS.out.2.2.2.1.1; omega) ?_)
     intro v' w4 hown' hgrow hnew
     obtain ⟨sq', sn', sc', hv'⟩ := own_form hown'
     subst hv'
     have HO : Hid _ := hown'
     have HGr : Hid _ := hgrow
     have HNw : Hid _ := hnew
     have hB4 := HS.out.bl hgrow (by omega) HS.out.2.2.2.1
     have hB5 : BS w [(w.heap.size, [vi ki k, .string t, .slice (some ⟨r1, 0, none⟩) ks.length sw, vi ki a])] w4 := ⟨HS.out.low hgrow, fun x hx => by simp at hx; subst hx; exact ⟨Nat.le_refl _, HS.out.bl hgrow (by simp) HS.out.2.1⟩⟩
     have c41 := hB4.c 2 rfl
     have z41 := hB4.f 2 rfl
     have hl4 := hB4.1
     refine hK.out _ _ hB5 (fun hHeld => ?_)
     clear hK K hown' hgrow hnew hB4 hB5 HX
     refine tks 10 ⟨some 29, _, _, _, _, none⟩ rfl ?_
     simp only [za, zb, zc, zd]
     refine rd 11 ⟨none, _, _, _, _, none⟩ rfl (fun K hK => ?_)
     go_simp
     refine hK.out _ _ (bs_set2 hHeld (by omega) (by intro x hx; simp at hx; subst hx; show w.heap.size ≠ _; omega)) (fun hHeld => ?_)
     clear hK K c41 z41 hl4
     refine wpAnyH_done (by kernel_rfl) ?_ _
     have HF : Hid (TkL w [vi ki k, .string t, .slice (some ⟨r1, 0, none⟩) ks.length sw, vi ki a] k t a (ks.take (j + 1)) sq' sn' sc' (xs ++ [vi ki k2, .string t2, .slice sq2 sn2 sc2, vi ki a2]) (w4.setCell ⟨w.heap.size + 2, 2, none⟩ (.slice sq' sn' sc'))) := by (have q := HS.out.more HN.out HGr.out HNw.out HO.out; rw [← htk] at q; exact q)
     clear hHeld HC HS HN HGr HNw HO
     go_wp2_with fail
     go_roundw
     case rel => exact ⟨j + 1, sq', sn', sc', _, by go_num, by omega, HF⟩
     case measure => simp [intOf]; omega
    ·
     go_simp
     refine (HC.out _ hHeld.1).mono ?_
     rintro e v6 ⟨hb6, k2, t2, sq2, sn2, sc2, a2, rfl, hnd6⟩
     have HN : Hid (NdAt (fun c => w.heap.size + 3 ≤ c ∧ (Value.slice sq sn sc).ownBlock ≠ some c) v6 ks[j] [vi ki k2, .string t2, .slice sq2 sn2 sc2, vi ki a2]) := NdAt.keep (Nat.le_refl _) (fun c hc hl => ⟨⟨by have := HS.out.2.2.2.1.1; omega, fun q => by have := (HS.out.ob q).2; omega⟩, rfl⟩) _ _ hnd6
     have HS2 : Hid (TkL w [vi ki k, .string t, .slice (some ⟨r1, 0, none⟩) ks.length sw, vi ki a] k t a (ks.take j) sq sn sc xs v6) := HS.out.below hb6
     clear HS
     have HS : Hid (TkL w [vi ki k, .string t, .slice (some ⟨r1, 0, none⟩) ks.length sw, vi ki a] k t a (ks.take j) sq sn sc xs v6) := HS2.out
     clear HS2
     refine hK.out _ _ (hHeld.below hb6) (fun hHeld => ?_)
     clear hK K hb6 hnd6
     refine wpAnyH_ready (rs := [1, 8]) (by kernel_rfl) (by simp) (AllReadyH.cons (o := ⟨some 20, _, _, _, _, none⟩) rfl (fun K hK => ?_) (AllReadyH.cons (o := ⟨some 27, _, _, _, _, none⟩) rfl (fun K hK => ?_) AllReadyH.nil))
     ·
      have s2 := HS.out.2.2.2.1.c 2 rfl
      have sl := HS.out.2.2.2.1.1
      go_simp
      refine hK.out _ _ hHeld (fun hHeld => ?_)
      clear hK K s2 sl
      refine rd 8 ⟨some 27, _, _, _, _, none⟩ rfl (fun K hK => ?_)
      go_simp
      have HX : Hid (Bx (v6.alloc (.cells [vi ki k2, .string t2, .slice sq2 sn2 sc2, vi ki a2].toArray 30)) v6.heap.size [vi ki k2, .string t2, .slice sq2 sn2 sc2, vi ki a2]) := Bx.new v6 [vi ki k2, .string t2, .slice sq2 sn2 sc2, vi ki a2] 30
      have HS2 : Hid (TkL w [vi ki k, .string t, .slice (some ⟨r1, 0, none⟩) ks.length sw, vi ki a] k t a (ks.take j) sq sn sc xs (v6.alloc (.cells [vi ki k2, .string t2, .slice sq2 sn2 sc2, vi ki a2].toArray 30))) := HS.out.below ((Below.refl _ v6).alloc (Nat.le_refl _) _)
      clear HS
      have HS : Hid (TkL w [vi ki k, .string t, .slice (some ⟨r1, 0, none⟩) ks.length sw, vi ki a] k t a (ks.take j) sq sn sc xs (v6.alloc (.cells [vi ki k2, .string t2, .slice sq2 sn2 sc2, vi ki a2].toArray 30))) := HS2.out
      clear HS2
      have HN2 : Hid (NdAt (fun c => w.heap.size + 3 ≤ c ∧ (Value.slice sq sn sc).ownBlock ≠ some c) (v6.alloc (.cells [vi ki k2, .string t2, .slice sq2 sn2 sc2, vi ki a2].toArray 30)) ks[j] [vi ki k2, .string t2, .slice sq2 sn2 sc2, vi ki a2]) := HN.out.below ((Below.refl _ v6).alloc (Nat.le_refl _) _)
      clear HN
      have HN : Hid (NdAt (fun c => w.heap.size + 3 ≤ c ∧ (Value.slice sq sn sc).ownBlock ≠ some c) (v6.alloc (.cells [vi ki k2, .string t2, .slice sq2 sn2 sc2, vi ki a2].toArray 30)) ks[j] [vi ki k2, .string t2, .slice sq2 sn2 sc2, vi ki a2]) := HN2.out
      clear HN2
      refine hK.out _ _ (hHeld.alloc _) (fun hHeld => ?_)
      clear hK K
      refine rd 9 ⟨some 28, _, _, _, _, none⟩ rfl (fun K hK => ?_)
      refine (if_pos (by kernel_rfl)).mpr (wp_append_new _ _ 28 rfl (w.heap.size + 3) 30 i0 (.agg #[vi ki 0, .string ByteArray.empty, .slice none 0 0, vi ki 0]) 4 56 Tryd.underlying28 hi0 iz0 iz1 iz2 rfl (by decide) (.slice sq sn sc) (ks.take j).length xs rfl HS.out.2.2.2.2.1 ⟨v6.heap.size, 0, none⟩ 1 [vi ki k2, .string t2, .slice sq2 sn2 sc2, vi ki a2] rfl rfl (fun j u hj => by rw [show (⟨v6.heap.size, 0, none⟩ : Addr).add j = ⟨v6.heap.size, j, none⟩ from by rw [Addr.add_lit]; simp]; exact (HX.out.2 j u hj).1) (by intro u hu; simp at hu; rcases hu with rfl | rfl | rfl | rfl <;> rfl) (by rw [htl]; unfold maxLen; omega) (by rw [htl]; omega) (by have := HS.out.2.2.2.1.1; omega) ?_)
      intro v' w4 hown' hgrow hnew
      obtain ⟨sq', sn', sc', hv'⟩ := own_form hown'
      subst hv'
      have HO : Hid _ := hown'
      have HGr : Hid _ := hgrow
      have HNw : Hid _ := hnew
      have hB4 := HS.out.bl hgrow (by omega) HS.out.2.2.2.1
      have hB5 : BS w [(w.heap.size, [vi ki k, .string t, .slice (some ⟨r1, 0, none⟩) ks.length sw, vi ki a])] w4 := ⟨HS.out.low hgrow, fun x hx => by simp at hx; subst hx; exact ⟨Nat.le_refl _, HS.out.bl hgrow (by simp) HS.out.2.1⟩⟩
      have c41 := hB4.c 2 rfl
      have z41 := hB4.f 2 rfl
      have hl4 := hB4.1
      refine hK.out _ _ hB5 (fun hHeld => ?_)
      clear hK K hown' hgrow hnew hB4 hB5 HX
      refine tks 10 ⟨some 29, _, _, _, _, none⟩ rfl ?_
      simp only [za, zb, zc, zd]
      refine rd 11 ⟨none, _, _, _, _, none⟩ rfl (fun K hK => ?_)
      go_simp
      refine hK.out _ _ (bs_set2 hHeld (by omega) (by intro x hx; simp at hx; subst hx; show w.heap.size ≠ _; omega)) (fun hHeld => ?_)
      clear hK K c41 z41 hl4
      refine wpAnyH_done (by kernel_rfl) ?_ _
      have HF : Hid (TkL w [vi ki k, .string t, .slice (some ⟨r1, 0, none⟩) ks.length sw, vi ki a] k t a (ks.take (j + 1)) sq' sn' sc' (xs ++ [vi ki k2, .string t2, .slice sq2 sn2 sc2, vi ki a2]) (w4.setCell ⟨w.heap.size + 2, 2, none⟩ (.slice sq' sn' sc'))) := by (have q := HS.out.more HN.out HGr.out HNw.out HO.out; rw [← htk] at q; exact q)
      clear hHeld HC HS HN HGr HNw HO
      go_wp2_with fail
      go_roundw
      case rel => exact ⟨j + 1, sq', sn', sc', _, by go_num, by omega, HF⟩
      case measure => simp [intOf]; omega
     ·
      go_simp
      have HX : Hid (Bx (v6.alloc (.cells [vi ki k2, .string t2, .slice sq2 sn2 sc2, vi ki a2].toArray 30)) v6.heap.size [vi ki k2, .string t2, .slice sq2 sn2 sc2, vi ki a2]) := Bx.new v6 [vi ki k2, .string t2, .slice sq2 sn2 sc2, vi ki a2] 30
      have HS2 : Hid (TkL w [vi ki k, .string t, .slice (some ⟨r1, 0, none⟩) ks.length sw, vi ki a] k t a (ks.take j) sq sn sc xs (v6.alloc (.cells [vi ki k2, .string t2, .slice sq2 sn2 sc2, vi ki a2].toArray 30))) := HS.out.below ((Below.refl _ v6).alloc (Nat.le_refl _) _)
      clear HS
      have HS : Hid (TkL w [vi ki k, .string t, .slice (some ⟨r1, 0, none⟩) ks.length sw, vi ki a] k t a (ks.take j) sq sn sc xs (v6.alloc (.cells [vi ki k2, .string t2, .slice sq2 sn2 sc2, vi ki a2].toArray 30))) := HS2.out
      clear HS2
      have HN2 : Hid (NdAt (fun c => w.heap.size + 3 ≤ c ∧ (Value.slice sq sn sc).ownBlock ≠ some c) (v6.alloc (.cells [vi ki k2, .string t2, .slice sq2 sn2 sc2, vi ki a2].toArray 30)) ks[j] [vi ki k2, .string t2, .slice sq2 sn2 sc2, vi ki a2]) := HN.out.below ((Below.refl _ v6).alloc (Nat.le_refl _) _)
      clear HN
      have HN : Hid (NdAt (fun c => w.heap.size + 3 ≤ c ∧ (Value.slice sq sn sc).ownBlock ≠ some c) (v6.alloc (.cells [vi ki k2, .string t2, .slice sq2 sn2 sc2, vi ki a2].toArray 30)) ks[j] [vi ki k2, .string t2, .slice sq2 sn2 sc2, vi ki a2]) := HN2.out
      clear HN2
      refine hK.out _ _ (hHeld.alloc _) (fun hHeld => ?_)
      clear hK K
      refine rd 1 ⟨some 20, _, _, _, _, none⟩ rfl (fun K hK => ?_)
      have s2 := HS.out.2.2.2.1.c 2 rfl
      have sl := HS.out.2.2.2.1.1
      go_simp
      refine hK.out _ _ hHeld (fun hHeld => ?_)
      clear hK K s2 sl
      refine rd 9 ⟨some 28, _, _, _, _, none⟩ rfl (fun K hK => ?_)
      refine (if_pos (by kernel_rfl)).mpr (wp_append_new _ _ 28 rfl (w.heap.size + 3) 30 i0 (.agg #[vi ki 0, .string ByteArray.empty, .slice none 0 0, vi ki 0]) 4 56 Tryd.underlying28 hi0 iz0 iz1 iz2 rfl (by decide) (.slice sq sn sc) (ks.take j).length xs rfl HS.out.2.2.2.2.1 ⟨v6.heap.size, 0, none⟩ 1 [vi ki k2, .string t2, .slice sq2 sn2 sc2, vi ki a2] rfl rfl (fun j u hj => by rw [show (⟨v6.heap.size, 0, none⟩ : Addr).add j = ⟨v6.heap.size, j, none⟩ from by rw [Addr.add_lit]; simp]; exact (HX.out.2 j u hj).1) (by intro u hu; simp at hu; rcases hu with rfl | rfl | rfl | rfl <;> rfl) (by rw [htl]; unfold maxLen; omega) (by rw [htl]; omega) (by have := HS.out.2.2.2.1.1; omega) ?_)
      intro v' w4 hown' hgrow hnew
      obtain ⟨sq', sn', sc', hv'⟩ := own_form hown'
      subst hv'
      have HO : Hid _ := hown'
      have HGr : Hid _ := hgrow
      have HNw : Hid _ := hnew
      have hB4 := HS.out.bl hgrow (by omega) HS.out.2.2.2.1
      have hB5 : BS w [(w.heap.size, [vi ki k, .string t, .slice (some ⟨r1, 0, none⟩) ks.length sw, vi ki a])] w4 := ⟨HS.out.low hgrow, fun x hx => by simp at hx; subst hx; exact ⟨Nat.le_refl _, HS.out.bl hgrow (by simp) HS.out.2.1⟩⟩
      have c41 := hB4.c 2 rfl
      have z41 := hB4.f 2 rfl
      have hl4 := hB4.1
      refine hK.out _ _ hB5 (fun hHeld => ?_)
      clear hK K hown' hgrow hnew hB4 hB5 HX
      refine tks 10 ⟨some 29, _, _, _, _, none⟩ rfl ?_
      simp only [za, zb, zc, zd]
      refine rd 11 ⟨none, _, _, _, _, none⟩ rfl (fun K hK => ?_)
      go_simp
      refine hK.out _ _ (bs_set2 hHeld (by omega) (by intro x hx; simp at hx; subst hx; show w.heap.size ≠ _; omega)) (fun hHeld => ?_)
      clear hK K c41 z41 hl4
      refine wpAnyH_done (by kernel_rfl) ?_ _
      have HF : Hid (TkL w [vi ki k, .string t, .slice (some ⟨r1, 0, none⟩) ks.length sw, vi ki a] k t a (ks.take (j + 1)) sq' sn' sc' (xs ++ [vi ki k2, .string t2, .slice sq2 sn2 sc2, vi ki a2]) (w4.setCell ⟨w.heap.size + 2, 2, none⟩ (.slice sq' sn' sc'))) := by (have q := HS.out.more HN.out HGr.out HNw.out HO.out; rw [← htk] at q; exact q)
      clear hHeld HC HS HN HGr HNw HO
      go_wp2_with fail
      go_roundw
      case rel => exact ⟨j + 1, sq', sn', sc', _, by go_num, by omega, HF⟩
      case measure => simp [intOf]; omega
   ·have hjI : ¬ (j : Int) < (ks.length : Int) := by omega
    obtain rfl : j = ks.length := by omega
    rw [List.take_length] at HS
    obtain ⟨k1, k2, k3, k4⟩ := fin4 (g := w.heap.size) [] (vi ki k) (.string t) (.slice sq sn sc) (vi ki a) (Kp.of HS.out.1) (by omega) HS.out.2.2.1
    have HNF : Hid (NdAt (fun c => w.heap.size ≤ c) _ _ _) := NdAt.off HS.out.node k3 k4 (Y := fun c => w.heap.size ≤ c) (fun c hc => ⟨by omega, by omega⟩)
    have HK : Hid (Below w.heap.size w _) := k1.below (Nat.le_refl _) (Nat.le_refl _)
    obtain ⟨y0, y1, y2, y3⟩ := k2.d4
    simp only [List.foldl, World.setCells, Nat.zero_add, Nat.reduceAdd] at y0 y1 y2 y3
    obtain ⟨e0, e1, e2, e3, z0, z1, z2, z3⟩ := HS.out.2.2.1.cf4
    have hlz := HS.out.2.2.1.1
    obtain ⟨f0, f1, f2, f3⟩ := HS.out.2.2.2.1.d4
    have hlf := HS.out.2.2.2.1.1
    clear k1 k2 k3 k4 HS
    go_wp2
    exact bodyPost_ret (v := .agg #[vi ki k, .string t, .slice sq sn sc, vi ki a]) (by simp [results, Tryd.results8, go_sem, y0, y1, y2, y3]) rfl ⟨HK.out, _, _, _, _, _, _, rfl, HNF.out⟩
theorem blank_any (c : Nat) (hc : c < 256) (w : World) : Calls Tryd.prog 30 #[.int .u8 (c : Int)] w fun e w' => e = zr (.bool (blankN c)) ∧ w' = w := by
 cases hb : blankN c with
 | true =>
  have h : c = 32 ∨ c = 9 ∨ c = 10 ∨ c = 13 := by simpa [blankN, or_assoc] using hb
  clear hb
  rcases h with rfl | rfl | rfl | rfl
  all_goals
   go_enter Tryd.func30, Tryd.ntmps30
   go_wp2_with fail
   go_ret
   exact ⟨rfl, rfl⟩
 | false =>
  have h : ¬ (c = 32 ∨ c = 9 ∨ c = 10 ∨ c = 13) := fun q => by
   have : blankN c = true := by simpa [blankN, or_assoc] using q
   rw [hb] at this; exact absurd this (by decide)
  have b1 : ((c : Int) == 32) = false := by simp; omega
  have b2 : ((c : Int) == 9) = false := by simp; omega
  have b3 : ((c : Int) == 10) = false := by simp; omega
  have b4 : ((c : Int) == 13) = false := by simp; omega
  clear hb h
  go_enter Tryd.func30, Tryd.ntmps30
  go_wp2_with fail
  go_ret
  exact ⟨rfl, rfl⟩
theorem digit_any (c : Nat) (hc : c < 256) (w : World) : Calls Tryd.prog 31 #[.int .u8 (c : Int)] w fun e w' => e = zr (.bool (digitN c)) ∧ w' = w := by
 by_cases h1 : 48 ≤ c
 ·have h1' : (48 : Int) ≤ (c : Int) := by omega
  by_cases h2 : c ≤ 57
  ·have h2' : (c : Int) ≤ 57 := by omega
   rw [show digitN c = true by simp [digitN, h1, h2]]
   go_enter Tryd.func31, Tryd.ntmps31
   go_wp2_with fail
   go_ret
   exact ⟨rfl, rfl⟩
  ·have h2' : decide ((c : Int) ≤ 57) = false := decide_eq_false (by omega)
   rw [show digitN c = false by simp [digitN]; omega]
   go_enter Tryd.func31, Tryd.ntmps31
   go_wp2_with fail
   go_ret
   exact ⟨rfl, rfl⟩
 ·have h1' : ¬ (48 : Int) ≤ (c : Int) := by omega
  rw [show digitN c = false by simp [digitN]; omega]
  go_enter Tryd.func31, Tryd.ntmps31
  go_wp2_with fail
  go_ret
  exact ⟨rfl, rfl⟩
theorem letter_iff (c : Nat) : letterN c = true ↔ ((97 ≤ c ∧ c ≤ 122) ∨ (65 ≤ c ∧ c ≤ 90) ∨ c = 95 ∨ 127 < c) := by
 simp [letterN, or_assoc]
theorem letter_any (c : Nat) (hc : c < 256) (w : World) : Calls Tryd.prog 32 #[.int .u8 (c : Int)] w fun e w' => e = zr (.bool (letterN c)) ∧ w' = w := by
 obtain ⟨B, hB⟩ : ∃ B, letterN c = B := ⟨_, rfl⟩
 have hi := letter_iff c
 rw [hB] at hi ⊢
 have HI : Hid (B = true ↔ ((97 ≤ c ∧ c ≤ 122) ∨ (65 ≤ c ∧ c ≤ 90) ∨ c = 95 ∨ 127 < c)) := hi
 clear hi hB
 go_enter Tryd.func32, Tryd.ntmps32
 go_wp2_with fail
 all_goals
  go_ret
  refine ⟨ret_bool ?_, rfl⟩
  have := HI.out
  cases B <;> simp at this ⊢ <;> omega
theorem byte_eq (s : ByteArray) (i : Nat) (h : i < s.size) : ((s[i]'h).toNat : Int) = (bt s i : Int) := by rw [(bt_get s i h).2]
theorem long_low (s : ByteArray) (i : Nat) (hs : s.size ≤ 2048) (hi : i < s.size) (h : bt s i < 128) (w : World) :
  Calls Tryd.prog 29 #[.string s, vi ki (i : Int)] w fun e w' => e = zr (vi ki 1) ∧ w' = w := by
 have hb := byte_eq s i hi
 have hi' : (i : Int) < (s.size : Int) := by omega
 have h' : (bt s i : Int) < 128 := by omega
 go_enter Tryd.func29, Tryd.ntmps29
 go_wp2_with fail
 go_ret
 exact ⟨rfl, rfl⟩
def Cls (c n lo hh : Nat) : Prop :=
 (194 ≤ c ∧ c ≤ 223 ∧ n = 2 ∧ lo = 128 ∧ hh = 191) ∨ (c = 224 ∧ n = 3 ∧ lo = 160 ∧ hh = 191) ∨ (c = 237 ∧ n = 3 ∧ lo = 128 ∧ hh = 159) ∨ ((225 ≤ c ∧ c ≤ 239 ∧ c ≠ 237) ∧ n = 3 ∧ lo = 128 ∧ hh = 191) ∨
 (c = 240 ∧ n = 4 ∧ lo = 144 ∧ hh = 191) ∨ (c = 244 ∧ n = 4 ∧ lo = 128 ∧ hh = 143) ∨ ((241 ≤ c ∧ c ≤ 243) ∧ n = 4 ∧ lo = 128 ∧ hh = 191)
instance (c n lo hh : Nat) : Decidable (Cls c n lo hh) := by unfold Cls; infer_instance
theorem cls_all : ∀ c : Fin 256, 128 ≤ c.val → rN c.val ≠ 0 → Cls c.val (rN c.val) (rLo c.val) (rHi c.val) := by decide +kernel
theorem cls_of (c : Nat) (h : 128 ≤ c) (hc : c < 256) (h0 : rN c ≠ 0) : Cls c (rN c) (rLo c) (rHi c) := cls_all ⟨c, hc⟩ h h0
theorem long_none (s : ByteArray) (i c : Nat) (hs : s.size ≤ 2048) (hi : i < s.size) (hc : bt s i = c) (h : 128 ≤ c) (h2 : c < 194 ∨ 244 < c) (hz : c < 256) (w : World) :
  Calls Tryd.prog 29 #[.string s, vi ki (i : Int)] w fun e w' => e = zr (vi ki 0) ∧ w' = w := by
 have hb := byte_eq s i hi
 rw [hc] at hb
 have hi' : (i : Int) < (s.size : Int) := by omega
 have h' : ¬ (c : Int) < 128 := by omega
 rcases h2 with h2 | h2
 ·have x1 : ¬ (194 : Int) ≤ (c : Int) := by omega
  have x2 : ¬ (224 : Int) ≤ (c : Int) := by omega
  have x3 : ¬ (240 : Int) ≤ (c : Int) := by omega
  go_enter Tryd.func29, Tryd.ntmps29
  go_wp2_with fail
  go_ret
  exact ⟨rfl, rfl⟩
 ·have x1 : (194 : Int) ≤ (c : Int) := by omega
  have x2 : (224 : Int) ≤ (c : Int) := by omega
  have x3 : (240 : Int) ≤ (c : Int) := by omega
  have y1 : ¬ (c : Int) ≤ 223 := by omega
  have y2 : ¬ (c : Int) ≤ 239 := by omega
  have y3 : ¬ (c : Int) ≤ 244 := by omega
  go_enter Tryd.func29, Tryd.ntmps29
  go_wp2_with fail
  go_ret
  exact ⟨rfl, rfl⟩
theorem infoU8 : (Tryd.prog.info? 5).map (fun i => (i.zero, i.size, i.bytes)) = some (some (.int .u8 0), 1, 1) := by kernel_rfl
def cellsU (l : List UInt8) : List Value := l.map fun b => Value.int .u8 (b.toNat : Int)
theorem cellsU_snoc (l : List UInt8) (c : UInt8) : cellsU (l ++ [c]) = cellsU l ++ [.int .u8 (c.toNat : Int)] := by simp [cellsU]
theorem one_new (w : World) (a : Value) (t : TypeId) : ∀ j u, [a][j]? = some u → (w.alloc (.cells #[a] t)).cell? ((⟨w.heap.size, 0, none⟩ : Addr).add j) = some u := by
  intro j u hj
  match j, hj with
  | 0, hj => simp at hj; subst hj; simp [Addr.add]
  | j + 1, hj => simp at hj
theorem one_one (m : Int) : ∀ u ∈ [Value.int .u8 m], u.oneCell' = true := by
  intro x hx; simp at hx; subst hx; rfl
def lowT (s : ByteArray) (i : Nat) : List UInt8 := (s.data.toList.take i).map lowC
theorem lowT_snoc (s : ByteArray) (i : Nat) (h : i < s.size) : lowT s (i + 1) = lowT s i ++ [lowC (s[i]'h)] := by
  unfold lowT
  rw [List.take_add_one, (bt_get s i h).1]
  simp
theorem lowT_length (s : ByteArray) (i : Nat) (h : i ≤ s.size) : (lowT s i).length = i := by
  unfold lowT; rw [List.length_map, List.length_take, sz]; omega
theorem lowT_all (s : ByteArray) : (⟨(lowT s s.size).toArray⟩ : ByteArray) = lowB s := by
  unfold lowT lowB; rw [List.take_of_length_le (by rw [sz]; exact Nat.le_refl _), ← Array.toList_map]
theorem ret_str {a b : ByteArray} (h : a = b) : Ending.returned (.string a) = zr (.string b) := by rw [h]
theorem convert_nil (w : World) : (convert 62 9 (.slice none 0 0)).run Tryd.prog w = .ok (.string ⟨#[]⟩) w := by
  rw [run_convert_bytes_string w 62 9 5 none 0 0 Tryd.underlying62 Tryd.underlying5 Tryd.underlying9]
  simp [Conv.bytesToString]
  rfl
theorem rlower_any (s : ByteArray) (hs : s.size ≤ 140737488351232) (w : World) :
    Calls Tryd.prog 57 #[.string s] w fun e w' => e = zr (.string (lowB s)) ∧ Below w.heap.size w w' := by
  obtain ⟨i0, hi, hz0, hz1, hz2⟩ := info_parts infoU8
  go_enter Tryd.func57, Tryd.ntmps57
  go_wp2_with fail
  go_loopw [3, 4] (fun v iv W => ∃ i : Nat, i ≤ s.size ∧ iv = vi ki (i : Int) ∧ W.ownsRow w.heap.size 5 1 v i (cellsU (lowT s i)) ∧ Below w.heap.size w W) (fun _ iv _ => s.size - (intOf iv).toNat)
  case atStart => exact ⟨0, Nat.zero_le _, rfl, World.ownsRow_nil _ _ _ _, Below.refl _ _⟩
  case round =>
    obtain ⟨i, hil, rfl, ho, B⟩ := hrel
    have HO : Hid (wr.ownsRow w.heap.size 5 1 u3 i (cellsU (lowT s i))) := ho
    have HB : Hid (Below w.heap.size w wr) := B
    clear ho B
    by_cases hp : i < s.size
    · have hp' : (i : Int) < (s.size : Int) := by omega
      have hp0 : (0 : Int) ≤ (i : Int) := by omega
      obtain ⟨c, hc⟩ : ∃ c, s[i]'hp = c := ⟨_, rfl⟩
      have hb : ((s[i]'hp).toNat : Int) = (c.toNat : Int) := by rw [hc]
      have HC : Hid (s[i]'hp = c) := hc
      have hc2 : c.toNat < 256 := UInt8.toNat_lt _
      obtain ⟨d, hd⟩ : ∃ d, lowC c = d := ⟨_, rfl⟩
      have HD : Hid (lowC c = d) := hd
      clear hc hd
      by_cases hAZ : 65 ≤ c.toNat ∧ c.toNat ≤ 90
      · have hdv : (d.toNat : Int) = (c.toNat : Int) + 32 := by
          rw [← HD.out]; unfold lowC; rw [if_pos hAZ, low32 c hAZ]; omega
        have a1 : (65 : Int) ≤ (c.toNat : Int) := by omega
        have a2 : (c.toNat : Int) ≤ 90 := by omega
        have HV : Hid ((d.toNat : Int) = (c.toNat : Int) + 32) := hdv
        clear hdv
        rcases HO.out.2 with ⟨e0, -⟩ | ⟨g0, cap0, cur, e0, _, _, _, _, _, _⟩
        all_goals
          subst e0
          go_wp2_with (first
            | (at_builtin; refine wpList_append_own _ rfl _ _ 62 rfl w.heap.size 5 i0 (.int .u8 0) 1 1 Tryd.underlying62 hi hz0 hz1 hz2 rfl (by decide) _ i (cellsU (lowT s i)) rfl (HO.out.alloc _) ⟨wr.heap.size, 0, none⟩ 1 1 [.int .u8 ((c.toNat : Int) + 32)] rfl rfl (one_new _ _ _) (one_one _) (by unfold maxLen; omega) (by omega) (by have := HB.out.size; simp; omega) ?_; intro v' w3 hown' hgrow3 hnil3
               have HJ : Hid (w3.ownsRow w.heap.size 5 1 v' (i + 1) (cellsU (lowT s (i + 1))) ∧ Below w.heap.size w w3) := ⟨by rw [lowT_snoc s i hp, cellsU_snoc, HC.out, HD.out, HV.out]; exact hown', Below.grown (HB.out.alloc HB.out.size _) hgrow3 (by have := HB.out.size; simp; omega) (fun k hk => by have := (HO.out.lt _ hk).1; omega)⟩
               clear hown' hgrow3 hnil3))
          go_roundw
          case rel => exact ⟨i + 1, by omega, by go_num, HJ.out.1, HJ.out.2⟩
          case measure => simp [intOf]; omega
      · have hdv : d = c := by rw [← HD.out]; unfold lowC; rw [if_neg hAZ]
        have HV : Hid (d = c) := hdv
        have hz' : (c.toNat : Int) < 65 ∨ 90 < (c.toNat : Int) := by omega
        clear hdv hAZ
        rcases hz' with hz' | hz'
        all_goals
          rcases HO.out.2 with ⟨e0, -⟩ | ⟨g0, cap0, cur, e0, _, _, _, _, _, _⟩
          all_goals
            subst e0
            try have a1 : ¬ (65 : Int) ≤ (c.toNat : Int) := by omega
            try have a2 : (65 : Int) ≤ (c.toNat : Int) := by omega
            try have a3 : ¬ (c.toNat : Int) ≤ 90 := by omega
            go_wp2_with (first
              | (at_builtin; refine wpList_append_own _ rfl _ _ 62 rfl w.heap.size 5 i0 (.int .u8 0) 1 1 Tryd.underlying62 hi hz0 hz1 hz2 rfl (by decide) _ i (cellsU (lowT s i)) rfl (HO.out.alloc _) ⟨wr.heap.size, 0, none⟩ 1 1 [.int .u8 (c.toNat : Int)] rfl rfl (one_new _ _ _) (one_one _) (by unfold maxLen; omega) (by omega) (by have := HB.out.size; simp; omega) ?_; intro v' w3 hown' hgrow3 hnil3
                 have HJ : Hid (w3.ownsRow w.heap.size 5 1 v' (i + 1) (cellsU (lowT s (i + 1))) ∧ Below w.heap.size w w3) := ⟨by rw [lowT_snoc s i hp, cellsU_snoc, HC.out, HD.out, HV.out]; exact hown', Below.grown (HB.out.alloc HB.out.size _) hgrow3 (by have := HB.out.size; simp; omega) (fun k hk => by have := (HO.out.lt _ hk).1; omega)⟩
                 clear hown' hgrow3 hnil3))
            go_roundw
            case rel => exact ⟨i + 1, by omega, by go_num, HJ.out.1, HJ.out.2⟩
            case measure => simp [intOf]; omega
    · have hp' : ¬ (i : Int) < (s.size : Int) := by omega
      obtain rfl : i = s.size := by omega
      rcases HO.out.2 with ⟨e0, z0⟩ | ⟨g, cap, cur, e0, hg, hh, h3, h4, h5, h6⟩
      · subst e0
        have hcb := convert_nil wr
        have hL : lowB s = ⟨#[]⟩ := by
          have := lowT_all s
          rw [← this, z0]
          rfl
        have HL : Hid (lowB s = ⟨#[]⟩) := hL
        clear hL z0
        go_wp2_with fail
        go_ret
        exact ⟨ret_str HL.out.symm, HB.out⟩
      · subst e0
        have hcb := run_convert_bytes_back (P := Tryd.prog) wr 62 9 5 ⟨g, 0, none⟩ cap (lowT s s.size) Tryd.underlying62 Tryd.underlying5 Tryd.underlying9 (fun j hj => by
          have := HO.out.cells (g := g) rfl j _ (by rw [cellsU, List.getElem?_map, List.getElem?_eq_getElem hj]; rfl)
          exact this)
        rw [lowT_length s s.size (Nat.le_refl _), lowT_all] at hcb
        clear hh h6
        go_wp2_with fail
        go_ret
        exact ⟨rfl, HB.out⟩
theorem rsame_any (a b : ByteArray) (ha : a.size ≤ 140737488351232) (hb : b.size ≤ 140737488351232) (w : World) :
    Calls Tryd.prog 77 #[.string a, .string b] w fun e w' => e = zr (.bool (sameB a b)) ∧ Below w.heap.size w w' := by
  go_enter Tryd.func77, Tryd.ntmps77
  go_wp2_with fail
  refine (rlower_any a ha _).mono ?_
  rintro e w1 ⟨rfl, B1⟩
  go_wp2_with fail
  refine (rlower_any b hb _).mono ?_
  rintro e w2 ⟨rfl, b2⟩
  have B2 := B1.trans (b2.mono B1.size)
  clear b2 B1
  go_wp2_with fail
  go_ret
  exact ⟨ret_bool (toList_eq _ _), B2⟩
end Go.Proofs.YtaoocecipacnhaaDoor
