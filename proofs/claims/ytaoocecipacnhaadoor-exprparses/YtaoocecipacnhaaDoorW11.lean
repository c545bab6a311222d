import Derived.Test.YtaoocecipacnhaaDoorWz
import Derived.Test.YtaoocecipacnhaaDoorW10
import Derived.OwnWalk
open Go.Value renaming int → vi
open Go.IntKind renaming i64 → ki
open List renaming setIfInBounds_toArray → zb, set_cons_zero → zc, set_cons_succ → zd
open Go.Act renaming put → za
open Go.Ending renaming returned → zr
set_option maxRecDepth 100000
set_option maxHeartbeats 16000000
set_option linter.unusedVariables false
namespace Go.Proofs.YtaoocecipacnhaaDoor
open Go.RowKit
theorem infoNode : (Tryd.prog.info? 24).map (fun i => (i.zero, i.size, i.bytes)) = some (some (.agg #[vi ki 0, .string ByteArray.empty, .slice none 0 0, vi ki 0]), 4, 56) := by kernel_rfl
theorem append_new {P : Program} (w : World) (base : Nat) (t ty e : TypeId) (i : TypeInfo) (z : Value) (size bytes : Nat) (ht : P.underlying t = some (.slice e)) (hi : P.info? e = some i) (hz : i.zero = some z)
  (hsize : i.size = size) (hby : i.bytes = bytes) (hzs : z.cells.size = size) (hsz : 0 < size)
  (v : Value) (n : Nat) (xs : List Value) (hown : w.ownsRow base e size v n xs)
  (a : Addr) (c : Nat) (news : List Value) (hl : news.length = 1 * size) (hnews : ∀ j u, news[j]? = some u → w.cell? (a.add j) = some u) (h1 : ∀ u ∈ news, u.oneCell' = true)
  (h63 : n + 1 ≤ maxLen) (hbytes : (n + 1) * bytes ≤ 140737488355328) (hbase : base ≤ w.heap.size) :
  ∃ v' w', (Builtin.append_ #[t, t] ty #[v, .slice (some a) 1 c]).run P w = .ok v' w' ∧ w'.ownsRow base e size v' (n + 1) (xs ++ news) ∧ w.grownBy w' v.ownBlock ∧ (∀ k, v'.ownBlock = some k → v.ownBlock = some k ∨ k = w.heap.size) := by
 obtain ⟨v', w', hr, h2, h3, _⟩ := run_append_own (P := P) w base t ty e i z size bytes ht hi hz hsize hby hzs hsz v n xs hown a 1 c news hl hnews h1 h63 hbytes hbase
 refine ⟨v', w', hr, h2, h3, fun k hk => ?_⟩
 subst hsize
 subst hby
 have hsmall : n + 1 ≤ 9223372036854775807 := by simp only [maxLen] at h63; omega
 rcases hown.2 with ⟨rfl, rfl⟩ | ⟨g, cap, cur, rfl, hbg, hg, hnc, hcm, hcs, htake⟩
 ·have hr2 := run_append_nil (P := P) w t ty e i z ht hi hz a 1 c news hl hnews (by omega) (by omega) (by have hb := hbytes; simp only [Nat.zero_add] at hb; omega)
  rw [hr2] at hr
  cases hr; cases hk; exact .inr rfl
 ·by_cases hroom : n + 1 ≤ cap
  ·have hfit : n * i.size + news.length ≤ cur.size := by rw [hl, hcs, ← Nat.add_mul]; exact Nat.mul_le_mul_right _ hroom
   have hr2 := run_append_room (P := P) w t ty e i ht hi g n cap cur hg a 1 c news hl hnews h1 hroom hfit
   rw [hr2] at hr
   cases hr; exact .inl hk
  ·have hr2 := run_append_grow (P := P) w t ty e i z ht hi hz ⟨g, 0, none⟩ n cap xs hown.1 (hown.cells (g := g) rfl) a 1 c news hl hnews (by omega) (by omega) (growslice_fits (by omega) hbytes)
   rw [hr2] at hr
   cases hr; cases hk; exact .inr rfl
theorem wpl_append_new {P : Program} {w : World} {ops : Array Oper} {rest : List Oper} {o : Oper} {a : Act} {Q : Exit → Act → World → Prop} (hgd : o.guard = none) (s x : Operand) (t : TypeId)
  (ho : o.op = .call { callee := .builtin .append, args := #[s, x], argTypes := #[t, t] })
  (base : Nat) (e : TypeId) (i : TypeInfo) (z : Value) (size bytes : Nat) (ht : P.underlying t = some (.slice e)) (hi : P.info? e = some i) (hz : i.zero = some z)
  (hsize : i.size = size) (hby : i.bytes = bytes) (hzs : z.cells.size = size) (hsz : 0 < size)
  (v : Value) (n : Nat) (xs : List Value) (hs : a.eval s = v) (hown : w.ownsRow base e size v n xs)
  (ad : Addr) (c : Nat) (news : List Value) (hx : a.eval x = .slice (some ad) 1 c) (hl : news.length = 1 * size) (hnews : ∀ j u, news[j]? = some u → w.cell? (ad.add j) = some u) (h1 : ∀ u ∈ news, u.oneCell' = true)
  (h63 : n + 1 ≤ maxLen) (hbytes : (n + 1) * bytes ≤ 140737488355328) (hbase : base ≤ w.heap.size)
  (h : ∀ v' w', w'.ownsRow base e size v' (n + 1) (xs ++ news) → w.grownBy w' v.ownBlock → (∀ k, v'.ownBlock = some k → v.ownBlock = some k ∨ k = w.heap.size) → wpList P ops Q rest (a.put o.dst v') w') : wpList P ops Q (o :: rest) a w := by
 refine wpList_plain hgd fun K hK => ?_
 obtain ⟨v', w', hr, h2, h3, h4⟩ := append_new (P := P) w base t o.type e i z size bytes ht hi hz hsize hby hzs hsz v n xs hown ad c news hl hnews h1 h63 hbytes hbase
 unfold Oper.wp
 simp [execOp, ho, resolve, invoke, builtin, hs, hx, hr, Result.andThen]
 exact hK _ _ (h v' w' h2 h3 h4)
def KidsL (X : Nat → Prop) (V : World) : List Nd → List Value → Prop
 | [], xs => xs = []
 | n :: l, xs => ∃ c0 c1 c2 c3 ys, xs = c0 :: c1 :: c2 :: c3 :: ys ∧ NdAt X V n [c0, c1, c2, c3] ∧ KidsL X V l ys
theorem KidsL.keep {X Y : Nat → Prop} {w W : World} (hs : w.heap.size ≤ W.heap.size) (h : ∀ b, X b → b < w.heap.size → Y b ∧ W.heap[b]? = w.heap[b]?) : ∀ (l : List Nd) (xs : List Value), KidsL X w l xs → KidsL Y W l xs
 | [], xs, hk => hk
 | n :: l, xs, ⟨c0, c1, c2, c3, ys, e, hn, hk⟩ => ⟨c0, c1, c2, c3, ys, e, NdAt.keep hs h _ _ hn, KidsL.keep hs h l ys hk⟩
theorem KidsL.snoc {X : Nat → Prop} {V : World} {n : Nd} {c0 c1 c2 c3 : Value} (hn : NdAt X V n [c0, c1, c2, c3]) : ∀ (l : List Nd) (xs : List Value), KidsL X V l xs → KidsL X V (l ++ [n]) (xs ++ [c0, c1, c2, c3])
 | [], xs, hk => by rw [show xs = [] from hk]; exact ⟨c0, c1, c2, c3, [], rfl, hn, rfl⟩
 | m :: l, xs, ⟨d0, d1, d2, d3, ys, e, hm, hk⟩ => by rw [e]; exact ⟨d0, d1, d2, d3, ys ++ [c0, c1, c2, c3], rfl, hm, KidsL.snoc hn l ys hk⟩
theorem KidsL.row {X : Nat → Prop} {V : World} {b : Nat} : ∀ (l : List Nd) (xs : List Value) (i : Nat), (∀ j v, xs[j]? = some v → V.cell? ⟨b, i * 4 + j, none⟩ = some v) → KidsL X V l xs → RwAt X V b i l
 | [], xs, i, hc, hk => by rw [RwAt]; trivial
 | n :: l, xs, i, hc, ⟨c0, c1, c2, c3, ys, e, hn, hk⟩ => by
  subst e
  rw [RwAt]
  refine ⟨⟨c0, c1, c2, c3, hc 0 _ rfl, hc 1 _ rfl, hc 2 _ rfl, hc 3 _ rfl, hn⟩, KidsL.row l ys (i + 1) (fun j v hv => ?_) hk⟩
  have := hc (j + 4) v (by simpa using hv)
  rwa [show i * 4 + (j + 4) = (i + 1) * 4 + j by omega] at this
def KL (g b cap : Nat) (T : List Tk) (w : World) (d : Nat) (L : List Tk) (acc : List Nd) (sq : Option Addr) (sn sc : Nat) (xs : List Value) (V : World) : Prop :=
 Kp g w V ∧ Bx V w.heap.size [vi ki 0, .string ⟨#[]⟩, .slice none 0 0, vi ki 0] ∧ Bx V (w.heap.size + 1) [vi ki 9, .string ⟨#[]⟩, .slice sq sn sc, vi ki 0] ∧ PS g b cap T V L d ∧ EndL L ∧ V.ownsRow (w.heap.size + 2) 24 4 (.slice sq sn sc) acc.length xs ∧ KidsL (fun c => w.heap.size + 2 ≤ c ∧ (Value.slice sq sn sc).ownBlock ≠ some c) V acc xs
theorem ownsRow_kp {g : Nat} {w W : World} {base : Nat} {e : TypeId} {size : Nat} {v : Value} {n : Nat} {xs : List Value} (h : w.ownsRow base e size v n xs) (hk : Kp g w W) (hg : g < base) : W.ownsRow base e size v n xs :=
 ownsRow_keep h (fun k h1 h2 => hk.block k h2 (by omega))
theorem KL.kp {g b cap : Nat} {T : List Tk} {w : World} {d : Nat} {L L' : List Tk} {acc : List Nd} {sq : Option Addr} {sn sc : Nat} {xs : List Value} {V V' : World} (h : KL g b cap T w d L acc sq sn sc xs V) (hg : g < w.heap.size) (hk : Kp g V V') (hp : PS g b cap T V' L' d) (he : EndL L') : KL g b cap T w d L' acc sq sn sc xs V' :=
 ⟨h.1.trans hk, hk.bx h.2.1 (by omega), hk.bx h.2.2.1 (by omega), hp, he, ownsRow_kp h.2.2.2.2.2.1 hk (by omega), KidsL.keep hk.size (fun c hc hl => ⟨hc, hk.block c hl (by omega)⟩) _ _ h.2.2.2.2.2.2⟩
theorem KL.more {g b cap : Nat} {T : List Tk} {w : World} {d : Nat} {L : List Tk} {acc : List Nd} {sq sq' : Option Addr} {sn sc sn' sc' : Nat} {xs : List Value} {V V' : World} {n : Nd} {c0 c1 c2 c3 : Value} (h : KL g b cap T w d L acc sq sn sc xs V) (hg : g < w.heap.size) (hbl : b < w.heap.size)
  (hn : NdAt (fun c => w.heap.size + 2 ≤ c ∧ (Value.slice sq sn sc).ownBlock ≠ some c) V n [c0, c1, c2, c3]) (hgr : V.grownBy V' (Value.slice sq sn sc).ownBlock) (hnew : ∀ c, (Value.slice sq' sn' sc').ownBlock = some c → c < V.heap.size → (Value.slice sq sn sc).ownBlock = some c)
  (hown : V'.ownsRow (w.heap.size + 2) 24 4 (.slice sq' sn' sc') (acc ++ [n]).length (xs ++ [c0, c1, c2, c3])) : KL g b cap T w d L (acc ++ [n]) sq' sn' sc' (xs ++ [c0, c1, c2, c3]) (V'.setCell ⟨w.heap.size + 1, 2, none⟩ (.slice sq' sn' sc')) := by
 have hob : ∀ c, (Value.slice sq sn sc).ownBlock = some c → w.heap.size + 2 ≤ c := by
  intro c hc
  rcases h.2.2.2.2.2.1.2 with ⟨e, _⟩ | ⟨g1, cp, cur, e, h1, _⟩
  ·rw [e] at hc; cases hc
  ·rw [e] at hc; cases hc; exact h1
 have hob' : ∀ c, (Value.slice sq' sn' sc').ownBlock = some c → w.heap.size + 2 ≤ c := by
  intro c hc
  rcases hown.2 with ⟨e, _⟩ | ⟨g1, cp, cur, e, h1, _⟩
  ·rw [e] at hc; cases hc
  ·rw [e] at hc; cases hc; exact h1
 have hz := h.1.size
 have hz1 := h.2.2.1.1
 have bl : ∀ c, c < V.heap.size → (Value.slice sq sn sc).ownBlock ≠ some c → V'.heap[c]? = V.heap[c]? := fun c hc hne => hgr.block c hc (fun e => hne e.symm)
 have kp : Kp g w V' := ⟨hgr.os.trans h.1.os, hgr.tape.trans h.1.tape, hgr.output.trans h.1.output, Nat.le_trans hz hgr.size, fun k hk hg' => (bl k (by omega) (fun e => by have := hob _ e; omega)).trans (h.1.block k hk hg')⟩
 have bx : ∀ b l, b < w.heap.size + 2 → Bx V b l → Bx V' b l := fun b l hb hB => by
  have q := bl b hB.1 (fun e => by have := hob _ e; omega)
  exact ⟨Nat.lt_of_lt_of_le hB.1 hgr.size, fun i v e => ⟨(World.cell?_of_block (w := V) (a := ⟨b, i, none⟩) q).trans (hB.2 i v e).1, (World.frozen?_of_block (w := V) (a := ⟨b, i, none⟩) q).trans (hB.2 i v e).2⟩⟩
 have k2 : ∀ c, c < V'.heap.size → c ≠ w.heap.size + 1 → (V'.setCell ⟨w.heap.size + 1, 2, none⟩ (.slice sq' sn' sc')).heap[c]? = V'.heap[c]? := fun c _ hc => Below.heap_setCell _ _ _ _ hc
 refine ⟨kp.set (p := ⟨w.heap.size + 1, 2, none⟩) (.inr (by show _ ≤ w.heap.size + 1; omega)) _, (bx _ _ (by omega) h.2.1).setOther (by omega) [_] 2, (bx _ _ (by omega) h.2.2.1).set1 2 _ (by simp), ?_, h.2.2.2.2.1, ?_, ?_⟩
 ·refine PS.off (r := w.heap.size + 1) (h.2.2.2.1.keep hgr.size (fun c hc => bl c ?_ ?_)) k2 (by simp) (by omega) (by omega)
  ·rcases hc with rfl | rfl; exact h.2.2.2.1.lt; exact h.2.2.2.1.tr.1
  ·intro e; have := hob _ e; rcases hc with rfl | rfl <;> omega
 ·exact ownsRow_keep hown (fun c h1 h2 => Below.heap_setCell _ _ _ _ (by show c ≠ w.heap.size + 1; omega))
 ·refine KidsL.keep (w := V) (by simpa using hgr.size) (fun c hc hl => ⟨⟨hc.1, fun e => hc.2 (hnew c e hl)⟩, ?_⟩) _ _ (KidsL.snoc hn _ _ h.2.2.2.2.2.2)
  rw [Below.heap_setCell _ _ _ _ (by show c ≠ w.heap.size + 1; omega)]; exact bl c hl hc.2
theorem ob_lt {w : World} {base : Nat} {e : TypeId} {size : Nat} {v : Value} {n : Nat} {xs : List Value} (h : w.ownsRow base e size v n xs) {c : Nat} (hc : v.ownBlock = some c) : base ≤ c ∧ c < w.heap.size := by
 rcases h.2 with ⟨rfl, _⟩ | ⟨g1, cp, cur, rfl, h1, h2, _⟩
 ·cases hc
 ·cases hc; exact ⟨h1, (Array.getElem?_eq_some_iff.1 h2).1⟩
theorem own_form {w : World} {base : Nat} {e : TypeId} {size : Nat} {v : Value} {n : Nat} {xs : List Value} (h : w.ownsRow base e size v n xs) : ∃ sq sn sc, v = .slice sq sn sc := by
 rcases h.2 with ⟨rfl, _⟩ | ⟨g1, cp, cur, rfl, _⟩ <;> exact ⟨_, _, _, rfl⟩
theorem KL.node {g b cap : Nat} {T : List Tk} {w : World} {d : Nat} {L : List Tk} {acc : List Nd} {sq : Option Addr} {sn sc : Nat} {xs : List Value} {V : World} (h : KL g b cap T w d L acc sq sn sc xs V) (h0 : 0 < acc.length) : NdAt (fun c => w.heap.size + 2 ≤ c) V (.mk 9 ⟨#[]⟩ acc 0) [vi ki 9, .string ⟨#[]⟩, .slice sq sn sc, vi ki 0] := by
 have hown := h.2.2.2.2.2.1
 rcases hown.2 with ⟨e, h1⟩ | ⟨g1, cp, cur, e, h1, h2, h3, h4, h5, h6⟩
 ·omega
 ·cases e
  have hlt := (Array.getElem?_eq_some_iff.1 h2).1
  refine NdAt.row h0 h3 h4 h1 hlt (KidsL.row acc xs 0 (fun j v hv => ?_) (KidsL.keep (Nat.le_refl _) (fun c hc _ => ⟨hc.1, rfl⟩) _ _ h.2.2.2.2.2.2))
  have hj := (List.getElem?_eq_some_iff.1 hv).1
  rw [hown.1] at hj
  rw [Nat.zero_mul, Nat.zero_add, hown.cellAt j hj]; exact hv
theorem KL.grown {g b cap : Nat} {T : List Tk} {w : World} {d : Nat} {L : List Tk} {acc : List Nd} {sq : Option Addr} {sn sc : Nat} {xs : List Value} {V V' : World} (h : KL g b cap T w d L acc sq sn sc xs V) (hgr : V.grownBy V' (Value.slice sq sn sc).ownBlock) : Bx V' (w.heap.size + 1) [vi ki 9, .string ⟨#[]⟩, .slice sq sn sc, vi ki 0] := by
 have hB := h.2.2.1
 have q := hgr.block (w.heap.size + 1) hB.1 (fun e => by have := (ob_lt h.2.2.2.2.2.1 e.symm).1; omega)
 exact ⟨Nat.lt_of_lt_of_le hB.1 hgr.size, fun i v e => ⟨(World.cell?_of_block (w := V) (a := ⟨w.heap.size + 1, i, none⟩) q).trans (hB.2 i v e).1, (World.frozen?_of_block (w := V) (a := ⟨w.heap.size + 1, i, none⟩) q).trans (hB.2 i v e).2⟩⟩
theorem kids_any (g b cap : Nat) (T : List Tk) (N : Nat) (hNN : N ≤ 100000) (HM : Hid (LvOk g b cap T 27 0 N)) (r : Tk) (l2 : List Tk) (d f : Nat) (hL : EndL (r :: l2)) (hd : d ≤ 20) (hN : (r :: l2).length ≤ N) (hf : need (.ks []) (r :: l2) ≤ f) (w : World) (h : PS g b cap T w (r :: l2) d) :
  Calls Tryd.prog 101 #[.pointer (some ⟨g, 0, none⟩)] w fun e w' => Kp g w w' ∧ Out g b cap T (fun c => w.heap.size ≤ c) w' d e (if isT r [(5, b1 41)] then .ok (.mk 9 ⟨#[]⟩ [] 0) l2 else par f (.ks []) d (r :: l2)) := by
 obtain ⟨i0, hi0, iz0, iz1, iz2⟩ := info_parts infoNode
 obtain ⟨R, hR⟩ : ∃ R, R = (if isT r [(5, b1 41)] then PR.ok (.mk 9 ⟨#[]⟩ [] 0) l2 else par f (.ks []) d (r :: l2)) := ⟨_, rfl⟩
 rw [← hR]
 simp only [need, List.length_cons] at hf hN
 have HP : Hid _ := h
 have hg := h.lt
 have hbl := h.tr.1
 clear h
 go_enter Tryd.func101, Tryd.ntmps101
 go_wp2_with fail
 have B0 : Hid (BS w [(w.heap.size + 1 + 1, [vi ki 5, .string ⟨#[41]⟩]), (w.heap.size + 1, [vi ki 9, .string ⟨#[]⟩, .slice none 0 0, vi ki 0]), (w.heap.size, [vi ki 0, .string ⟨#[]⟩, .slice none 0 0, vi ki 0])] _) := ((((BS.start w).new [vi ki 0, .string ⟨#[]⟩, .slice none 0 0, vi ki 0] 24 rfl).new [vi ki 9, .string ⟨#[]⟩, .slice none 0 0, vi ki 0] 24 (by simp)).new [vi ki 5, .string ⟨#[41]⟩] 79 (by simp))
 refine (is_any g b cap T r l2 d [(5, b1 41)] (w.heap.size + 1 + 1) 1 _ (HP.out.below B0.out.1) (by simp) (by omega) (by simp) (B0.out.at (w.heap.size + 1 + 1) [vi ki 5, .string ⟨#[41]⟩] (by simp))).mono ?_
 rintro e W1 ⟨rfl, hb⟩
 have hk : Kp g _ W1 := Kp.of hb
 have hz1 : w.heap.size + 3 ≤ W1.heap.size := by have := hk.size; (try simp at this); omega
 have K1 : Hid (Kp g w W1) := (Kp.of B0.out.1).trans hk
 have H1_0 : Hid (Bx W1 (w.heap.size) [vi ki 0, .string ⟨#[]⟩, .slice none 0 0, vi ki 0]) := hk.bx (B0.out.at (w.heap.size) [vi ki 0, .string ⟨#[]⟩, .slice none 0 0, vi ki 0] (by simp)) (by omega)
 have H1_1 : Hid (Bx W1 (w.heap.size + 1) [vi ki 9, .string ⟨#[]⟩, .slice none 0 0, vi ki 0]) := hk.bx (B0.out.at (w.heap.size + 1) [vi ki 9, .string ⟨#[]⟩, .slice none 0 0, vi ki 0] (by simp)) (by omega)
 have H1_2 : Hid (Bx W1 (w.heap.size + 1 + 1) [vi ki 5, .string ⟨#[41]⟩]) := hk.bx (B0.out.at (w.heap.size + 1 + 1) [vi ki 5, .string ⟨#[41]⟩] (by simp)) (by omega)
 have Q1 : Hid _ := (HP.out.below B0.out.1).below hb
 clear B0 hb
 clear hk
 by_cases hi : isT r [(5, b1 41)] = true
 ·rw [hi]
  rw [if_pos hi] at hR
  have hEl : EndL l2 := EndL.tail hL (isT_kind hi (by simp))
  obtain ⟨y, l3, rfl⟩ := hEl.cons
  have HE2 : Hid (EndL (y :: l3)) := hEl
  have HR0 : Hid (R = .ok (.mk 9 ⟨#[]⟩ [] 0) (y :: l3)) := hR
  clear hR hEl
  have hl1_0 := H1_0.out.1
  obtain ⟨c1_0_0, c1_0_1, c1_0_2, c1_0_3⟩ := H1_0.out.d4
  have hl1_1 := H1_1.out.1
  obtain ⟨c1_1_0, c1_1_1, c1_1_2, c1_1_3⟩ := H1_1.out.d4
  go_wp2_with fail
  refine (next_any g b cap T r y l3 d _ Q1.out).mono ?_
  rintro e W2 ⟨rfl, hk, hp⟩
  have hz2 : W1.heap.size + 0 ≤ W2.heap.size := by have := hk.size; (try simp at this); omega
  have K2 : Hid (Kp g w W2) := K1.out.trans hk
  have H2_0 : Hid (Bx W2 (w.heap.size) [vi ki 0, .string ⟨#[]⟩, .slice none 0 0, vi ki 0]) := hk.bx H1_0.out (by omega)
  have H2_1 : Hid (Bx W2 (w.heap.size + 1) [vi ki 9, .string ⟨#[]⟩, .slice none 0 0, vi ki 0]) := hk.bx H1_1.out (by omega)
  have H2_2 : Hid (Bx W2 (w.heap.size + 1 + 1) [vi ki 5, .string ⟨#[41]⟩]) := hk.bx H1_2.out (by omega)
  clear hl1_0 c1_0_0 c1_0_1 c1_0_2 c1_0_3 hl1_1 c1_1_0 c1_1_1 c1_1_2 c1_1_3 H1_0 H1_1 H1_2 K1
  have Q2' : Hid _ := hp
  clear hp hk
  have hl2_0 := H2_0.out.1
  obtain ⟨c2_0_0, c2_0_1, c2_0_2, c2_0_3, z2_0_0, z2_0_1, z2_0_2, z2_0_3⟩ := H2_0.out.cf4
  have hl2_1 := H2_1.out.1
  obtain ⟨c2_1_0, c2_1_1, c2_1_2, c2_1_3⟩ := H2_1.out.d4
  obtain ⟨y0', y1', y2', y3', HFK, HFO, HFS, r0, r1, r2, r3, s0, s1, s2, s3, hrw'⟩ := fin9 (vi ki 9) (.string ⟨#[]⟩) (.slice none 0 0) (vi ki 0) K2.out (by omega) (H2_0.out)
  go_wp2
  refine bodyPost_ret (v := .tuple #[.agg #[vi ki 9, .string ⟨#[]⟩, .slice none 0 0, vi ki 0], .bool true]) (by simp [results, Tryd.results101, go_sem, y0', y1', y2', y3']) rfl ⟨HFK.out, by rw [HR0.out]; exact ⟨Q2'.out.off HFO.out HFS.out (by omega) (by omega), HE2.out, _, _, _, _, _, _, rfl, NdAt.leaf _ _ _ _ _⟩⟩
 ·rw [Bool.not_eq_true] at hi
  rw [hi] at hR ⊢
  rw [if_neg (by simp)] at hR
  have HR0 : Hid (par f (.ks []) d (r :: l2) = R) := hR.symm
  clear hR
  have HS0 : Hid (KL g b cap T w d (r :: l2) [] none 0 0 [] W1) := ⟨K1.out, H1_0.out, H1_1.out, Q1.out, hL, World.ownsRow_nil _ _ _ _, rfl⟩
  have hl11 : w.heap.size + 1 < W1.heap.size := HS0.out.2.2.1.1
  clear H1_0 H1_1 H1_2 K1 Q1
  go_wp2_with fail
  go_loopw [] (fun W => ∃ (acc : List Nd) (l1 : List Tk) (f1 : Nat) (sq : Option Addr) (sn sc : Nat) (xs : List Value), Hid (KL g b cap T w d l1 acc sq sn sc xs W) ∧ acc.length + l1.length ≤ N ∧ Hid (10 * l1.length + 11 ≤ f1) ∧ Hid (par f1 (.ks acc) d l1 = R)) (fun W => lenAt g W)
  case atStart => exact ⟨[], r :: l2, f, none, 0, 0, [], HS0, by simp; omega, by show _ ≤ _; simp; omega, HR0⟩
  case round =>
   clear HS0 HR0 hL
   obtain ⟨acc, l1, f1, sq, sn, sc, xs, KK, hN1, HF0, HR0⟩ := hrel
   obtain ⟨p, l, rfl⟩ := KK.out.2.2.2.2.1.cons
   have HE1 : Hid (EndL (p :: l)) := KK.out.2.2.2.2.1
   obtain ⟨f1, rfl⟩ : ∃ f', f1 = f' + 1 := ⟨f1 - 1, by have := HF0.out; omega⟩
   have HPL : Hid (lenAt g wr = (p :: l).length) := KK.out.2.2.2.1.len
   have hw1 : w.heap.size + 1 < wr.heap.size := KK.out.2.2.1.1
   simp only [List.length_cons] at hN1 HPL
   have hf2 : need (.lv 0) (p :: l) ≤ f1 := by have := HF0.out; simp only [need, List.length_cons] at this ⊢; omega
   have HC0 : Hid (∀ V : World, PS g b cap T V (p :: l) d → Calls Tryd.prog 27 #[.pointer (some ⟨g, 0, none⟩)] V fun e w' => Kp g V w' ∧ Out g b cap T (fun c => V.heap.size ≤ c) w' d e (par f1 (.lv 0) d (p :: l))) := fun V hV => HM.out V _ d f1 hV HE1.out hd (by simp only [List.length_cons]; omega) hf2
   have eL : par (f1 + 1) (.ks acc) d (p :: l) = match par f1 (.lv 0) d (p :: l) with | .no a e => .no a e | .ok n [] => .no 0 0 | .ok n (q :: l1) => if isT q [(5, b1 44)] then par f1 (.ks (acc ++ [n])) d l1 else if isT q [(5, b1 41)] then .ok (.mk 9 ByteArray.empty (acc ++ [n]) 0) l1 else .no q.2.2 30 := by
    rw [par_succ]; unfold pst; dsimp only; cases par f1 (.lv 0) d (p :: l) with | no a e => rfl | ok n l1 => cases l1 <;> rfl
   have hR1 := HR0.out
   rw [eL] at hR1
   clear eL HR0
   cases hr : par f1 (.lv 0) d (p :: l) with
   | no ea er =>
    rw [hr] at HC0 hR1
    have HR1 : Hid (R = .no ea er) := hR1.symm
    have HC : Hid _ := HC0
    clear hR1 hr HC0
    go_wp2_with fail
    refine (HC.out _ KK.out.2.2.2.1).mono ?_
    rintro e W2 ⟨hk2, hf2', rfl⟩
    have K9 : Hid (Kp g w W2) := KK.out.1.trans hk2
    have H9 : Hid (Bx W2 w.heap.size _) := hk2.bx KK.out.2.1 (by omega)
    have HF6 : Hid (PF g W2 d ea er) := hf2'
    clear hk2 hf2'
    obtain ⟨y0', y1', y2', y3', HFK, HFO, HFS, r0, r1, r2, r3, s0, s1, s2, s3, hrw'⟩ := fin8 [.cells #[vi ki 0, .string ⟨#[]⟩, .slice none 0 0, vi ki 0] 24] (vi ki 0) (.string ⟨#[]⟩) (.slice none 0 0) (vi ki 0) K9.out (by omega) (H9.out)
    simp only [List.foldl, World.setCells, Nat.zero_add, Nat.reduceAdd] at y0' y1' y2' y3'
    go_wp2
    refine bodyPost_ret (v := .tuple #[.agg #[vi ki 0, .string ⟨#[]⟩, .slice none 0 0, vi ki 0], .bool false]) (by simp [results, Tryd.results101, go_sem, y0', y1', y2', y3']) rfl ⟨HFK.out, by rw [HR1.out]; exact ⟨PF.off HF6.out HFO.out HFS.out (by omega), rfl⟩⟩
   | ok n l1 =>
    rw [hr] at HC0 hR1
    have hls := par_less (g := .lv 0) (by simp [okTg]) HE1.out hf2 hr
    obtain ⟨q, l2, rfl⟩ := hls.1.cons
    have HE2 : Hid (EndL (q :: l2)) := hls.1
    have hls2 := hls.2
    simp only [most, List.length_cons] at hls2
    dsimp only at hR1
    have HC : Hid _ := HC0
    have HRq : Hid _ := hR1
    clear hR1 hr HC0 hls
    go_wp2_with fail
    refine (HC.out _ KK.out.2.2.2.1).mono ?_
    rintro e W2 ⟨hk2, hps, hend, k2, u2, sq2, sn2, sc2, a2, rfl, hnd⟩
    have K2 : Hid (KL g b cap T w d (q :: l2) acc sq sn sc xs W2) := KK.out.kp hg hk2 hps HE2.out
    have N2 : Hid (NdAt (fun c => w.heap.size + 2 ≤ c ∧ (Value.slice sq sn sc).ownBlock ≠ some c) W2 n [vi ki k2, .string u2, .slice sq2 sn2 sc2, vi ki a2]) := NdAt.keep (Nat.le_refl _) (fun c hc _ => ⟨⟨by omega, fun e => by have := (ob_lt KK.out.2.2.2.2.2.1 e).2; omega⟩, rfl⟩) _ _ hnd
    clear hk2 hps hend hnd KK hw1
    have hw2 : w.heap.size + 1 < W2.heap.size := K2.out.2.2.1.1
    have B2 : Hid (BS W2 [(W2.heap.size, [vi ki k2, .string u2, .slice sq2 sn2 sc2, vi ki a2])] _) := (BS.start W2).new [vi ki k2, .string u2, .slice sq2 sn2 sc2, vi ki a2] 24 rfl
    go_upto_region 8 with fail
    obtain ⟨B5, hB5⟩ : ∃ B5, B5 = W2.heap.size := ⟨_, rfl⟩
    refine gen_to (fun V => KL g b cap T w d (q :: l2) acc sq sn sc xs V ∧ Bx V B5 [vi ki k2, .string u2, .slice sq2 sn2 sc2, vi ki a2] ∧ NdAt (fun c => w.heap.size + 2 ≤ c ∧ (Value.slice sq sn sc).ownBlock ≠ some c) V n [vi ki k2, .string u2, .slice sq2 sn2 sc2, vi ki a2]) ⟨?_, ?_, ?_⟩ ?_
    ·exact K2.out.kp hg (Kp.of B2.out.1) (K2.out.2.2.2.1.below B2.out.1) HE2.out
    ·rw [hB5]; exact B2.out.first
    ·exact N2.out.kp (g := g) (Kp.of B2.out.1) (fun c hc => ⟨hc, by omega⟩)
    rintro W3 ⟨hc3, hb3, hn3⟩
    have K3 : Hid (KL g b cap T w d (q :: l2) acc sq sn sc xs W3) := hc3
    have H5 : Hid (Bx W3 B5 [vi ki k2, .string u2, .slice sq2 sn2 sc2, vi ki a2]) := hb3
    have N3 : Hid (NdAt (fun c => w.heap.size + 2 ≤ c ∧ (Value.slice sq sn sc).ownBlock ≠ some c) W3 n [vi ki k2, .string u2, .slice sq2 sn2 sc2, vi ki a2]) := hn3
    rw [← hB5]
    have h5w : w.heap.size + 1 < B5 := by omega
    clear hc3 hb3 hn3 K2 N2 B2 hB5 hw2
    have hw3 : w.heap.size + 1 < W3.heap.size := K3.out.2.2.1.1
    have hw5 : B5 < W3.heap.size := H5.out.1
    obtain ⟨c50, c51, c52, c53⟩ := H5.out.d4
    obtain ⟨c90, c91, c92, c93⟩ := K3.out.2.2.1.d4
    have BR : Hid (BS W3 [(W3.heap.size, [vi ki k2, .string u2, .slice sq2 sn2 sc2, vi ki a2])] (W3.alloc (.cells #[vi ki k2, .string u2, .slice sq2 sn2 sc2, vi ki a2] 24))) := (BS.start W3).new [vi ki k2, .string u2, .slice sq2 sn2 sc2, vi ki a2] 24 rfl
    have KR : Hid (KL g b cap T w d (q :: l2) acc sq sn sc xs (W3.alloc (.cells #[vi ki k2, .string u2, .slice sq2 sn2 sc2, vi ki a2] 24))) := K3.out.kp hg (Kp.of BR.out.1) (K3.out.2.2.2.1.below BR.out.1) HE2.out
    have NR : Hid (NdAt (fun c => w.heap.size + 2 ≤ c ∧ (Value.slice sq sn sc).ownBlock ≠ some c) (W3.alloc (.cells #[vi ki k2, .string u2, .slice sq2 sn2 sc2, vi ki a2] 24)) n [vi ki k2, .string u2, .slice sq2 sn2 sc2, vi ki a2]) := N3.out.kp (g := g) (Kp.of BR.out.1) (fun c hc => ⟨hc, by omega⟩)
    have hsl : (sq = none ∧ sn = 0 ∧ sc = 0) ∨ ∃ g0, sq = some ⟨g0, 0, none⟩ := by
     rcases KR.out.2.2.2.2.2.1.2 with ⟨e0, _⟩ | ⟨g0, cap0, cur, e0, _⟩
     ·cases e0; exact .inl ⟨rfl, rfl, rfl⟩
     ·cases e0; exact .inr ⟨g0, rfl⟩
    rcases hsl with ⟨rfl, rfl, rfl⟩ | ⟨g0, rfl⟩
    all_goals
     go_wp2_with (at_builtin; refine Hid.out ?_)
     unfold Hid
     refine wpl_append_new rfl _ _ 22 rfl (w.heap.size + 2) 24 i0 (.agg #[vi ki 0, .string ByteArray.empty, .slice none 0 0, vi ki 0]) 4 56 Tryd.underlying22 hi0 iz0 iz1 iz2 rfl (by decide) _ acc.length xs rfl (KR.out.2.2.2.2.2.1) ⟨W3.heap.size, 0, none⟩ 1 [vi ki k2, .string u2, .slice sq2 sn2 sc2, vi ki a2] rfl rfl (fun j u hj => by rw [show (⟨W3.heap.size, 0, none⟩ : Addr).add j = ⟨W3.heap.size, j, none⟩ from by rw [Addr.add_lit]; simp]; exact (BR.out.first.2 j u hj).1) (by intro u hu; simp at hu; rcases hu with rfl | rfl | rfl | rfl <;> rfl) (by unfold maxLen; omega) (by omega) (by have := KR.out.1.size; have := KR.out.2.2.1.1; omega) ?_
     intro v' w4 hown' hgrow hnew
     obtain ⟨sq', sn', sc', hv'⟩ := own_form hown'
     subst hv'
     have HO : Hid _ := hown'
     have HG : Hid _ := hgrow
     have HW4 : Hid _ := hnew
     have hB4 := KR.out.grown hgrow
     have c41 := hB4.c 2 rfl
     have z41 := hB4.f 2 rfl
     have hl4 := hB4.1
     clear hown' hgrow hnew hB4
     go_wp2_with fail
     have KM : Hid (KL g b cap T w d (q :: l2) (acc ++ [n]) sq' sn' sc' (xs ++ [vi ki k2, .string u2, .slice sq2 sn2 sc2, vi ki a2]) (w4.setCell ⟨w.heap.size + 1, 2, none⟩ (.slice sq' sn' sc'))) := KR.out.more hg hbl NR.out HG.out (fun c h1 h2 => (HW4.out c h1).resolve_right (by omega)) (by rw [show (acc ++ [n]).length = acc.length + 1 by simp]; exact HO.out)
     have hBx : Bx ((w4.setCell ⟨w.heap.size + 1, 2, none⟩ (.slice sq' sn' sc')).alloc (.cells #[vi ki 5, .string ⟨#[44]⟩] 79)) w4.heap.size [vi ki 5, .string ⟨#[44]⟩] := by
      have q9 := Bx.new (w4.setCell ⟨w.heap.size + 1, 2, none⟩ (.slice sq' sn' sc')) [vi ki 5, .string ⟨#[44]⟩] 79
      rw [show (w4.setCell ⟨w.heap.size + 1, 2, none⟩ (.slice sq' sn' sc')).heap.size = w4.heap.size by simp] at q9; exact q9
     refine (is_any g b cap T q l2 d [(5, b1 44)] w4.heap.size 1 _ (KM.out.2.2.2.1.below ((Below.refl _ _).alloc (Nat.le_refl _) _)) (by simp) (by omega) (by simp) hBx).mono ?_
     rintro e W5 ⟨rfl, hb⟩
     have K5 : Hid (KL g b cap T w d (q :: l2) (acc ++ [n]) sq' sn' sc' (xs ++ [vi ki k2, .string u2, .slice sq2 sn2 sc2, vi ki a2]) W5) := KM.out.kp hg (((Kp.refl g _).alloc _).trans (Kp.of hb)) ((KM.out.2.2.2.1.below ((Below.refl _ _).alloc (Nat.le_refl _) _)).below hb) HE2.out
     clear hb hBx KM HO HG HW4 KR NR BR K3 H5 N3 c41 z41 hl4 hw3 hw5 c50 c51 c52 c53 c90 c91 c92 c93
     have hw6 : w.heap.size + 1 < W5.heap.size := K5.out.2.2.1.1
     by_cases hi2 : isT q [(5, b1 44)] = true
     ·rw [hi2]
      have hR2 := HRq.out
      rw [if_pos hi2] at hR2
      have hEl : EndL l2 := EndL.tail HE2.out (isT_kind hi2 (by simp))
      obtain ⟨y, l3, rfl⟩ := hEl.cons
      have HE3 : Hid (EndL (y :: l3)) := hEl
      have HR2 : Hid (par f1 (.ks (acc ++ [n])) d (y :: l3) = R) := hR2
      clear hR2 HRq hEl
      simp only [List.length_cons] at hls2
      go_wp2_with fail
      refine (next_any g b cap T q y l3 d _ K5.out.2.2.2.1).mono ?_
      rintro e W6 ⟨rfl, hk6, hp6⟩
      have K6 : Hid (KL g b cap T w d (y :: l3) (acc ++ [n]) sq' sn' sc' (xs ++ [vi ki k2, .string u2, .slice sq2 sn2 sc2, vi ki a2]) W6) := K5.out.kp hg hk6 hp6 HE3.out
      clear hk6 hp6
      go_wp2
      exact ⟨⟨acc ++ [n], y :: l3, f1, sq', sn', sc', _, K6, by simp only [List.length_append, List.length_cons, List.length_nil]; omega, by have := HF0.out; simp only [List.length_cons] at this ⊢; show _ ≤ _; omega, HR2⟩, by rw [K6.out.2.2.2.1.len, HPL.out]; simp only [List.length_cons]; omega⟩
     ·have hi2' : isT q [(5, b1 44)] = false := by simpa using hi2
      rw [hi2']
      have hR2 := HRq.out
      rw [if_neg hi2] at hR2
      by_cases hi3 : isT q [(5, b1 41)] = true
      ·rw [if_pos hi3] at hR2
       have hEl : EndL l2 := EndL.tail HE2.out (isT_kind hi3 (by simp))
       obtain ⟨y, l3, rfl⟩ := hEl.cons
       have HE3 : Hid (EndL (y :: l3)) := hEl
       have HR2 : Hid (R = .ok (.mk 9 ByteArray.empty (acc ++ [n]) 0) (y :: l3)) := hR2.symm
       clear hR2 HRq hEl
       go_wp2_with fail
       refine (take_yes g b cap T q l3 d 5 (b1 41) _ y K5.out.2.2.2.1 hi3).mono ?_
       rintro e W6 ⟨rfl, hk6, hp6⟩
       have K6 : Hid (KL g b cap T w d (y :: l3) (acc ++ [n]) sq' sn' sc' (xs ++ [vi ki k2, .string u2, .slice sq2 sn2 sc2, vi ki a2]) W6) := K5.out.kp hg hk6 hp6 HE3.out
       clear hk6 hp6
       have K9 : Hid (Kp g w W6) := K6.out.1
       have H9 : Hid (Bx W6 w.heap.size _) := K6.out.2.1
       have H8 : Hid (Bx W6 (w.heap.size + 1) _) := K6.out.2.2.1
       have hl8 := H8.out.1
       obtain ⟨x0, x1, x2, x3⟩ := H8.out.d4
       obtain ⟨y0', y1', y2', y3', HFK, HFO, HFS, r0, r1, r2, r3, s0, s1, s2, s3, hrw'⟩ := fin9 (vi ki 9) (.string ⟨#[]⟩) (.slice sq' sn' sc') (vi ki 0) K9.out (by omega) (H9.out)
       go_wp2
       refine bodyPost_ret (v := .tuple #[.agg #[vi ki 9, .string ⟨#[]⟩, .slice sq' sn' sc', vi ki 0], .bool true]) (by simp [results, Tryd.results101, go_sem, y0', y1', y2', y3']) rfl ⟨HFK.out, by rw [HR2.out]; exact ⟨K6.out.2.2.2.1.off HFO.out HFS.out (by omega) (by omega), HE3.out, _, _, _, _, _, _, rfl, (K6.out.node (by simp)).off HFO.out HFS.out (fun c hc => ⟨by (try simp at hc ⊢); omega, by (try simp at hc); omega⟩)⟩⟩
      ·rw [if_neg hi3] at hR2
       have HR2 : Hid (R = .no q.2.2 30) := hR2.symm
       clear hR2 HRq
       go_wp2_with fail
       refine (take_no g b cap T q l2 d 5 (b1 41) _ K5.out.2.2.2.1 (by simpa using hi3)).mono ?_
       rintro e W6 ⟨rfl, hk6, hf6⟩
       have K9 : Hid (Kp g w W6) := K5.out.1.trans hk6
       have H9 : Hid (Bx W6 w.heap.size _) := hk6.bx K5.out.2.1 (by omega)
       have HF6 : Hid (PF g W6 d q.2.2 30) := hf6
       clear hk6 hf6
       obtain ⟨y0', y1', y2', y3', HFK, HFO, HFS, r0, r1, r2, r3, s0, s1, s2, s3, hrw'⟩ := fin9 (vi ki 0) (.string ⟨#[]⟩) (.slice none 0 0) (vi ki 0) K9.out (by omega) (H9.out)
       go_wp2
       refine bodyPost_ret (v := .tuple #[.agg #[vi ki 0, .string ⟨#[]⟩, .slice none 0 0, vi ki 0], .bool false]) (by simp [results, Tryd.results101, go_sem, y0', y1', y2', y3']) rfl ⟨HFK.out, by rw [HR2.out]; exact ⟨PF.off HF6.out HFO.out HFS.out (by omega), rfl⟩⟩
end Go.Proofs.YtaoocecipacnhaaDoor
