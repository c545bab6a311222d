import Derived.Test.YtaoocecipacnhaaDoorX7
open Go.Value renaming int → vi, string → vS, slice → vL
open Go.IntKind renaming i64 → ki
open List renaming setIfInBounds_toArray → zb, set_cons_zero → zc, set_cons_succ → zd, length_cons → zl
open Go.Act renaming put → za
open Go.Ending renaming returned → zr
set_option maxRecDepth 100000
set_option maxHeartbeats 16000000
set_option linter.all false
namespace Go.Proofs.YtaoocecipacnhaaDoor
open Go.RowKit
def jnW (b : List UInt8) : Bool → List (List UInt8) → List UInt8
 | _, [] => []
 | f, x :: l => (if f then [] else b) ++ x ++ jnW b false l
theorem jnW_append (b : List UInt8) : ∀ (f : Bool) (l m : List (List UInt8)), jnW b f (l ++ m) = jnW b f l ++ jnW b (f && l.isEmpty) m
 | f, [], m => by simp [jnW]
 | f, x :: l, m => by simp [jnW, jnW_append b false l m]
def rpQ (t : ByteArray) : List UInt8 := Lib.replaceAll t.data.toList [39] [39, 39]
def frW (k : Int) (t : ByteArray) (l : List (List UInt8)) : List UInt8 :=
 if k = 1 then t.data.toList else if k = 2 then t.data.toList else if k = 4 then t.data.toList
 else if k = 3 then [39] ++ rpQ t ++ [39]
 else if k = 5 then (t.data.toList ++ [32]) ++ jnW [] true l ++ []
 else if k = 6 then [40, 45, 32] ++ jnW [] true l ++ [41]
 else if k = 7 then [40, 110, 111, 116, 32] ++ jnW [] true l ++ [41]
 else if k = 8 then [40] ++ jnW ([32] ++ t.data.toList ++ [32]) true l ++ [41]
 else if k = 9 then (t.data.toList ++ [40]) ++ jnW [44, 32] true l ++ [41]
 else if k = 10 then [40] ++ jnW [] true l ++ ([58, 58] ++ t.data.toList ++ [41])
 else []
mutual
def tzN : Nd → Bool
 | .mk _ t ks _ => decide (t.size ≤ 100000) && tzL ks
def tzL : List Nd → Bool
 | [] => true
 | n :: l => tzN n && tzL l
end
theorem tzL_mem : ∀ {l : List Nd}, tzL l = true → ∀ n ∈ l, tzN n = true
 | [], _, n, hn => by simp at hn
 | m :: l, h, n, hn => by
  rw [tzL, Bool.and_eq_true] at h
  rcases List.mem_cons.1 hn with rfl | hn
  ·exact h.1
  ·exact tzL_mem h.2 n hn
mutual
theorem PlN.all : ∀ n : Nd, PlN (fun _ => True) n
 | .mk k t ks a => .mk k t ks a trivial (PlN.alls ks)
theorem PlN.alls : ∀ l : List Nd, ∀ n ∈ l, PlN (fun _ => True) n
 | [], n, h => by simp at h
 | m :: l, n, h => (List.mem_cons.1 h).elim (fun e => e ▸ PlN.all m) (fun q => PlN.alls l n q)
end
mutual
def wrN : Nd → List UInt8
 | .mk k t ks _ => frW k t (wrT ks)
def wrT : List Nd → List (List UInt8)
 | [] => []
 | n :: l => wrN n :: wrT l
end
theorem wrT_map : ∀ l : List Nd, wrT l = l.map wrN
 | [] => by rw [wrT]; rfl
 | n :: l => by rw [wrT, wrT_map l]; rfl
theorem jn_take (b : List UInt8) {l : List Nd} {j : Nat} {n : Nd} (h : l[j]? = some n) : jnW b true (wrT (l.take (j + 1))) = jnW b true (wrT (l.take j)) ++ (if 0 < j then b else []) ++ wrN n := by
 have hj : j < l.length := (List.getElem?_eq_some_iff.1 h).1
 rw [List.take_add_one, h, wrT_map, wrT_map, List.map_append, jnW_append]
 simp only [Option.toList, List.map_cons, List.map_nil, jnW, List.append_nil]
 by_cases h0 : 0 < j
 ·have : ((l.take j).map wrN).isEmpty = false := by
   cases j with
   | zero => omega
   | succ j => cases l with
    | nil => simp at hj
    | cons => rfl
  rw [this, if_pos h0]; simp
 ·obtain rfl : j = 0 := by omega
  simp
theorem jn_le (b : List UInt8) (l : List Nd) (j : Nat) : (jnW b true (wrT (l.take j))).length ≤ (jnW b true (wrT l)).length := by
 have := jnW_append b true (wrT (l.take j)) (wrT (l.drop j))
 rw [wrT_map, wrT_map, ← List.map_append, List.take_append_drop, ← wrT_map, ← wrT_map] at this
 rw [this, List.length_append]; omega
theorem bytes_str (l : List UInt8) (s : ByteArray) : Lib.byteCells l ++ Lib.strCells s = Lib.byteCells (l ++ s.data.toList) := by simp [Lib.byteCells, Lib.strCells]
theorem built_new (w : World) : Lib.IsBuilderF 64 5 w.heap.size w.heap.size (Lib.byteCells []) (w.alloc (.cells #[.pointer none, vL none 0 0] 64)) :=
 .inl ⟨Nat.le_refl _, vL none 0 0, heap_alloc_new w _, World.ownsRowF_nil _ _ _ _, by simp [Value.ownBlock]⟩
theorem built_at {T e : TypeId} {B b : Nat} {p : Value} {bs : List Value} {W W1 : World} (h : Lib.BuilderAtF T e B b p bs W) (hb : Below W.heap.size W W1) : Lib.BuilderAtF T e B b p bs W1 := by
 obtain ⟨hB, v, hh, ho, hne⟩ := h
 refine ⟨hB, v, (hb.block _ (Array.getElem?_eq_some_iff.1 hh).1).trans hh, ⟨ho.1, ?_⟩, hne⟩
 rcases ho.2 with h0 | ⟨g, cap, cur, fz, e0, h1, h2, h3⟩
 ·exact .inl h0
 ·exact .inr ⟨g, cap, cur, fz, e0, h1, (hb.block _ (Array.getElem?_eq_some_iff.1 h2).1).trans h2, h3⟩
theorem built_below {T e : TypeId} {B b : Nat} {bs : List Value} {W W1 : World} (h : Lib.IsBuilderF T e B b bs W) (hb : Below W.heap.size W W1) : Lib.IsBuilderF T e B b bs W1 :=
 h.elim (fun x => .inl (built_at x hb)) (fun x => .inr (built_at x hb))
theorem built_lt {T e : TypeId} {B b : Nat} {bs : List Value} {W : World} (h : Lib.IsBuilderF T e B b bs W) : b < W.heap.size ∧ B ≤ b := by
 rcases h with ⟨hB, v, hh, _⟩ | ⟨hB, v, hh, _⟩ <;> exact ⟨(Array.getElem?_eq_some_iff.1 hh).1, hB⟩
def WB (B b : Nat) (w : World) (l : List UInt8) (W : World) : Prop := Lib.IsBuilderF 64 5 B b (Lib.byteCells l) W ∧ Below B w W ∧ B ≤ w.heap.size
theorem WB.le {B b : Nat} {w W : World} {l : List UInt8} (h : WB B b w l W) : B ≤ W.heap.size := Nat.le_trans h.2.2 h.2.1.size
theorem WB.alloc {B b : Nat} {w W : World} {l : List UInt8} (h : WB B b w l W) (o : Obj) : WB B b w l (W.alloc o) := ⟨h.1.alloc _, h.2.1.alloc h.le _, h.2.2⟩
theorem WB.below {B b : Nat} {w W V : World} {l : List UInt8} (h : WB B b w l W) (k : Below W.heap.size W V) : WB B b w l V := ⟨built_below h.1 k, h.2.1.trans (k.mono h.le), h.2.2⟩
theorem WB.start {B b : Nat} {w : World} {l : List UInt8} (h : Lib.IsBuilderF 64 5 B b (Lib.byteCells l) w) (hB : B ≤ w.heap.size) : WB B b w l w := ⟨h, Below.refl _ _, hB⟩
theorem WB.trans {B b : Nat} {w W V : World} {l m : List UInt8} (h : WB B b w l W) (k : WB B b W m V) : WB B b w m V := ⟨k.1, h.2.1.trans k.2.1, h.2.2⟩
theorem wstr {B b : Nat} {w W : World} {l : List UInt8} (h : WB B b w l W) (s : ByteArray) (hl : l.length + s.size ≤ 1000000000) :
  Calls Tryd.prog 40 #[.pointer (some ⟨b, 0, none⟩), vS s] W fun e w' => e = zr (.tuple #[vi ki s.size, .nilIface]) ∧ WB B b w (l ++ s.data.toList) w' ∧ Lib.OthersKept 5 (some b) W w' ∧ W.heap.size ≤ w'.heap.size := by
 refine (writeString B b (Lib.byteCells l) s W h.1 (by rw [Lib.byteCells_length]; omega) h.le).mono ?_
 rintro e w' ⟨he, h1, h2, h3⟩
 rw [bytes_str] at h1
 exact ⟨he, ⟨.inr h1, h.2.1.trans h2, h.2.2⟩, h3, h2.size⟩
def WrOk (n : Nd) : Prop := tzN n = true → ∀ (B b : Nat) (w : World) (pre : List UInt8) (m : Int) (c0 c1 c2 c3 : Value), NdAt (fun c => c < B) w n [c0, c1, c2, c3] → WB B b w pre w → 2 < B → w.cell? ⟨2, 0, none⟩ = some (vi ki m) → pre.length + (wrN n).length ≤ 1000000000 →
  Calls Tryd.prog 20 #[.pointer (some ⟨b, 0, none⟩), .agg #[c0, c1, c2, c3]] w fun e w' => e = zr (.tuple #[]) ∧ WB B b w (pre ++ wrN n) w'
theorem kept_bx {W V : World} {b : Nat} {cs : List Value} {t : TypeId} (h : Lib.OthersKept 5 (some b) (W.alloc (.cells cs.toArray t)) V) (ht : t ≠ 5) (hb : b < W.heap.size) (hs : (W.alloc (.cells cs.toArray t)).heap.size ≤ V.heap.size) : Bx V W.heap.size cs := by
 have e := heap_alloc_new W (.cells cs.toArray t)
 have q := (h _ _ e (by simp; omega) (fun c fz q => by cases q; exact ht rfl)).trans e.symm
 have k := Bx.new W cs t
 exact ⟨Nat.lt_of_lt_of_le k.1 hs, fun i v hv => ⟨(World.cell?_of_block (w := W.alloc (.cells cs.toArray t)) (a := ⟨W.heap.size, i, none⟩) q).trans (k.2 i v hv).1, (World.frozen?_of_block (w := W.alloc (.cells cs.toArray t)) (a := ⟨W.heap.size, i, none⟩) q).trans (k.2 i v hv).2⟩⟩
def KdAt (B : Nat) (w : World) (ks : List Nd) (sq : Option Addr) (sc : Nat) : Prop := ∀ j n, ks[j]? = some n → ∃ r, sq = some ⟨r, 0, none⟩ ∧ ks.length ≤ sc ∧ r < B ∧ r < w.heap.size ∧ ∃ d0 d1 d2 d3, w.cell? ⟨r, j * 4, none⟩ = some d0 ∧ w.cell? ⟨r, j * 4 + 1, none⟩ = some d1 ∧ w.cell? ⟨r, j * 4 + 2, none⟩ = some d2 ∧ w.cell? ⟨r, j * 4 + 3, none⟩ = some d3 ∧ NdAt (fun c => c < B) w n [d0, d1, d2, d3]
theorem wk_any (ks : List Nd) (hW : ∀ n ∈ ks, WrOk n) (htz : tzL ks = true) (B b : Nat) (w : World) (pre : List UInt8) (m : Int) (H M T : ByteArray) (sq : Option Addr) (sc : Nat) (hkl : ks.length ≤ 9223372036854775807) (hG : KdAt B w ks sq sc) (hw : WB B b w pre w) (h2 : 2 < B) (hm : w.cell? ⟨2, 0, none⟩ = some (vi ki m)) (hlen : pre.length + H.size + (jnW M.data.toList true (wrT ks)).length + T.size ≤ 1000000000) :
  Calls Tryd.prog 42 #[.pointer (some ⟨b, 0, none⟩), vS H, vL sq ks.length sc, vS M, vS T] w fun e w' => e = zr (.tuple #[]) ∧ WB B b w (pre ++ (H.data.toList ++ jnW M.data.toList true (wrT ks) ++ T.data.toList)) w' := by
 have HW := hZz hW
 have HTz := hZz htz
 have HG := hZz hG
 have H0 := hZz hw
 have HM := hZz hm
 have hHs : H.data.toList.length = H.size := by simp
 have HL : Hid (pre.length + H.data.toList.length + (jnW M.data.toList true (wrT ks)).length + T.size ≤ 1000000000) := by show _ ≤ _; rw [hHs]; exact hlen
 have hB2 : 2 < w.heap.size := by have := hw.2.2; omega
 have hl1 : pre.length + H.size ≤ 1000000000 := by omega
 have hklI : (ks.length : Int) ≤ 9223372036854775807 := by omega
 clear hW hG hw hm hlen hHs htz
 go_enter Tryd.func42, Tryd.ntmps42
 go_wp2_with fail
 refine (wstr H0.out H hl1).mono ?_
 rintro e W1 ⟨rfl, hw1, -, -⟩
 have H1 := hZz hw1
 clear hw1
 go_wp2_with fail
 go_loopw [17] (fun i W => ∃ j : Nat, j ≤ ks.length ∧ i = vi ki (j : Int) ∧ Hid (WB B b w (pre ++ H.data.toList ++ jnW M.data.toList true (wrT (ks.take j))) W)) (fun i _ => ks.length - (intOf i).toNat)
 case atStart => exact ⟨0, Nat.zero_le _, rfl, by rw [List.take_zero, wrT, jnW, List.append_nil]; exact H1.out⟩
 case round =>
  clear H1
  obtain ⟨j, hj, rfl, H1⟩ := hrel
  have hj0 : (0 : Int) ≤ (j : Int) := by omega
  have hBw := H1.out.le
  have hbB := (built_lt H1.out.1).1
  have hLj : (pre ++ H.data.toList ++ jnW M.data.toList true (wrT (ks.take j))).length + T.size ≤ 1000000000 := by
   have := HL.out; have := jn_le M.data.toList ks j
   simp only [List.length_append]; omega
  by_cases hjl : j < ks.length
  ·have hjI : (j : Int) < (ks.length : Int) := by omega
   have hjw : IntKind.i64.wrap ((j : Int) + 1) = (j : Int) + 1 := by rw [IntKind.wrap_i64]; omega
   obtain ⟨r, rfl, hsc, hrB, hrw, d0, d1, d2, d3, y0, y1, y2, y3, hnd⟩ := HG.out j _ (List.getElem?_eq_getElem hjl)
   have et : Hid (jnW M.data.toList true (wrT (ks.take (j + 1))) = jnW M.data.toList true (wrT (ks.take j)) ++ (if 0 < j then M.data.toList else []) ++ wrN ks[j]) := jn_take _ (List.getElem?_eq_getElem hjl)
   have el : Hid ((jnW M.data.toList true (wrT (ks.take (j + 1)))).length ≤ (jnW M.data.toList true (wrT ks)).length) := jn_le _ _ _
   have hl3 : (pre ++ H.data.toList ++ jnW M.data.toList true (wrT (ks.take j))).length + (if 0 < j then M.data.toList else []).length + (wrN ks[j]).length ≤ 1000000000 := by
    have := HL.out; have := el.out
    rw [et.out] at this
    simp only [List.length_append] at this ⊢
    omega
   have hC := HW.out _ (List.getElem_mem hjl) (tzL_mem HTz.out _ (List.getElem_mem hjl))
   have HN := hZz hnd
   have v0 := (H1.out.2.1.cell (p := ⟨r, j * 4, none⟩) hrB).trans y0
   have v1 := (H1.out.2.1.cell (p := ⟨r, j * 4 + 1, none⟩) hrB).trans y1
   have v2 := (H1.out.2.1.cell (p := ⟨r, j * 4 + 2, none⟩) hrB).trans y2
   have v3 := (H1.out.2.1.cell (p := ⟨r, j * 4 + 3, none⟩) hrB).trans y3
   have hrr : r < wr.heap.size := by omega
   obtain ⟨k2, t2, sq2, sn2, sc2, a2, rfl, rfl, rfl, rfl⟩ := hnd.form
   have HC : Hid (∀ (V : World) (l : List UInt8), WB B b w l V → l.length + (wrN ks[j]).length ≤ 1000000000 → Calls Tryd.prog 20 #[.pointer (some ⟨b, 0, none⟩), .agg #[vi ki k2, vS t2, vL sq2 sn2 sc2, vi ki a2]] V fun e w' => e = zr (.tuple #[]) ∧ WB B b w (l ++ wrN ks[j]) w') := fun V l hv hl => by
    refine (hC B b V l m _ _ _ _ (NdAt.keep hv.2.1.size (fun c hc _ => ⟨hc, hv.2.1.block c hc⟩) _ _ hnd) (WB.start hv.1 hv.le) h2 ((hv.2.1.cell (p := ⟨2, 0, none⟩) h2).trans HM.out) hl).mono ?_
    rintro e w' ⟨he, hv2⟩
    exact ⟨he, hv.trans hv2⟩
   generalize wrN ks[j] = N at *
   clear y0 y1 y2 y3 hnd hC
   generalize jnW M.data.toList true (wrT (ks.take j)) = J at *
   by_cases hj1 : 0 < j
   ·have hj1I : (0 : Int) < (j : Int) := by omega
    rw [if_pos hj1] at hl3
    have hM : M.data.toList.length = M.size := by simp
    have ET : Hid (jnW M.data.toList true (wrT (ks.take (j + 1))) = J ++ M.data.toList ++ N) := by have := et.out; rw [if_pos hj1] at this; exact this
    clear et el
    go_wp2_with fail
    refine (wstr (H1.out.alloc (.cells [vi ki k2, vS t2, vL sq2 sn2 sc2, vi ki a2].toArray 24)) M (by omega)).mono ?_
    rintro e V ⟨rfl, hv, hk, hs⟩
    have hX := kept_bx hk (by decide) hbB hs
    obtain ⟨x0, x1, x2, x3⟩ := hX.d4
    have hV := hX.1
    have HV := hZz hv
    clear hX hv hk hs H1 v0 v1 v2 v3
    go_wp2_with fail
    refine (HC.out V _ HV.out (by rw [List.length_append]; omega)).mono ?_
    rintro e V2 ⟨rfl, hv2⟩
    have HF : Hid (WB B b w (pre ++ H.data.toList ++ jnW M.data.toList true (wrT (ks.take (j + 1)))) V2) := by
     show WB _ _ _ _ _
     rw [ET.out]
     simpa only [List.append_assoc] using hv2
    clear hv2 HV HC x0 x1 x2 x3
    go_wp2
    exact ⟨⟨j + 1, by omega, by simp, HF.out⟩, by simp [intOf]; omega⟩
   ·have hj1I : ¬ (0 : Int) < (j : Int) := by omega
    rw [if_neg hj1] at hl3
    have ET : Hid (jnW M.data.toList true (wrT (ks.take (j + 1))) = J ++ N) := by have := et.out; rw [if_neg hj1, List.append_nil] at this; exact this
    clear et el
    go_wp2_with fail
    refine (HC.out _ _ (H1.out.alloc (.cells [vi ki k2, vS t2, vL sq2 sn2 sc2, vi ki a2].toArray 24)) (by simp only [List.length_append, List.length_nil, Nat.add_zero] at hl3 ⊢; omega)).mono ?_
    rintro e V2 ⟨rfl, hv2⟩
    have HF : Hid (WB B b w (pre ++ H.data.toList ++ jnW M.data.toList true (wrT (ks.take (j + 1)))) V2) := by
     show WB _ _ _ _ _
     rw [ET.out]
     simpa only [List.append_assoc] using hv2
    clear hv2 HC v0 v1 v2 v3 H1
    go_wp2
    exact ⟨⟨j + 1, by omega, by simp, HF.out⟩, by simp [intOf]; omega⟩
  ·obtain rfl : j = ks.length := by omega
   rw [List.take_length] at hLj H1
   have hjI : ¬ (ks.length : Int) < (ks.length : Int) := by omega
   go_wp2_with fail
   refine (wstr H1.out T hLj).mono ?_
   rintro e V ⟨rfl, hv, -, -⟩
   have HV : Hid (WB B b w (pre ++ (H.data.toList ++ jnW M.data.toList true (wrT ks) ++ T.data.toList)) V) := by
    show WB _ _ _ _ _
    simpa only [List.append_assoc] using hv
   clear hv H1
   go_wp2
   exact bodyPost_end (v := .tuple #[]) (by simp [results, Tryd.results42, go_sem]) rfl ⟨rfl, HV.out⟩
set_option linter.unusedSimpArgs false
theorem write_any (n : Nd) : WrOk n := by
 have hn := PlN.all n
 induction hn with
 | mk k t ks a ha hk ih =>
  intro htz B b w pre m c0 c1 c2 c3 h hw h2 hm hlen
  rw [NdAt] at h
  obtain ⟨sv, hcs, hv⟩ := h
  simp only [List.cons.injEq, and_true] at hcs
  obtain ⟨rfl, rfl, rfl, rfl⟩ := hcs
  rw [tzN, Bool.and_eq_true, decide_eq_true_eq] at htz
  obtain ⟨ht, hks⟩ := htz
  have hB2 : 2 < w.heap.size := by have := hw.2.2; omega
  obtain ⟨sq, sc, rfl, hkl, HG⟩ : ∃ sq sc, c2 = vL sq ks.length sc ∧ ks.length ≤ 9223372036854775807 ∧ Hid (KdAt B w ks sq sc) := by
   rcases hv with ⟨q1, q2⟩ | ⟨b, cap, e1, e0, e2, e3, e4, e5, e6⟩
   ·first | (subst q1; exact ⟨none, 0, q2, by simp, fun j n e => by simp at e⟩) | (subst q2; exact ⟨none, 0, q1, by simp, fun j n e => by simp at e⟩)
   ·refine ⟨some ⟨b, 0, none⟩, cap, e1, by unfold maxLen at e3; omega, fun j n e => ⟨b, rfl, e2, e4, e5, ?_⟩⟩
    have q := RwAt.get ks 0 j n e6 e
    rw [Nat.zero_add] at q
    exact q
  have HK : Hid (∀ (V : World) (H M T : ByteArray), WB B b w pre V → pre.length + H.size + (jnW M.data.toList true (wrT ks)).length + T.size ≤ 1000000000 →
    Calls Tryd.prog 42 #[.pointer (some ⟨b, 0, none⟩), vS H, vL sq ks.length sc, vS M, vS T] V fun e w' => e = zr (.tuple #[]) ∧ WB B b w (pre ++ (H.data.toList ++ jnW M.data.toList true (wrT ks) ++ T.data.toList)) w') := fun V H M T hV hl => by
   refine (wk_any ks ih hks B b V pre m H M T sq sc hkl (fun j n e => ?_) (WB.start hV.1 hV.le) h2 ((hV.2.1.cell (p := ⟨2, 0, none⟩) h2).trans hm) hl).mono ?_
   ·obtain ⟨r, e1, e2, e3, e4, d0, d1, d2, d3, y0, y1, y2, y3, hnd⟩ := HG.out j n e
    exact ⟨r, e1, e2, e3, Nat.lt_of_lt_of_le e4 hV.2.1.size, d0, d1, d2, d3, (hV.2.1.cell (p := ⟨r, j * 4, none⟩) e3).trans y0, (hV.2.1.cell (p := ⟨r, j * 4 + 1, none⟩) e3).trans y1, (hV.2.1.cell (p := ⟨r, j * 4 + 2, none⟩) e3).trans y2, (hV.2.1.cell (p := ⟨r, j * 4 + 3, none⟩) e3).trans y3, NdAt.keep hV.2.1.size (fun c hc _ => ⟨hc, hV.2.1.block c hc⟩) _ _ hnd⟩
   ·rintro e w' ⟨he, h3⟩
    exact ⟨he, hV.trans h3⟩
  have H0 := hZz hw
  have HM := hZz hm
  have HL := hZz hlen
  have htI : (t.size : Int) ≤ 100000 := by omega
  have hts : t.data.toList.length = t.size := by simp
  clear hk ih ha hv HG hks hw hm hlen
  rcases Classical.em (k = 1) with rfl | h1
  ·have HE : Hid (wrN (.mk 1 t ks a) = t.data.toList) := by show _ = _; simp [wrN, frW]
   have hl : pre.length + t.size ≤ 1000000000 := by have := HL.out; rw [HE.out] at this; omega
   clear HK HL
   go_enter Tryd.func20, Tryd.ntmps20
   go_wp2_with fail
   refine (wstr (H0.out.alloc (.cells [vi ki 1, vS t, vL sq ks.length sc, vi ki a].toArray 24)) t hl).mono ?_
   rintro e V ⟨rfl, hv, -, -⟩
   have HF : Hid (WB B b w (pre ++ wrN (.mk 1 t ks a)) V) := by show WB _ _ _ _ _; rw [HE.out]; exact hv
   clear hv
   go_wp2
   exact bodyPost_end (v := .tuple #[]) (by simp [results, Tryd.results20, go_sem]) rfl ⟨rfl, HF.out⟩
  have g1 : (k == 1) = false := by simpa using h1
  rcases Classical.em (k = 2) with rfl | h2'
  ·have HE : Hid (wrN (.mk 2 t ks a) = t.data.toList) := by show _ = _; simp [wrN, frW]
   have hl : pre.length + t.size ≤ 1000000000 := by have := HL.out; rw [HE.out] at this; omega
   clear HK HL
   go_enter Tryd.func20, Tryd.ntmps20
   go_wp2_with fail
   refine (wstr (H0.out.alloc (.cells [vi ki 2, vS t, vL sq ks.length sc, vi ki a].toArray 24)) t hl).mono ?_
   rintro e V ⟨rfl, hv, -, -⟩
   have HF : Hid (WB B b w (pre ++ wrN (.mk 2 t ks a)) V) := by show WB _ _ _ _ _; rw [HE.out]; exact hv
   clear hv
   go_wp2
   exact bodyPost_end (v := .tuple #[]) (by simp [results, Tryd.results20, go_sem]) rfl ⟨rfl, HF.out⟩
  have g2 : (k == 2) = false := by simpa using h2'
  rcases Classical.em (k = 4) with rfl | h4
  ·have HE : Hid (wrN (.mk 4 t ks a) = t.data.toList) := by show _ = _; simp [wrN, frW]
   have hl : pre.length + t.size ≤ 1000000000 := by have := HL.out; rw [HE.out] at this; omega
   clear HK HL
   go_enter Tryd.func20, Tryd.ntmps20
   go_wp2_with fail
   refine (wstr (H0.out.alloc (.cells [vi ki 4, vS t, vL sq ks.length sc, vi ki a].toArray 24)) t hl).mono ?_
   rintro e V ⟨rfl, hv, -, -⟩
   have HF : Hid (WB B b w (pre ++ wrN (.mk 4 t ks a)) V) := by show WB _ _ _ _ _; rw [HE.out]; exact hv
   clear hv
   go_wp2
   exact bodyPost_end (v := .tuple #[]) (by simp [results, Tryd.results20, go_sem]) rfl ⟨rfl, HF.out⟩
  have g4 : (k == 4) = false := by simpa using h4
  rcases Classical.em (k = 3) with rfl | h3
  ·have HE : Hid (wrN (.mk 3 t ks a) = [39] ++ rpQ t ++ [39]) := by show _ = _; simp [wrN, frW]
   have hl : pre.length + (rpQ t).length + 2 ≤ 1000000000 := by have := HL.out; rw [HE.out] at this; simp only [List.length_append, zl, List.length_nil] at this; omega
   have RC : Hid (∀ V : World, V.cell? ⟨2, 0, none⟩ = some (vi ki m) → Calls Tryd.prog 41 #[vS t, vS ⟨#[39]⟩, vS ⟨#[39, 39]⟩] V fun e w' => e = zr (vS ⟨(rpQ t).toArray⟩) ∧ Below V.heap.size V w') := fun V hV => by
    have hl := Lib.countB_le ⟨#[39]⟩ (by decide) _ t (Nat.le_refl _)
    exact Tryd.strings_ReplaceAll t ⟨#[39]⟩ ⟨#[39, 39]⟩ m V (by omega) hV (by decide) (by rw [show (⟨#[39, 39]⟩ : ByteArray).size = 2 from rfl]; omega)
   have hrs : (rpQ t).length = (⟨(rpQ t).toArray⟩ : ByteArray).size := by simp [ByteArray.size]
   have hrd : rpQ t = (⟨(rpQ t).toArray⟩ : ByteArray).data.toList := by simp
   rw [hrd] at HE
   rw [hrs] at hl
   generalize (⟨(rpQ t).toArray⟩ : ByteArray) = R at *
   clear hrs hrd
   have z1 : (⟨#[39]⟩ : ByteArray).size + R.size ≤ 9223372036854775807 := by show 1 + _ ≤ _; omega
   have z2 : (⟨#[39]⟩ ++ R : ByteArray).size + (⟨#[39]⟩ : ByteArray).size ≤ 9223372036854775807 := by rw [ByteArray.size_append]; show 1 + _ + 1 ≤ _; omega
   clear HK HL
   go_enter Tryd.func20, Tryd.ntmps20
   go_wp2_with fail
   refine (RC.out _ ((Below.cell ((Below.refl _ w).alloc (Nat.le_refl _) _) (p := ⟨2, 0, none⟩) hB2).trans HM.out)).mono ?_
   rintro e V ⟨rfl, hk⟩
   have HV : Hid (WB B b w pre V) := (H0.out.alloc (.cells [vi ki 3, vS t, vL sq ks.length sc, vi ki a].toArray 24)).below hk
   clear hk RC
   go_wp2_with fail
   refine (wstr HV.out ((⟨#[39]⟩ : ByteArray) ++ R ++ (⟨#[39]⟩ : ByteArray)) (by rw [ByteArray.size_append, ByteArray.size_append]; show _ + (1 + _ + 1) ≤ _; omega)).mono ?_
   rintro e V2 ⟨rfl, hv, -, -⟩
   have HF : Hid (WB B b w (pre ++ wrN (.mk 3 t ks a)) V2) := by
    show WB _ _ _ _ _
    rw [HE.out]
    simpa [ByteArray.data_append] using hv
   clear hv HV
   go_wp2
   exact bodyPost_end (v := .tuple #[]) (by simp [results, Tryd.results20, go_sem]) rfl ⟨rfl, HF.out⟩
  have g3 : (k == 3) = false := by simpa using h3
  rcases Classical.em (k = 5) with rfl | h5
  ·obtain ⟨H, hH⟩ : ∃ H : ByteArray, H = t ++ (⟨#[32]⟩ : ByteArray) := ⟨_, rfl⟩
   obtain ⟨M, hM⟩ : ∃ M : ByteArray, M = (⟨#[]⟩ : ByteArray) := ⟨_, rfl⟩
   obtain ⟨T, hT⟩ : ∃ T : ByteArray, T = (⟨#[]⟩ : ByteArray) := ⟨_, rfl⟩
   have HE : Hid (wrN (.mk 5 t ks a) = H.data.toList ++ jnW M.data.toList true (wrT ks) ++ T.data.toList) := by show _ = _; subst hH hM hT; simp [wrN, frW, ByteArray.data_append]
   have hl : pre.length + H.size + (jnW M.data.toList true (wrT ks)).length + T.size ≤ 1000000000 := by
    have := HL.out
    have q1 : H.data.toList.length = H.size := by simp
    have q2 : T.data.toList.length = T.size := by simp
    rw [HE.out, List.length_append, List.length_append] at this
    omega
   have z1 : (t : ByteArray).size + (⟨#[32]⟩ : ByteArray).size ≤ 9223372036854775807 := by show t.size + 1 ≤ _; omega
   have HC : Hid (∀ (V : World), WB B b w pre V → Calls Tryd.prog 42 #[.pointer (some ⟨b, 0, none⟩), vS (t ++ (⟨#[32]⟩ : ByteArray)), vL sq ks.length sc, vS (⟨#[]⟩), vS (⟨#[]⟩)] V fun e w' => e = zr (.tuple #[]) ∧ WB B b w (pre ++ wrN (.mk 5 t ks a)) w') := fun V hV => by
    rw [HE.out]
    subst hH hM hT
    exact HK.out V _ _ _ hV hl
   clear HK HL HE hl hH hM hT H M T
   go_enter Tryd.func20, Tryd.ntmps20
   go_wp2_with fail
   refine (HC.out _ (H0.out.alloc (.cells [vi ki 5, vS t, vL sq ks.length sc, vi ki a].toArray 24))).mono ?_
   rintro e V ⟨rfl, hv⟩
   have HF := hZz hv
   clear hv HC
   go_wp2
   exact bodyPost_end (v := .tuple #[]) (by simp [results, Tryd.results20, go_sem]) rfl ⟨rfl, HF.out⟩
  have g5 : (k == 5) = false := by simpa using h5
  rcases Classical.em (k = 6) with rfl | h6
  ·obtain ⟨H, hH⟩ : ∃ H : ByteArray, H = (⟨#[40, 45, 32]⟩ : ByteArray) := ⟨_, rfl⟩
   obtain ⟨M, hM⟩ : ∃ M : ByteArray, M = (⟨#[]⟩ : ByteArray) := ⟨_, rfl⟩
   obtain ⟨T, hT⟩ : ∃ T : ByteArray, T = (⟨#[41]⟩ : ByteArray) := ⟨_, rfl⟩
   have HE : Hid (wrN (.mk 6 t ks a) = H.data.toList ++ jnW M.data.toList true (wrT ks) ++ T.data.toList) := by show _ = _; subst hH hM hT; simp [wrN, frW, ByteArray.data_append]
   have hl : pre.length + H.size + (jnW M.data.toList true (wrT ks)).length + T.size ≤ 1000000000 := by
    have := HL.out
    have q1 : H.data.toList.length = H.size := by simp
    have q2 : T.data.toList.length = T.size := by simp
    rw [HE.out, List.length_append, List.length_append] at this
    omega
   have HC : Hid (∀ (V : World), WB B b w pre V → Calls Tryd.prog 42 #[.pointer (some ⟨b, 0, none⟩), vS (⟨#[40, 45, 32]⟩), vL sq ks.length sc, vS (⟨#[]⟩), vS (⟨#[41]⟩)] V fun e w' => e = zr (.tuple #[]) ∧ WB B b w (pre ++ wrN (.mk 6 t ks a)) w') := fun V hV => by
    rw [HE.out]
    subst hH hM hT
    exact HK.out V _ _ _ hV hl
   clear HK HL HE hl hH hM hT H M T
   go_enter Tryd.func20, Tryd.ntmps20
   go_wp2_with fail
   refine (HC.out _ (H0.out.alloc (.cells [vi ki 6, vS t, vL sq ks.length sc, vi ki a].toArray 24))).mono ?_
   rintro e V ⟨rfl, hv⟩
   have HF := hZz hv
   clear hv HC
   go_wp2
   exact bodyPost_end (v := .tuple #[]) (by simp [results, Tryd.results20, go_sem]) rfl ⟨rfl, HF.out⟩
  have g6 : (k == 6) = false := by simpa using h6
  rcases Classical.em (k = 7) with rfl | h7
  ·obtain ⟨H, hH⟩ : ∃ H : ByteArray, H = (⟨#[40, 110, 111, 116, 32]⟩ : ByteArray) := ⟨_, rfl⟩
   obtain ⟨M, hM⟩ : ∃ M : ByteArray, M = (⟨#[]⟩ : ByteArray) := ⟨_, rfl⟩
   obtain ⟨T, hT⟩ : ∃ T : ByteArray, T = (⟨#[41]⟩ : ByteArray) := ⟨_, rfl⟩
   have HE : Hid (wrN (.mk 7 t ks a) = H.data.toList ++ jnW M.data.toList true (wrT ks) ++ T.data.toList) := by show _ = _; subst hH hM hT; simp [wrN, frW, ByteArray.data_append]
   have hl : pre.length + H.size + (jnW M.data.toList true (wrT ks)).length + T.size ≤ 1000000000 := by
    have := HL.out
    have q1 : H.data.toList.length = H.size := by simp
    have q2 : T.data.toList.length = T.size := by simp
    rw [HE.out, List.length_append, List.length_append] at this
    omega
   have HC : Hid (∀ (V : World), WB B b w pre V → Calls Tryd.prog 42 #[.pointer (some ⟨b, 0, none⟩), vS (⟨#[40, 110, 111, 116, 32]⟩), vL sq ks.length sc, vS (⟨#[]⟩), vS (⟨#[41]⟩)] V fun e w' => e = zr (.tuple #[]) ∧ WB B b w (pre ++ wrN (.mk 7 t ks a)) w') := fun V hV => by
    rw [HE.out]
    subst hH hM hT
    exact HK.out V _ _ _ hV hl
   clear HK HL HE hl hH hM hT H M T
   go_enter Tryd.func20, Tryd.ntmps20
   go_wp2_with fail
   refine (HC.out _ (H0.out.alloc (.cells [vi ki 7, vS t, vL sq ks.length sc, vi ki a].toArray 24))).mono ?_
   rintro e V ⟨rfl, hv⟩
   have HF := hZz hv
   clear hv HC
   go_wp2
   exact bodyPost_end (v := .tuple #[]) (by simp [results, Tryd.results20, go_sem]) rfl ⟨rfl, HF.out⟩
  have g7 : (k == 7) = false := by simpa using h7
  rcases Classical.em (k = 8) with rfl | h8
  ·obtain ⟨H, hH⟩ : ∃ H : ByteArray, H = (⟨#[40]⟩ : ByteArray) := ⟨_, rfl⟩
   obtain ⟨M, hM⟩ : ∃ M : ByteArray, M = (⟨#[32]⟩ : ByteArray) ++ t ++ (⟨#[32]⟩ : ByteArray) := ⟨_, rfl⟩
   obtain ⟨T, hT⟩ : ∃ T : ByteArray, T = (⟨#[41]⟩ : ByteArray) := ⟨_, rfl⟩
   have HE : Hid (wrN (.mk 8 t ks a) = H.data.toList ++ jnW M.data.toList true (wrT ks) ++ T.data.toList) := by show _ = _; subst hH hM hT; simp [wrN, frW, ByteArray.data_append]
   have hl : pre.length + H.size + (jnW M.data.toList true (wrT ks)).length + T.size ≤ 1000000000 := by
    have := HL.out
    have q1 : H.data.toList.length = H.size := by simp
    have q2 : T.data.toList.length = T.size := by simp
    rw [HE.out, List.length_append, List.length_append] at this
    omega
   have z1 : (⟨#[32]⟩ : ByteArray).size + (t : ByteArray).size ≤ 9223372036854775807 := by show 1 + t.size ≤ _; omega
   have z2 : (⟨#[32]⟩ ++ t : ByteArray).size + (⟨#[32]⟩ : ByteArray).size ≤ 9223372036854775807 := by rw [ByteArray.size_append]; show 1 + t.size + 1 ≤ _; omega
   have HC : Hid (∀ (V : World), WB B b w pre V → Calls Tryd.prog 42 #[.pointer (some ⟨b, 0, none⟩), vS (⟨#[40]⟩), vL sq ks.length sc, vS ((⟨#[32]⟩ : ByteArray) ++ t ++ (⟨#[32]⟩ : ByteArray)), vS (⟨#[41]⟩)] V fun e w' => e = zr (.tuple #[]) ∧ WB B b w (pre ++ wrN (.mk 8 t ks a)) w') := fun V hV => by
    rw [HE.out]
    subst hH hM hT
    exact HK.out V _ _ _ hV hl
   clear HK HL HE hl hH hM hT H M T
   go_enter Tryd.func20, Tryd.ntmps20
   go_wp2_with fail
   refine (HC.out _ (H0.out.alloc (.cells [vi ki 8, vS t, vL sq ks.length sc, vi ki a].toArray 24))).mono ?_
   rintro e V ⟨rfl, hv⟩
   have HF := hZz hv
   clear hv HC
   go_wp2
   exact bodyPost_end (v := .tuple #[]) (by simp [results, Tryd.results20, go_sem]) rfl ⟨rfl, HF.out⟩
  have g8 : (k == 8) = false := by simpa using h8
  rcases Classical.em (k = 9) with rfl | h9
  ·obtain ⟨H, hH⟩ : ∃ H : ByteArray, H = t ++ (⟨#[40]⟩ : ByteArray) := ⟨_, rfl⟩
   obtain ⟨M, hM⟩ : ∃ M : ByteArray, M = (⟨#[44, 32]⟩ : ByteArray) := ⟨_, rfl⟩
   obtain ⟨T, hT⟩ : ∃ T : ByteArray, T = (⟨#[41]⟩ : ByteArray) := ⟨_, rfl⟩
   have HE : Hid (wrN (.mk 9 t ks a) = H.data.toList ++ jnW M.data.toList true (wrT ks) ++ T.data.toList) := by show _ = _; subst hH hM hT; simp [wrN, frW, ByteArray.data_append]
   have hl : pre.length + H.size + (jnW M.data.toList true (wrT ks)).length + T.size ≤ 1000000000 := by
    have := HL.out
    have q1 : H.data.toList.length = H.size := by simp
    have q2 : T.data.toList.length = T.size := by simp
    rw [HE.out, List.length_append, List.length_append] at this
    omega
   have z1 : (t : ByteArray).size + (⟨#[40]⟩ : ByteArray).size ≤ 9223372036854775807 := by show t.size + 1 ≤ _; omega
   have HC : Hid (∀ (V : World), WB B b w pre V → Calls Tryd.prog 42 #[.pointer (some ⟨b, 0, none⟩), vS (t ++ (⟨#[40]⟩ : ByteArray)), vL sq ks.length sc, vS (⟨#[44, 32]⟩), vS (⟨#[41]⟩)] V fun e w' => e = zr (.tuple #[]) ∧ WB B b w (pre ++ wrN (.mk 9 t ks a)) w') := fun V hV => by
    rw [HE.out]
    subst hH hM hT
    exact HK.out V _ _ _ hV hl
   clear HK HL HE hl hH hM hT H M T
   go_enter Tryd.func20, Tryd.ntmps20
   go_wp2_with fail
   refine (HC.out _ (H0.out.alloc (.cells [vi ki 9, vS t, vL sq ks.length sc, vi ki a].toArray 24))).mono ?_
   rintro e V ⟨rfl, hv⟩
   have HF := hZz hv
   clear hv HC
   go_wp2
   exact bodyPost_end (v := .tuple #[]) (by simp [results, Tryd.results20, go_sem]) rfl ⟨rfl, HF.out⟩
  have g9 : (k == 9) = false := by simpa using h9
  rcases Classical.em (k = 10) with rfl | h10
  ·obtain ⟨H, hH⟩ : ∃ H : ByteArray, H = (⟨#[40]⟩ : ByteArray) := ⟨_, rfl⟩
   obtain ⟨M, hM⟩ : ∃ M : ByteArray, M = (⟨#[]⟩ : ByteArray) := ⟨_, rfl⟩
   obtain ⟨T, hT⟩ : ∃ T : ByteArray, T = (⟨#[58, 58]⟩ : ByteArray) ++ t ++ (⟨#[41]⟩ : ByteArray) := ⟨_, rfl⟩
   have HE : Hid (wrN (.mk 10 t ks a) = H.data.toList ++ jnW M.data.toList true (wrT ks) ++ T.data.toList) := by show _ = _; subst hH hM hT; simp [wrN, frW, ByteArray.data_append]
   have hl : pre.length + H.size + (jnW M.data.toList true (wrT ks)).length + T.size ≤ 1000000000 := by
    have := HL.out
    have q1 : H.data.toList.length = H.size := by simp
    have q2 : T.data.toList.length = T.size := by simp
    rw [HE.out, List.length_append, List.length_append] at this
    omega
   have z1 : (⟨#[58, 58]⟩ : ByteArray).size + (t : ByteArray).size ≤ 9223372036854775807 := by show 2 + t.size ≤ _; omega
   have z2 : (⟨#[58, 58]⟩ ++ t : ByteArray).size + (⟨#[41]⟩ : ByteArray).size ≤ 9223372036854775807 := by rw [ByteArray.size_append]; show 2 + t.size + 1 ≤ _; omega
   have HC : Hid (∀ (V : World), WB B b w pre V → Calls Tryd.prog 42 #[.pointer (some ⟨b, 0, none⟩), vS (⟨#[40]⟩), vL sq ks.length sc, vS (⟨#[]⟩), vS ((⟨#[58, 58]⟩ : ByteArray) ++ t ++ (⟨#[41]⟩ : ByteArray))] V fun e w' => e = zr (.tuple #[]) ∧ WB B b w (pre ++ wrN (.mk 10 t ks a)) w') := fun V hV => by
    rw [HE.out]
    subst hH hM hT
    exact HK.out V _ _ _ hV hl
   clear HK HL HE hl hH hM hT H M T
   go_enter Tryd.func20, Tryd.ntmps20
   go_wp2_with fail
   refine (HC.out _ (H0.out.alloc (.cells [vi ki 10, vS t, vL sq ks.length sc, vi ki a].toArray 24))).mono ?_
   rintro e V ⟨rfl, hv⟩
   have HF := hZz hv
   clear hv HC
   go_wp2
   exact bodyPost_end (v := .tuple #[]) (by simp [results, Tryd.results20, go_sem]) rfl ⟨rfl, HF.out⟩
  have g10 : (k == 10) = false := by simpa using h10
  have HE : Hid (wrN (.mk k t ks a) = []) := by show _ = _; simp [wrN, frW, h1, h2', h3, h4, h5, h6, h7, h8, h9, h10]
  have HF : Hid (WB B b w (pre ++ wrN (.mk k t ks a)) (w.alloc (.cells [vi ki k, vS t, vL sq ks.length sc, vi ki a].toArray 24))) := by show WB _ _ _ _ _; rw [HE.out, List.append_nil]; exact H0.out.alloc _
  clear HK HL HE
  go_enter Tryd.func20, Tryd.ntmps20
  go_wp2
  exact bodyPost_end (v := .tuple #[]) (by simp [results, Tryd.results20, go_sem]) rfl ⟨rfl, HF.out⟩
theorem string_any (n : Nd) (htz : tzN n = true) (w : World) (m : Int) (c0 c1 c2 c3 : Value) (h : NdAt (fun _ => True) w n [c0, c1, c2, c3]) (h2 : 2 < w.heap.size) (hm : w.cell? ⟨2, 0, none⟩ = some (vi ki m)) (hlen : (wrN n).length ≤ 1000000000) :
  Calls Tryd.prog 10 #[.agg #[c0, c1, c2, c3]] w fun e w' => e = zr (vS ⟨(wrN n).toArray⟩) ∧ Below w.heap.size w w' := by
 obtain ⟨k, t, sq, sn, sc, a, rfl, rfl, rfl, rfl⟩ := h.form
 have HN := hZz h
 have HM := hZz hm
 have HC : Hid (WrOk n) := write_any n
 clear h hm
 obtain ⟨W0, hW0⟩ : ∃ W0, W0 = w.alloc (.cells [vi ki k, vS t, vL sq sn sc, vi ki a].toArray 24) := ⟨_, rfl⟩
 have HK0 : Hid (Below w.heap.size w W0) := by rw [hW0]; exact (Below.refl _ w).alloc (Nat.le_refl _) _
 have hz : W0.heap.size = w.heap.size + 1 := by rw [hW0]; simp
 have HWB : Hid (WB W0.heap.size W0.heap.size (W0.alloc (.cells #[.pointer none, vL none 0 0] 64)) [] (W0.alloc (.cells #[.pointer none, vL none 0 0] 64))) := WB.start (built_new W0) (by simp)
 have HKA : Hid (Below w.heap.size w (W0.alloc (.cells #[.pointer none, vL none 0 0] 64))) := HK0.out.alloc HK0.out.size _
 have HCW : Hid (Calls Tryd.prog 20 #[.pointer (some ⟨W0.heap.size, 0, none⟩), .agg #[vi ki k, vS t, vL sq sn sc, vi ki a]] (W0.alloc (.cells #[.pointer none, vL none 0 0] 64)) fun e w' => e = zr (.tuple #[]) ∧ WB W0.heap.size W0.heap.size (W0.alloc (.cells #[.pointer none, vL none 0 0] 64)) (wrN n) w') := by
  have q := HC.out htz W0.heap.size W0.heap.size _ [] m _ _ _ _ (NdAt.keep HKA.out.size (fun c _ hc => ⟨by omega, HKA.out.block c hc⟩) n _ HN.out) HWB.out (by omega) ((HKA.out.cell (p := ⟨2, 0, none⟩) h2).trans HM.out) (by simpa using hlen)
  rw [List.nil_append] at q
  exact q
 clear HC HN HWB
 generalize wrN n = R at *
 rw [hz] at HCW
 subst hW0
 clear hz
 go_enter Tryd.func10, Tryd.ntmps10
 go_wp2_with fail
 refine HCW.out.mono ?_
 rintro e V ⟨rfl, hv⟩
 have HV := hZz hv
 clear hv HCW
 go_wp2_with fail
 refine (Tryd.Builder_String_any_k _ _ R V HV.out.1 HV.out.le).mono ?_
 rintro e V2 ⟨rfl, -, hb2, -⟩
 have HF : Hid (Below w.heap.size w V2) := (HKA.out.trans (HV.out.2.1.mono (by simp))).trans (hb2.mono (by simp))
 clear hb2 HV HKA HK0
 go_wp2
 go_ret
 exact ⟨rfl, HF.out⟩
theorem split_lt (s : ByteArray) : ∀ (f pos : Nat) (l : List Prt) (a : Int) (i : Nat), splitF s f pos l a = .inl i → i < s.size
 | 0, pos, l, a, i, h => by simp [splitF] at h
 | f + 1, pos, l, a, i, h => by
  rw [splitF] at h
  split at h
  ·split at h
   ·simp only [Sum.inl.injEq] at h; omega
   ·split at h
    ·exact split_lt s f _ _ _ i h
    ·split at h
     ·exact split_lt s f _ _ _ i h
     ·exact split_lt s f _ _ _ i h
  ·exact absurd h (by simp)
def Wi (s : ByteArray) (a : Int) : Prop := 0 ≤ a ∧ a < (s.size : Int)
def We (s : ByteArray) (a : Int) : Prop := 0 ≤ a ∧ a ≤ (s.size : Int)
theorem toks_pl (s : ByteArray) : ∀ (n : Nat) (L A : List Tk) (b : Nat), Od s b L → (∀ t ∈ A, Wi s t.2.2) →
  match toksF s n L A with
  | .inl i => Wi s i
  | .inr T => ∀ t ∈ T, (t.1 ≠ 0 → Wi s t.2.2) ∧ We s t.2.2
 | 0, L, A, b, ho, h => by
  rw [toksF]
  intro t ht
  simp only [List.mem_append, List.mem_singleton] at ht
  rcases ht with ht | rfl
  ·exact ⟨fun _ => h t ht, (h t ht).1, Int.le_of_lt (h t ht).2⟩
  ·exact ⟨fun q => absurd rfl q, by simp [We]⟩
 | n + 1, [], A, b, ho, h => by
  rw [toksF]
  intro t ht
  simp only [List.mem_append, List.mem_singleton] at ht
  rcases ht with ht | rfl
  ·exact ⟨fun _ => h t ht, (h t ht).1, Int.le_of_lt (h t ht).2⟩
  ·exact ⟨fun q => absurd rfl q, by simp [We]⟩
 | n + 1, p :: l, A, b, ho, h => by
  have hp : Wi s p.2.2 := by
   have := ho.1; have := ho.2.1; have := ho.2.2.1
   exact ⟨by omega, by omega⟩
  rw [toksF]
  by_cases hm : (fstT p l).2 = 0
  ·rw [if_pos hm]; exact hp
  ·rw [if_neg hm]
   refine toks_pl s n _ _ b (Od_drop _ _ _ ho) (fun t ht => ?_)
   simp only [List.mem_append, List.mem_singleton] at ht
   rcases ht with ht | rfl
   ·exact h t ht
   ·exact hp
theorem parse_pl (s : ByteArray) (hs : s.size ≤ 2048) : match parseB s with
  | .inl x => We s x.1 ∧ (x.2 = 21 → Wi s x.1) ∧ x.2 ≠ 0
  | .inr n => PlN (Wi s) n := by
 unfold parseB
 cases ht : toksB s with
 | inl x =>
  dsimp only
  unfold toksB at ht
  cases hp : splitB s with
  | inl i =>
   rw [hp] at ht
   simp only [Sum.inl.injEq] at ht; subst ht
   have := split_lt s _ _ _ _ i hp
   exact ⟨⟨by simp, by simp; omega⟩, fun _ => ⟨by simp, by simp; omega⟩, by simp⟩
  | inr P =>
   rw [hp] at ht
   dsimp only at ht
   have q := toks_pl s P.length (texts s P) [] 0 (Od_cov s P 0 _ (splitB_cov hp)) (by simp)
   cases hf : toksF s P.length (texts s P) [] with
   | inl i =>
    rw [hf] at ht q
    simp only [Sum.inl.injEq] at ht; subst ht
    exact ⟨⟨q.1, Int.le_of_lt q.2⟩, fun _ => q, by simp⟩
   | inr T => rw [hf] at ht; exact absurd ht (by simp)
 | inr T =>
  dsimp only
  obtain ⟨hE, _⟩ := toksB_end ht hs
  have hpl : ∀ t ∈ T, (t.1 ≠ 0 → Wi s t.2.2) ∧ We s t.2.2 := by
   unfold toksB at ht
   cases hp : splitB s with
   | inl i => rw [hp] at ht; exact absurd ht (by simp)
   | inr P =>
    rw [hp] at ht
    dsimp only at ht
    have q := toks_pl s P.length (texts s P) [] 0 (Od_cov s P 0 _ (splitB_cov hp)) (by simp)
    cases hf : toksF s P.length (texts s P) [] with
    | inl i => rw [hf] at ht; exact absurd ht (by simp)
    | inr T' =>
     rw [hf] at ht q
     simp only [Sum.inr.injEq] at ht; subst ht
     exact q
  have hG := par_good (Wi s) (We s) (10 * T.length + 10) (.lv 0) 0 T (by simp [okTg]) ⟨hE, fun p hp => (hpl p hp).1, fun p hp => (hpl p hp).2⟩ (by simp [PlT]) (by simp [need])
  cases hp : par (10 * T.length + 10) (.lv 0) 0 T with
  | no a e =>
   rw [hp] at hG
   refine ⟨hG.2, fun h21 => ?_, ?_⟩
   ·have h0 : e = 21 := h21
    have := hG.1
    omega
   ·show e ≠ 0
    have := hG.1
    omega
  | ok n l1 =>
   rw [hp] at hG
   obtain ⟨h1, _, ⟨pre, h2⟩, h3⟩ := hG
   obtain ⟨q, l1, rfl⟩ := h1.cons
   have hq : We s q.2.2 := (hpl q (by rw [h2]; simp)).2
   cases hi : isT q [(0, ⟨#[]⟩)] with
   | false =>
    rw [show endT (.ok n (q :: l1)) = .inl (q.2.2, 30) by simp [endT, hi]]
    exact ⟨hq, fun h => absurd h (by simp), by simp⟩
   | true =>
    rw [show endT (.ok n (q :: l1)) = .inr n by simp [endT, hi]]
    exact h3
def Gl (w : World) : Prop := Tabs w ∧ ∃ m : Int, w.cell? ⟨2, 0, none⟩ = some (vi ki m)
theorem Gl.below {w W : World} (h : Gl w) (hb : Below w.heap.size w W) : Gl W :=
 ⟨Tabs_below h.1 hb, h.2.elim fun m e => ⟨m, (hb.cell (World.block_lt_of_cell? w _ e)).trans e⟩⟩
theorem parse_gl (s : ByteArray) (w : World) (h : Gl w) (hs : s.size ≤ 2048) :
  Calls Tryd.prog 5 #[vS s] w fun e w' => Below w.heap.size w w' ∧ ParOf (fun c => w.heap.size < c) e w' (parseB s) := by
 obtain ⟨hT, m, hm⟩ := h
 exact parse_any s m w hT hm (World.block_lt_of_cell? w _ hm) hs
theorem parse_node {s : ByteArray} {n : Nd} (hp : parseB s = .inr n) (w : World) (h : Gl w) (hs : s.size ≤ 2048) :
  Calls Tryd.prog 5 #[vS s] w fun e w' => Below w.heap.size w w' ∧ ∃ k t sq sn sc a, e = zr (.tuple #[.agg #[vi ki k, vS t, vL sq sn sc, vi ki a], vi ki 0, vi ki 0]) ∧ NdAt (fun c => w.heap.size < c) w' n [vi ki k, vS t, vL sq sn sc, vi ki a] := by
 refine (parse_gl s w h hs).mono ?_
 rw [hp]
 exact fun e w' h => h
theorem string_gl (n : Nd) (htz : tzN n = true) (hlen : (wrN n).length ≤ 1000000000) (X : Nat → Prop) (w : World) (h : Gl w) (c0 c1 c2 c3 : Value) (hn : NdAt X w n [c0, c1, c2, c3]) :
  Calls Tryd.prog 10 #[.agg #[c0, c1, c2, c3]] w fun e w' => e = zr (vS ⟨(wrN n).toArray⟩) ∧ Below w.heap.size w w' := by
 obtain ⟨hT, m, hm⟩ := h
 exact string_any n htz w m c0 c1 c2 c3 (NdAt.keep (Nat.le_refl _) (fun b _ _ => ⟨trivial, rfl⟩) n _ hn) (World.block_lt_of_cell? w _ hm) hm hlen
theorem ba_eq {t : ByteArray} {l : List UInt8} (h : t.data.toList = l) : t = ⟨l.toArray⟩ := by
 subst h; rfl
def kn1 (r : Sum (Int × Int) Nd) : Bool :=
 match r with
 | .inr (.mk k t [n0, .mk k1 t1 ks1 a1] a) => k == 8 && t.data.toList == [43] && a == 2 && t1.data.toList == [42] && wrN (.mk k t [n0, .mk k1 t1 ks1 a1] a) == [40, 49, 32, 43, 32, 40, 50, 32, 42, 32, 40, 120, 40, 51, 41, 58, 58, 100, 97, 116, 101, 41, 41, 41] && stN (.mk k t [n0, .mk k1 t1 ks1 a1] a) == 7 && tzN (.mk k t [n0, .mk k1 t1 ks1 a1] a)
 | _ => false
theorem kn1_get {r : Sum (Int × Int) Nd} (h : kn1 r = true) : ∃ n0 k1 ks1 a1, r = .inr (.mk 8 ⟨#[43]⟩ [n0, .mk k1 ⟨#[42]⟩ ks1 a1] 2) ∧ wrN (.mk 8 ⟨#[43]⟩ [n0, .mk k1 ⟨#[42]⟩ ks1 a1] 2) = [40, 49, 32, 43, 32, 40, 50, 32, 42, 32, 40, 120, 40, 51, 41, 58, 58, 100, 97, 116, 101, 41, 41, 41] ∧ stN (.mk 8 ⟨#[43]⟩ [n0, .mk k1 ⟨#[42]⟩ ks1 a1] 2) = 7 ∧ tzN (.mk 8 ⟨#[43]⟩ [n0, .mk k1 ⟨#[42]⟩ ks1 a1] 2) = true := by
 unfold kn1 at h
 split at h
 case h_1 k t n0 k1 t1 ks1 a1 a =>
  simp only [Bool.and_eq_true, beq_iff_eq] at h
  obtain ⟨⟨⟨⟨⟨⟨rfl, h1⟩, rfl⟩, h2⟩, h3⟩, h4⟩, h5⟩ := h
  obtain rfl := ba_eq h1
  obtain rfl := ba_eq h2
  exact ⟨n0, k1, ks1, a1, rfl, h3, h4, h5⟩
 case h_2 => exact absurd h (by simp)
def kn2 (r : Sum (Int × Int) Nd) : Bool :=
 match r with
 | .inr (.mk k t ks a) => k == 8 && t.data.toList == [97, 116, 32, 116, 105, 109, 101, 32, 122, 111, 110, 101]
 | _ => false
theorem kn2_get {r : Sum (Int × Int) Nd} (h : kn2 r = true) : ∃ ks a, r = .inr (.mk 8 ⟨#[97, 116, 32, 116, 105, 109, 101, 32, 122, 111, 110, 101]⟩ ks a) := by
 unfold kn2 at h
 split at h
 case h_1 k t ks a =>
  simp only [Bool.and_eq_true, beq_iff_eq] at h
  obtain ⟨rfl, h1⟩ := h
  obtain rfl := ba_eq h1
  exact ⟨ks, a, rfl⟩
 case h_2 => exact absurd h (by simp)
theorem kn1_is : kn1 (parseB ⟨#[49, 32, 43, 32, 50, 32, 42, 32, 120, 40, 51, 41, 58, 58, 100, 97, 116, 101]⟩) = true := by decide +kernel
theorem kn2_is : kn2 (parseB ⟨#[100, 97, 116, 101, 32, 39, 50, 48, 50, 52, 45, 48, 49, 45, 48, 49, 39, 32, 97, 116, 32, 116, 105, 109, 101, 32, 122, 111, 110, 101, 32, 39, 85, 84, 67, 39]⟩) = true := by decide +kernel
theorem NdAt.two {X : Nat → Prop} {w : World} {k : Int} {t : ByteArray} {n0 n1 : Nd} {a : Int} {c0 c1 c2 c3 : Value} (h : NdAt X w (.mk k t [n0, n1] a) [c0, c1, c2, c3]) : c0 = vi ki k ∧ c1 = vS t ∧ c3 = vi ki a ∧ ∃ b cap, c2 = vL (some ⟨b, 0, none⟩) 2 cap ∧ 2 ≤ cap ∧ cap ≤ maxLen ∧ X b ∧ b < w.heap.size ∧ ∃ d0 d1 d2 d3 e0 e1 e2 e3, w.cell? ⟨b, 0, none⟩ = some d0 ∧ w.cell? ⟨b, 1, none⟩ = some d1 ∧ w.cell? ⟨b, 2, none⟩ = some d2 ∧ w.cell? ⟨b, 3, none⟩ = some d3 ∧ w.cell? ⟨b, 4, none⟩ = some e0 ∧ w.cell? ⟨b, 5, none⟩ = some e1 ∧ w.cell? ⟨b, 6, none⟩ = some e2 ∧ w.cell? ⟨b, 7, none⟩ = some e3 ∧ NdAt X w n0 [d0, d1, d2, d3] ∧ NdAt X w n1 [e0, e1, e2, e3] := by
 rw [NdAt] at h
 obtain ⟨sv, hcs, hv⟩ := h
 simp only [List.cons.injEq, and_true] at hcs
 obtain ⟨rfl, rfl, rfl, rfl⟩ := hcs
 rcases hv with ⟨q1, q2⟩ | ⟨b, cap, e1, e0, e2, e3, e4, e5, e6⟩
 ·exact absurd q1 (by simp)
 ·rw [RwAt, RwAt] at e6
  obtain ⟨⟨d0, d1, d2, d3, y0, y1, y2, y3, y⟩, ⟨f0, f1, f2, f3, z0, z1, z2, z3, z⟩, -⟩ := e6
  exact ⟨rfl, rfl, rfl, b, cap, e1, e2, e3, e4, e5, d0, d1, d2, d3, f0, f1, f2, f3, y0, y1, y2, y3, z0, z1, z2, z3, y, z⟩
theorem NdAt.head {X : Nat → Prop} {w : World} {k : Int} {t : ByteArray} {ks : List Nd} {a : Int} {c0 c1 c2 c3 : Value} (h : NdAt X w (.mk k t ks a) [c0, c1, c2, c3]) : c0 = vi ki k ∧ c1 = vS t ∧ c3 = vi ki a := by
 rw [NdAt] at h
 obtain ⟨sv, hcs, hv⟩ := h
 simp only [List.cons.injEq, and_true] at hcs
 obtain ⟨rfl, rfl, rfl, rfl⟩ := hcs
 exact ⟨rfl, rfl, rfl⟩
theorem known22_any (w : World) (hGl : Gl w) :
  Calls Tryd.prog 9 #[] w fun e w' => e = zr (.bool true) ∧ Below w.heap.size w w' := by
 obtain ⟨n0, k1, ks1, a1, hp1, hw1, hs1, ht1⟩ := kn1_get kn1_is
 obtain ⟨ks2, a2, hp2⟩ := kn2_get kn2_is
 have HG := hZz hGl
 have HP1 : Hid _ := hp1
 have HP2 : Hid _ := hp2
 have HW1 : Hid _ := hw1
 have HS1 : Hid _ := hs1
 have HT1 : Hid _ := ht1
 clear hGl hp1 hp2 hw1 hs1 ht1
 go_enter Tryd.func9, Tryd.ntmps9
 go_wp2_with fail
 refine (parse_node HP1.out w HG.out (by decide)).mono ?_
 rintro e V ⟨hb, k, t, sq, sn, sc, a, rfl, hnd⟩
 have HN := hZz hnd
 obtain ⟨q0, q1, q3, b, cap, q2, hcap, hmx, hXb, hbV, d0, d1, d2, d3, e0, e1, e2, e3, y0, y1, y2, y3, z0, z1, z2, z3, -, hn1⟩ := hnd.two
 obtain ⟨-, rfl, -⟩ := hn1.head
 simp only [Value.int.injEq, Value.string.injEq, Value.slice.injEq, true_and] at q0 q1 q2 q3
 obtain ⟨rfl, rfl, rfl⟩ := q2
 subst q0 q1 q3
 have HB := hZz hb
 have BV := bsm1 V [vi ki 8, vS ⟨#[43]⟩, vL (some ⟨b, 0, none⟩) 2 sc, vi ki 2] 24
 unfold maxLen at hmx
 clear hb hnd hn1 hXb y0 y1 y2 y3 z0 z2 z3
 go_wp2_with fail
 refine (parse_node HP2.out _ (HG.out.below (HB.out.trans (BV.out.1.mono HB.out.size))) (by decide)).mono ?_
 rintro e U ⟨hb, k', t', sq', sn', sc', a', rfl, hnd⟩
 obtain ⟨q0, q1, -⟩ := hnd.head
 simp only [Value.int.injEq, Value.string.injEq, true_and] at q0 q1
 subst q0 q1
 have BU : Hid (BS V [(V.heap.size, [vi ki 8, vS ⟨#[43]⟩, vL (some ⟨b, 0, none⟩) 2 sc, vi ki 2])] U) := BV.out.below hb
 have BW : Hid (BS V [(V.heap.size, [vi ki 8, vS ⟨#[43]⟩, vL (some ⟨b, 0, none⟩) 2 sc, vi ki 2])] (U.alloc (.cells [vi ki 8, vS ⟨#[97, 116, 32, 116, 105, 109, 101, 32, 122, 111, 110, 101]⟩, vL sq' sn' sc', vi ki a'].toArray 24))) := BU.out.alloc _
 obtain ⟨x0, x1, x2, x3⟩ := BU.out.first.d4
 have hVU := BU.out.first.1
 have v1 := (BU.out.1.cell (p := ⟨b, 5, none⟩) hbV).trans z1
 have hbU : b < U.heap.size := by omega
 clear hb hnd BV
 go_wp2_with fail
 refine (string_gl _ HT1.out (by rw [HW1.out]; decide) (fun c => w.heap.size < c) _ (HG.out.below (HB.out.trans (BW.out.1.mono HB.out.size))) _ _ _ _ (HN.out.below BW.out.1)).mono ?_
 rintro e U2 ⟨he, hk⟩
 rw [HW1.out] at he
 subst he
 have BX : Hid (BS V [(V.heap.size, [vi ki 8, vS ⟨#[43]⟩, vL (some ⟨b, 0, none⟩) 2 sc, vi ki 2])] U2) := BW.out.below hk
 clear hk BW BU x0 x1 x2 x3 v1
 obtain ⟨x0, x1, x2, x3⟩ := BX.out.first.d4
 have hVU2 := BX.out.first.1
 go_wp2_with fail
 refine (steps_any _ (PlN.all _) (fun c => w.heap.size < c) U2 _ _ _ _ (HN.out.below BX.out.1) (by rw [HS1.out]; decide)).mono ?_
 rintro e U3 ⟨he, hk⟩
 rw [HS1.out] at he
 subst he
 have HF : Hid (Below w.heap.size w U3) := (HB.out.trans (BX.out.1.mono HB.out.size)).trans (hk.mono (Nat.le_trans HB.out.size BX.out.1.size))
 clear hk BX x0 x1 x2 x3
 go_wp2
 go_ret
 exact ⟨rfl, HF.out⟩
theorem split_three (s : ByteArray) (f pos : Nat) (l : List Prt) : splitF s f pos l 3 = splitF s f pos l 0 := by
 cases f with
 | zero => rfl
 | succ f =>
  rw [splitF, splitF]
  by_cases hp : pos < s.size
  ·rw [if_pos hp, if_pos hp]
   by_cases c1 : kindP s pos = -1
   ·rw [if_pos c1, if_pos c1]
   ·rw [if_neg c1, if_neg c1]
    by_cases c0 : kindP s pos = 0
    ·rw [if_pos c0, if_pos c0]
    ·rw [if_neg c0, if_neg c0, if_pos (Classical.em (kindP s pos = 3)), if_pos (Or.inr c0)]
  ·rw [if_neg hp, if_neg hp]
theorem split_k {s : ByteArray} {pos : Nat} (hk : kindP s pos = 3) (f : Nat) (l : List Prt) (k k2 : Int) : splitF s f pos l k = splitF s f pos l k2 := by
 cases f with
 | zero => rfl
 | succ f =>
  by_cases hp : pos < s.size
  ·rw [splitF_new hp (by omega) (by omega) (.inl hk), splitF_new hp (by omega) (by omega) (.inl hk)]
  ·rw [splitF_end _ _ _ _ _ hp, splitF_end _ _ _ _ _ hp]
theorem one_size (x : UInt8) : (⟨#[x]⟩ : ByteArray).size = 1 := rfl
def shK (n : Nat) (p : Tk) : Tk := (p.1, p.2.1, p.2.2 + (n : Int))
theorem ext_left (a c : ByteArray) (i j : Nat) (h : j ≤ a.size) : (a ++ c).extract i j = a.extract i j := by
 rw [ByteArray.extract_append, show j - a.size = 0 by omega]
 have : c.extract (i - a.size) 0 = ByteArray.empty := by
  apply ByteArray.ext; simp
 rw [this]; simp
theorem ext_right (a c : ByteArray) (i j : Nat) : (a ++ c).extract (a.size + i) (a.size + j) = c.extract i j := by
 rw [ByteArray.extract_append, show a.size + i - a.size = i by omega, show a.size + j - a.size = j by omega]
 have : a.extract (a.size + i) (a.size + j) = ByteArray.empty := by
  apply ByteArray.ext; simp
 rw [this]; simp
theorem texts_left (a c : ByteArray) : ∀ (l : List Prt) (x z : Nat), Cov a x l z → texts (a ++ c) l = texts a l
 | [], x, z, h => rfl
 | p :: l, x, z, h => by
  obtain ⟨h1, h2, h3, h4, h5⟩ := h
  have q := texts_left a c l _ _ h5
  unfold texts at q ⊢
  rw [List.map_cons, List.map_cons, q, ext_left _ _ _ _ (by omega)]
theorem texts_right (a c : ByteArray) : ∀ (m : List Prt), texts (a ++ c) (m.map (sh a.size)) = (texts c m).map (shK a.size)
 | [] => rfl
 | p :: m => by
  have q := texts_right a c m
  unfold texts at q ⊢
  rw [List.map_cons, List.map_cons, List.map_cons, List.map_cons, q]
  congr 1
  unfold sh shK
  simp only
  rw [ext_right]
  simp [Int.add_comm]
theorem texts_append (s : ByteArray) (l m : List Prt) : texts s (l ++ m) = texts s l ++ texts s m := by simp [texts]
theorem besT_sh (n : Nat) (p q : Tk) : besT (shK n p) (shK n q) = besT p q := by
 unfold besT shK
 simp only
 congr 1
 apply propext; omega
theorem qt_sh (n : Nat) (p : Tk) : qt (shK n p) = qt p := rfl
theorem toQ_sh (n : Nat) : ∀ (k : Nat) (l : List Tk) (i : Nat), l.length ≤ k → toQ i (l.map (shK n)) = toQ i l
 | _, [], i, _ => rfl
 | _, [p], i, _ => rfl
 | 0, p :: q :: l, i, h => by simp at h
 | k + 1, p :: q :: l, i, h => by
  simp only [zl] at h
  have h1 := toQ_sh n k l (i + 2) (by omega)
  have h2 := toQ_sh n k (q :: l) (i + 1) (by simp only [zl]; omega)
  rw [List.map_cons] at h2
  rw [List.map_cons, List.map_cons, toQ, toQ, qt_sh, qt_sh, besT_sh, h1, h2]
theorem toS_sh (n : Nat) : ∀ (l : List Tk) (m : Nat) (p : Tk), toS m (shK n p) (l.map (shK n)) = toS m p l
 | [], m, p => rfl
 | q :: l, m, p => by
  rw [List.map_cons, toS, toS, besT_sh, toS_sh n l (m + 1) q]
  rfl
theorem prT_sh (n : Nat) (p : Tk) (l : List Tk) : prT (shK n p) (l.map (shK n)) = prT p l := by
 cases l with
 | nil => rfl
 | cons q l => rw [List.map_cons, prT, prT, besT_sh]; rfl
theorem dcT_sh (n : Nat) (p : Tk) (l : List Tk) : dcT (shK n p) (l.map (shK n)) = dcT p l := by
 match l with
 | [] => rfl
 | [q] => rfl
 | q :: r :: l => rw [List.map_cons, List.map_cons, dcT, dcT, besT_sh, besT_sh]; rfl
theorem fst_sh (n : Nat) (p : Tk) (l : List Tk) : fstT (shK n p) (l.map (shK n)) = fstT p l := by
 unfold fstT
 rw [qt_sh, toQ_sh n _ l 1 (Nat.le_refl _), toS_sh, prT_sh, dcT_sh]
 rfl
theorem endN_sh (n : Nat) (l : List Tk) (i : Nat) {q : Tk} (h : l[i]? = some q) (h0 : 0 ≤ q.2.2) : endN (l.map (shK n)) i = n + endN l i := by
 unfold endN
 rw [List.getElem?_map, h]
 simp only [Option.map_some, shK]
 omega
theorem tok_sh (a c : ByteArray) (b : Nat) (p : Tk) (l : List Tk) (ho : Od c b (p :: l)) (hm : (fstT p l).2 ≠ 0) : tokT (a ++ c) (shK a.size p) (l.map (shK a.size)) = shK a.size (tokT c p l) := by
 unfold tokT
 rw [fst_sh]
 obtain ⟨q, hq, _, h0, h1, h2, h3⟩ := end_at ho (m := (fstT p l).2) (by omega) (fst_le p l)
 have := endN_sh a.size (p :: l) _ hq h1
 rw [List.map_cons] at this
 rw [this]
 have e : (shK a.size p).2.2.toNat = a.size + p.2.2.toNat := by unfold shK; simp only; omega
 rw [e, ext_right]
 rfl
theorem toks_right (a c : ByteArray) (B : List Tk) : ∀ (n N : Nat) (L A T : List Tk) (b : Nat), Od c b L → L.length ≤ n → L.length ≤ N → toksF c n L A = .inr T → toksF (a ++ c) N (L.map (shK a.size)) (B ++ A.map (shK a.size)) = .inr (B ++ T.map (shK a.size))
 | n, N, [], A, T, b, ho, h1, h2, h => by
  have e : T = A ++ [(0, ⟨#[]⟩, (c.size : Int))] := by
   cases n <;> (simp only [toksF, Sum.inr.injEq] at h; exact h.symm)
  subst e
  have e2 : toksF (a ++ c) N ([].map (shK a.size)) (B ++ A.map (shK a.size)) = .inr ((B ++ A.map (shK a.size)) ++ [(0, ⟨#[]⟩, ((a ++ c).size : Int))]) := by
   cases N <;> simp [toksF]
  rw [e2, ByteArray.size_append]
  simp [shK, Int.add_comm]
 | 0, N, p :: l, A, T, b, ho, h1, h2, h => by simp at h1
 | n + 1, 0, p :: l, A, T, b, ho, h1, h2, h => by simp at h2
 | n + 1, N + 1, p :: l, A, T, b, ho, h1, h2, h => by
  rw [toksF] at h
  rw [List.map_cons, toksF, fst_sh]
  by_cases hm : (fstT p l).2 = 0
  ·rw [if_pos hm] at h; exact absurd h (by simp)
  ·rw [if_neg hm] at h ⊢
   have hd : ((p :: l).drop (fstT p l).2).length ≤ l.length := by simp only [List.length_drop, zl]; omega
   simp only [zl] at h1 h2
   have ih := toks_right a c B n N ((p :: l).drop (fstT p l).2) (A ++ [tokT c p l]) T b (Od_drop _ _ _ ho) (by omega) (by omega) h
   rw [tok_sh a c b p l ho hm, ← List.map_cons, ← List.map_drop]
   rw [List.map_append, ← List.append_assoc] at ih
   exact ih
def HdS : List Tk → Prop
 | [] => True
 | q :: _ => q.1 = 3 ∧ (q.2.1 = ⟨#[40]⟩ ∨ q.2.1 = ⟨#[41]⟩)
theorem HdS.qt {q : Tk} {M : List Tk} (h : HdS (q :: M)) : qt q = false := by
 unfold Go.Proofs.YtaoocecipacnhaaDoor.qt
 rw [decide_eq_false_iff_not]
 intro e
 rcases h.2 with f | f <;> (rw [f] at e; exact absurd e (by decide))
theorem isPr_br (t : ByteArray) {u : ByteArray} (h : u = ⟨#[40]⟩ ∨ u = ⟨#[41]⟩) : isPr (t ++ u) = false := by
 have k : ∀ (x y : UInt8), y ≠ 40 → y ≠ 41 → t ++ u ≠ ⟨#[x, y]⟩ := by
  intro x y h0 h1 e
  have q := congrArg (fun b : ByteArray => b.data.toList.getLast?) e
  rcases h with rfl | rfl
  ·simp at q; exact h0 q.symm
  ·simp at q; exact h1 q.symm
 unfold isPr
 simp only [Bool.or_eq_false_iff, decide_eq_false_iff_not]
 exact ⟨⟨⟨k _ _ (by decide) (by decide), k _ _ (by decide) (by decide)⟩, k _ _ (by decide) (by decide)⟩, k _ _ (by decide) (by decide)⟩
theorem toQ_app {M : List Tk} (hM : HdS M) : ∀ (k : Nat) (l : List Tk) (i : Nat), l.length ≤ k → toQ i l ≠ 0 → toQ i (l ++ M) = toQ i l
 | _, [], i, _, h => by simp [toQ] at h
 | _, [p], i, _, h => by
  cases M with
  | nil => rfl
  | cons q M =>
   rw [toQ] at h ⊢
   by_cases hp : qt p = true
   ·rw [if_pos hp, List.cons_append, List.nil_append, toQ, if_pos hp, hM.qt]; simp
   ·rw [if_neg hp] at h; exact absurd rfl h
 | 0, p :: q :: l, i, h, _ => by simp at h
 | k + 1, p :: q :: l, i, h, hz => by
  simp only [zl] at h
  rw [toQ] at hz
  rw [List.cons_append, List.cons_append, toQ, toQ]
  by_cases hp : qt p = true
  ·rw [if_pos hp] at hz ⊢
   rw [if_pos hp]
   by_cases hq : (besT p q && qt q) = true
   ·rw [if_pos hq] at hz ⊢
    rw [if_pos hq]
    exact toQ_app hM k l _ (by omega) hz
   ·rw [if_neg hq, if_neg hq]
  ·rw [if_neg hp] at hz ⊢
   rw [if_neg hp]
   exact toQ_app hM k (q :: l) _ (by simp only [zl]; omega) hz
theorem toS_app {M : List Tk} (hM : HdS M) : ∀ (l : List Tk) (m : Nat) (p : Tk), toS m p (l ++ M) = toS m p l
 | [], m, p => by
  cases M with
  | nil => rfl
  | cons q M => rw [List.nil_append]; simp [toS, hM.1]
 | q :: l, m, p => by rw [List.cons_append, toS, toS, toS_app hM l]
theorem prT_app {M : List Tk} (hM : HdS M) (p : Tk) (l : List Tk) : prT p (l ++ M) = prT p l := by
 cases l with
 | nil =>
  cases M with
  | nil => rfl
  | cons q M => rw [List.nil_append, prT, prT, isPr_br _ hM.2]; simp
 | cons q l => rfl
theorem dcT_app {M : List Tk} (hM : HdS M) (p : Tk) (l : List Tk) : dcT p (l ++ M) = dcT p l := by
 match l with
 | [] =>
  match M, hM with
  | [], _ => rfl
  | [q], _ => rfl
  | q :: r :: M, hM =>
   rw [List.nil_append, dcT]
   have : decide (q.2.1 = ⟨#[46]⟩) = false := by
    rw [decide_eq_false_iff_not]; intro e
    rcases hM.2 with f | f <;> (rw [f] at e; exact absurd e (by decide))
   rw [this]; simp [dcT]
 | [q] =>
  match M, hM with
  | [], _ => rfl
  | r :: M, hM =>
   rw [List.cons_append, List.nil_append, dcT, hM.1]; simp [dcT]
 | q :: r :: l => rfl
theorem fst_app {M : List Tk} (hM : HdS M) (p : Tk) (l : List Tk) (h : (fstT p l).2 ≠ 0) : fstT p (l ++ M) = fstT p l := by
 unfold fstT at h ⊢
 by_cases hq : qt p = true
 ·rw [if_pos hq] at h ⊢
  rw [if_pos hq, toQ_app hM _ l 1 (Nat.le_refl _) h]
 ·rw [if_neg hq] at h ⊢
  rw [if_neg hq, toS_app hM, prT_app hM, dcT_app hM]
theorem toks_left (a c : ByteArray) {M : List Tk} (hM : HdS M) : ∀ (n N : Nat) (L A T : List Tk) (b : Nat), Od a b L → L.length ≤ n → (L ++ M).length ≤ N → toksF a n L A = .inr T →
  ∃ T0 N', T = T0 ++ [(0, ⟨#[]⟩, (a.size : Int))] ∧ M.length ≤ N' ∧ toksF (a ++ c) N (L ++ M) A = toksF (a ++ c) N' M T0
 | n, N, [], A, T, b, ho, h1, h2, h => by
  have e : T = A ++ [(0, ⟨#[]⟩, (a.size : Int))] := by
   cases n <;> (simp only [toksF, Sum.inr.injEq] at h; exact h.symm)
  exact ⟨A, N, e, by simpa using h2, rfl⟩
 | 0, N, p :: l, A, T, b, ho, h1, h2, h => by simp at h1
 | n + 1, 0, p :: l, A, T, b, ho, h1, h2, h => by simp at h2
 | n + 1, N + 1, p :: l, A, T, b, ho, h1, h2, h => by
  rw [toksF] at h
  by_cases hm : (fstT p l).2 = 0
  ·rw [if_pos hm] at h; exact absurd h (by simp)
  ·rw [if_neg hm] at h
   have hle := fst_le p l
   rw [List.cons_append, toksF, fst_app hM p l hm, if_neg hm]
   have e1 : (p :: (l ++ M)).drop (fstT p l).2 = (p :: l).drop (fstT p l).2 ++ M := by
    rw [← List.cons_append, List.drop_append_of_le_length (by simpa using hle)]
   have e2 : tokT (a ++ c) p (l ++ M) = tokT a p l := by
    unfold tokT
    rw [fst_app hM p l hm]
    obtain ⟨q, hq, h3, h4, h5, h6, h7⟩ := end_at ho (m := (fstT p l).2) (by omega) hle
    have e3 : endN (p :: (l ++ M)) ((fstT p l).2 - 1) = endN (p :: l) ((fstT p l).2 - 1) := by
     unfold endN
     rw [← List.cons_append, List.getElem?_append_left (by simp only [zl]; omega)]
    rw [e3, ext_left _ _ _ _ (by omega)]
   rw [e1, e2]
   simp only [zl, List.length_append] at h1 h2
   exact toks_left a c hM n N _ _ T b (Od_drop _ _ _ ho) (by simp only [List.length_drop, zl]; omega) (by simp only [List.length_append, List.length_drop, zl]; omega) h
theorem toksB_get {s : ByteArray} {T : List Tk} (h : toksB s = .inr T) : ∃ P, splitB s = .inr P ∧ toksF s P.length (texts s P) [] = .inr T := by
 unfold toksB at h
 cases hp : splitB s with
 | inl i => rw [hp] at h; exact absurd h (by simp)
 | inr P =>
  rw [hp] at h
  dsimp only at h
  cases hf : toksF s P.length (texts s P) [] with
  | inl i => rw [hf] at h; exact absurd h (by simp)
  | inr T' => rw [hf] at h; simp only [Sum.inr.injEq] at h; subst h; exact ⟨P, rfl, hf⟩
theorem toksB_of {s : ByteArray} {P : List Prt} {T : List Tk} (hp : splitB s = .inr P) (hf : toksF s P.length (texts s P) [] = .inr T) : toksB s = .inr T := by
 unfold toksB; rw [hp]; dsimp only; rw [hf]
theorem EndL.init : ∀ {A : List Tk} {e : Tk}, EndL (A ++ [e]) → ∀ t ∈ A, t.1 ≠ 0
 | [], e, h, t, ht => by simp at ht
 | [p], e, h, t, ht => by simp at ht; subst ht; exact h.1
 | p :: q :: A, e, h, t, ht => by
  rcases List.mem_cons.1 ht with rfl | ht
  ·exact h.1
  ·exact EndL.init (A := q :: A) (e := e) h.2 t ht
theorem parse_toks {s : ByteArray} {n : Nd} (hs : s.size ≤ 2048) (h : parseB s = .inr n) : ∃ A e, toksB s = .inr (A ++ [(0, ⟨#[]⟩, (s.size : Int))]) ∧ (∀ t ∈ A, t.1 ≠ 0) ∧ e.1 = 0 ∧ par (10 * (A.length + 1) + 10) (.lv 0) 0 (A ++ [(0, ⟨#[]⟩, (s.size : Int))]) = .ok n [e] := by
 unfold parseB at h
 cases ht : toksB s with
 | inl x => rw [ht] at h; exact absurd h (by simp)
 | inr T =>
  rw [ht] at h
  dsimp only at h
  obtain ⟨P, hp, hf⟩ := toksB_get ht
  obtain ⟨A, _, e0, _⟩ := toks_left s (⟨#[]⟩ : ByteArray) (M := []) trivial P.length (texts s P).length (texts s P) [] T 0 (Od_cov s P 0 _ (splitB_cov hp)) (by rw [texts_length]; omega) (by simp) hf
  subst e0
  have hE := (toksB_end ht hs).1
  cases hr : par (10 * (A ++ [((0, ⟨#[]⟩, (s.size : Int)) : Tk)]).length + 10) (.lv 0) 0 (A ++ [((0, ⟨#[]⟩, (s.size : Int)) : Tk)]) with
  | no a e => rw [hr] at h; simp [endT] at h
  | ok m l1 =>
   rw [hr] at h
   have hl := par_less (by simp [okTg]) hE (by simp [need]) hr
   cases l1 with
   | nil => exact hl.1.elim
   | cons q l1 =>
    rw [endT] at h
    by_cases hq : isT q [(0, ⟨#[]⟩)] = true
    ·rw [if_pos hq] at h
     simp only [Sum.inr.injEq] at h; subst h
     have hq0 : q.1 = 0 := by
      obtain ⟨x, hx, hd⟩ := List.any_eq_true.1 hq
      simp at hx; subst hx
      exact (of_decide_eq_true hd).1
     cases l1 with
     | nil => exact ⟨A, q, rfl, EndL.init hE, hq0, by simpa using hr⟩
     | cons u l2 => exact absurd hq0 hl.1.1
    ·rw [if_neg hq] at h; exact absurd h (by simp)
mutual
def cnN : Nd → Nat
 | .mk _ _ ks _ => 1 + cnL ks
def cnL : List Nd → Nat
 | [] => 0
 | n :: l => cnN n + cnL l
end
theorem cnL_append : ∀ (l m : List Nd), cnL (l ++ m) = cnL l + cnL m
 | [], m => by rw [cnL, List.nil_append, Nat.zero_add]
 | n :: l, m => by rw [List.cons_append, cnL, cnL, cnL_append l m]; omega
theorem cn_pos (n : Nd) : 1 ≤ cnN n := by cases n; rw [cnN]; omega
theorem cn_kids (n : Nd) : cnN n = 1 + cnL n.ks := by cases n; rw [cnN]
theorem cnL_len : ∀ l : List Nd, l.length ≤ cnL l
 | [] => by simp [cnL]
 | n :: l => by have := cnL_len l; have := cn_pos n; rw [cnL, zl]; omega
theorem cnL_mem : ∀ {l : List Nd} {n : Nd}, n ∈ l → cnN n ≤ cnL l
 | m :: l, n, h => by
  rw [cnL]
  rcases List.mem_cons.1 h with rfl | h
  ·omega
  ·have := cnL_mem h; omega
theorem tzL_append : ∀ (l m : List Nd), tzL (l ++ m) = (tzL l && tzL m)
 | [], m => by simp [tzL]
 | n :: l, m => by rw [List.cons_append, tzL, tzL, tzL_append l m, Bool.and_assoc]
theorem tz_kids {n : Nd} (h : tzN n = true) : tzL n.ks = true := by cases n; rw [tzN, Bool.and_eq_true] at h; exact h.2
def Ts (p : Tk) : Prop := p.2.1.size ≤ 100000
theorem tz_leaf {p : Tk} (h : Ts p) (k a : Int) : tzN (.mk k p.2.1 [] a) = true := by unfold Ts at h; rw [tzN, tzL]; simpa using h
theorem tz_mk {t : ByteArray} (h : t.size ≤ 100000) (k a : Int) {ks : List Nd} (hk : tzL ks = true) : tzN (.mk k t ks a) = true := by rw [tzN, hk]; simpa using h
theorem tz_one {t : ByteArray} (h : t.size ≤ 100000) (k a : Int) {n : Nd} (hn : tzN n = true) : tzN (.mk k t [n] a) = true := tz_mk h k a (by rw [tzL, tzL, hn]; rfl)
theorem tz_two {t : ByteArray} (h : t.size ≤ 100000) (k a : Int) {n m : Nd} (hn : tzN n = true) (hm : tzN m = true) : tzN (.mk k t [n, m] a) = true := tz_mk h k a (by rw [tzL, tzL, tzL, hn, hm]; rfl)
theorem cn_leaf (k : Int) (t : ByteArray) (a : Int) : cnN (.mk k t [] a) = 1 := by rw [cnN, cnL]
theorem cn_one (k : Int) (t : ByteArray) (a : Int) (n : Nd) : cnN (.mk k t [n] a) = 1 + cnN n := by rw [cnN, cnL, cnL]; omega
theorem cn_two (k : Int) (t : ByteArray) (a : Int) (n m : Nd) : cnN (.mk k t [n, m] a) = 1 + cnN n + cnN m := by rw [cnN, cnL, cnL, cnL]; omega
def ex : Tg → Nat
 | .lv _ => 0
 | .lp _ n => cnN n
 | .zs n => cnN n
 | .cs n => cnN n
 | .ks acc => cnL acc + 1
def TzT : Tg → Prop
 | .lv _ => True
 | .lp _ n => tzN n = true
 | .zs n => tzN n = true
 | .cs n => tzN n = true
 | .ks acc => tzL acc = true
def SzR (g : Tg) (L : List Tk) : PR → Prop
 | .no _ _ => True
 | .ok n l1 => tzN n = true ∧ cnN n + l1.length ≤ ex g + L.length ∧ ∀ t ∈ l1, Ts t
def SzI (r : Tg → Nat → List Tk → PR) : Prop := ∀ g d L, TzT g → (∀ t ∈ L, Ts t) → SzR g L (r g d L)
theorem SzI.ok {r : Tg → Nat → List Tk → PR} (H : SzI r) {g : Tg} {d : Nat} {L : List Tk} {n : Nd} {l1 : List Tk} (hg : TzT g) (hL : ∀ t ∈ L, Ts t) (h : r g d L = .ok n l1) : tzN n = true ∧ cnN n + l1.length ≤ ex g + L.length ∧ ∀ t ∈ l1, Ts t := by
 have := H g d L hg hL; rw [h] at this; exact this
theorem SzI.lv {r : Tg → Nat → List Tk → PR} (H : SzI r) {lev d : Nat} {L : List Tk} {n : Nd} {l1 : List Tk} (hL : ∀ t ∈ L, Ts t) (h : r (.lv lev) d L = .ok n l1) : tzN n = true ∧ cnN n + l1.length ≤ ex (.lv lev) + L.length ∧ ∀ t ∈ l1, Ts t := H.ok (g := .lv lev) trivial hL h
theorem emp_size : ByteArray.empty.size ≤ 100000 := by decide
theorem atz_size : atzB.size ≤ 100000 := by decide
theorem pst_sz {r : Tg → Nat → List Tk → PR} (H : SzI r) : SzI (pst r) := by
 intro g d L hg hL
 cases hR : pst r g d L with
 | no a e => trivial
 | ok n l1 =>
  have h := hR
  clear hR
  show tzN n = true ∧ cnN n + l1.length ≤ ex g + L.length ∧ ∀ t ∈ l1, Ts t
  cases L with
  | nil => cases g <;> cases h
  | cons p l =>
   have hp := hL p (by simp)
   have hl : ∀ t ∈ l, Ts t := fun t ht => hL t (by simp [ht])
   simp only [zl]
   cases g with
   | lv lev =>
    unfold pst at h; dsimp only at h
    by_cases h2 : lev = 2
    ·rw [if_pos h2] at h
     by_cases hq : isT p [(4, notB)] = true
     ·rw [if_pos hq] at h
      by_cases hd : d = 20
      ·rw [if_pos hd] at h; cases h
      rw [if_neg hd] at h
      cases hr : r (.lv 2) (d + 1) l with
      | no a e => rw [hr] at h; cases h
      | ok n1 l2 =>
       rw [hr] at h; cases h
       obtain ⟨q1, q2, q3⟩ := H.lv hl hr
       simp only [ex] at q2 ⊢
       exact ⟨tz_one emp_size _ _ q1, by rw [cn_one]; omega, q3⟩
     ·rw [if_neg hq] at h
      obtain ⟨q1, q2, q3⟩ := H.lv hL h
      simp only [ex, zl] at q2 ⊢
      exact ⟨q1, by omega, q3⟩
    rw [if_neg h2] at h
    by_cases h6 : lev = 6
    ·rw [if_pos h6] at h
     by_cases hq : isT p [(5, b1 45)] = true
     ·rw [if_pos hq] at h
      by_cases hd : d = 20
      ·rw [if_pos hd] at h; cases h
      rw [if_neg hd] at h
      cases hr : r (.lv 6) (d + 1) l with
      | no a e => rw [hr] at h; cases h
      | ok n1 l2 =>
       rw [hr] at h; cases h
       obtain ⟨q1, q2, q3⟩ := H.lv hl hr
       simp only [ex] at q2 ⊢
       exact ⟨tz_one emp_size _ _ q1, by rw [cn_one]; omega, q3⟩
     ·rw [if_neg hq] at h
      obtain ⟨q1, q2, q3⟩ := H.lv hL h
      simp only [ex, zl] at q2 ⊢
      exact ⟨q1, by omega, q3⟩
    rw [if_neg h6] at h
    by_cases h3 : lev = 3
    ·rw [if_pos h3] at h
     cases hr : r (.lv 4) d (p :: l) with
     | no a e => rw [hr] at h; cases h
     | ok n1 l2 =>
      rw [hr] at h
      obtain ⟨q1, q2, q3⟩ := H.lv hL hr
      dsimp only at h
      simp only [ex, zl] at q2 ⊢
      cases l2 with
      | nil => cases h
      | cons q l2 =>
       unfold cmpK at h
       dsimp only at h
       simp only [zl] at q2
       by_cases hq : isT q (sgs 3) = true
       ·rw [if_pos hq] at h
        cases hr2 : r (.lv 4) d l2 with
        | no a e => rw [hr2] at h; cases h
        | ok n2 l3 =>
         rw [hr2] at h; cases h
         obtain ⟨u1, u2, u3⟩ := H.lv (fun t ht => q3 t (by simp [ht])) hr2
         simp only [ex] at u2
         exact ⟨tz_two (q3 q (by simp)) _ _ q1 u1, by rw [cn_two]; omega, u3⟩
       ·rw [if_neg hq] at h; cases h; exact ⟨q1, by simp only [zl]; omega, q3⟩
    rw [if_neg h3] at h
    by_cases h7 : lev = 7
    ·rw [if_pos h7] at h
     cases hr : r (.lv 8) d (p :: l) with
     | no a e => rw [hr] at h; cases h
     | ok n1 l2 =>
      rw [hr] at h
      obtain ⟨q1, q2, q3⟩ := H.lv hL hr
      obtain ⟨u1, u2, u3⟩ := H.ok (show TzT (.zs n1) from q1) q3 h
      simp only [ex, zl] at q2 u2 ⊢
      exact ⟨u1, by omega, u3⟩
    rw [if_neg h7] at h
    by_cases h8 : lev = 8
    ·rw [if_pos h8] at h
     cases hr : r (.lv 9) d (p :: l) with
     | no a e => rw [hr] at h; cases h
     | ok n1 l2 =>
      rw [hr] at h
      obtain ⟨q1, q2, q3⟩ := H.lv hL hr
      obtain ⟨u1, u2, u3⟩ := H.ok (show TzT (.cs n1) from q1) q3 h
      simp only [ex, zl] at q2 u2 ⊢
      exact ⟨u1, by omega, u3⟩
    rw [if_neg h8] at h
    by_cases h9 : lev = 9
    ·rw [if_pos h9] at h
     by_cases p1 : p.1 = 1
     ·rw [if_pos p1] at h; cases h; exact ⟨tz_leaf hp _ _, by rw [cn_leaf]; simp only [ex]; omega, hl⟩
     rw [if_neg p1] at h
     by_cases p2 : p.1 = 2
     ·rw [if_pos p2] at h; cases h; exact ⟨tz_leaf hp _ _, by rw [cn_leaf]; simp only [ex]; omega, hl⟩
     rw [if_neg p2] at h
     by_cases p3 : p.1 = 3
     ·rw [if_pos p3] at h; cases h; exact ⟨tz_leaf hp _ _, by rw [cn_leaf]; simp only [ex]; omega, hl⟩
     rw [if_neg p3] at h
     by_cases p4 : isT p [(4, trueB), (4, falseB)] = true
     ·rw [if_pos p4] at h; cases h; exact ⟨tz_leaf hp _ _, by rw [cn_leaf]; simp only [ex]; omega, hl⟩
     rw [if_neg p4] at h
     by_cases p5 : isT p [(5, b1 40)] = true
     ·rw [if_pos p5] at h
      by_cases hd : d = 20
      ·rw [if_pos hd] at h; cases h
      rw [if_neg hd] at h
      cases hr : r (.lv 0) (d + 1) l with
      | no a e => rw [hr] at h; cases h
      | ok n1 l2 =>
       rw [hr] at h
       obtain ⟨q1, q2, q3⟩ := H.lv hl hr
       simp only [ex] at q2 ⊢
       cases l2 with
       | nil => cases h
       | cons q l2 =>
        dsimp only at h
        simp only [zl] at q2
        by_cases hq : isT q [(5, b1 41)] = true
        ·rw [if_pos hq] at h; cases h; exact ⟨q1, by omega, fun t ht => q3 t (by simp [ht])⟩
        ·rw [if_neg hq] at h; cases h
     rw [if_neg p5] at h
     by_cases p6 : free p = true
     ·rw [if_pos p6] at h
      cases l with
      | nil => cases h
      | cons q l2 =>
       dsimp only at h
       simp only [ex, zl]
       have hq := hl q (by simp)
       have hl2 : ∀ t ∈ l2, Ts t := fun t ht => hl t (by simp [ht])
       by_cases q1 : q.1 = 3 ∧ typB p.2.1 = true
       ·rw [if_pos q1] at h; cases h; exact ⟨tz_one hp _ _ (tz_leaf hq _ _), by rw [cn_one, cn_leaf]; omega, hl2⟩
       rw [if_neg q1] at h
       by_cases q2 : isT q [(5, b1 40)] = true
       ·rw [if_pos q2] at h
        by_cases hd : d = 20
        ·rw [if_pos hd] at h; cases h
        rw [if_neg hd] at h
        cases l2 with
        | nil => cases h
        | cons u l3 =>
         dsimp only at h
         by_cases hu : isT u [(5, b1 41)] = true
         ·rw [if_pos hu] at h; cases h; exact ⟨tz_leaf hp _ _, by rw [cn_leaf]; simp only [zl]; omega, fun t ht => hl2 t (by simp [ht])⟩
         rw [if_neg hu] at h
         cases hr : r (.ks []) (d + 1) (u :: l3) with
         | no a e => rw [hr] at h; cases h
         | ok n1 l4 =>
          rw [hr] at h; cases h
          obtain ⟨u1, u2, u3⟩ := H.ok (show TzT (.ks []) from rfl) hl2 hr
          simp only [ex, cnL, zl] at u2 ⊢
          rw [cn_kids n1] at u2
          exact ⟨tz_mk hp _ _ (tz_kids u1), by rw [cnN]; omega, u3⟩
       ·rw [if_neg q2] at h; cases h
     ·rw [if_neg p6] at h; cases h
    rw [if_neg h9] at h
    cases hr : r (.lv (lev + 1)) d (p :: l) with
    | no a e => rw [hr] at h; cases h
    | ok n1 l2 =>
     rw [hr] at h
     obtain ⟨q1, q2, q3⟩ := H.lv hL hr
     obtain ⟨u1, u2, u3⟩ := H.ok (show TzT (.lp lev n1) from q1) q3 h
     simp only [ex, zl] at q2 u2 ⊢
     exact ⟨u1, by omega, u3⟩
   | lp lev m =>
    unfold pst at h; dsimp only at h
    simp only [ex]
    by_cases hq : isT p (sgs lev) = true
    ·rw [if_pos hq] at h
     cases hr : r (.lv (lev + 1)) d l with
     | no a e => rw [hr] at h; cases h
     | ok n1 l2 =>
      rw [hr] at h
      obtain ⟨q1, q2, q3⟩ := H.lv hl hr
      obtain ⟨u1, u2, u3⟩ := H.ok (show TzT (.lp lev _) from tz_two hp _ _ hg q1) q3 h
      simp only [ex, cn_two] at q2 u2
      exact ⟨u1, by omega, u3⟩
    ·rw [if_neg hq] at h; cases h; exact ⟨hg, by simp only [zl]; omega, hL⟩
   | zs m =>
    unfold pst at h; dsimp only at h
    simp only [ex]
    by_cases hq : isT p [(4, atB)] = true
    ·rw [if_pos hq] at h
     cases l with
     | nil => cases h
     | cons t l2 =>
      dsimp only at h
      by_cases ht : isT t [(4, timeB)] = true
      ·rw [if_pos ht] at h
       cases l2 with
       | nil => cases h
       | cons z l3 =>
        dsimp only at h
        by_cases hz : isT z [(4, zoneB)] = true
        ·rw [if_pos hz] at h
         cases hr : r (.lv 8) d l3 with
         | no a e => rw [hr] at h; cases h
         | ok n1 l4 =>
          rw [hr] at h
          obtain ⟨q1, q2, q3⟩ := H.lv (fun x hx => hl x (by simp [hx])) hr
          obtain ⟨u1, u2, u3⟩ := H.ok (show TzT (.zs _) from tz_two atz_size _ _ hg q1) q3 h
          simp only [ex, cn_two, zl] at q2 u2 ⊢
          exact ⟨u1, by omega, u3⟩
        ·rw [if_neg hz] at h; cases h
      ·rw [if_neg ht] at h; cases h
    ·rw [if_neg hq] at h; cases h; exact ⟨hg, by simp only [zl]; omega, hL⟩
   | cs m =>
    unfold pst at h; dsimp only at h
    simp only [ex]
    by_cases hq : isT p [(5, b2 58 58)] = true
    ·rw [if_pos hq] at h
     cases l with
     | nil => cases h
     | cons t l2 =>
      dsimp only at h
      by_cases ht : free t = true
      ·rw [if_pos ht] at h
       obtain ⟨u1, u2, u3⟩ := H.ok (show TzT (.cs _) from tz_one (hl t (by simp)) _ _ hg) (fun x hx => hl x (by simp [hx])) h
       simp only [ex, cn_one, zl] at u2 ⊢
       exact ⟨u1, by omega, u3⟩
      ·rw [if_neg ht] at h; cases h
    ·rw [if_neg hq] at h; cases h; exact ⟨hg, by simp only [zl]; omega, hL⟩
   | ks acc =>
    unfold pst at h; dsimp only at h
    simp only [ex]
    cases hr : r (.lv 0) d (p :: l) with
    | no a e => rw [hr] at h; cases h
    | ok n1 l2 =>
     rw [hr] at h
     obtain ⟨q1, q2, q3⟩ := H.lv hL hr
     simp only [ex, zl] at q2
     have hacc : tzL (acc ++ [n1]) = true := by rw [tzL_append, tzL, tzL, q1, show tzL acc = true from hg]; rfl
     have hcn : cnL (acc ++ [n1]) = cnL acc + cnN n1 := by rw [cnL_append, cnL, cnL]; omega
     cases l2 with
     | nil => cases h
     | cons q l2 =>
      dsimp only at h
      simp only [zl] at q2
      by_cases c1 : isT q [(5, b1 44)] = true
      ·rw [if_pos c1] at h
       obtain ⟨u1, u2, u3⟩ := H.ok (show TzT (.ks _) from hacc) (fun x hx => q3 x (by simp [hx])) h
       simp only [ex, hcn] at u2
       exact ⟨u1, by omega, u3⟩
      ·rw [if_neg c1] at h
       by_cases c2 : isT q [(5, b1 41)] = true
       ·rw [if_pos c2] at h; cases h; exact ⟨tz_mk emp_size _ _ hacc, by rw [cnN, hcn]; omega, fun x hx => q3 x (by simp [hx])⟩
       ·rw [if_neg c2] at h; cases h
theorem par_sz : ∀ f : Nat, SzI (par f)
 | 0 => fun g d L _ _ => trivial
 | f + 1 => pst_sz (par_sz f)
theorem unq_le : ∀ (k : Nat) (l : List UInt8), l.length ≤ k → (unq l).length ≤ l.length
 | _, [], _ => by simp [unq]
 | _, [c], _ => by simp [unq]
 | 0, a :: b :: l, h => by simp at h
 | k + 1, a :: b :: l, h => by
  simp only [zl] at h
  rw [unq]
  split
  ·have := unq_le k l (by omega); simp only [zl]; omega
  ·have := unq_le k (b :: l) (by simp only [zl]; omega); simp only [zl] at this ⊢; omega
theorem said_le (k : Int) (t : ByteArray) : (saidT k t).size ≤ t.size := by
 unfold saidT
 split
 ·rw [lowB_size]; omega
 ·split
  ·have := unq_le _ (t.extract 1 (t.size - 1)).data.toList (Nat.le_refl _)
   have e : (t.extract 1 (t.size - 1)).data.toList.length = (t.extract 1 (t.size - 1)).size := by simp
   rw [e, ByteArray.size_extract] at this
   show (unq (t.extract 1 (t.size - 1)).data.toList).toArray.size ≤ _
   rw [List.size_toArray]; omega
  ·omega
theorem toks_ts (s : ByteArray) (hs : s.size ≤ 2048) : ∀ (n : Nat) (L A T : List Tk), (∀ t ∈ A, Ts t) → toksF s n L A = .inr T → ∀ t ∈ T, Ts t
 | 0, L, A, T, hA, h => by
  simp only [toksF, Sum.inr.injEq] at h; subst h
  intro t ht
  rcases List.mem_append.1 ht with ht | ht
  ·exact hA t ht
  ·simp at ht; subst ht; exact Nat.zero_le _
 | n + 1, [], A, T, hA, h => by
  simp only [toksF, Sum.inr.injEq] at h; subst h
  intro t ht
  rcases List.mem_append.1 ht with ht | ht
  ·exact hA t ht
  ·simp at ht; subst ht; exact Nat.zero_le _
 | n + 1, p :: l, A, T, hA, h => by
  rw [toksF] at h
  split at h
  ·exact absurd h (by simp)
  ·refine toks_ts s hs n _ _ T (fun t ht => ?_) h
   rcases List.mem_append.1 ht with ht | ht
   ·exact hA t ht
   ·simp at ht; subst ht
    unfold Ts tokT
    have := said_le (fstT p l).1 (s.extract p.2.2.toNat (endN (p :: l) ((fstT p l).2 - 1)))
    rw [ByteArray.size_extract] at this
    show (saidT _ _).size ≤ _
    omega
theorem parse_sz {s : ByteArray} {n : Nd} (hs : s.size ≤ 2048) (h : parseB s = .inr n) : tzN n = true ∧ cnN n ≤ 2049 := by
 obtain ⟨A, e, ht, hA, he, hr⟩ := parse_toks hs h
 obtain ⟨P, hp, hf⟩ := toksB_get ht
 have hT := toks_ts s hs _ _ _ _ (by simp) hf
 obtain ⟨q1, q2, -⟩ := (par_sz _).lv hT hr
 have := (toksB_end ht hs).2
 simp only [ex] at q2
 exact ⟨q1, by omega⟩
end Go.Proofs.YtaoocecipacnhaaDoor
