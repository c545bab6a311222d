import Derived.Test.YtaoocecipacnhaaDoorWz
import Derived.Test.YtaoocecipacnhaaDoorW15
open Go.Value renaming int → vi
open Go.IntKind renaming i64 → ki
open List renaming setIfInBounds_toArray → zb, set_cons_zero → zc, set_cons_succ → zd
open Go.Act renaming put → za
open Go.Ending renaming returned → zr
set_option maxRecDepth 100000
set_option maxHeartbeats 16000000
set_option linter.unusedVariables false
namespace Go.Proofs.YtaoocecipacnhaaDoor
open Go.RowKit
def jnW (b : List UInt8) : Bool → List (List UInt8) → List UInt8
 | _, [] => []
 | f, x :: l => (if f then [] else b) ++ x ++ jnW b false l
theorem jnW_append (b : List UInt8) : ∀ (f : Bool) (l m : List (List UInt8)), jnW b f (l ++ m) = jnW b f l ++ jnW b (f && l.isEmpty) m
 | f, [], m => by simp [jnW]
 | f, x :: l, m => by simp [jnW, jnW_append b false l m]
def rpQ (t : ByteArray) : List UInt8 := Lib.replaceAll t.data.toList [39] [39, 39]
def frW (k : Int) (t : ByteArray) (l : List (List UInt8)) : List UInt8 :=
 if k = 1 then t.data.toList else if k = 2 then t.data.toList else if k = 4 then t.data.toList
 else if k = 3 then [39] ++ rpQ t ++ [39]
 else if k = 5 then (t.data.toList ++ [32]) ++ jnW [] true l ++ []
 else if k = 6 then [40, 45, 32] ++ jnW [] true l ++ [41]
 else if k = 7 then [40, 110, 111, 116, 32] ++ jnW [] true l ++ [41]
 else if k = 8 then [40] ++ jnW ([32] ++ t.data.toList ++ [32]) true l ++ [41]
 else if k = 9 then (t.data.toList ++ [40]) ++ jnW [44, 32] true l ++ [41]
 else if k = 10 then [40] ++ jnW [] true l ++ ([58, 58] ++ t.data.toList ++ [41])
 else []
mutual
def tzN : Nd → Bool
 | .mk _ t ks _ => decide (t.size ≤ 100000) && tzL ks
def tzL : List Nd → Bool
 | [] => true
 | n :: l => tzN n && tzL l
end
theorem tzL_mem : ∀ {l : List Nd}, tzL l = true → ∀ n ∈ l, tzN n = true
 | [], _, n, hn => by simp at hn
 | m :: l, h, n, hn => by
  rw [tzL, Bool.and_eq_true] at h
  rcases List.mem_cons.1 hn with rfl | hn
  ·exact h.1
  ·exact tzL_mem h.2 n hn
mutual
theorem PlN.all : ∀ n : Nd, PlN (fun _ => True) n
 | .mk k t ks a => .mk k t ks a trivial (PlN.alls ks)
theorem PlN.alls : ∀ l : List Nd, ∀ n ∈ l, PlN (fun _ => True) n
 | [], n, h => by simp at h
 | m :: l, n, h => (List.mem_cons.1 h).elim (fun e => e ▸ PlN.all m) (fun q => PlN.alls l n q)
end
mutual
def wrN : Nd → List UInt8
 | .mk k t ks _ => frW k t (wrT ks)
def wrT : List Nd → List (List UInt8)
 | [] => []
 | n :: l => wrN n :: wrT l
end
theorem wrT_map : ∀ l : List Nd, wrT l = l.map wrN
 | [] => by rw [wrT]; rfl
 | n :: l => by rw [wrT, wrT_map l]; rfl
theorem jn_take (b : List UInt8) {l : List Nd} {j : Nat} {n : Nd} (h : l[j]? = some n) : jnW b true (wrT (l.take (j + 1))) = jnW b true (wrT (l.take j)) ++ (if 0 < j then b else []) ++ wrN n := by
 have hj : j < l.length := (List.getElem?_eq_some_iff.1 h).1
 rw [List.take_add_one, h, wrT_map, wrT_map, List.map_append, jnW_append]
 simp only [Option.toList, List.map_cons, List.map_nil, jnW, List.append_nil]
 by_cases h0 : 0 < j
 ·have : ((l.take j).map wrN).isEmpty = false := by
   cases j with
   | zero => omega
   | succ j => cases l with
    | nil => simp at hj
    | cons => rfl
  rw [this, if_pos h0]; simp
 ·obtain rfl : j = 0 := by omega
  simp
theorem jn_le (b : List UInt8) (l : List Nd) (j : Nat) : (jnW b true (wrT (l.take j))).length ≤ (jnW b true (wrT l)).length := by
 have := jnW_append b true (wrT (l.take j)) (wrT (l.drop j))
 rw [wrT_map, wrT_map, ← List.map_append, List.take_append_drop, ← wrT_map, ← wrT_map] at this
 rw [this, List.length_append]; omega
theorem bytes_str (l : List UInt8) (s : ByteArray) : Lib.byteCells l ++ Lib.strCells s = Lib.byteCells (l ++ s.data.toList) := by simp [Lib.byteCells, Lib.strCells]
theorem built_new (w : World) : Lib.IsBuilderF 64 5 w.heap.size w.heap.size (Lib.byteCells []) (w.alloc (.cells #[.pointer none, .slice none 0 0] 64)) :=
 .inl ⟨Nat.le_refl _, .slice none 0 0, heap_alloc_new w _, World.ownsRowF_nil _ _ _ _, by simp [Value.ownBlock]⟩
theorem built_at {T e : TypeId} {B b : Nat} {p : Value} {bs : List Value} {W W1 : World} (h : Lib.BuilderAtF T e B b p bs W) (hb : Below W.heap.size W W1) : Lib.BuilderAtF T e B b p bs W1 := by
 obtain ⟨hB, v, hh, ho, hne⟩ := h
 refine ⟨hB, v, (hb.block _ (Array.getElem?_eq_some_iff.1 hh).1).trans hh, ⟨ho.1, ?_⟩, hne⟩
 rcases ho.2 with h0 | ⟨g, cap, cur, fz, e0, h1, h2, h3⟩
 ·exact .inl h0
 ·exact .inr ⟨g, cap, cur, fz, e0, h1, (hb.block _ (Array.getElem?_eq_some_iff.1 h2).1).trans h2, h3⟩
theorem built_below {T e : TypeId} {B b : Nat} {bs : List Value} {W W1 : World} (h : Lib.IsBuilderF T e B b bs W) (hb : Below W.heap.size W W1) : Lib.IsBuilderF T e B b bs W1 :=
 h.elim (fun x => .inl (built_at x hb)) (fun x => .inr (built_at x hb))
theorem built_lt {T e : TypeId} {B b : Nat} {bs : List Value} {W : World} (h : Lib.IsBuilderF T e B b bs W) : b < W.heap.size ∧ B ≤ b := by
 rcases h with ⟨hB, v, hh, _⟩ | ⟨hB, v, hh, _⟩ <;> exact ⟨(Array.getElem?_eq_some_iff.1 hh).1, hB⟩
def WB (B b : Nat) (w : World) (l : List UInt8) (W : World) : Prop := Lib.IsBuilderF 64 5 B b (Lib.byteCells l) W ∧ Below B w W ∧ B ≤ w.heap.size
theorem WB.le {B b : Nat} {w W : World} {l : List UInt8} (h : WB B b w l W) : B ≤ W.heap.size := Nat.le_trans h.2.2 h.2.1.size
theorem WB.alloc {B b : Nat} {w W : World} {l : List UInt8} (h : WB B b w l W) (o : Obj) : WB B b w l (W.alloc o) := ⟨h.1.alloc _, h.2.1.alloc h.le _, h.2.2⟩
theorem WB.below {B b : Nat} {w W V : World} {l : List UInt8} (h : WB B b w l W) (k : Below W.heap.size W V) : WB B b w l V := ⟨built_below h.1 k, h.2.1.trans (k.mono h.le), h.2.2⟩
theorem WB.start {B b : Nat} {w : World} {l : List UInt8} (h : Lib.IsBuilderF 64 5 B b (Lib.byteCells l) w) (hB : B ≤ w.heap.size) : WB B b w l w := ⟨h, Below.refl _ _, hB⟩
theorem WB.trans {B b : Nat} {w W V : World} {l m : List UInt8} (h : WB B b w l W) (k : WB B b W m V) : WB B b w m V := ⟨k.1, h.2.1.trans k.2.1, h.2.2⟩
theorem wstr {B b : Nat} {w W : World} {l : List UInt8} (h : WB B b w l W) (s : ByteArray) (hl : l.length + s.size ≤ 1000000000) :
  Calls Tryd.prog 40 #[.pointer (some ⟨b, 0, none⟩), .string s] W fun e w' => e = zr (.tuple #[vi ki s.size, .nilIface]) ∧ WB B b w (l ++ s.data.toList) w' ∧ Lib.OthersKept 5 (some b) W w' ∧ W.heap.size ≤ w'.heap.size := by
 refine (writeString B b (Lib.byteCells l) s W h.1 (by rw [Lib.byteCells_length]; omega) h.le).mono ?_
 rintro e w' ⟨he, h1, h2, h3⟩
 rw [bytes_str] at h1
 exact ⟨he, ⟨.inr h1, h.2.1.trans h2, h.2.2⟩, h3, h2.size⟩
def WrOk (n : Nd) : Prop := tzN n = true → ∀ (B b : Nat) (w : World) (pre : List UInt8) (m : Int) (c0 c1 c2 c3 : Value), NdAt (fun c => c < B) w n [c0, c1, c2, c3] → WB B b w pre w → 2 < B → w.cell? ⟨2, 0, none⟩ = some (vi ki m) → pre.length + (wrN n).length ≤ 1000000000 →
  Calls Tryd.prog 20 #[.pointer (some ⟨b, 0, none⟩), .agg #[c0, c1, c2, c3]] w fun e w' => e = zr (.tuple #[]) ∧ WB B b w (pre ++ wrN n) w'
theorem kept_bx {W V : World} {b : Nat} {cs : List Value} {t : TypeId} (h : Lib.OthersKept 5 (some b) (W.alloc (.cells cs.toArray t)) V) (ht : t ≠ 5) (hb : b < W.heap.size) (hs : (W.alloc (.cells cs.toArray t)).heap.size ≤ V.heap.size) : Bx V W.heap.size cs := by
 have e := heap_alloc_new W (.cells cs.toArray t)
 have q := (h _ _ e (by simp; omega) (fun c fz q => by cases q; exact ht rfl)).trans e.symm
 have k := Bx.new W cs t
 exact ⟨Nat.lt_of_lt_of_le k.1 hs, fun i v hv => ⟨(World.cell?_of_block (w := W.alloc (.cells cs.toArray t)) (a := ⟨W.heap.size, i, none⟩) q).trans (k.2 i v hv).1, (World.frozen?_of_block (w := W.alloc (.cells cs.toArray t)) (a := ⟨W.heap.size, i, none⟩) q).trans (k.2 i v hv).2⟩⟩
def KdAt (B : Nat) (w : World) (ks : List Nd) (sq : Option Addr) (sc : Nat) : Prop := ∀ j n, ks[j]? = some n → ∃ r, sq = some ⟨r, 0, none⟩ ∧ ks.length ≤ sc ∧ r < B ∧ r < w.heap.size ∧ ∃ d0 d1 d2 d3, w.cell? ⟨r, j * 4, none⟩ = some d0 ∧ w.cell? ⟨r, j * 4 + 1, none⟩ = some d1 ∧ w.cell? ⟨r, j * 4 + 2, none⟩ = some d2 ∧ w.cell? ⟨r, j * 4 + 3, none⟩ = some d3 ∧ NdAt (fun c => c < B) w n [d0, d1, d2, d3]
theorem wk_any (ks : List Nd) (hW : ∀ n ∈ ks, WrOk n) (htz : tzL ks = true) (B b : Nat) (w : World) (pre : List UInt8) (m : Int) (H M T : ByteArray) (sq : Option Addr) (sc : Nat) (hkl : ks.length ≤ 9223372036854775807) (hG : KdAt B w ks sq sc) (hw : WB B b w pre w) (h2 : 2 < B) (hm : w.cell? ⟨2, 0, none⟩ = some (vi ki m)) (hlen : pre.length + H.size + (jnW M.data.toList true (wrT ks)).length + T.size ≤ 1000000000) :
  Calls Tryd.prog 42 #[.pointer (some ⟨b, 0, none⟩), .string H, .slice sq ks.length sc, .string M, .string T] w fun e w' => e = zr (.tuple #[]) ∧ WB B b w (pre ++ (H.data.toList ++ jnW M.data.toList true (wrT ks) ++ T.data.toList)) w' := by
 have HW : Hid (∀ n ∈ ks, WrOk n) := hW
 have HTz : Hid (tzL ks = true) := htz
 have HG : Hid (KdAt B w ks sq sc) := hG
 have H0 : Hid (WB B b w pre w) := hw
 have HM : Hid (w.cell? ⟨2, 0, none⟩ = some (vi ki m)) := hm
 have hHs : H.data.toList.length = H.size := by simp
 have HL : Hid (pre.length + H.data.toList.length + (jnW M.data.toList true (wrT ks)).length + T.size ≤ 1000000000) := by show _ ≤ _; rw [hHs]; exact hlen
 have hB2 : 2 < w.heap.size := by have := hw.2.2; omega
 have hl1 : pre.length + H.size ≤ 1000000000 := by omega
 have hklI : (ks.length : Int) ≤ 9223372036854775807 := by omega
 clear hW hG hw hm hlen hHs htz
 go_enter Tryd.func42, Tryd.ntmps42
 go_wp2_with fail
 refine (wstr H0.out H hl1).mono ?_
 rintro e W1 ⟨rfl, hw1, -, -⟩
 have H1 : Hid (WB B b w (pre ++ H.data.toList) W1) := hw1
 clear hw1
 go_wp2_with fail
 go_loopw [17] (fun i W => ∃ j : Nat, j ≤ ks.length ∧ i = vi ki (j : Int) ∧ Hid (WB B b w (pre ++ H.data.toList ++ jnW M.data.toList true (wrT (ks.take j))) W)) (fun i _ => ks.length - (intOf i).toNat)
 case atStart => exact ⟨0, Nat.zero_le _, rfl, by rw [List.take_zero, wrT, jnW, List.append_nil]; exact H1.out⟩
 case round =>
  clear H1
  obtain ⟨j, hj, rfl, H1⟩ := hrel
  have hj0 : (0 : Int) ≤ (j : Int) := by omega
  have hBw := H1.out.le
  have hbB := (built_lt H1.out.1).1
  have hLj : (pre ++ H.data.toList ++ jnW M.data.toList true (wrT (ks.take j))).length + T.size ≤ 1000000000 := by
   have := HL.out; have := jn_le M.data.toList ks j
   simp only [List.length_append]; omega
  by_cases hjl : j < ks.length
  ·have hjI : (j : Int) < (ks.length : Int) := by omega
   have hjw : IntKind.i64.wrap ((j : Int) + 1) = (j : Int) + 1 := by rw [IntKind.wrap_i64]; omega
   obtain ⟨r, rfl, hsc, hrB, hrw, d0, d1, d2, d3, y0, y1, y2, y3, hnd⟩ := HG.out j _ (List.getElem?_eq_getElem hjl)
   have et : Hid (jnW M.data.toList true (wrT (ks.take (j + 1))) = jnW M.data.toList true (wrT (ks.take j)) ++ (if 0 < j then M.data.toList else []) ++ wrN ks[j]) := jn_take _ (List.getElem?_eq_getElem hjl)
   have el : Hid ((jnW M.data.toList true (wrT (ks.take (j + 1)))).length ≤ (jnW M.data.toList true (wrT ks)).length) := jn_le _ _ _
   have hl3 : (pre ++ H.data.toList ++ jnW M.data.toList true (wrT (ks.take j))).length + (if 0 < j then M.data.toList else []).length + (wrN ks[j]).length ≤ 1000000000 := by
    have := HL.out; have := el.out
    rw [et.out] at this
    simp only [List.length_append] at this ⊢
    omega
   have hC := HW.out _ (List.getElem_mem hjl) (tzL_mem HTz.out _ (List.getElem_mem hjl))
   have HN : Hid (NdAt (fun c => c < B) w ks[j] [d0, d1, d2, d3]) := hnd
   have v0 := (H1.out.2.1.cell (p := ⟨r, j * 4, none⟩) hrB).trans y0
   have v1 := (H1.out.2.1.cell (p := ⟨r, j * 4 + 1, none⟩) hrB).trans y1
   have v2 := (H1.out.2.1.cell (p := ⟨r, j * 4 + 2, none⟩) hrB).trans y2
   have v3 := (H1.out.2.1.cell (p := ⟨r, j * 4 + 3, none⟩) hrB).trans y3
   have hrr : r < wr.heap.size := by omega
   obtain ⟨k2, t2, sq2, sn2, sc2, a2, rfl, rfl, rfl, rfl⟩ := hnd.form
   have HC : Hid (∀ (V : World) (l : List UInt8), WB B b w l V → l.length + (wrN ks[j]).length ≤ 1000000000 → Calls Tryd.prog 20 #[.pointer (some ⟨b, 0, none⟩), .agg #[vi ki k2, .string t2, .slice sq2 sn2 sc2, vi ki a2]] V fun e w' => e = zr (.tuple #[]) ∧ WB B b w (l ++ wrN ks[j]) w') := fun V l hv hl => by
    refine (hC B b V l m _ _ _ _ (NdAt.keep hv.2.1.size (fun c hc _ => ⟨hc, hv.2.1.block c hc⟩) _ _ hnd) (WB.start hv.1 hv.le) h2 ((hv.2.1.cell (p := ⟨2, 0, none⟩) h2).trans HM.out) hl).mono ?_
    rintro e w' ⟨he, hv2⟩
    exact ⟨he, hv.trans hv2⟩
   generalize wrN ks[j] = N at *
   clear y0 y1 y2 y3 hnd hC
   generalize jnW M.data.toList true (wrT (ks.take j)) = J at *
   by_cases hj1 : 0 < j
   ·have hj1I : (0 : Int) < (j : Int) := by omega
    rw [if_pos hj1] at hl3
    have hM : M.data.toList.length = M.size := by simp
    have ET : Hid (jnW M.data.toList true (wrT (ks.take (j + 1))) = J ++ M.data.toList ++ N) := by have := et.out; rw [if_pos hj1] at this; exact this
    clear et el
    go_wp2_with fail
    refine (wstr (H1.out.alloc (.cells [vi ki k2, .string t2, .slice sq2 sn2 sc2, vi ki a2].toArray 24)) M (by omega)).mono ?_
    rintro e V ⟨rfl, hv, hk, hs⟩
    have hX := kept_bx hk (by decide) hbB hs
    obtain ⟨x0, x1, x2, x3⟩ := hX.d4
    have hV := hX.1
    have HV : Hid (WB B b w (pre ++ H.data.toList ++ J ++ M.data.toList) V) := hv
    clear hX hv hk hs H1 v0 v1 v2 v3
    go_wp2_with fail
    refine (HC.out V _ HV.out (by rw [List.length_append]; omega)).mono ?_
    rintro e V2 ⟨rfl, hv2⟩
    have HF : Hid (WB B b w (pre ++ H.data.toList ++ jnW M.data.toList true (wrT (ks.take (j + 1)))) V2) := by
     show WB _ _ _ _ _
     rw [ET.out]
     simpa only [List.append_assoc] using hv2
    clear hv2 HV HC x0 x1 x2 x3
    go_wp2
    exact ⟨⟨j + 1, by omega, by simp, HF.out⟩, by simp [intOf]; omega⟩
   ·have hj1I : ¬ (0 : Int) < (j : Int) := by omega
    rw [if_neg hj1] at hl3
    have ET : Hid (jnW M.data.toList true (wrT (ks.take (j + 1))) = J ++ N) := by have := et.out; rw [if_neg hj1, List.append_nil] at this; exact this
    clear et el
    go_wp2_with fail
    refine (HC.out _ _ (H1.out.alloc (.cells [vi ki k2, .string t2, .slice sq2 sn2 sc2, vi ki a2].toArray 24)) (by simp only [List.length_append, List.length_nil, Nat.add_zero] at hl3 ⊢; omega)).mono ?_
    rintro e V2 ⟨rfl, hv2⟩
    have HF : Hid (WB B b w (pre ++ H.data.toList ++ jnW M.data.toList true (wrT (ks.take (j + 1)))) V2) := by
     show WB _ _ _ _ _
     rw [ET.out]
     simpa only [List.append_assoc] using hv2
    clear hv2 HC v0 v1 v2 v3 H1
    go_wp2
    exact ⟨⟨j + 1, by omega, by simp, HF.out⟩, by simp [intOf]; omega⟩
  ·obtain rfl : j = ks.length := by omega
   rw [List.take_length] at hLj H1
   have hjI : ¬ (ks.length : Int) < (ks.length : Int) := by omega
   go_wp2_with fail
   refine (wstr H1.out T hLj).mono ?_
   rintro e V ⟨rfl, hv, -, -⟩
   have HV : Hid (WB B b w (pre ++ (H.data.toList ++ jnW M.data.toList true (wrT ks) ++ T.data.toList)) V) := by
    show WB _ _ _ _ _
    simpa only [List.append_assoc] using hv
   clear hv H1
   go_wp2
   exact bodyPost_end (v := .tuple #[]) (by simp [results, Tryd.results42, go_sem]) rfl ⟨rfl, HV.out⟩
set_option linter.unusedSimpArgs false
theorem write_any (n : Nd) : WrOk n := by
 have hn := PlN.all n
 induction hn with
 | mk k t ks a ha hk ih =>
  intro htz B b w pre m c0 c1 c2 c3 h hw h2 hm hlen
  rw [NdAt] at h
  obtain ⟨sv, hcs, hv⟩ := h
  simp only [List.cons.injEq, and_true] at hcs
  obtain ⟨rfl, rfl, rfl, rfl⟩ := hcs
  rw [tzN, Bool.and_eq_true, decide_eq_true_eq] at htz
  obtain ⟨ht, hks⟩ := htz
  have hB2 : 2 < w.heap.size := by have := hw.2.2; omega
  obtain ⟨sq, sc, rfl, hkl, HG⟩ : ∃ sq sc, c2 = .slice sq ks.length sc ∧ ks.length ≤ 9223372036854775807 ∧ Hid (KdAt B w ks sq sc) := by
   rcases hv with ⟨q1, q2⟩ | ⟨b, cap, e1, e0, e2, e3, e4, e5, e6⟩
   ·first | (subst q1; exact ⟨none, 0, q2, by simp, fun j n e => by simp at e⟩) | (subst q2; exact ⟨none, 0, q1, by simp, fun j n e => by simp at e⟩)
   ·refine ⟨some ⟨b, 0, none⟩, cap, e1, by unfold maxLen at e3; omega, fun j n e => ⟨b, rfl, e2, e4, e5, ?_⟩⟩
    have q := RwAt.get ks 0 j n e6 e
    rw [Nat.zero_add] at q
    exact q
  have HK : Hid (∀ (V : World) (H M T : ByteArray), WB B b w pre V → pre.length + H.size + (jnW M.data.toList true (wrT ks)).length + T.size ≤ 1000000000 →
    Calls Tryd.prog 42 #[.pointer (some ⟨b, 0, none⟩), .string H, .slice sq ks.length sc, .string M, .string T] V fun e w' => e = zr (.tuple #[]) ∧ WB B b w (pre ++ (H.data.toList ++ jnW M.data.toList true (wrT ks) ++ T.data.toList)) w') := fun V H M T hV hl => by
   refine (wk_any ks ih hks B b V pre m H M T sq sc hkl (fun j n e => ?_) (WB.start hV.1 hV.le) h2 ((hV.2.1.cell (p := ⟨2, 0, none⟩) h2).trans hm) hl).mono ?_
   ·obtain ⟨r, e1, e2, e3, e4, d0, d1, d2, d3, y0, y1, y2, y3, hnd⟩ := HG.out j n e
    exact ⟨r, e1, e2, e3, Nat.lt_of_lt_of_le e4 hV.2.1.size, d0, d1, d2, d3, (hV.2.1.cell (p := ⟨r, j * 4, none⟩) e3).trans y0, (hV.2.1.cell (p := ⟨r, j * 4 + 1, none⟩) e3).trans y1, (hV.2.1.cell (p := ⟨r, j * 4 + 2, none⟩) e3).trans y2, (hV.2.1.cell (p := ⟨r, j * 4 + 3, none⟩) e3).trans y3, NdAt.keep hV.2.1.size (fun c hc _ => ⟨hc, hV.2.1.block c hc⟩) _ _ hnd⟩
   ·rintro e w' ⟨he, h3⟩
    exact ⟨he, hV.trans h3⟩
  have H0 : Hid (WB B b w pre w) := hw
  have HM : Hid (w.cell? ⟨2, 0, none⟩ = some (vi ki m)) := hm
  have HL : Hid (pre.length + (wrN (.mk k t ks a)).length ≤ 1000000000) := hlen
  have htI : (t.size : Int) ≤ 100000 := by omega
  have hts : t.data.toList.length = t.size := by simp
  clear hk ih ha hv HG hks hw hm hlen
  rcases Classical.em (k = 1) with rfl | h1
  ·have HE : Hid (wrN (.mk 1 t ks a) = t.data.toList) := by show _ = _; simp [wrN, frW]
   have hl : pre.length + t.size ≤ 1000000000 := by have := HL.out; rw [HE.out] at this; omega
   clear HK HL
   go_enter Tryd.func20, Tryd.ntmps20
   go_wp2_with fail
   refine (wstr (H0.out.alloc (.cells [vi ki 1, .string t, .slice sq ks.length sc, vi ki a].toArray 24)) t hl).mono ?_
   rintro e V ⟨rfl, hv, -, -⟩
   have HF : Hid (WB B b w (pre ++ wrN (.mk 1 t ks a)) V) := by show WB _ _ _ _ _; rw [HE.out]; exact hv
   clear hv
   go_wp2
   exact bodyPost_end (v := .tuple #[]) (by simp [results, Tryd.results20, go_sem]) rfl ⟨rfl, HF.out⟩
  have g1 : (k == 1) = false := by simpa using h1
  rcases Classical.em (k = 2) with rfl | h2'
  ·have HE : Hid (wrN (.mk 2 t ks a) = t.data.toList) := by show _ = _; simp [wrN, frW]
   have hl : pre.length + t.size ≤ 1000000000 := by have := HL.out; rw [HE.out] at this; omega
   clear HK HL
   go_enter Tryd.func20, Tryd.ntmps20
   go_wp2_with fail
   refine (wstr (H0.out.alloc (.cells [vi ki 2, .string t, .slice sq ks.length sc, vi ki a].toArray 24)) t hl).mono ?_
   rintro e V ⟨rfl, hv, -, -⟩
   have HF : Hid (WB B b w (pre ++ wrN (.mk 2 t ks a)) V) := by show WB _ _ _ _ _; rw [HE.out]; exact hv
   clear hv
   go_wp2
   exact bodyPost_end (v := .tuple #[]) (by simp [results, Tryd.results20, go_sem]) rfl ⟨rfl, HF.out⟩
  have g2 : (k == 2) = false := by simpa using h2'
  rcases Classical.em (k = 4) with rfl | h4
  ·have HE : Hid (wrN (.mk 4 t ks a) = t.data.toList) := by show _ = _; simp [wrN, frW]
   have hl : pre.length + t.size ≤ 1000000000 := by have := HL.out; rw [HE.out] at this; omega
   clear HK HL
   go_enter Tryd.func20, Tryd.ntmps20
   go_wp2_with fail
   refine (wstr (H0.out.alloc (.cells [vi ki 4, .string t, .slice sq ks.length sc, vi ki a].toArray 24)) t hl).mono ?_
   rintro e V ⟨rfl, hv, -, -⟩
   have HF : Hid (WB B b w (pre ++ wrN (.mk 4 t ks a)) V) := by show WB _ _ _ _ _; rw [HE.out]; exact hv
   clear hv
   go_wp2
   exact bodyPost_end (v := .tuple #[]) (by simp [results, Tryd.results20, go_sem]) rfl ⟨rfl, HF.out⟩
  have g4 : (k == 4) = false := by simpa using h4
  rcases Classical.em (k = 3) with rfl | h3
  ·have HE : Hid (wrN (.mk 3 t ks a) = [39] ++ rpQ t ++ [39]) := by show _ = _; simp [wrN, frW]
   have hl : pre.length + (rpQ t).length + 2 ≤ 1000000000 := by have := HL.out; rw [HE.out] at this; simp only [List.length_append, List.length_cons, List.length_nil] at this; omega
   have RC : Hid (∀ V : World, V.cell? ⟨2, 0, none⟩ = some (vi ki m) → Calls Tryd.prog 41 #[.string t, .string ⟨#[39]⟩, .string ⟨#[39, 39]⟩] V fun e w' => e = zr (.string ⟨(rpQ t).toArray⟩) ∧ Below V.heap.size V w') := fun V hV => by
    have hl := Lib.countB_le ⟨#[39]⟩ (by decide) _ t (Nat.le_refl _)
    exact Tryd.strings_ReplaceAll t ⟨#[39]⟩ ⟨#[39, 39]⟩ m V (by omega) hV (by decide) (by rw [show (⟨#[39, 39]⟩ : ByteArray).size = 2 from rfl]; omega)
   have hrs : (rpQ t).length = (⟨(rpQ t).toArray⟩ : ByteArray).size := by simp [ByteArray.size]
   have hrd : rpQ t = (⟨(rpQ t).toArray⟩ : ByteArray).data.toList := by simp
   rw [hrd] at HE
   rw [hrs] at hl
   generalize (⟨(rpQ t).toArray⟩ : ByteArray) = R at *
   clear hrs hrd
   have z1 : (⟨#[39]⟩ : ByteArray).size + R.size ≤ 9223372036854775807 := by show 1 + _ ≤ _; omega
   have z2 : (⟨#[39]⟩ ++ R : ByteArray).size + (⟨#[39]⟩ : ByteArray).size ≤ 9223372036854775807 := by rw [ByteArray.size_append]; show 1 + _ + 1 ≤ _; omega
   clear HK HL
   go_enter Tryd.func20, Tryd.ntmps20
   go_wp2_with fail
   refine (RC.out _ ((Below.cell ((Below.refl _ w).alloc (Nat.le_refl _) _) (p := ⟨2, 0, none⟩) hB2).trans HM.out)).mono ?_
   rintro e V ⟨rfl, hk⟩
   have HV : Hid (WB B b w pre V) := (H0.out.alloc (.cells [vi ki 3, .string t, .slice sq ks.length sc, vi ki a].toArray 24)).below hk
   clear hk RC
   go_wp2_with fail
   refine (wstr HV.out ((⟨#[39]⟩ : ByteArray) ++ R ++ (⟨#[39]⟩ : ByteArray)) (by rw [ByteArray.size_append, ByteArray.size_append]; show _ + (1 + _ + 1) ≤ _; omega)).mono ?_
   rintro e V2 ⟨rfl, hv, -, -⟩
   have HF : Hid (WB B b w (pre ++ wrN (.mk 3 t ks a)) V2) := by
    show WB _ _ _ _ _
    rw [HE.out]
    simpa [ByteArray.data_append] using hv
   clear hv HV
   go_wp2
   exact bodyPost_end (v := .tuple #[]) (by simp [results, Tryd.results20, go_sem]) rfl ⟨rfl, HF.out⟩
  have g3 : (k == 3) = false := by simpa using h3
  rcases Classical.em (k = 5) with rfl | h5
  ·obtain ⟨H, hH⟩ : ∃ H : ByteArray, H = t ++ (⟨#[32]⟩ : ByteArray) := ⟨_, rfl⟩
   obtain ⟨M, hM⟩ : ∃ M : ByteArray, M = (⟨#[]⟩ : ByteArray) := ⟨_, rfl⟩
   obtain ⟨T, hT⟩ : ∃ T : ByteArray, T = (⟨#[]⟩ : ByteArray) := ⟨_, rfl⟩
   have HE : Hid (wrN (.mk 5 t ks a) = H.data.toList ++ jnW M.data.toList true (wrT ks) ++ T.data.toList) := by show _ = _; subst hH hM hT; simp [wrN, frW, ByteArray.data_append]
   have hl : pre.length + H.size + (jnW M.data.toList true (wrT ks)).length + T.size ≤ 1000000000 := by
    have := HL.out
    have q1 : H.data.toList.length = H.size := by simp
    have q2 : T.data.toList.length = T.size := by simp
    rw [HE.out, List.length_append, List.length_append] at this
    omega
   have z1 : (t : ByteArray).size + (⟨#[32]⟩ : ByteArray).size ≤ 9223372036854775807 := by show t.size + 1 ≤ _; omega
   have HC : Hid (∀ (V : World), WB B b w pre V → Calls Tryd.prog 42 #[.pointer (some ⟨b, 0, none⟩), .string (t ++ (⟨#[32]⟩ : ByteArray)), .slice sq ks.length sc, .string (⟨#[]⟩), .string (⟨#[]⟩)] V fun e w' => e = zr (.tuple #[]) ∧ WB B b w (pre ++ wrN (.mk 5 t ks a)) w') := fun V hV => by
    rw [HE.out]
    subst hH hM hT
    exact HK.out V _ _ _ hV hl
   clear HK HL HE hl hH hM hT H M T
   go_enter Tryd.func20, Tryd.ntmps20
   go_wp2_with fail
   refine (HC.out _ (H0.out.alloc (.cells [vi ki 5, .string t, .slice sq ks.length sc, vi ki a].toArray 24))).mono ?_
   rintro e V ⟨rfl, hv⟩
   have HF : Hid (WB B b w (pre ++ wrN (.mk 5 t ks a)) V) := hv
   clear hv HC
   go_wp2
   exact bodyPost_end (v := .tuple #[]) (by simp [results, Tryd.results20, go_sem]) rfl ⟨rfl, HF.out⟩
  have g5 : (k == 5) = false := by simpa using h5
  rcases Classical.em (k = 6) with rfl | h6
  ·obtain ⟨H, hH⟩ : ∃ H : ByteArray, H = (⟨#[40, 45, 32]⟩ : ByteArray) := ⟨_, rfl⟩
   obtain ⟨M, hM⟩ : ∃ M : ByteArray, M = (⟨#[]⟩ : ByteArray) := ⟨_, rfl⟩
   obtain ⟨T, hT⟩ : ∃ T : ByteArray, T = (⟨#[41]⟩ : ByteArray) := ⟨_, rfl⟩
   have HE : Hid (wrN (.mk 6 t ks a) = H.data.toList ++ jnW M.data.toList true (wrT ks) ++ T.data.toList) := by show _ = _; subst hH hM hT; simp [wrN, frW, ByteArray.data_append]
   have hl : pre.length + H.size + (jnW M.data.toList true (wrT ks)).length + T.size ≤ 1000000000 := by
    have := HL.out
    have q1 : H.data.toList.length = H.size := by simp
    have q2 : T.data.toList.length = T.size := by simp
    rw [HE.out, List.length_append, List.length_append] at this
    omega
   have HC : Hid (∀ (V : World), WB B b w pre V → Calls Tryd.prog 42 #[.pointer (some ⟨b, 0, none⟩), .string (⟨#[40, 45, 32]⟩), .slice sq ks.length sc, .string (⟨#[]⟩), .string (⟨#[41]⟩)] V fun e w' => e = zr (.tuple #[]) ∧ WB B b w (pre ++ wrN (.mk 6 t ks a)) w') := fun V hV => by
    rw [HE.out]
    subst hH hM hT
    exact HK.out V _ _ _ hV hl
   clear HK HL HE hl hH hM hT H M T
   go_enter Tryd.func20, Tryd.ntmps20
   go_wp2_with fail
   refine (HC.out _ (H0.out.alloc (.cells [vi ki 6, .string t, .slice sq ks.length sc, vi ki a].toArray 24))).mono ?_
   rintro e V ⟨rfl, hv⟩
   have HF : Hid (WB B b w (pre ++ wrN (.mk 6 t ks a)) V) := hv
   clear hv HC
   go_wp2
   exact bodyPost_end (v := .tuple #[]) (by simp [results, Tryd.results20, go_sem]) rfl ⟨rfl, HF.out⟩
  have g6 : (k == 6) = false := by simpa using h6
  rcases Classical.em (k = 7) with rfl | h7
  ·obtain ⟨H, hH⟩ : ∃ H : ByteArray, H = (⟨#[40, 110, 111, 116, 32]⟩ : ByteArray) := ⟨_, rfl⟩
   obtain ⟨M, hM⟩ : ∃ M : ByteArray, M = (⟨#[]⟩ : ByteArray) := ⟨_, rfl⟩
   obtain ⟨T, hT⟩ : ∃ T : ByteArray, T = (⟨#[41]⟩ : ByteArray) := ⟨_, rfl⟩
   have HE : Hid (wrN (.mk 7 t ks a) = H.data.toList ++ jnW M.data.toList true (wrT ks) ++ T.data.toList) := by show _ = _; subst hH hM hT; simp [wrN, frW, ByteArray.data_append]
   have hl : pre.length + H.size + (jnW M.data.toList true (wrT ks)).length + T.size ≤ 1000000000 := by
    have := HL.out
    have q1 : H.data.toList.length = H.size := by simp
    have q2 : T.data.toList.length = T.size := by simp
    rw [HE.out, List.length_append, List.length_append] at this
    omega
   have HC : Hid (∀ (V : World), WB B b w pre V → Calls Tryd.prog 42 #[.pointer (some ⟨b, 0, none⟩), .string (⟨#[40, 110, 111, 116, 32]⟩), .slice sq ks.length sc, .string (⟨#[]⟩), .string (⟨#[41]⟩)] V fun e w' => e = zr (.tuple #[]) ∧ WB B b w (pre ++ wrN (.mk 7 t ks a)) w') := fun V hV => by
    rw [HE.out]
    subst hH hM hT
    exact HK.out V _ _ _ hV hl
   clear HK HL HE hl hH hM hT H M T
   go_enter Tryd.func20, Tryd.ntmps20
   go_wp2_with fail
   refine (HC.out _ (H0.out.alloc (.cells [vi ki 7, .string t, .slice sq ks.length sc, vi ki a].toArray 24))).mono ?_
   rintro e V ⟨rfl, hv⟩
   have HF : Hid (WB B b w (pre ++ wrN (.mk 7 t ks a)) V) := hv
   clear hv HC
   go_wp2
   exact bodyPost_end (v := .tuple #[]) (by simp [results, Tryd.results20, go_sem]) rfl ⟨rfl, HF.out⟩
  have g7 : (k == 7) = false := by simpa using h7
  rcases Classical.em (k = 8) with rfl | h8
  ·obtain ⟨H, hH⟩ : ∃ H : ByteArray, H = (⟨#[40]⟩ : ByteArray) := ⟨_, rfl⟩
   obtain ⟨M, hM⟩ : ∃ M : ByteArray, M = (⟨#[32]⟩ : ByteArray) ++ t ++ (⟨#[32]⟩ : ByteArray) := ⟨_, rfl⟩
   obtain ⟨T, hT⟩ : ∃ T : ByteArray, T = (⟨#[41]⟩ : ByteArray) := ⟨_, rfl⟩
   have HE : Hid (wrN (.mk 8 t ks a) = H.data.toList ++ jnW M.data.toList true (wrT ks) ++ T.data.toList) := by show _ = _; subst hH hM hT; simp [wrN, frW, ByteArray.data_append]
   have hl : pre.length + H.size + (jnW M.data.toList true (wrT ks)).length + T.size ≤ 1000000000 := by
    have := HL.out
    have q1 : H.data.toList.length = H.size := by simp
    have q2 : T.data.toList.length = T.size := by simp
    rw [HE.out, List.length_append, List.length_append] at this
    omega
   have z1 : (⟨#[32]⟩ : ByteArray).size + (t : ByteArray).size ≤ 9223372036854775807 := by show 1 + t.size ≤ _; omega
   have z2 : (⟨#[32]⟩ ++ t : ByteArray).size + (⟨#[32]⟩ : ByteArray).size ≤ 9223372036854775807 := by rw [ByteArray.size_append]; show 1 + t.size + 1 ≤ _; omega
   have HC : Hid (∀ (V : World), WB B b w pre V → Calls Tryd.prog 42 #[.pointer (some ⟨b, 0, none⟩), .string (⟨#[40]⟩), .slice sq ks.length sc, .string ((⟨#[32]⟩ : ByteArray) ++ t ++ (⟨#[32]⟩ : ByteArray)), .string (⟨#[41]⟩)] V fun e w' => e = zr (.tuple #[]) ∧ WB B b w (pre ++ wrN (.mk 8 t ks a)) w') := fun V hV => by
    rw [HE.out]
    subst hH hM hT
    exact HK.out V _ _ _ hV hl
   clear HK HL HE hl hH hM hT H M T
   go_enter Tryd.func20, Tryd.ntmps20
   go_wp2_with fail
   refine (HC.out _ (H0.out.alloc (.cells [vi ki 8, .string t, .slice sq ks.length sc, vi ki a].toArray 24))).mono ?_
   rintro e V ⟨rfl, hv⟩
   have HF : Hid (WB B b w (pre ++ wrN (.mk 8 t ks a)) V) := hv
   clear hv HC
   go_wp2
   exact bodyPost_end (v := .tuple #[]) (by simp [results, Tryd.results20, go_sem]) rfl ⟨rfl, HF.out⟩
  have g8 : (k == 8) = false := by simpa using h8
  rcases Classical.em (k = 9) with rfl | h9
  ·obtain ⟨H, hH⟩ : ∃ H : ByteArray, H = t ++ (⟨#[40]⟩ : ByteArray) := ⟨_, rfl⟩
   obtain ⟨M, hM⟩ : ∃ M : ByteArray, M = (⟨#[44, 32]⟩ : ByteArray) := ⟨_, rfl⟩
   obtain ⟨T, hT⟩ : ∃ T : ByteArray, T = (⟨#[41]⟩ : ByteArray) := ⟨_, rfl⟩
   have HE : Hid (wrN (.mk 9 t ks a) = H.data.toList ++ jnW M.data.toList true (wrT ks) ++ T.data.toList) := by show _ = _; subst hH hM hT; simp [wrN, frW, ByteArray.data_append]
   have hl : pre.length + H.size + (jnW M.data.toList true (wrT ks)).length + T.size ≤ 1000000000 := by
    have := HL.out
    have q1 : H.data.toList.length = H.size := by simp
    have q2 : T.data.toList.length = T.size := by simp
    rw [HE.out, List.length_append, List.length_append] at this
    omega
   have z1 : (t : ByteArray).size + (⟨#[40]⟩ : ByteArray).size ≤ 9223372036854775807 := by show t.size + 1 ≤ _; omega
   have HC : Hid (∀ (V : World), WB B b w pre V → Calls Tryd.prog 42 #[.pointer (some ⟨b, 0, none⟩), .string (t ++ (⟨#[40]⟩ : ByteArray)), .slice sq ks.length sc, .string (⟨#[44, 32]⟩), .string (⟨#[41]⟩)] V fun e w' => e = zr (.tuple #[]) ∧ WB B b w (pre ++ wrN (.mk 9 t ks a)) w') := fun V hV => by
    rw [HE.out]
    subst hH hM hT
    exact HK.out V _ _ _ hV hl
   clear HK HL HE hl hH hM hT H M T
   go_enter Tryd.func20, Tryd.ntmps20
   go_wp2_with fail
   refine (HC.out _ (H0.out.alloc (.cells [vi ki 9, .string t, .slice sq ks.length sc, vi ki a].toArray 24))).mono ?_
   rintro e V ⟨rfl, hv⟩
   have HF : Hid (WB B b w (pre ++ wrN (.mk 9 t ks a)) V) := hv
   clear hv HC
   go_wp2
   exact bodyPost_end (v := .tuple #[]) (by simp [results, Tryd.results20, go_sem]) rfl ⟨rfl, HF.out⟩
  have g9 : (k == 9) = false := by simpa using h9
  rcases Classical.em (k = 10) with rfl | h10
  ·obtain ⟨H, hH⟩ : ∃ H : ByteArray, H = (⟨#[40]⟩ : ByteArray) := ⟨_, rfl⟩
   obtain ⟨M, hM⟩ : ∃ M : ByteArray, M = (⟨#[]⟩ : ByteArray) := ⟨_, rfl⟩
   obtain ⟨T, hT⟩ : ∃ T : ByteArray, T = (⟨#[58, 58]⟩ : ByteArray) ++ t ++ (⟨#[41]⟩ : ByteArray) := ⟨_, rfl⟩
   have HE : Hid (wrN (.mk 10 t ks a) = H.data.toList ++ jnW M.data.toList true (wrT ks) ++ T.data.toList) := by show _ = _; subst hH hM hT; simp [wrN, frW, ByteArray.data_append]
   have hl : pre.length + H.size + (jnW M.data.toList true (wrT ks)).length + T.size ≤ 1000000000 := by
    have := HL.out
    have q1 : H.data.toList.length = H.size := by simp
    have q2 : T.data.toList.length = T.size := by simp
    rw [HE.out, List.length_append, List.length_append] at this
    omega
   have z1 : (⟨#[58, 58]⟩ : ByteArray).size + (t : ByteArray).size ≤ 9223372036854775807 := by show 2 + t.size ≤ _; omega
   have z2 : (⟨#[58, 58]⟩ ++ t : ByteArray).size + (⟨#[41]⟩ : ByteArray).size ≤ 9223372036854775807 := by rw [ByteArray.size_append]; show 2 + t.size + 1 ≤ _; omega
   have HC : Hid (∀ (V : World), WB B b w pre V → Calls Tryd.prog 42 #[.pointer (some ⟨b, 0, none⟩), .string (⟨#[40]⟩), .slice sq ks.length sc, .string (⟨#[]⟩), .string ((⟨#[58, 58]⟩ : ByteArray) ++ t ++ (⟨#[41]⟩ : ByteArray))] V fun e w' => e = zr (.tuple #[]) ∧ WB B b w (pre ++ wrN (.mk 10 t ks a)) w') := fun V hV => by
    rw [HE.out]
    subst hH hM hT
    exact HK.out V _ _ _ hV hl
   clear HK HL HE hl hH hM hT H M T
   go_enter Tryd.func20, Tryd.ntmps20
   go_wp2_with fail
   refine (HC.out _ (H0.out.alloc (.cells [vi ki 10, .string t, .slice sq ks.length sc, vi ki a].toArray 24))).mono ?_
   rintro e V ⟨rfl, hv⟩
   have HF : Hid (WB B b w (pre ++ wrN (.mk 10 t ks a)) V) := hv
   clear hv HC
   go_wp2
   exact bodyPost_end (v := .tuple #[]) (by simp [results, Tryd.results20, go_sem]) rfl ⟨rfl, HF.out⟩
  have g10 : (k == 10) = false := by simpa using h10
  have HE : Hid (wrN (.mk k t ks a) = []) := by show _ = _; simp [wrN, frW, h1, h2', h3, h4, h5, h6, h7, h8, h9, h10]
  have HF : Hid (WB B b w (pre ++ wrN (.mk k t ks a)) (w.alloc (.cells [vi ki k, .string t, .slice sq ks.length sc, vi ki a].toArray 24))) := by show WB _ _ _ _ _; rw [HE.out, List.append_nil]; exact H0.out.alloc _
  clear HK HL HE
  go_enter Tryd.func20, Tryd.ntmps20
  go_wp2
  exact bodyPost_end (v := .tuple #[]) (by simp [results, Tryd.results20, go_sem]) rfl ⟨rfl, HF.out⟩
theorem string_any (n : Nd) (htz : tzN n = true) (w : World) (m : Int) (c0 c1 c2 c3 : Value) (h : NdAt (fun _ => True) w n [c0, c1, c2, c3]) (h2 : 2 < w.heap.size) (hm : w.cell? ⟨2, 0, none⟩ = some (vi ki m)) (hlen : (wrN n).length ≤ 1000000000) :
  Calls Tryd.prog 10 #[.agg #[c0, c1, c2, c3]] w fun e w' => e = zr (.string ⟨(wrN n).toArray⟩) ∧ Below w.heap.size w w' := by
 obtain ⟨k, t, sq, sn, sc, a, rfl, rfl, rfl, rfl⟩ := h.form
 have HN : Hid (NdAt (fun _ => True) w n _) := h
 have HM : Hid (w.cell? ⟨2, 0, none⟩ = some (vi ki m)) := hm
 have HC : Hid (WrOk n) := write_any n
 clear h hm
 obtain ⟨W0, hW0⟩ : ∃ W0, W0 = w.alloc (.cells [vi ki k, .string t, .slice sq sn sc, vi ki a].toArray 24) := ⟨_, rfl⟩
 have HK0 : Hid (Below w.heap.size w W0) := by rw [hW0]; exact (Below.refl _ w).alloc (Nat.le_refl _) _
 have hz : W0.heap.size = w.heap.size + 1 := by rw [hW0]; simp
 have HWB : Hid (WB W0.heap.size W0.heap.size (W0.alloc (.cells #[.pointer none, .slice none 0 0] 64)) [] (W0.alloc (.cells #[.pointer none, .slice none 0 0] 64))) := WB.start (built_new W0) (by simp)
 have HKA : Hid (Below w.heap.size w (W0.alloc (.cells #[.pointer none, .slice none 0 0] 64))) := HK0.out.alloc HK0.out.size _
 have HCW : Hid (Calls Tryd.prog 20 #[.pointer (some ⟨W0.heap.size, 0, none⟩), .agg #[vi ki k, .string t, .slice sq sn sc, vi ki a]] (W0.alloc (.cells #[.pointer none, .slice none 0 0] 64)) fun e w' => e = zr (.tuple #[]) ∧ WB W0.heap.size W0.heap.size (W0.alloc (.cells #[.pointer none, .slice none 0 0] 64)) (wrN n) w') := by
  have q := HC.out htz W0.heap.size W0.heap.size _ [] m _ _ _ _ (NdAt.keep HKA.out.size (fun c _ hc => ⟨by omega, HKA.out.block c hc⟩) n _ HN.out) HWB.out (by omega) ((HKA.out.cell (p := ⟨2, 0, none⟩) h2).trans HM.out) (by simpa using hlen)
  rw [List.nil_append] at q
  exact q
 clear HC HN HWB
 generalize wrN n = R at *
 rw [hz] at HCW
 subst hW0
 clear hz
 go_enter Tryd.func10, Tryd.ntmps10
 go_wp2_with fail
 refine HCW.out.mono ?_
 rintro e V ⟨rfl, hv⟩
 have HV : Hid (WB _ _ _ R V) := hv
 clear hv HCW
 go_wp2_with fail
 refine (Tryd.Builder_String_any_k _ _ R V HV.out.1 HV.out.le).mono ?_
 rintro e V2 ⟨rfl, -, hb2, -⟩
 have HF : Hid (Below w.heap.size w V2) := (HKA.out.trans (HV.out.2.1.mono (by simp))).trans (hb2.mono (by simp))
 clear hb2 HV HKA HK0
 go_wp2
 go_ret
 exact ⟨rfl, HF.out⟩
theorem PlN.mono {S R : Int → Prop} (h : ∀ a, S a → R a) {n : Nd} (hn : PlN S n) : PlN R n := by
 induction hn with
 | mk k t ks a ha hk ih => exact .mk k t ks a (h a ha) ih
def Gl (w : World) : Prop := Tabs w ∧ ∃ m : Int, w.cell? ⟨2, 0, none⟩ = some (vi ki m)
theorem Gl.below {w W : World} (h : Gl w) (hb : Below w.heap.size w W) : Gl W :=
 ⟨Tabs_below h.1 hb, h.2.elim fun m e => ⟨m, (hb.cell (World.block_lt_of_cell? w _ e)).trans e⟩⟩
theorem parse_gl (s : ByteArray) (w : World) (h : Gl w) (hs : s.size ≤ 2048) :
  Calls Tryd.prog 5 #[.string s] w fun e w' => Below w.heap.size w w' ∧ ParOf (fun c => w.heap.size < c) e w' (parseB s) := by
 obtain ⟨hT, m, hm⟩ := h
 exact parse_any s m w hT hm (World.block_lt_of_cell? w _ hm) hs
theorem parse_node {s : ByteArray} {n : Nd} (hp : parseB s = .inr n) (w : World) (h : Gl w) (hs : s.size ≤ 2048) :
  Calls Tryd.prog 5 #[.string s] w fun e w' => Below w.heap.size w w' ∧ ∃ k t sq sn sc a, e = zr (.tuple #[.agg #[vi ki k, .string t, .slice sq sn sc, vi ki a], vi ki 0, vi ki 0]) ∧ NdAt (fun c => w.heap.size < c) w' n [vi ki k, .string t, .slice sq sn sc, vi ki a] := by
 refine (parse_gl s w h hs).mono ?_
 rw [hp]
 exact fun e w' h => h
theorem string_gl (n : Nd) (htz : tzN n = true) (hlen : (wrN n).length ≤ 1000000000) (X : Nat → Prop) (w : World) (h : Gl w) (c0 c1 c2 c3 : Value) (hn : NdAt X w n [c0, c1, c2, c3]) :
  Calls Tryd.prog 10 #[.agg #[c0, c1, c2, c3]] w fun e w' => e = zr (.string ⟨(wrN n).toArray⟩) ∧ Below w.heap.size w w' := by
 obtain ⟨hT, m, hm⟩ := h
 exact string_any n htz w m c0 c1 c2 c3 (NdAt.keep (Nat.le_refl _) (fun b _ _ => ⟨trivial, rfl⟩) n _ hn) (World.block_lt_of_cell? w _ hm) hm hlen
theorem ba_eq {t : ByteArray} {l : List UInt8} (h : t.data.toList = l) : t = ⟨l.toArray⟩ := by
 subst h; rfl
def kn1 (r : Sum (Int × Int) Nd) : Bool :=
 match r with
 | .inr (.mk k t [n0, .mk k1 t1 ks1 a1] a) => k == 8 && t.data.toList == [43] && a == 2 && t1.data.toList == [42] && wrN (.mk k t [n0, .mk k1 t1 ks1 a1] a) == [40, 49, 32, 43, 32, 40, 50, 32, 42, 32, 40, 120, 40, 51, 41, 58, 58, 100, 97, 116, 101, 41, 41, 41] && stN (.mk k t [n0, .mk k1 t1 ks1 a1] a) == 7 && tzN (.mk k t [n0, .mk k1 t1 ks1 a1] a)
 | _ => false
theorem kn1_get {r : Sum (Int × Int) Nd} (h : kn1 r = true) : ∃ n0 k1 ks1 a1, r = .inr (.mk 8 ⟨#[43]⟩ [n0, .mk k1 ⟨#[42]⟩ ks1 a1] 2) ∧ wrN (.mk 8 ⟨#[43]⟩ [n0, .mk k1 ⟨#[42]⟩ ks1 a1] 2) = [40, 49, 32, 43, 32, 40, 50, 32, 42, 32, 40, 120, 40, 51, 41, 58, 58, 100, 97, 116, 101, 41, 41, 41] ∧ stN (.mk 8 ⟨#[43]⟩ [n0, .mk k1 ⟨#[42]⟩ ks1 a1] 2) = 7 ∧ tzN (.mk 8 ⟨#[43]⟩ [n0, .mk k1 ⟨#[42]⟩ ks1 a1] 2) = true := by
 unfold kn1 at h
 split at h
 case h_1 k t n0 k1 t1 ks1 a1 a =>
  simp only [Bool.and_eq_true, beq_iff_eq] at h
  obtain ⟨⟨⟨⟨⟨⟨rfl, h1⟩, rfl⟩, h2⟩, h3⟩, h4⟩, h5⟩ := h
  obtain rfl := ba_eq h1
  obtain rfl := ba_eq h2
  exact ⟨n0, k1, ks1, a1, rfl, h3, h4, h5⟩
 case h_2 => exact absurd h (by simp)
def kn2 (r : Sum (Int × Int) Nd) : Bool :=
 match r with
 | .inr (.mk k t ks a) => k == 8 && t.data.toList == [97, 116, 32, 116, 105, 109, 101, 32, 122, 111, 110, 101]
 | _ => false
theorem kn2_get {r : Sum (Int × Int) Nd} (h : kn2 r = true) : ∃ ks a, r = .inr (.mk 8 ⟨#[97, 116, 32, 116, 105, 109, 101, 32, 122, 111, 110, 101]⟩ ks a) := by
 unfold kn2 at h
 split at h
 case h_1 k t ks a =>
  simp only [Bool.and_eq_true, beq_iff_eq] at h
  obtain ⟨rfl, h1⟩ := h
  obtain rfl := ba_eq h1
  exact ⟨ks, a, rfl⟩
 case h_2 => exact absurd h (by simp)
theorem kn1_is : kn1 (parseB ⟨#[49, 32, 43, 32, 50, 32, 42, 32, 120, 40, 51, 41, 58, 58, 100, 97, 116, 101]⟩) = true := by decide +kernel
theorem kn2_is : kn2 (parseB ⟨#[100, 97, 116, 101, 32, 39, 50, 48, 50, 52, 45, 48, 49, 45, 48, 49, 39, 32, 97, 116, 32, 116, 105, 109, 101, 32, 122, 111, 110, 101, 32, 39, 85, 84, 67, 39]⟩) = true := by decide +kernel
theorem NdAt.two {X : Nat → Prop} {w : World} {k : Int} {t : ByteArray} {n0 n1 : Nd} {a : Int} {c0 c1 c2 c3 : Value} (h : NdAt X w (.mk k t [n0, n1] a) [c0, c1, c2, c3]) : c0 = vi ki k ∧ c1 = .string t ∧ c3 = vi ki a ∧ ∃ b cap, c2 = .slice (some ⟨b, 0, none⟩) 2 cap ∧ 2 ≤ cap ∧ cap ≤ maxLen ∧ X b ∧ b < w.heap.size ∧ ∃ d0 d1 d2 d3 e0 e1 e2 e3, w.cell? ⟨b, 0, none⟩ = some d0 ∧ w.cell? ⟨b, 1, none⟩ = some d1 ∧ w.cell? ⟨b, 2, none⟩ = some d2 ∧ w.cell? ⟨b, 3, none⟩ = some d3 ∧ w.cell? ⟨b, 4, none⟩ = some e0 ∧ w.cell? ⟨b, 5, none⟩ = some e1 ∧ w.cell? ⟨b, 6, none⟩ = some e2 ∧ w.cell? ⟨b, 7, none⟩ = some e3 ∧ NdAt X w n0 [d0, d1, d2, d3] ∧ NdAt X w n1 [e0, e1, e2, e3] := by
 rw [NdAt] at h
 obtain ⟨sv, hcs, hv⟩ := h
 simp only [List.cons.injEq, and_true] at hcs
 obtain ⟨rfl, rfl, rfl, rfl⟩ := hcs
 rcases hv with ⟨q1, q2⟩ | ⟨b, cap, e1, e0, e2, e3, e4, e5, e6⟩
 ·exact absurd q1 (by simp)
 ·rw [RwAt, RwAt] at e6
  obtain ⟨⟨d0, d1, d2, d3, y0, y1, y2, y3, y⟩, ⟨f0, f1, f2, f3, z0, z1, z2, z3, z⟩, -⟩ := e6
  exact ⟨rfl, rfl, rfl, b, cap, e1, e2, e3, e4, e5, d0, d1, d2, d3, f0, f1, f2, f3, y0, y1, y2, y3, z0, z1, z2, z3, y, z⟩
theorem NdAt.head {X : Nat → Prop} {w : World} {k : Int} {t : ByteArray} {ks : List Nd} {a : Int} {c0 c1 c2 c3 : Value} (h : NdAt X w (.mk k t ks a) [c0, c1, c2, c3]) : c0 = vi ki k ∧ c1 = .string t ∧ c3 = vi ki a := by
 rw [NdAt] at h
 obtain ⟨sv, hcs, hv⟩ := h
 simp only [List.cons.injEq, and_true] at hcs
 obtain ⟨rfl, rfl, rfl, rfl⟩ := hcs
 exact ⟨rfl, rfl, rfl⟩
theorem known22_any (w : World) (hGl : Gl w) :
  Calls Tryd.prog 9 #[] w fun e w' => e = zr (.bool true) ∧ Below w.heap.size w w' := by
 obtain ⟨n0, k1, ks1, a1, hp1, hw1, hs1, ht1⟩ := kn1_get kn1_is
 obtain ⟨ks2, a2, hp2⟩ := kn2_get kn2_is
 have HG : Hid (Gl w) := hGl
 have HP1 : Hid _ := hp1
 have HP2 : Hid _ := hp2
 have HW1 : Hid _ := hw1
 have HS1 : Hid _ := hs1
 have HT1 : Hid _ := ht1
 clear hGl hp1 hp2 hw1 hs1 ht1
 go_enter Tryd.func9, Tryd.ntmps9
 go_wp2_with fail
 refine (parse_node HP1.out w HG.out (by decide)).mono ?_
 rintro e V ⟨hb, k, t, sq, sn, sc, a, rfl, hnd⟩
 have HN : Hid (NdAt _ V _ _) := hnd
 obtain ⟨q0, q1, q3, b, cap, q2, hcap, hmx, hXb, hbV, d0, d1, d2, d3, e0, e1, e2, e3, y0, y1, y2, y3, z0, z1, z2, z3, -, hn1⟩ := hnd.two
 obtain ⟨-, rfl, -⟩ := hn1.head
 simp only [Value.int.injEq, Value.string.injEq, Value.slice.injEq, true_and] at q0 q1 q2 q3
 obtain ⟨rfl, rfl, rfl⟩ := q2
 subst q0 q1 q3
 have HB : Hid (Below w.heap.size w V) := hb
 have BV : Hid (BS V [(V.heap.size, [vi ki 8, .string ⟨#[43]⟩, .slice (some ⟨b, 0, none⟩) 2 sc, vi ki 2])] _) := (BS.start V).new [vi ki 8, .string ⟨#[43]⟩, .slice (some ⟨b, 0, none⟩) 2 sc, vi ki 2] 24 rfl
 unfold maxLen at hmx
 clear hb hnd hn1 hXb y0 y1 y2 y3 z0 z2 z3
 go_wp2_with fail
 refine (parse_node HP2.out _ (HG.out.below (HB.out.trans (BV.out.1.mono HB.out.size))) (by decide)).mono ?_
 rintro e U ⟨hb, k', t', sq', sn', sc', a', rfl, hnd⟩
 obtain ⟨q0, q1, -⟩ := hnd.head
 simp only [Value.int.injEq, Value.string.injEq, true_and] at q0 q1
 subst q0 q1
 have BU : Hid (BS V [(V.heap.size, [vi ki 8, .string ⟨#[43]⟩, .slice (some ⟨b, 0, none⟩) 2 sc, vi ki 2])] U) := BV.out.below hb
 have BW : Hid (BS V [(V.heap.size, [vi ki 8, .string ⟨#[43]⟩, .slice (some ⟨b, 0, none⟩) 2 sc, vi ki 2])] (U.alloc (.cells [vi ki 8, .string ⟨#[97, 116, 32, 116, 105, 109, 101, 32, 122, 111, 110, 101]⟩, .slice sq' sn' sc', vi ki a'].toArray 24))) := BU.out.alloc _
 obtain ⟨x0, x1, x2, x3⟩ := BU.out.first.d4
 have hVU := BU.out.first.1
 have v1 := (BU.out.1.cell (p := ⟨b, 5, none⟩) hbV).trans z1
 have hbU : b < U.heap.size := by omega
 clear hb hnd BV
 go_wp2_with fail
 refine (string_gl _ HT1.out (by rw [HW1.out]; decide) (fun c => w.heap.size < c) _ (HG.out.below (HB.out.trans (BW.out.1.mono HB.out.size))) _ _ _ _ (HN.out.below BW.out.1)).mono ?_
 rintro e U2 ⟨he, hk⟩
 rw [HW1.out] at he
 subst he
 have BX : Hid (BS V [(V.heap.size, [vi ki 8, .string ⟨#[43]⟩, .slice (some ⟨b, 0, none⟩) 2 sc, vi ki 2])] U2) := BW.out.below hk
 clear hk BW BU x0 x1 x2 x3 v1
 obtain ⟨x0, x1, x2, x3⟩ := BX.out.first.d4
 have hVU2 := BX.out.first.1
 go_wp2_with fail
 refine (steps_any _ (PlN.all _) (fun c => w.heap.size < c) U2 _ _ _ _ (HN.out.below BX.out.1) (by rw [HS1.out]; decide)).mono ?_
 rintro e U3 ⟨he, hk⟩
 rw [HS1.out] at he
 subst he
 have HF : Hid (Below w.heap.size w U3) := (HB.out.trans (BX.out.1.mono HB.out.size)).trans (hk.mono (Nat.le_trans HB.out.size BX.out.1.size))
 clear hk BX x0 x1 x2 x3
 go_wp2
 go_ret
 exact ⟨rfl, HF.out⟩
end Go.Proofs.YtaoocecipacnhaaDoor
