import Derived.Test.YtaoocecipacnhaaDoorX4
open Go.Value renaming int → vi, string → vS, slice → vL
open Go.IntKind renaming i64 → ki
open List renaming setIfInBounds_toArray → zb, set_cons_zero → zc, set_cons_succ → zd, length_cons → zl
open Go.Act renaming put → za
open Go.Ending renaming returned → zr
set_option maxRecDepth 100000
set_option maxHeartbeats 16000000
set_option linter.all false
namespace Go.Proofs.YtaoocecipacnhaaDoor
open Go.RowKit
theorem ks_kind : ∀ (f : Nat) (acc : List Nd) (d : Nat) (l : List Tk) (n : Nd) (l3 : List Tk), par f (.ks acc) d l = .ok n l3 → n.k = 9
 | 0, acc, d, l, n, l3, h => by cases h
 | f + 1, acc, d, [], n, l3, h => by cases h
 | f + 1, acc, d, p :: l, n, l3, h => by
  rw [par_succ] at h; unfold pst at h; dsimp only at h
  cases hr : par f (.lv 0) d (p :: l) with
  | no a e => rw [hr] at h; cases h
  | ok m l1 =>
   rw [hr] at h
   cases l1 with
   | nil => cases h
   | cons q l2 =>
    dsimp only at h
    by_cases h1 : isT q [(5, b1 44)] = true
    ·rw [if_pos h1] at h; exact ks_kind f _ d l2 n l3 h
    ·rw [if_neg h1] at h
     by_cases h2 : isT q [(5, b1 41)] = true
     ·rw [if_pos h2] at h; cases h; rfl
     ·rw [if_neg h2] at h; cases h
theorem NdAt.renamed {X : Nat → Prop} {w : World} {n : Nd} {k : Int} {t t' : ByteArray} {sv : Value} {a a' : Int} (h : NdAt X w n [vi ki k, vS t, sv, vi ki a]) : NdAt X w (.mk n.k t' n.ks a') [vi ki k, vS t', sv, vi ki a'] := by
 cases n with
 | mk k0 t0 ks a0 =>
  rw [NdAt] at h ⊢
  obtain ⟨sv1, e, hv⟩ := h
  cases e
  exact ⟨_, rfl, hv⟩
def NM (g b cap : Nat) (T : List Tk) (w : World) (d B4 B7 : Nat) (sp : List Value) (l3 : List Tk) (m : Nd) (nd cs : List Value) (V : World) : Prop :=
 Kp g w V ∧ Bx V w.heap.size [vi ki 0, vS ⟨#[]⟩, vL none 0 0, vi ki 0] ∧ Bx V B4 sp ∧ Bx V B7 cs ∧ PS g b cap T V l3 d ∧ NdAt (fun c => w.heap.size ≤ c ∧ c ≠ w.heap.size ∧ c ≠ B7) V m nd
theorem NM.drew {g b cap : Nat} {T : List Tk} {w : World} {d B4 B7 : Nat} {sp : List Value} {l3 : List Tk} {m : Nd} {nd cs : List Value} {V : World} (h : NM g b cap T w d B4 B7 sp l3 m nd cs V) : NM g b cap T w d B4 B7 sp l3 m nd cs V.drew :=
 ⟨h.1.drew, h.2.1, h.2.2.1, h.2.2.2.1, h.2.2.2.2.1.drew, h.2.2.2.2.2.drew⟩
theorem NM.set1 {g b cap : Nat} {T : List Tk} {w : World} {d B4 B7 : Nat} {sp : List Value} {l3 : List Tk} {m : Nd} {nd cs : List Value} {V : World} (h : NM g b cap T w d B4 B7 sp l3 m nd cs V) (hg : g < w.heap.size) (hbl : b < w.heap.size) (h4w : w.heap.size < B4) (h47 : B4 < B7) (i : Nat) (v : Value) (hi : i < cs.length) : NM g b cap T w d B4 B7 sp l3 m nd (cs.set i v) (V.setCell ⟨B7, i, none⟩ v) := by
 obtain ⟨k1, k2', k3, k4, k5, k6⟩ := h
 have kk : ∀ c, c < V.heap.size → c ≠ B7 → (V.setCell ⟨B7, i, none⟩ v).heap[c]? = V.heap[c]? := fun c _ hc => Below.heap_setCell _ _ _ _ hc
 exact ⟨k1.set (p := ⟨B7, i, none⟩) (.inr (by show _ ≤ B7; omega)) _, k2'.setOther (by omega) [_] i, k3.setOther (by omega) [_] i, k4.set1 i _ hi, k5.off kk (by simp) (by omega) (by omega), k6.off kk (by simp) (fun c hc => ⟨hc, hc.2.2⟩)⟩
theorem named_lit (g b cap : Nat) (T : List Tk) (p q : Tk) (d : Nat) (y : Tk) (l2 : List Tk) (hE : EndL (y :: l2)) (hq : q.1 = 3 ∧ typB p.2.1 = true) (w : World) (h : PS g b cap T w (p :: q :: y :: l2) d) :
  Calls Tryd.prog 99 #[.pointer (some ⟨g, 0, none⟩)] w fun e w' => Kp g w w' ∧ Out g b cap T (fun c => w.heap.size ≤ c) w' d e (.ok (.mk 5 p.2.1 [.mk 3 q.2.1 [] q.2.2] p.2.2) (y :: l2)) := by
 have HP : Hid _ := h
 have hg := h.lt
 have hbl := h.tr.1
 clear h
 go_enter Tryd.func99, Tryd.ntmps99
 go_wp2_with fail
 have B0 := bsm1 w [vi ki 0, vS ⟨#[]⟩, vL none 0 0, vi ki 0] 24
 refine (next_any g b cap T p q (y :: l2) d _ (HP.out.below B0.out.1)).mono ?_
 rintro e W1 ⟨rfl, hk, hp⟩
 have hz1 : w.heap.size + 1 ≤ W1.heap.size := hzk hk
 have K1 := kpt B0 hk
 have H1_0 := bxk hk B0 0
 clear B0
 have Q1' : Hid _ := hp
 clear hp hk
 have B1 := bsm1 W1 [vi ki p.1, vS p.2.1, vi ki p.2.2] 81
 go_upto_region 2 with fail
 refine gen_to (BS W1 _) B1.out ?_
 intro W2 hB
 have hz2 : W1.heap.size + 1 ≤ W2.heap.size := by have := (hB.at (W1.heap.size) [vi ki p.1, vS p.2.1, vi ki p.2.2] (by simp)).1; (try simp at this); omega
 have K2 : Hid (Kp g w W2) := K1.out.trans (Kp.of hB.1)
 have H2_0 : Hid (Bx W2 (w.heap.size) [vi ki 0, vS ⟨#[]⟩, vL none 0 0, vi ki 0]) := H1_0.out.below hB.1
 have H2_1 := bxi hB 0
 have Q2 : Hid _ := Q1'.out.below hB.1
 clear B1 H1_0 K1 Q1' hB
 have hl2_0 := H2_0.out.1
 obtain ⟨c2_0_0, c2_0_1, c2_0_2, c2_0_3⟩ := H2_0.out.d4
 have hl2_1 := H2_1.out.1
 have c2_1_0 := H2_1.out.c 0 rfl
 have c2_1_1 := H2_1.out.c 1 rfl
 have c2_1_2 := H2_1.out.c 2 rfl
 obtain ⟨⟨pre, pa, pe, he, hbx⟩, htr, hne, hle, hmost⟩ := Q2.out
 have cg := hbx.c 0 rfl
 obtain ⟨t0, t1, t2⟩ := htr.at he
 have hgW := hbx.1
 have hbW := htr.1
 have hlen : T.length = pre.length + (y :: l2).length + 1 := by rw [he]; simp; omega
 unfold maxLen at hmost
 have HEQ : Hid _ := he
 clear hbx htr he
 have hq3 : (q.1 == 3) = true := by simpa using hq.1
 go_wp2_with fail
 refine (isType_any p.2.1 _).mono ?_
 rintro e V0 ⟨rfl, hV0⟩
 rw [hq.2, hV0]
 clear hV0 V0
 clear cg t0 t1 t2 hgW hbW HEQ hlen hmost hle hne
 go_wp2_with fail
 refine (leaf_any g b cap T q y l2 d 3 _ Q2.out).mono ?_
 rintro e W3 ⟨rfl, hk, hp⟩
 have hz3 : W2.heap.size + 0 ≤ W3.heap.size := hzk hk
 have K3 := kph K2 hk
 have H3_0 := bxh hk H2_0
 have H3_1 := bxh hk H2_1
 clear hl2_0 c2_0_0 c2_0_1 c2_0_2 c2_0_3 hl2_1 c2_1_0 c2_1_1 c2_1_2 H2_0 H2_1 K2
 have Q3' : Hid _ := hp
 clear hp hk
 have B3 := bsm1 W3 [vi ki 3, vS q.2.1, vL none 0 0, vi ki q.2.2] 24
 go_upto_region 4 with fail
 refine gen_to (BS W3 _) B3.out ?_
 intro W4 hB
 have hz4 : W3.heap.size + 1 ≤ W4.heap.size := by have := (hB.at (W3.heap.size) [vi ki 3, vS q.2.1, vL none 0 0, vi ki q.2.2] (by simp)).1; (try simp at this); omega
 have K4 : Hid (Kp g w W4) := K3.out.trans (Kp.of hB.1)
 have H4_0 : Hid (Bx W4 (w.heap.size) [vi ki 0, vS ⟨#[]⟩, vL none 0 0, vi ki 0]) := H3_0.out.below hB.1
 have H4_1 : Hid (Bx W4 (W1.heap.size) [vi ki p.1, vS p.2.1, vi ki p.2.2]) := H3_1.out.below hB.1
 have H4_2 := bxi hB 0
 have Q4 : Hid _ := Q3'.out.below hB.1
 clear B3 H3_0 H3_1 K3 Q3' hB
 have hl4_0 := H4_0.out.1
 obtain ⟨c4_0_0, c4_0_1, c4_0_2, c4_0_3, z4_0_0, z4_0_1, z4_0_2, z4_0_3⟩ := H4_0.out.cf4
 have hl4_1 := H4_1.out.1
 have c4_1_0 := H4_1.out.c 0 rfl
 have c4_1_1 := H4_1.out.c 1 rfl
 have c4_1_2 := H4_1.out.c 2 rfl
 have hl4_2 := H4_2.out.1
 obtain ⟨c4_2_0, c4_2_1, c4_2_2, c4_2_3⟩ := H4_2.out.d4
 obtain ⟨y0', y1', y2', y3', HFK, HFO, HFS, r0, r1, r2, r3, s0, s1, s2, s3, hrw'⟩ := fin8 [.cells #[vi ki 3, vS q.2.1, vL none 0 0, vi ki q.2.2] 24] (vi ki 5) (vS p.2.1) (vL (some ⟨W4.heap.size, 0, none⟩) 1 1) (vi ki p.2.2) K4.out (by omega) (H4_0.out)
 simp only [List.foldl, World.setCells, Nat.zero_add, Nat.reduceAdd] at y0' y1' y2' y3'
 go_wp2
 refine bodyPost_ret (v := .tuple #[.agg #[vi ki 5, vS p.2.1, vL (some ⟨W4.heap.size, 0, none⟩) 1 1, vi ki p.2.2], .bool true]) (by simp [results, Tryd.results99, go_sem, y0', y1', y2', y3']) rfl ⟨HFK.out, Q4.out.off HFO.out HFS.out (by omega) (by omega), hE, _, _, _, _, _, _, rfl, ?_⟩
 have HRow : Bx (List.foldl World.alloc (W4.setCells (w.heap.size) 0 [vi ki 5, vS p.2.1, vL (some ⟨W4.heap.size, 0, none⟩) 1 1, vi ki p.2.2]) [.cells #[vi ki 3, vS q.2.1, vL none 0 0, vi ki q.2.2] 24]) (W4.heap.size) [vi ki 3, vS q.2.1, vL none 0 0, vi ki q.2.2] := by
  have q := Bx.new (W4.setCells (w.heap.size) 0 [vi ki 5, vS p.2.1, vL (some ⟨W4.heap.size, 0, none⟩) 1 1, vi ki p.2.2]) [vi ki 3, vS q.2.1, vL none 0 0, vi ki q.2.2] 24
  rw [show (W4.setCells (w.heap.size) 0 [vi ki 5, vS p.2.1, vL (some ⟨W4.heap.size, 0, none⟩) 1 1, vi ki p.2.2]).heap.size = W4.heap.size by simp [setCells_size]] at q
  exact q
 exact NdAt.row (ks := [.mk 3 q.2.1 [] q.2.2]) (by simp) (by simp) (by unfold maxLen; omega) (by (try simp); omega) HRow.1 (RwAt.one HRow (NdAt.leaf _ _ _ _ _))
theorem named_np_a (g b cap : Nat) (T : List Tk) (p q : Tk) (l1 : List Tk) (d : Nat) (hi : isT q [(5, b1 40)] = false) (hq : q.1 ≠ 3) (w : World) (h : PS g b cap T w (p :: q :: l1) d) :
  Calls Tryd.prog 99 #[.pointer (some ⟨g, 0, none⟩)] w fun e w' => Kp g w w' ∧ Out g b cap T (fun c => w.heap.size ≤ c) w' d e (.no q.2.2 30) := by
 have HP : Hid _ := h
 have hg := h.lt
 have hbl := h.tr.1
 clear h
 go_enter Tryd.func99, Tryd.ntmps99
 go_wp2_with fail
 have B0 := bsm1 w [vi ki 0, vS ⟨#[]⟩, vL none 0 0, vi ki 0] 24
 refine (next_any g b cap T p q l1 d _ (HP.out.below B0.out.1)).mono ?_
 rintro e W1 ⟨rfl, hk, hp⟩
 have hz1 : w.heap.size + 1 ≤ W1.heap.size := hzk hk
 have K1 := kpt B0 hk
 have H1_0 := bxk hk B0 0
 clear B0
 have Q1' : Hid _ := hp
 clear hp hk
 have B1 := bsm1 W1 [vi ki p.1, vS p.2.1, vi ki p.2.2] 81
 go_upto_region 2 with fail
 refine gen_to (BS W1 _) B1.out ?_
 intro W2 hB
 have hz2 : W1.heap.size + 1 ≤ W2.heap.size := by have := (hB.at (W1.heap.size) [vi ki p.1, vS p.2.1, vi ki p.2.2] (by simp)).1; (try simp at this); omega
 have K2 : Hid (Kp g w W2) := K1.out.trans (Kp.of hB.1)
 have H2_0 : Hid (Bx W2 (w.heap.size) [vi ki 0, vS ⟨#[]⟩, vL none 0 0, vi ki 0]) := H1_0.out.below hB.1
 have H2_1 := bxi hB 0
 have Q2 : Hid _ := Q1'.out.below hB.1
 clear B1 H1_0 K1 Q1' hB
 have hl2_0 := H2_0.out.1
 obtain ⟨c2_0_0, c2_0_1, c2_0_2, c2_0_3⟩ := H2_0.out.d4
 have hl2_1 := H2_1.out.1
 have c2_1_0 := H2_1.out.c 0 rfl
 have c2_1_1 := H2_1.out.c 1 rfl
 have c2_1_2 := H2_1.out.c 2 rfl
 obtain ⟨⟨pre, pa, pe, he, hbx⟩, htr, hne, hle, hmost⟩ := Q2.out
 have cg := hbx.c 0 rfl
 obtain ⟨t0, t1, t2⟩ := htr.at he
 have hgW := hbx.1
 have hbW := htr.1
 have hlen : T.length = pre.length + l1.length + 1 := by rw [he]; simp <;> omega
 unfold maxLen at hmost
 have HEQ : Hid _ := he
 clear hbx htr he
 have hq3 : (q.1 == 3) = false := by simpa using hq
 go_wp2_with fail
 clear cg t0 t1 t2 hgW hbW HEQ hlen hmost hle hne
 refine (take_no g b cap T q l1 d 5 (b1 40) _ Q2.out hi).mono ?_
 rintro e W3 ⟨rfl, hk, hf⟩
 have hz3 : W2.heap.size + 0 ≤ W3.heap.size := hzk hk
 have K3 := kph K2 hk
 have H3_0 := bxh hk H2_0
 have H3_1 := bxh hk H2_1
 clear hl2_0 c2_0_0 c2_0_1 c2_0_2 c2_0_3 hl2_1 c2_1_0 c2_1_1 c2_1_2 H2_0 H2_1 K2
 have HF := hZz hf
 clear hf hk
 have hl3_0 := H3_0.out.1
 obtain ⟨y0', y1', y2', y3', HFK, HFO, HFS, r0, r1, r2, r3, s0, s1, s2, s3, hrw'⟩ := fin9 (vi ki 0) (vS ⟨#[]⟩) (vL none 0 0) (vi ki 0) K3.out (by omega) (H3_0.out)
 go_wp2
 refine bodyPost_ret (v := .tuple #[.agg #[vi ki 0, vS ⟨#[]⟩, vL none 0 0, vi ki 0], .bool false]) (by simp [results, Tryd.results99, go_sem, y0', y1', y2', y3']) rfl ⟨HFK.out, PF.off HF.out HFO.out HFS.out (by omega), rfl⟩
theorem named_np_b (g b cap : Nat) (T : List Tk) (p q : Tk) (l1 : List Tk) (d : Nat) (hi : isT q [(5, b1 40)] = false) (hq : q.1 = 3) (hty : typB p.2.1 = false) (w : World) (h : PS g b cap T w (p :: q :: l1) d) :
  Calls Tryd.prog 99 #[.pointer (some ⟨g, 0, none⟩)] w fun e w' => Kp g w w' ∧ Out g b cap T (fun c => w.heap.size ≤ c) w' d e (.no q.2.2 30) := by
 have HP : Hid _ := h
 have hg := h.lt
 have hbl := h.tr.1
 clear h
 go_enter Tryd.func99, Tryd.ntmps99
 go_wp2_with fail
 have B0 := bsm1 w [vi ki 0, vS ⟨#[]⟩, vL none 0 0, vi ki 0] 24
 refine (next_any g b cap T p q l1 d _ (HP.out.below B0.out.1)).mono ?_
 rintro e W1 ⟨rfl, hk, hp⟩
 have hz1 : w.heap.size + 1 ≤ W1.heap.size := hzk hk
 have K1 := kpt B0 hk
 have H1_0 := bxk hk B0 0
 clear B0
 have Q1' : Hid _ := hp
 clear hp hk
 have B1 := bsm1 W1 [vi ki p.1, vS p.2.1, vi ki p.2.2] 81
 go_upto_region 2 with fail
 refine gen_to (BS W1 _) B1.out ?_
 intro W2 hB
 have hz2 : W1.heap.size + 1 ≤ W2.heap.size := by have := (hB.at (W1.heap.size) [vi ki p.1, vS p.2.1, vi ki p.2.2] (by simp)).1; (try simp at this); omega
 have K2 : Hid (Kp g w W2) := K1.out.trans (Kp.of hB.1)
 have H2_0 : Hid (Bx W2 (w.heap.size) [vi ki 0, vS ⟨#[]⟩, vL none 0 0, vi ki 0]) := H1_0.out.below hB.1
 have H2_1 := bxi hB 0
 have Q2 : Hid _ := Q1'.out.below hB.1
 clear B1 H1_0 K1 Q1' hB
 have hl2_0 := H2_0.out.1
 obtain ⟨c2_0_0, c2_0_1, c2_0_2, c2_0_3⟩ := H2_0.out.d4
 have hl2_1 := H2_1.out.1
 have c2_1_0 := H2_1.out.c 0 rfl
 have c2_1_1 := H2_1.out.c 1 rfl
 have c2_1_2 := H2_1.out.c 2 rfl
 obtain ⟨⟨pre, pa, pe, he, hbx⟩, htr, hne, hle, hmost⟩ := Q2.out
 have cg := hbx.c 0 rfl
 obtain ⟨t0, t1, t2⟩ := htr.at he
 have hgW := hbx.1
 have hbW := htr.1
 have hlen : T.length = pre.length + l1.length + 1 := by rw [he]; simp <;> omega
 unfold maxLen at hmost
 have HEQ : Hid _ := he
 clear hbx htr he
 have hq3 : (q.1 == 3) = true := by simpa using hq
 go_wp2_with fail
 refine (isType_any p.2.1 _).mono ?_
 rintro e V0 ⟨rfl, hV0⟩
 rw [hty, hV0]
 clear hV0 V0
 clear cg t0 t1 t2 hgW hbW HEQ hlen hmost hle hne
 go_wp2_with fail
 refine (take_no g b cap T q l1 d 5 (b1 40) _ Q2.out hi).mono ?_
 rintro e W3 ⟨rfl, hk, hf⟩
 have hz3 : W2.heap.size + 0 ≤ W3.heap.size := hzk hk
 have K3 := kph K2 hk
 have H3_0 := bxh hk H2_0
 have H3_1 := bxh hk H2_1
 clear hl2_0 c2_0_0 c2_0_1 c2_0_2 c2_0_3 hl2_1 c2_1_0 c2_1_1 c2_1_2 H2_0 H2_1 K2
 have HF := hZz hf
 clear hf hk
 have hl3_0 := H3_0.out.1
 obtain ⟨y0', y1', y2', y3', HFK, HFO, HFS, r0, r1, r2, r3, s0, s1, s2, s3, hrw'⟩ := fin9 (vi ki 0) (vS ⟨#[]⟩) (vL none 0 0) (vi ki 0) K3.out (by omega) (H3_0.out)
 go_wp2
 refine bodyPost_ret (v := .tuple #[.agg #[vi ki 0, vS ⟨#[]⟩, vL none 0 0, vi ki 0], .bool false]) (by simp [results, Tryd.results99, go_sem, y0', y1', y2', y3']) rfl ⟨HFK.out, PF.off HF.out HFO.out HFS.out (by omega), rfl⟩
theorem named_full_a (g b cap : Nat) (T : List Tk) (p q : Tk) (r : Tk) (l2 : List Tk) (hi : isT q [(5, b1 40)] = true) (hq : q.1 ≠ 3) (w : World) (h : PS g b cap T w (p :: q :: r :: l2) 20) :
  Calls Tryd.prog 99 #[.pointer (some ⟨g, 0, none⟩)] w fun e w' => Kp g w w' ∧ Out g b cap T (fun c => w.heap.size ≤ c) w' 20 e (.no p.2.2 31) := by
 have HP : Hid _ := h
 have hg := h.lt
 have hbl := h.tr.1
 clear h
 go_enter Tryd.func99, Tryd.ntmps99
 go_wp2_with fail
 have B0 := bsm1 w [vi ki 0, vS ⟨#[]⟩, vL none 0 0, vi ki 0] 24
 refine (next_any g b cap T p q (r :: l2) 20 _ (HP.out.below B0.out.1)).mono ?_
 rintro e W1 ⟨rfl, hk, hp⟩
 have hz1 : w.heap.size + 1 ≤ W1.heap.size := hzk hk
 have K1 := kpt B0 hk
 have H1_0 := bxk hk B0 0
 clear B0
 have Q1' : Hid _ := hp
 clear hp hk
 have B1 := bsm1 W1 [vi ki p.1, vS p.2.1, vi ki p.2.2] 81
 go_upto_region 2 with fail
 refine gen_to (BS W1 _) B1.out ?_
 intro W2 hB
 have hz2 : W1.heap.size + 1 ≤ W2.heap.size := by have := (hB.at (W1.heap.size) [vi ki p.1, vS p.2.1, vi ki p.2.2] (by simp)).1; (try simp at this); omega
 have K2 : Hid (Kp g w W2) := K1.out.trans (Kp.of hB.1)
 have H2_0 : Hid (Bx W2 (w.heap.size) [vi ki 0, vS ⟨#[]⟩, vL none 0 0, vi ki 0]) := H1_0.out.below hB.1
 have H2_1 := bxi hB 0
 have Q2 : Hid _ := Q1'.out.below hB.1
 clear B1 H1_0 K1 Q1' hB
 have hl2_0 := H2_0.out.1
 obtain ⟨c2_0_0, c2_0_1, c2_0_2, c2_0_3⟩ := H2_0.out.d4
 have hl2_1 := H2_1.out.1
 have c2_1_0 := H2_1.out.c 0 rfl
 have c2_1_1 := H2_1.out.c 1 rfl
 have c2_1_2 := H2_1.out.c 2 rfl
 obtain ⟨⟨pre, pa, pe, he, hbx⟩, htr, hne, hle, hmost⟩ := Q2.out
 have cg := hbx.c 0 rfl
 obtain ⟨t0, t1, t2⟩ := htr.at he
 have hgW := hbx.1
 have hbW := htr.1
 have hlen : T.length = pre.length + (r :: l2).length + 1 := by rw [he]; simp; omega
 unfold maxLen at hmost
 have HEQ : Hid _ := he
 clear hbx htr he
 have hq3 : (q.1 == 3) = false := by simpa using hq
 go_wp2_with fail
 clear cg t0 t1 t2 hgW hbW HEQ hlen hmost hle hne
 refine (take_yes g b cap T q l2 20 5 (b1 40) _ r Q2.out hi).mono ?_
 rintro e W3 ⟨rfl, hk, hp⟩
 have hz3 : W2.heap.size + 0 ≤ W3.heap.size := hzk hk
 have K3 := kph K2 hk
 have H3_0 := bxh hk H2_0
 have H3_1 := bxh hk H2_1
 clear hl2_0 c2_0_0 c2_0_1 c2_0_2 c2_0_3 hl2_1 c2_1_0 c2_1_1 c2_1_2 H2_0 H2_1 K2
 have Q3' : Hid _ := hp
 clear hp hk
 have hl3_0 := H3_0.out.1
 obtain ⟨c3_0_0, c3_0_1, c3_0_2, c3_0_3⟩ := H3_0.out.d4
 have hl3_1 := H3_1.out.1
 have c3_1_0 := H3_1.out.c 0 rfl
 have c3_1_1 := H3_1.out.c 1 rfl
 have c3_1_2 := H3_1.out.c 2 rfl
 go_wp2_with fail
 refine (deeper_full g b cap T _ (enters_of Tryd.func101 (by kernel_rfl) rfl) (r :: l2) p.1 p.2.1 p.2.2 _ Q3'.out).mono ?_
 rintro e W4 ⟨hk, ho⟩
 have hz4 : W3.heap.size + 0 ≤ W4.heap.size := hzk hk
 have K4 := kph K3 hk
 have H4_0 := bxh hk H3_0
 have H4_1 := bxh hk H3_1
 clear hl3_0 c3_0_0 c3_0_1 c3_0_2 c3_0_3 hl3_1 c3_1_0 c3_1_1 c3_1_2 H3_0 H3_1 K3
 obtain ⟨hf, rfl⟩ := ho
 have HF := hZz hf
 clear hf hk
 have hl4_0 := H4_0.out.1
 obtain ⟨y0', y1', y2', y3', HFK, HFO, HFS, r0, r1, r2, r3, s0, s1, s2, s3, hrw'⟩ := fin8 [.cells #[vi ki 0, vS ⟨#[]⟩, vL none 0 0, vi ki 0] 24] (vi ki 0) (vS ⟨#[]⟩) (vL none 0 0) (vi ki 0) K4.out (by omega) (H4_0.out)
 simp only [List.foldl, World.setCells, Nat.zero_add, Nat.reduceAdd] at y0' y1' y2' y3'
 go_wp2
 refine bodyPost_ret (v := .tuple #[.agg #[vi ki 0, vS ⟨#[]⟩, vL none 0 0, vi ki 0], .bool false]) (by simp [results, Tryd.results99, go_sem, y0', y1', y2', y3']) rfl ⟨HFK.out, PF.off HF.out HFO.out HFS.out (by omega), rfl⟩
theorem named_full_b (g b cap : Nat) (T : List Tk) (p q : Tk) (r : Tk) (l2 : List Tk) (hi : isT q [(5, b1 40)] = true) (hq : q.1 = 3) (hty : typB p.2.1 = false) (w : World) (h : PS g b cap T w (p :: q :: r :: l2) 20) :
  Calls Tryd.prog 99 #[.pointer (some ⟨g, 0, none⟩)] w fun e w' => Kp g w w' ∧ Out g b cap T (fun c => w.heap.size ≤ c) w' 20 e (.no p.2.2 31) := by
 have HP : Hid _ := h
 have hg := h.lt
 have hbl := h.tr.1
 clear h
 go_enter Tryd.func99, Tryd.ntmps99
 go_wp2_with fail
 have B0 := bsm1 w [vi ki 0, vS ⟨#[]⟩, vL none 0 0, vi ki 0] 24
 refine (next_any g b cap T p q (r :: l2) 20 _ (HP.out.below B0.out.1)).mono ?_
 rintro e W1 ⟨rfl, hk, hp⟩
 have hz1 : w.heap.size + 1 ≤ W1.heap.size := hzk hk
 have K1 := kpt B0 hk
 have H1_0 := bxk hk B0 0
 clear B0
 have Q1' : Hid _ := hp
 clear hp hk
 have B1 := bsm1 W1 [vi ki p.1, vS p.2.1, vi ki p.2.2] 81
 go_upto_region 2 with fail
 refine gen_to (BS W1 _) B1.out ?_
 intro W2 hB
 have hz2 : W1.heap.size + 1 ≤ W2.heap.size := by have := (hB.at (W1.heap.size) [vi ki p.1, vS p.2.1, vi ki p.2.2] (by simp)).1; (try simp at this); omega
 have K2 : Hid (Kp g w W2) := K1.out.trans (Kp.of hB.1)
 have H2_0 : Hid (Bx W2 (w.heap.size) [vi ki 0, vS ⟨#[]⟩, vL none 0 0, vi ki 0]) := H1_0.out.below hB.1
 have H2_1 := bxi hB 0
 have Q2 : Hid _ := Q1'.out.below hB.1
 clear B1 H1_0 K1 Q1' hB
 have hl2_0 := H2_0.out.1
 obtain ⟨c2_0_0, c2_0_1, c2_0_2, c2_0_3⟩ := H2_0.out.d4
 have hl2_1 := H2_1.out.1
 have c2_1_0 := H2_1.out.c 0 rfl
 have c2_1_1 := H2_1.out.c 1 rfl
 have c2_1_2 := H2_1.out.c 2 rfl
 obtain ⟨⟨pre, pa, pe, he, hbx⟩, htr, hne, hle, hmost⟩ := Q2.out
 have cg := hbx.c 0 rfl
 obtain ⟨t0, t1, t2⟩ := htr.at he
 have hgW := hbx.1
 have hbW := htr.1
 have hlen : T.length = pre.length + (r :: l2).length + 1 := by rw [he]; simp; omega
 unfold maxLen at hmost
 have HEQ : Hid _ := he
 clear hbx htr he
 have hq3 : (q.1 == 3) = true := by simpa using hq
 go_wp2_with fail
 refine (isType_any p.2.1 _).mono ?_
 rintro e V0 ⟨rfl, hV0⟩
 rw [hty, hV0]
 clear hV0 V0
 clear cg t0 t1 t2 hgW hbW HEQ hlen hmost hle hne
 go_wp2_with fail
 refine (take_yes g b cap T q l2 20 5 (b1 40) _ r Q2.out hi).mono ?_
 rintro e W3 ⟨rfl, hk, hp⟩
 have hz3 : W2.heap.size + 0 ≤ W3.heap.size := hzk hk
 have K3 := kph K2 hk
 have H3_0 := bxh hk H2_0
 have H3_1 := bxh hk H2_1
 clear hl2_0 c2_0_0 c2_0_1 c2_0_2 c2_0_3 hl2_1 c2_1_0 c2_1_1 c2_1_2 H2_0 H2_1 K2
 have Q3' : Hid _ := hp
 clear hp hk
 have hl3_0 := H3_0.out.1
 obtain ⟨c3_0_0, c3_0_1, c3_0_2, c3_0_3⟩ := H3_0.out.d4
 have hl3_1 := H3_1.out.1
 have c3_1_0 := H3_1.out.c 0 rfl
 have c3_1_1 := H3_1.out.c 1 rfl
 have c3_1_2 := H3_1.out.c 2 rfl
 go_wp2_with fail
 refine (deeper_full g b cap T _ (enters_of Tryd.func101 (by kernel_rfl) rfl) (r :: l2) p.1 p.2.1 p.2.2 _ Q3'.out).mono ?_
 rintro e W4 ⟨hk, ho⟩
 have hz4 : W3.heap.size + 0 ≤ W4.heap.size := hzk hk
 have K4 := kph K3 hk
 have H4_0 := bxh hk H3_0
 have H4_1 := bxh hk H3_1
 clear hl3_0 c3_0_0 c3_0_1 c3_0_2 c3_0_3 hl3_1 c3_1_0 c3_1_1 c3_1_2 H3_0 H3_1 K3
 obtain ⟨hf, rfl⟩ := ho
 have HF := hZz hf
 clear hf hk
 have hl4_0 := H4_0.out.1
 obtain ⟨y0', y1', y2', y3', HFK, HFO, HFS, r0, r1, r2, r3, s0, s1, s2, s3, hrw'⟩ := fin8 [.cells #[vi ki 0, vS ⟨#[]⟩, vL none 0 0, vi ki 0] 24] (vi ki 0) (vS ⟨#[]⟩) (vL none 0 0) (vi ki 0) K4.out (by omega) (H4_0.out)
 simp only [List.foldl, World.setCells, Nat.zero_add, Nat.reduceAdd] at y0' y1' y2' y3'
 go_wp2
 refine bodyPost_ret (v := .tuple #[.agg #[vi ki 0, vS ⟨#[]⟩, vL none 0 0, vi ki 0], .bool false]) (by simp [results, Tryd.results99, go_sem, y0', y1', y2', y3']) rfl ⟨HFK.out, PF.off HF.out HFO.out HFS.out (by omega), rfl⟩
theorem named_no_a (g b cap : Nat) (T : List Tk) (p q : Tk) (d : Nat) (r : Tk) (l2 : List Tk) (hd : d < 20) (ea er : Int) (hi : isT q [(5, b1 40)] = true) (HM : Hid (∀ w : World, PS g b cap T w (r :: l2) (d + 1) → Calls Tryd.prog 101 #[.pointer (some ⟨g, 0, none⟩)] w fun e w' => Kp g w w' ∧ Out g b cap T (fun c => w.heap.size ≤ c) w' (d + 1) e (.no ea er))) (hq : q.1 ≠ 3) (w : World) (h : PS g b cap T w (p :: q :: r :: l2) d) :
  Calls Tryd.prog 99 #[.pointer (some ⟨g, 0, none⟩)] w fun e w' => Kp g w w' ∧ Out g b cap T (fun c => w.heap.size ≤ c) w' d e (.no ea er) := by
 have HP : Hid _ := h
 have hg := h.lt
 have hbl := h.tr.1
 clear h
 go_enter Tryd.func99, Tryd.ntmps99
 go_wp2_with fail
 have B0 := bsm1 w [vi ki 0, vS ⟨#[]⟩, vL none 0 0, vi ki 0] 24
 refine (next_any g b cap T p q (r :: l2) d _ (HP.out.below B0.out.1)).mono ?_
 rintro e W1 ⟨rfl, hk, hp⟩
 have hz1 : w.heap.size + 1 ≤ W1.heap.size := hzk hk
 have K1 := kpt B0 hk
 have H1_0 := bxk hk B0 0
 clear B0
 have Q1' : Hid _ := hp
 clear hp hk
 have B1 := bsm1 W1 [vi ki p.1, vS p.2.1, vi ki p.2.2] 81
 go_upto_region 2 with fail
 refine gen_to (BS W1 _) B1.out ?_
 intro W2 hB
 have hz2 : W1.heap.size + 1 ≤ W2.heap.size := by have := (hB.at (W1.heap.size) [vi ki p.1, vS p.2.1, vi ki p.2.2] (by simp)).1; (try simp at this); omega
 have K2 : Hid (Kp g w W2) := K1.out.trans (Kp.of hB.1)
 have H2_0 : Hid (Bx W2 (w.heap.size) [vi ki 0, vS ⟨#[]⟩, vL none 0 0, vi ki 0]) := H1_0.out.below hB.1
 have H2_1 := bxi hB 0
 have Q2 : Hid _ := Q1'.out.below hB.1
 clear B1 H1_0 K1 Q1' hB
 have hl2_0 := H2_0.out.1
 obtain ⟨c2_0_0, c2_0_1, c2_0_2, c2_0_3⟩ := H2_0.out.d4
 have hl2_1 := H2_1.out.1
 have c2_1_0 := H2_1.out.c 0 rfl
 have c2_1_1 := H2_1.out.c 1 rfl
 have c2_1_2 := H2_1.out.c 2 rfl
 obtain ⟨⟨pre, pa, pe, he, hbx⟩, htr, hne, hle, hmost⟩ := Q2.out
 have cg := hbx.c 0 rfl
 obtain ⟨t0, t1, t2⟩ := htr.at he
 have hgW := hbx.1
 have hbW := htr.1
 have hlen : T.length = pre.length + (r :: l2).length + 1 := by rw [he]; simp; omega
 unfold maxLen at hmost
 have HEQ : Hid _ := he
 clear hbx htr he
 have hq3 : (q.1 == 3) = false := by simpa using hq
 go_wp2_with fail
 clear cg t0 t1 t2 hgW hbW HEQ hlen hmost hle hne
 refine (take_yes g b cap T q l2 d 5 (b1 40) _ r Q2.out hi).mono ?_
 rintro e W3 ⟨rfl, hk, hp⟩
 have hz3 : W2.heap.size + 0 ≤ W3.heap.size := hzk hk
 have K3 := kph K2 hk
 have H3_0 := bxh hk H2_0
 have H3_1 := bxh hk H2_1
 clear hl2_0 c2_0_0 c2_0_1 c2_0_2 c2_0_3 hl2_1 c2_1_0 c2_1_1 c2_1_2 H2_0 H2_1 K2
 have Q3' : Hid _ := hp
 clear hp hk
 have hl3_0 := H3_0.out.1
 obtain ⟨c3_0_0, c3_0_1, c3_0_2, c3_0_3⟩ := H3_0.out.d4
 have hl3_1 := H3_1.out.1
 have c3_1_0 := H3_1.out.c 0 rfl
 have c3_1_1 := H3_1.out.c 1 rfl
 have c3_1_2 := H3_1.out.c 2 rfl
 go_wp2_with fail
 refine (deeper_no g b cap T _ (enters_of Tryd.func101 (by kernel_rfl) rfl) (r :: l2) p.1 p.2.1 p.2.2 d hd ea er HM _ Q3'.out).mono ?_
 rintro e W4 ⟨hk, ho⟩
 have hz4 : W3.heap.size + 0 ≤ W4.heap.size := hzk hk
 have K4 := kph K3 hk
 have H4_0 := bxh hk H3_0
 have H4_1 := bxh hk H3_1
 clear hl3_0 c3_0_0 c3_0_1 c3_0_2 c3_0_3 hl3_1 c3_1_0 c3_1_1 c3_1_2 H3_0 H3_1 K3
 obtain ⟨hf, rfl⟩ := ho
 have HF := hZz hf
 clear hf hk
 have hl4_0 := H4_0.out.1
 obtain ⟨y0', y1', y2', y3', HFK, HFO, HFS, r0, r1, r2, r3, s0, s1, s2, s3, hrw'⟩ := fin8 [.cells #[vi ki 0, vS ⟨#[]⟩, vL none 0 0, vi ki 0] 24] (vi ki 0) (vS ⟨#[]⟩) (vL none 0 0) (vi ki 0) K4.out (by omega) (H4_0.out)
 simp only [List.foldl, World.setCells, Nat.zero_add, Nat.reduceAdd] at y0' y1' y2' y3'
 go_wp2
 refine bodyPost_ret (v := .tuple #[.agg #[vi ki 0, vS ⟨#[]⟩, vL none 0 0, vi ki 0], .bool false]) (by simp [results, Tryd.results99, go_sem, y0', y1', y2', y3']) rfl ⟨HFK.out, PF.off HF.out HFO.out HFS.out (by omega), rfl⟩
theorem named_no_b (g b cap : Nat) (T : List Tk) (p q : Tk) (d : Nat) (r : Tk) (l2 : List Tk) (hd : d < 20) (ea er : Int) (hi : isT q [(5, b1 40)] = true) (HM : Hid (∀ w : World, PS g b cap T w (r :: l2) (d + 1) → Calls Tryd.prog 101 #[.pointer (some ⟨g, 0, none⟩)] w fun e w' => Kp g w w' ∧ Out g b cap T (fun c => w.heap.size ≤ c) w' (d + 1) e (.no ea er))) (hq : q.1 = 3) (hty : typB p.2.1 = false) (w : World) (h : PS g b cap T w (p :: q :: r :: l2) d) :
  Calls Tryd.prog 99 #[.pointer (some ⟨g, 0, none⟩)] w fun e w' => Kp g w w' ∧ Out g b cap T (fun c => w.heap.size ≤ c) w' d e (.no ea er) := by
 have HP : Hid _ := h
 have hg := h.lt
 have hbl := h.tr.1
 clear h
 go_enter Tryd.func99, Tryd.ntmps99
 go_wp2_with fail
 have B0 := bsm1 w [vi ki 0, vS ⟨#[]⟩, vL none 0 0, vi ki 0] 24
 refine (next_any g b cap T p q (r :: l2) d _ (HP.out.below B0.out.1)).mono ?_
 rintro e W1 ⟨rfl, hk, hp⟩
 have hz1 : w.heap.size + 1 ≤ W1.heap.size := hzk hk
 have K1 := kpt B0 hk
 have H1_0 := bxk hk B0 0
 clear B0
 have Q1' : Hid _ := hp
 clear hp hk
 have B1 := bsm1 W1 [vi ki p.1, vS p.2.1, vi ki p.2.2] 81
 go_upto_region 2 with fail
 refine gen_to (BS W1 _) B1.out ?_
 intro W2 hB
 have hz2 : W1.heap.size + 1 ≤ W2.heap.size := by have := (hB.at (W1.heap.size) [vi ki p.1, vS p.2.1, vi ki p.2.2] (by simp)).1; (try simp at this); omega
 have K2 : Hid (Kp g w W2) := K1.out.trans (Kp.of hB.1)
 have H2_0 : Hid (Bx W2 (w.heap.size) [vi ki 0, vS ⟨#[]⟩, vL none 0 0, vi ki 0]) := H1_0.out.below hB.1
 have H2_1 := bxi hB 0
 have Q2 : Hid _ := Q1'.out.below hB.1
 clear B1 H1_0 K1 Q1' hB
 have hl2_0 := H2_0.out.1
 obtain ⟨c2_0_0, c2_0_1, c2_0_2, c2_0_3⟩ := H2_0.out.d4
 have hl2_1 := H2_1.out.1
 have c2_1_0 := H2_1.out.c 0 rfl
 have c2_1_1 := H2_1.out.c 1 rfl
 have c2_1_2 := H2_1.out.c 2 rfl
 obtain ⟨⟨pre, pa, pe, he, hbx⟩, htr, hne, hle, hmost⟩ := Q2.out
 have cg := hbx.c 0 rfl
 obtain ⟨t0, t1, t2⟩ := htr.at he
 have hgW := hbx.1
 have hbW := htr.1
 have hlen : T.length = pre.length + (r :: l2).length + 1 := by rw [he]; simp; omega
 unfold maxLen at hmost
 have HEQ : Hid _ := he
 clear hbx htr he
 have hq3 : (q.1 == 3) = true := by simpa using hq
 go_wp2_with fail
 refine (isType_any p.2.1 _).mono ?_
 rintro e V0 ⟨rfl, hV0⟩
 rw [hty, hV0]
 clear hV0 V0
 clear cg t0 t1 t2 hgW hbW HEQ hlen hmost hle hne
 go_wp2_with fail
 refine (take_yes g b cap T q l2 d 5 (b1 40) _ r Q2.out hi).mono ?_
 rintro e W3 ⟨rfl, hk, hp⟩
 have hz3 : W2.heap.size + 0 ≤ W3.heap.size := hzk hk
 have K3 := kph K2 hk
 have H3_0 := bxh hk H2_0
 have H3_1 := bxh hk H2_1
 clear hl2_0 c2_0_0 c2_0_1 c2_0_2 c2_0_3 hl2_1 c2_1_0 c2_1_1 c2_1_2 H2_0 H2_1 K2
 have Q3' : Hid _ := hp
 clear hp hk
 have hl3_0 := H3_0.out.1
 obtain ⟨c3_0_0, c3_0_1, c3_0_2, c3_0_3⟩ := H3_0.out.d4
 have hl3_1 := H3_1.out.1
 have c3_1_0 := H3_1.out.c 0 rfl
 have c3_1_1 := H3_1.out.c 1 rfl
 have c3_1_2 := H3_1.out.c 2 rfl
 go_wp2_with fail
 refine (deeper_no g b cap T _ (enters_of Tryd.func101 (by kernel_rfl) rfl) (r :: l2) p.1 p.2.1 p.2.2 d hd ea er HM _ Q3'.out).mono ?_
 rintro e W4 ⟨hk, ho⟩
 have hz4 : W3.heap.size + 0 ≤ W4.heap.size := hzk hk
 have K4 := kph K3 hk
 have H4_0 := bxh hk H3_0
 have H4_1 := bxh hk H3_1
 clear hl3_0 c3_0_0 c3_0_1 c3_0_2 c3_0_3 hl3_1 c3_1_0 c3_1_1 c3_1_2 H3_0 H3_1 K3
 obtain ⟨hf, rfl⟩ := ho
 have HF := hZz hf
 clear hf hk
 have hl4_0 := H4_0.out.1
 obtain ⟨y0', y1', y2', y3', HFK, HFO, HFS, r0, r1, r2, r3, s0, s1, s2, s3, hrw'⟩ := fin8 [.cells #[vi ki 0, vS ⟨#[]⟩, vL none 0 0, vi ki 0] 24] (vi ki 0) (vS ⟨#[]⟩) (vL none 0 0) (vi ki 0) K4.out (by omega) (H4_0.out)
 simp only [List.foldl, World.setCells, Nat.zero_add, Nat.reduceAdd] at y0' y1' y2' y3'
 go_wp2
 refine bodyPost_ret (v := .tuple #[.agg #[vi ki 0, vS ⟨#[]⟩, vL none 0 0, vi ki 0], .bool false]) (by simp [results, Tryd.results99, go_sem, y0', y1', y2', y3']) rfl ⟨HFK.out, PF.off HF.out HFO.out HFS.out (by omega), rfl⟩
theorem named_ok_a (g b cap : Nat) (T : List Tk) (p q : Tk) (d : Nat) (r : Tk) (l2 : List Tk) (hd : d < 20) (m : Nd) (l3 : List Tk) (hk9 : m.k = 9) (hi : isT q [(5, b1 40)] = true) (HM : Hid (∀ w : World, PS g b cap T w (r :: l2) (d + 1) → Calls Tryd.prog 101 #[.pointer (some ⟨g, 0, none⟩)] w fun e w' => Kp g w w' ∧ Out g b cap T (fun c => w.heap.size ≤ c) w' (d + 1) e (.ok m l3))) (hq : q.1 ≠ 3) (w : World) (h : PS g b cap T w (p :: q :: r :: l2) d) :
  Calls Tryd.prog 99 #[.pointer (some ⟨g, 0, none⟩)] w fun e w' => Kp g w w' ∧ Out g b cap T (fun c => w.heap.size ≤ c) w' d e (.ok (.mk 9 p.2.1 m.ks p.2.2) l3) := by
 have HP : Hid _ := h
 have hg := h.lt
 have hbl := h.tr.1
 clear h
 go_enter Tryd.func99, Tryd.ntmps99
 go_wp2_with fail
 have B0 := bsm1 w [vi ki 0, vS ⟨#[]⟩, vL none 0 0, vi ki 0] 24
 refine (next_any g b cap T p q (r :: l2) d _ (HP.out.below B0.out.1)).mono ?_
 rintro e W1 ⟨rfl, hk, hp⟩
 have hz1 : w.heap.size + 1 ≤ W1.heap.size := hzk hk
 have K1 := kpt B0 hk
 have H1_0 := bxk hk B0 0
 clear B0
 have Q1' : Hid _ := hp
 clear hp hk
 have B1 := bsm1 W1 [vi ki p.1, vS p.2.1, vi ki p.2.2] 81
 go_upto_region 2 with fail
 refine gen_to (BS W1 _) B1.out ?_
 intro W2 hB
 have hz2 : W1.heap.size + 1 ≤ W2.heap.size := by have := (hB.at (W1.heap.size) [vi ki p.1, vS p.2.1, vi ki p.2.2] (by simp)).1; (try simp at this); omega
 have K2 : Hid (Kp g w W2) := K1.out.trans (Kp.of hB.1)
 have H2_0 : Hid (Bx W2 (w.heap.size) [vi ki 0, vS ⟨#[]⟩, vL none 0 0, vi ki 0]) := H1_0.out.below hB.1
 have H2_1 := bxi hB 0
 have Q2 : Hid _ := Q1'.out.below hB.1
 clear B1 H1_0 K1 Q1' hB
 have hl2_0 := H2_0.out.1
 obtain ⟨c2_0_0, c2_0_1, c2_0_2, c2_0_3⟩ := H2_0.out.d4
 have hl2_1 := H2_1.out.1
 have c2_1_0 := H2_1.out.c 0 rfl
 have c2_1_1 := H2_1.out.c 1 rfl
 have c2_1_2 := H2_1.out.c 2 rfl
 obtain ⟨⟨pre, pa, pe, he, hbx⟩, htr, hne, hle, hmost⟩ := Q2.out
 have cg := hbx.c 0 rfl
 obtain ⟨t0, t1, t2⟩ := htr.at he
 have hgW := hbx.1
 have hbW := htr.1
 have hlen : T.length = pre.length + (r :: l2).length + 1 := by rw [he]; simp; omega
 unfold maxLen at hmost
 have HEQ : Hid _ := he
 clear hbx htr he
 have hq3 : (q.1 == 3) = false := by simpa using hq
 go_wp2_with fail
 clear cg t0 t1 t2 hgW hbW HEQ hlen hmost hle hne
 refine (take_yes g b cap T q l2 d 5 (b1 40) _ r Q2.out hi).mono ?_
 rintro e W3 ⟨rfl, hk, hp⟩
 have hz3 : W2.heap.size + 0 ≤ W3.heap.size := hzk hk
 have K3 := kph K2 hk
 have H3_0 := bxh hk H2_0
 have H3_1 := bxh hk H2_1
 clear hl2_0 c2_0_0 c2_0_1 c2_0_2 c2_0_3 hl2_1 c2_1_0 c2_1_1 c2_1_2 H2_0 H2_1 K2
 have Q3' : Hid _ := hp
 clear hp hk
 have hl3_0 := H3_0.out.1
 obtain ⟨c3_0_0, c3_0_1, c3_0_2, c3_0_3⟩ := H3_0.out.d4
 have hl3_1 := H3_1.out.1
 have c3_1_0 := H3_1.out.c 0 rfl
 have c3_1_1 := H3_1.out.c 1 rfl
 have c3_1_2 := H3_1.out.c 2 rfl
 go_wp2_with fail
 refine (deeper_ok g b cap T _ (enters_of Tryd.func101 (by kernel_rfl) rfl) (r :: l2) p.1 p.2.1 p.2.2 d hd m l3 HM _ Q3'.out).mono ?_
 rintro e W4 ⟨hk, ho⟩
 have hz4 : W3.heap.size + 0 ≤ W4.heap.size := hzk hk
 have K4 := kph K3 hk
 have H4_0 := bxh hk H3_0
 have H4_1 := bxh hk H3_1
 clear hl3_0 c3_0_0 c3_0_1 c3_0_2 c3_0_3 hl3_1 c3_1_0 c3_1_1 c3_1_2 H3_0 H3_1 K3
 obtain ⟨hps, hend, k2, u2, sq2, sn2, sc2, a2, rfl, hnd⟩ := ho
 have HQ : Hid _ := hps
 have HE1 : Hid _ := hend
 have HM2 : Hid _ := hnd
 clear hps hend hnd hk
 have HM3 : Hid (NdAt (fun c => W3.heap.size ≤ c ∧ c < W4.heap.size) W4 m [vi ki k2, vS u2, vL sq2 sn2 sc2, vi ki a2]) := NdAt.keep (Nat.le_refl _) (fun c hc hl => ⟨⟨by (try simp at hc ⊢); omega, hl⟩, rfl⟩) _ _ HM2.out
 clear HM2
 have B4 := bsm1 W4 [vi ki k2, vS u2, vL sq2 sn2 sc2, vi ki a2] 24
 go_upto_region 10 with fail
 refine gen_to (BS W4 _) B4.out ?_
 intro W5 hB
 have hz5 : W4.heap.size + 1 ≤ W5.heap.size := by have := (hB.at (W4.heap.size) [vi ki k2, vS u2, vL sq2 sn2 sc2, vi ki a2] (by simp)).1; (try simp at this); omega
 have K5 : Hid (Kp g w W5) := K4.out.trans (Kp.of hB.1)
 have H5_0 : Hid (Bx W5 (w.heap.size) [vi ki 0, vS ⟨#[]⟩, vL none 0 0, vi ki 0]) := H4_0.out.below hB.1
 have H5_1 : Hid (Bx W5 (W1.heap.size) [vi ki p.1, vS p.2.1, vi ki p.2.2]) := H4_1.out.below hB.1
 have H5_2 := bxi hB 0
 have HM3_5 : Hid (NdAt (fun c => W3.heap.size ≤ c ∧ c < W4.heap.size) W5 m [vi ki k2, vS u2, vL sq2 sn2 sc2, vi ki a2]) := HM3.out.kp (g := g) (Kp.of hB.1) (fun c hc => ⟨hc, by (try simp at hc); omega⟩)
 have Q5 : Hid _ := HQ.out.below hB.1
 clear B4 H4_0 H4_1 HM3 K4 HQ hB
 obtain ⟨B4, hB4⟩ : ∃ B4, B4 = W1.heap.size := ⟨_, rfl⟩
 obtain ⟨B7, hB7⟩ : ∃ B7, B7 = W4.heap.size := ⟨_, rfl⟩
 have h47 : B4 < B7 := by omega
 have h4w : w.heap.size < B4 := by omega
 have KK : Hid (NM g b cap T w d B4 B7 [vi ki p.1, vS p.2.1, vi ki p.2.2] l3 m [vi ki k2, vS u2, vL sq2 sn2 sc2, vi ki a2] [vi ki k2, vS u2, vL sq2 sn2 sc2, vi ki a2] W5) := ⟨K5.out, H5_0.out, by rw [hB4]; exact H5_1.out, by rw [hB7]; exact H5_2.out, Q5.out, NdAt.keep (Nat.le_refl _) (fun c hc hl => ⟨⟨by (try simp at hc); omega, by (try simp at hc); omega, by (try simp at hc); (try rw [hB7]); omega⟩, rfl⟩) _ _ HM3_5.out⟩
 rw [← hB4, ← hB7]
 clear hB4 hB7 H5_0 H5_1 H5_2 K5 Q5 HM3_5
 have hw71 : B7 < W5.heap.size := KK.out.2.2.2.1.1
 have hw72 : B4 < W5.heap.size := KK.out.2.2.1.1
 have hw73 : w.heap.size < W5.heap.size := KK.out.2.1.1
 skip
 refine wp_region_held_drew (S := fun V => Bx V B4 [vi ki p.1, vS p.2.1, vi ki p.2.2]) (by kernel_rfl) (KK.out.2.2.1) (fun hHeld => ?_)
 refine tks 0 ?_
 simp only [za, zb, zc, zd]
 refine tks 1 ?_
 simp only [za, zb, zc, zd]
 refine tk (v := ?_) 2 ?_ ?_
 case refine_2 => (intro w9 hSw; have l0 := hSw.c 0 rfl; have l1' := hSw.c 1 rfl; have l2' := hSw.c 2 rfl; clear hSw; go_simp; try with_reducible rfl)
 simp only [za, zb, zc, zd]
 refine tks 3 ?_
 simp only [za, zb, zc, zd]
 refine tk (v := ?_) 4 ?_ ?_
 case refine_2 => (intro w9 hSw; have l0 := hSw.c 0 rfl; have l1' := hSw.c 1 rfl; have l2' := hSw.c 2 rfl; clear hSw; go_simp; try with_reducible rfl)
 simp only [za, zb, zc, zd]
 refine tks 5 ?_
 simp only [za, zb, zc, zd]
 refine rd 6 (fun K hK => ?_)
 have q0 := KK.out.2.2.2.1.c 1 rfl
 have q1 := KK.out.2.2.2.1.f 1 rfl
 have q2 := KK.out.2.2.2.1.1
 go_simp
 refine hK.out _ _ (by first | exact (hHeld.setOther (by omega) [_] 1) | exact (Bx.setOther hHeld (by omega) [_] 1)) (fun hHeld => ?_)
 refine gen_anyH (NM g b cap T w d B4 B7 [vi ki p.1, vS p.2.1, vi ki p.2.2] l3 m [vi ki k2, vS u2, vL sq2 sn2 sc2, vi ki a2] [vi ki k2, vS p.2.1, vL sq2 sn2 sc2, vi ki a2]) (by first | exact KK.out.set1 hg hbl h4w h47 1 _ (by simp) | exact KK.out.drew.set1 hg hbl h4w h47 1 _ (by simp) | exact (KK.out.set1 hg hbl h4w h47 1 _ (by simp)).drew) ?_
 clear hHeld hK K KK q0 q1 q2
 intro v1 KK'
 have KK := hZz KK'
 have hHeld : Bx v1 B4 [vi ki p.1, vS p.2.1, vi ki p.2.2] := KK'.2.2.1
 clear KK'
 refine tks 7 ?_
 simp only [za, zb, zc, zd]
 refine rd 8 (fun K hK => ?_)
 have q0 := KK.out.2.2.2.1.c 3 rfl
 have q1 := KK.out.2.2.2.1.f 3 rfl
 have q2 := KK.out.2.2.2.1.1
 go_simp
 refine hK.out _ _ (by first | exact (hHeld.setOther (by omega) [_] 3) | exact (Bx.setOther hHeld (by omega) [_] 3)) (fun hHeld => ?_)
 refine gen_anyH (NM g b cap T w d B4 B7 [vi ki p.1, vS p.2.1, vi ki p.2.2] l3 m [vi ki k2, vS u2, vL sq2 sn2 sc2, vi ki a2] [vi ki k2, vS p.2.1, vL sq2 sn2 sc2, vi ki p.2.2]) (by first | exact KK.out.set1 hg hbl h4w h47 3 _ (by simp) | exact KK.out.drew.set1 hg hbl h4w h47 3 _ (by simp) | exact (KK.out.set1 hg hbl h4w h47 3 _ (by simp)).drew) ?_
 clear hHeld hK K KK q0 q1 q2
 intro v2 KK'
 have KK := hZz KK'
 have hHeld : Bx v2 B4 [vi ki p.1, vS p.2.1, vi ki p.2.2] := KK'.2.2.1
 clear KK'
 refine dn ?_
 have K9 := hZz KK.out.1
 have H9 := hZz KK.out.2.1
 obtain ⟨x0, x1, x2, x3⟩ := KK.out.2.2.2.1.d4
 have hx7 := KK.out.2.2.2.1.1
 obtain ⟨y0', y1', y2', y3', HFK, HFO, HFS, r0, r1, r2, r3, s0, s1, s2, s3, hrw'⟩ := fin9 (vi ki k2) (vS p.2.1) (vL sq2 sn2 sc2) (vi ki p.2.2) K9.out (by omega) (H9.out)
 go_wp2
 refine bodyPost_ret (v := .tuple #[.agg #[vi ki k2, vS p.2.1, vL sq2 sn2 sc2, vi ki p.2.2], .bool true]) (by simp [results, Tryd.results99, go_sem, y0', y1', y2', y3']) rfl ⟨HFK.out, KK.out.2.2.2.2.1.off HFO.out HFS.out (by omega) (by omega), HE1.out, _, _, _, _, _, _, rfl, by rw [← hk9]; exact (NdAt.renamed KK.out.2.2.2.2.2).off HFO.out HFS.out (fun c hc => ⟨by omega, by omega⟩)⟩
theorem named_ok_b (g b cap : Nat) (T : List Tk) (p q : Tk) (d : Nat) (r : Tk) (l2 : List Tk) (hd : d < 20) (m : Nd) (l3 : List Tk) (hk9 : m.k = 9) (hi : isT q [(5, b1 40)] = true) (HM : Hid (∀ w : World, PS g b cap T w (r :: l2) (d + 1) → Calls Tryd.prog 101 #[.pointer (some ⟨g, 0, none⟩)] w fun e w' => Kp g w w' ∧ Out g b cap T (fun c => w.heap.size ≤ c) w' (d + 1) e (.ok m l3))) (hq : q.1 = 3) (hty : typB p.2.1 = false) (w : World) (h : PS g b cap T w (p :: q :: r :: l2) d) :
  Calls Tryd.prog 99 #[.pointer (some ⟨g, 0, none⟩)] w fun e w' => Kp g w w' ∧ Out g b cap T (fun c => w.heap.size ≤ c) w' d e (.ok (.mk 9 p.2.1 m.ks p.2.2) l3) := by
 have HP : Hid _ := h
 have hg := h.lt
 have hbl := h.tr.1
 clear h
 go_enter Tryd.func99, Tryd.ntmps99
 go_wp2_with fail
 have B0 := bsm1 w [vi ki 0, vS ⟨#[]⟩, vL none 0 0, vi ki 0] 24
 refine (next_any g b cap T p q (r :: l2) d _ (HP.out.below B0.out.1)).mono ?_
 rintro e W1 ⟨rfl, hk, hp⟩
 have hz1 : w.heap.size + 1 ≤ W1.heap.size := hzk hk
 have K1 := kpt B0 hk
 have H1_0 := bxk hk B0 0
 clear B0
 have Q1' : Hid _ := hp
 clear hp hk
 have B1 := bsm1 W1 [vi ki p.1, vS p.2.1, vi ki p.2.2] 81
 go_upto_region 2 with fail
 refine gen_to (BS W1 _) B1.out ?_
 intro W2 hB
 have hz2 : W1.heap.size + 1 ≤ W2.heap.size := by have := (hB.at (W1.heap.size) [vi ki p.1, vS p.2.1, vi ki p.2.2] (by simp)).1; (try simp at this); omega
 have K2 : Hid (Kp g w W2) := K1.out.trans (Kp.of hB.1)
 have H2_0 : Hid (Bx W2 (w.heap.size) [vi ki 0, vS ⟨#[]⟩, vL none 0 0, vi ki 0]) := H1_0.out.below hB.1
 have H2_1 := bxi hB 0
 have Q2 : Hid _ := Q1'.out.below hB.1
 clear B1 H1_0 K1 Q1' hB
 have hl2_0 := H2_0.out.1
 obtain ⟨c2_0_0, c2_0_1, c2_0_2, c2_0_3⟩ := H2_0.out.d4
 have hl2_1 := H2_1.out.1
 have c2_1_0 := H2_1.out.c 0 rfl
 have c2_1_1 := H2_1.out.c 1 rfl
 have c2_1_2 := H2_1.out.c 2 rfl
 obtain ⟨⟨pre, pa, pe, he, hbx⟩, htr, hne, hle, hmost⟩ := Q2.out
 have cg := hbx.c 0 rfl
 obtain ⟨t0, t1, t2⟩ := htr.at he
 have hgW := hbx.1
 have hbW := htr.1
 have hlen : T.length = pre.length + (r :: l2).length + 1 := by rw [he]; simp; omega
 unfold maxLen at hmost
 have HEQ : Hid _ := he
 clear hbx htr he
 have hq3 : (q.1 == 3) = true := by simpa using hq
 go_wp2_with fail
 refine (isType_any p.2.1 _).mono ?_
 rintro e V0 ⟨rfl, hV0⟩
 rw [hty, hV0]
 clear hV0 V0
 clear cg t0 t1 t2 hgW hbW HEQ hlen hmost hle hne
 go_wp2_with fail
 refine (take_yes g b cap T q l2 d 5 (b1 40) _ r Q2.out hi).mono ?_
 rintro e W3 ⟨rfl, hk, hp⟩
 have hz3 : W2.heap.size + 0 ≤ W3.heap.size := hzk hk
 have K3 := kph K2 hk
 have H3_0 := bxh hk H2_0
 have H3_1 := bxh hk H2_1
 clear hl2_0 c2_0_0 c2_0_1 c2_0_2 c2_0_3 hl2_1 c2_1_0 c2_1_1 c2_1_2 H2_0 H2_1 K2
 have Q3' : Hid _ := hp
 clear hp hk
 have hl3_0 := H3_0.out.1
 obtain ⟨c3_0_0, c3_0_1, c3_0_2, c3_0_3⟩ := H3_0.out.d4
 have hl3_1 := H3_1.out.1
 have c3_1_0 := H3_1.out.c 0 rfl
 have c3_1_1 := H3_1.out.c 1 rfl
 have c3_1_2 := H3_1.out.c 2 rfl
 go_wp2_with fail
 refine (deeper_ok g b cap T _ (enters_of Tryd.func101 (by kernel_rfl) rfl) (r :: l2) p.1 p.2.1 p.2.2 d hd m l3 HM _ Q3'.out).mono ?_
 rintro e W4 ⟨hk, ho⟩
 have hz4 : W3.heap.size + 0 ≤ W4.heap.size := hzk hk
 have K4 := kph K3 hk
 have H4_0 := bxh hk H3_0
 have H4_1 := bxh hk H3_1
 clear hl3_0 c3_0_0 c3_0_1 c3_0_2 c3_0_3 hl3_1 c3_1_0 c3_1_1 c3_1_2 H3_0 H3_1 K3
 obtain ⟨hps, hend, k2, u2, sq2, sn2, sc2, a2, rfl, hnd⟩ := ho
 have HQ : Hid _ := hps
 have HE1 : Hid _ := hend
 have HM2 : Hid _ := hnd
 clear hps hend hnd hk
 have HM3 : Hid (NdAt (fun c => W3.heap.size ≤ c ∧ c < W4.heap.size) W4 m [vi ki k2, vS u2, vL sq2 sn2 sc2, vi ki a2]) := NdAt.keep (Nat.le_refl _) (fun c hc hl => ⟨⟨by (try simp at hc ⊢); omega, hl⟩, rfl⟩) _ _ HM2.out
 clear HM2
 have B4 := bsm1 W4 [vi ki k2, vS u2, vL sq2 sn2 sc2, vi ki a2] 24
 go_upto_region 10 with fail
 refine gen_to (BS W4 _) B4.out ?_
 intro W5 hB
 have hz5 : W4.heap.size + 1 ≤ W5.heap.size := by have := (hB.at (W4.heap.size) [vi ki k2, vS u2, vL sq2 sn2 sc2, vi ki a2] (by simp)).1; (try simp at this); omega
 have K5 : Hid (Kp g w W5) := K4.out.trans (Kp.of hB.1)
 have H5_0 : Hid (Bx W5 (w.heap.size) [vi ki 0, vS ⟨#[]⟩, vL none 0 0, vi ki 0]) := H4_0.out.below hB.1
 have H5_1 : Hid (Bx W5 (W1.heap.size) [vi ki p.1, vS p.2.1, vi ki p.2.2]) := H4_1.out.below hB.1
 have H5_2 := bxi hB 0
 have HM3_5 : Hid (NdAt (fun c => W3.heap.size ≤ c ∧ c < W4.heap.size) W5 m [vi ki k2, vS u2, vL sq2 sn2 sc2, vi ki a2]) := HM3.out.kp (g := g) (Kp.of hB.1) (fun c hc => ⟨hc, by (try simp at hc); omega⟩)
 have Q5 : Hid _ := HQ.out.below hB.1
 clear B4 H4_0 H4_1 HM3 K4 HQ hB
 obtain ⟨B4, hB4⟩ : ∃ B4, B4 = W1.heap.size := ⟨_, rfl⟩
 obtain ⟨B7, hB7⟩ : ∃ B7, B7 = W4.heap.size := ⟨_, rfl⟩
 have h47 : B4 < B7 := by omega
 have h4w : w.heap.size < B4 := by omega
 have KK : Hid (NM g b cap T w d B4 B7 [vi ki p.1, vS p.2.1, vi ki p.2.2] l3 m [vi ki k2, vS u2, vL sq2 sn2 sc2, vi ki a2] [vi ki k2, vS u2, vL sq2 sn2 sc2, vi ki a2] W5) := ⟨K5.out, H5_0.out, by rw [hB4]; exact H5_1.out, by rw [hB7]; exact H5_2.out, Q5.out, NdAt.keep (Nat.le_refl _) (fun c hc hl => ⟨⟨by (try simp at hc); omega, by (try simp at hc); omega, by (try simp at hc); (try rw [hB7]); omega⟩, rfl⟩) _ _ HM3_5.out⟩
 rw [← hB4, ← hB7]
 clear hB4 hB7 H5_0 H5_1 H5_2 K5 Q5 HM3_5
 have hw71 : B7 < W5.heap.size := KK.out.2.2.2.1.1
 have hw72 : B4 < W5.heap.size := KK.out.2.2.1.1
 have hw73 : w.heap.size < W5.heap.size := KK.out.2.1.1
 skip
 refine wp_region_held_drew (S := fun V => Bx V B4 [vi ki p.1, vS p.2.1, vi ki p.2.2]) (by kernel_rfl) (KK.out.2.2.1) (fun hHeld => ?_)
 refine tks 0 ?_
 simp only [za, zb, zc, zd]
 refine tks 1 ?_
 simp only [za, zb, zc, zd]
 refine tk (v := ?_) 2 ?_ ?_
 case refine_2 => (intro w9 hSw; have l0 := hSw.c 0 rfl; have l1' := hSw.c 1 rfl; have l2' := hSw.c 2 rfl; clear hSw; go_simp; try with_reducible rfl)
 simp only [za, zb, zc, zd]
 refine tks 3 ?_
 simp only [za, zb, zc, zd]
 refine tk (v := ?_) 4 ?_ ?_
 case refine_2 => (intro w9 hSw; have l0 := hSw.c 0 rfl; have l1' := hSw.c 1 rfl; have l2' := hSw.c 2 rfl; clear hSw; go_simp; try with_reducible rfl)
 simp only [za, zb, zc, zd]
 refine tks 5 ?_
 simp only [za, zb, zc, zd]
 refine rd 6 (fun K hK => ?_)
 have q0 := KK.out.2.2.2.1.c 1 rfl
 have q1 := KK.out.2.2.2.1.f 1 rfl
 have q2 := KK.out.2.2.2.1.1
 go_simp
 refine hK.out _ _ (by first | exact (hHeld.setOther (by omega) [_] 1) | exact (Bx.setOther hHeld (by omega) [_] 1)) (fun hHeld => ?_)
 refine gen_anyH (NM g b cap T w d B4 B7 [vi ki p.1, vS p.2.1, vi ki p.2.2] l3 m [vi ki k2, vS u2, vL sq2 sn2 sc2, vi ki a2] [vi ki k2, vS p.2.1, vL sq2 sn2 sc2, vi ki a2]) (by first | exact KK.out.set1 hg hbl h4w h47 1 _ (by simp) | exact KK.out.drew.set1 hg hbl h4w h47 1 _ (by simp) | exact (KK.out.set1 hg hbl h4w h47 1 _ (by simp)).drew) ?_
 clear hHeld hK K KK q0 q1 q2
 intro v1 KK'
 have KK := hZz KK'
 have hHeld : Bx v1 B4 [vi ki p.1, vS p.2.1, vi ki p.2.2] := KK'.2.2.1
 clear KK'
 refine tks 7 ?_
 simp only [za, zb, zc, zd]
 refine rd 8 (fun K hK => ?_)
 have q0 := KK.out.2.2.2.1.c 3 rfl
 have q1 := KK.out.2.2.2.1.f 3 rfl
 have q2 := KK.out.2.2.2.1.1
 go_simp
 refine hK.out _ _ (by first | exact (hHeld.setOther (by omega) [_] 3) | exact (Bx.setOther hHeld (by omega) [_] 3)) (fun hHeld => ?_)
 refine gen_anyH (NM g b cap T w d B4 B7 [vi ki p.1, vS p.2.1, vi ki p.2.2] l3 m [vi ki k2, vS u2, vL sq2 sn2 sc2, vi ki a2] [vi ki k2, vS p.2.1, vL sq2 sn2 sc2, vi ki p.2.2]) (by first | exact KK.out.set1 hg hbl h4w h47 3 _ (by simp) | exact KK.out.drew.set1 hg hbl h4w h47 3 _ (by simp) | exact (KK.out.set1 hg hbl h4w h47 3 _ (by simp)).drew) ?_
 clear hHeld hK K KK q0 q1 q2
 intro v2 KK'
 have KK := hZz KK'
 have hHeld : Bx v2 B4 [vi ki p.1, vS p.2.1, vi ki p.2.2] := KK'.2.2.1
 clear KK'
 refine dn ?_
 have K9 := hZz KK.out.1
 have H9 := hZz KK.out.2.1
 obtain ⟨x0, x1, x2, x3⟩ := KK.out.2.2.2.1.d4
 have hx7 := KK.out.2.2.2.1.1
 obtain ⟨y0', y1', y2', y3', HFK, HFO, HFS, r0, r1, r2, r3, s0, s1, s2, s3, hrw'⟩ := fin9 (vi ki k2) (vS p.2.1) (vL sq2 sn2 sc2) (vi ki p.2.2) K9.out (by omega) (H9.out)
 go_wp2
 refine bodyPost_ret (v := .tuple #[.agg #[vi ki k2, vS p.2.1, vL sq2 sn2 sc2, vi ki p.2.2], .bool true]) (by simp [results, Tryd.results99, go_sem, y0', y1', y2', y3']) rfl ⟨HFK.out, KK.out.2.2.2.2.1.off HFO.out HFS.out (by omega) (by omega), HE1.out, _, _, _, _, _, _, rfl, by rw [← hk9]; exact (NdAt.renamed KK.out.2.2.2.2.2).off HFO.out HFS.out (fun c hc => ⟨by omega, by omega⟩)⟩
end Go.Proofs.YtaoocecipacnhaaDoor
