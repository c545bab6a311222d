import Derived.Test.YtaoocecipacnhaaDoorX13
open Go.Value renaming int → vi, string → vS, slice → vL
open Go.IntKind renaming i64 → ki
open List renaming setIfInBounds_toArray → zb, set_cons_zero → zc, set_cons_succ → zd, length_cons → zl
open Go.Act renaming put → za
open Go.Ending renaming returned → zr
set_option maxRecDepth 100000
set_option maxHeartbeats 16000000
set_option linter.all false
namespace Go.Proofs.YtaoocecipacnhaaDoor
open Go.RowKit
theorem rnamed_no (g b cap : Nat) (T : List Tk) (hGT : Hid (∀ x ∈ T, GoodT x)) (t q : Tk) (l : List Tk) (d : Nat) (hd : d ≤ 20) (h3 : q.1 ≠ 3) (hsg : sgB q (b1 40) = false) (w : World) (h : RS g b cap T w (q :: l) d) (hGt : GoodT t) (hL : EndL (mL (q :: l))) :
  Calls Tryd.prog 67 #[.pointer (some ⟨g, 0, none⟩), .agg #[vi ki t.1, vS t.2.1, vi ki t.2.2], vS (lowB t.2.1)] w fun e w' => Kp g w w' ∧ ROut g b w.heap.size cap T (fun c => w.heap.size ≤ c) w' d e (.no q.2.2 30) := by
 have g3 : (q.1 == 3) = false := by simpa using h3
 have g3p : (q.1 = 3) = False := eq_false h3
 clear h3
 have HL := hZz hL
 have hg := h.lt
 have hbl := h.tr.1
 have HGt := hZz hGt
 have HGq : Hid (GoodT q) := h.good hGT.out
 have hsz := hGt.size
 have HP := hZz h
 obtain ⟨pre, pa, cg0, cg1, cg2, fg0, fg1, t0, t1, t2, hgW, hbW, hlen, hmost, hle, hne, HEQ, HBX, HTR⟩ := RS.facts (h)
 clear h hL hGt
 have B0 := bsm3 w [vi ki t.1, vS t.2.1, vi ki t.2.2] 59 [vi ki 0, vS ⟨#[]⟩, vL none 0 0, vi ki 0] 30 [vi ki q.1, vS q.2.1, vi ki q.2.2] 59
 have HP0 : Hid (RS g b cap T (((w.alloc (.cells #[vi ki t.1, vS t.2.1, vi ki t.2.2] 59)).alloc (.cells #[vi ki 0, vS ⟨#[]⟩, vL none 0 0, vi ki 0] 30)).alloc (.cells #[vi ki q.1, vS q.2.1, vi ki q.2.2] 59)) (q :: l) d) := HP.out.below B0.out.1
 have K0 : Hid (Kp g w (((w.alloc (.cells #[vi ki t.1, vS t.2.1, vi ki t.2.2] 59)).alloc (.cells #[vi ki 0, vS ⟨#[]⟩, vL none 0 0, vi ki 0] 30)).alloc (.cells #[vi ki q.1, vS q.2.1, vi ki q.2.2] 59))) := Kp.of B0.out.1
 have H0 : Hid (Bx (((w.alloc (.cells #[vi ki t.1, vS t.2.1, vi ki t.2.2] 59)).alloc (.cells #[vi ki 0, vS ⟨#[]⟩, vL none 0 0, vi ki 0] 30)).alloc (.cells #[vi ki q.1, vS q.2.1, vi ki q.2.2] 59)) (w.heap.size + 1) [vi ki 0, vS ⟨#[]⟩, vL none 0 0, vi ki 0]) := B0.out.at (w.heap.size + 1) [vi ki 0, vS ⟨#[]⟩, vL none 0 0, vi ki 0] (by simp)
 have T0 : Hid (Bx (((w.alloc (.cells #[vi ki t.1, vS t.2.1, vi ki t.2.2] 59)).alloc (.cells #[vi ki 0, vS ⟨#[]⟩, vL none 0 0, vi ki 0] 30)).alloc (.cells #[vi ki q.1, vS q.2.1, vi ki q.2.2] 59)) w.heap.size [vi ki t.1, vS t.2.1, vi ki t.2.2]) := B0.out.at w.heap.size [vi ki t.1, vS t.2.1, vi ki t.2.2] (by simp)
 have X0 : Hid (Bx (((w.alloc (.cells #[vi ki t.1, vS t.2.1, vi ki t.2.2] 59)).alloc (.cells #[vi ki 0, vS ⟨#[]⟩, vL none 0 0, vi ki 0] 30)).alloc (.cells #[vi ki q.1, vS q.2.1, vi ki q.2.2] 59)) (w.heap.size + 2) [vi ki q.1, vS q.2.1, vi ki q.2.2]) := B0.out.at (w.heap.size + 1 + 1) [vi ki q.1, vS q.2.1, vi ki q.2.2] (by simp)
 go_enter Tryd.func67, Tryd.ntmps67
 have HWa0 := rwant_no g b (w.heap.size + 2) cap T l q HGq.out (b1 40) hsg d (by omega) (((w.alloc (.cells #[vi ki t.1, vS t.2.1, vi ki t.2.2] 59)).alloc (.cells #[vi ki 0, vS ⟨#[]⟩, vL none 0 0, vi ki 0] 30)).alloc (.cells #[vi ki q.1, vS q.2.1, vi ki q.2.2] 59)) HP0.out
 have HWa : Hid _ := HWa0
 clear hsg HWa0
 go_wp2_with fail
 refine Calls.mono HWa.out ?_
 rintro e W4 ⟨rfl, hk4, hf4⟩
 have K4 : Hid (Kp g w W4) := K0.out.trans hk4
 have H4 : Hid (Bx W4 (w.heap.size + 1) [vi ki 0, vS ⟨#[]⟩, vL none 0 0, vi ki 0]) := hk4.bx H0.out (by omega)
 have F4 := hZz hf4
 clear hk4 hf4 HWa
 obtain ⟨c9, o9, n9, m9, D9, i9, z9, t9, hc9, hb9, -⟩ := F4.out
 have bg2 := hb9.c 2 rfl
 have hgl := hb9.1
 clear hb9 hc9
 obtain ⟨y0', y1', y2', y3', HFK, HFO, HFS, rr0, rr1, rr2, rr3, rf0, rf1, rf2, rf3, hrw'⟩ := fin9 (vi ki 0) (vS ⟨#[]⟩) (vL none 0 0) (vi ki 0) K4.out (by omega) (H4.out)
 go_wp2
 refine bodyPost_ret (v := .agg #[vi ki 0, vS ⟨#[]⟩, vL none 0 0, vi ki 0]) (by simp [results, Tryd.results67, go_sem, y0', y1', y2', y3']) rfl ⟨HFK.out, by decide, (F4.out.off HFO.out HFS.out (by omega) (by omega) (by omega)).mono (by omega), _, _, _, _, _, _, rfl⟩
theorem rnamed_no3 (g b cap : Nat) (T : List Tk) (hGT : Hid (∀ x ∈ T, GoodT x)) (t q : Tk) (l : List Tk) (d : Nat) (hd : d ≤ 20) (h3 : q.1 = 3) (hsg : sgB q (b1 40) = false) (hy : typB (lowB t.2.1) = false) (w : World) (h : RS g b cap T w (q :: l) d) (hGt : GoodT t) (hL : EndL (mL (q :: l))) :
  Calls Tryd.prog 67 #[.pointer (some ⟨g, 0, none⟩), .agg #[vi ki t.1, vS t.2.1, vi ki t.2.2], vS (lowB t.2.1)] w fun e w' => Kp g w w' ∧ ROut g b w.heap.size cap T (fun c => w.heap.size ≤ c) w' d e (.no q.2.2 30) := by
 have g3 : (q.1 == 3) = true := by simpa using h3
 have g3p : (q.1 = 3) = True := eq_true h3
 have H3 := hZz h3
 clear h3
 have HL := hZz hL
 have hg := h.lt
 have hbl := h.tr.1
 have HGt := hZz hGt
 have HGq : Hid (GoodT q) := h.good hGT.out
 have hsz := hGt.size
 have HP := hZz h
 obtain ⟨pre, pa, cg0, cg1, cg2, fg0, fg1, t0, t1, t2, hgW, hbW, hlen, hmost, hle, hne, HEQ, HBX, HTR⟩ := RS.facts (h)
 clear h hL hGt
 have B0 := bsm3 w [vi ki t.1, vS t.2.1, vi ki t.2.2] 59 [vi ki 0, vS ⟨#[]⟩, vL none 0 0, vi ki 0] 30 [vi ki q.1, vS q.2.1, vi ki q.2.2] 59
 have HP0 : Hid (RS g b cap T (((w.alloc (.cells #[vi ki t.1, vS t.2.1, vi ki t.2.2] 59)).alloc (.cells #[vi ki 0, vS ⟨#[]⟩, vL none 0 0, vi ki 0] 30)).alloc (.cells #[vi ki q.1, vS q.2.1, vi ki q.2.2] 59)) (q :: l) d) := HP.out.below B0.out.1
 have K0 : Hid (Kp g w (((w.alloc (.cells #[vi ki t.1, vS t.2.1, vi ki t.2.2] 59)).alloc (.cells #[vi ki 0, vS ⟨#[]⟩, vL none 0 0, vi ki 0] 30)).alloc (.cells #[vi ki q.1, vS q.2.1, vi ki q.2.2] 59))) := Kp.of B0.out.1
 have H0 : Hid (Bx (((w.alloc (.cells #[vi ki t.1, vS t.2.1, vi ki t.2.2] 59)).alloc (.cells #[vi ki 0, vS ⟨#[]⟩, vL none 0 0, vi ki 0] 30)).alloc (.cells #[vi ki q.1, vS q.2.1, vi ki q.2.2] 59)) (w.heap.size + 1) [vi ki 0, vS ⟨#[]⟩, vL none 0 0, vi ki 0]) := B0.out.at (w.heap.size + 1) [vi ki 0, vS ⟨#[]⟩, vL none 0 0, vi ki 0] (by simp)
 have T0 : Hid (Bx (((w.alloc (.cells #[vi ki t.1, vS t.2.1, vi ki t.2.2] 59)).alloc (.cells #[vi ki 0, vS ⟨#[]⟩, vL none 0 0, vi ki 0] 30)).alloc (.cells #[vi ki q.1, vS q.2.1, vi ki q.2.2] 59)) w.heap.size [vi ki t.1, vS t.2.1, vi ki t.2.2]) := B0.out.at w.heap.size [vi ki t.1, vS t.2.1, vi ki t.2.2] (by simp)
 have X0 : Hid (Bx (((w.alloc (.cells #[vi ki t.1, vS t.2.1, vi ki t.2.2] 59)).alloc (.cells #[vi ki 0, vS ⟨#[]⟩, vL none 0 0, vi ki 0] 30)).alloc (.cells #[vi ki q.1, vS q.2.1, vi ki q.2.2] 59)) (w.heap.size + 2) [vi ki q.1, vS q.2.1, vi ki q.2.2]) := B0.out.at (w.heap.size + 1 + 1) [vi ki q.1, vS q.2.1, vi ki q.2.2] (by simp)
 have hTx : TxtA ((((w.alloc (.cells #[vi ki t.1, vS t.2.1, vi ki t.2.2] 59)).alloc (.cells #[vi ki 0, vS ⟨#[]⟩, vL none 0 0, vi ki 0] 30)).alloc (.cells #[vi ki q.1, vS q.2.1, vi ki q.2.2] 59)).alloc (.cells (sTx tyW).toArray 9)) ⟨w.heap.size + 1 + 1 + 1, 0, none⟩ tyW := by have q9 := txt_new (((w.alloc (.cells #[vi ki t.1, vS t.2.1, vi ki t.2.2] 59)).alloc (.cells #[vi ki 0, vS ⟨#[]⟩, vL none 0 0, vi ki 0] 30)).alloc (.cells #[vi ki q.1, vS q.2.1, vi ki q.2.2] 59)) tyW; rw [show (((w.alloc (.cells #[vi ki t.1, vS t.2.1, vi ki t.2.2] 59)).alloc (.cells #[vi ki 0, vS ⟨#[]⟩, vL none 0 0, vi ki 0] 30)).alloc (.cells #[vi ki q.1, vS q.2.1, vi ki q.2.2] 59)).heap.size = w.heap.size + 1 + 1 + 1 by simp] at q9; exact q9
 have HKn := rknownA_any (lowB t.2.1) tyW ⟨w.heap.size + 1 + 1 + 1, 0, none⟩ 4 ((((w.alloc (.cells #[vi ki t.1, vS t.2.1, vi ki t.2.2] 59)).alloc (.cells #[vi ki 0, vS ⟨#[]⟩, vL none 0 0, vi ki 0] 30)).alloc (.cells #[vi ki q.1, vS q.2.1, vi ki q.2.2] 59)).alloc (.cells (sTx tyW).toArray 9)) (by rw [lowB_size]; omega) (by intro j u hu; have := List.mem_of_getElem? hu; unfold tyW at this; simp only [List.mem_cons, List.not_mem_nil, or_false] at this; rcases this with rfl | rfl | rfl | rfl <;> decide) (by decide) (by decide) hTx
 have hty := typ_known (lowB t.2.1)
 rw [lowB_lowB, hy] at hty
 obtain ⟨G, hG⟩ : ∃ G, knownB (lowB t.2.1) tyW = G := ⟨_, rfl⟩
 rw [hG] at HKn hty
 have hGG : G < 0 := by have := of_decide_eq_false hty; omega
 have HKK : Hid _ := HKn
 clear HKn hG hty hTx
 clear hy
 go_enter Tryd.func67, Tryd.ntmps67
 go_wp2_with fail
 refine Calls.mono HKK.out ?_
 rintro e W1 ⟨rfl, hb⟩
 have hB1 : Below (((w.alloc (.cells #[vi ki t.1, vS t.2.1, vi ki t.2.2] 59)).alloc (.cells #[vi ki 0, vS ⟨#[]⟩, vL none 0 0, vi ki 0] 30)).alloc (.cells #[vi ki q.1, vS q.2.1, vi ki q.2.2] 59)).heap.size (((w.alloc (.cells #[vi ki t.1, vS t.2.1, vi ki t.2.2] 59)).alloc (.cells #[vi ki 0, vS ⟨#[]⟩, vL none 0 0, vi ki 0] 30)).alloc (.cells #[vi ki q.1, vS q.2.1, vi ki q.2.2] 59)) W1 := ((Below.refl _ _).alloc (Nat.le_refl _) _).trans (hb.mono (by simp))
 have K1 : Hid (Kp g w W1) := K0.out.trans (Kp.of hB1)
 have H1 : Hid (Bx W1 (w.heap.size + 1) [vi ki 0, vS ⟨#[]⟩, vL none 0 0, vi ki 0]) := H0.out.below hB1
 have T1 : Hid (Bx W1 w.heap.size [vi ki t.1, vS t.2.1, vi ki t.2.2]) := T0.out.below hB1
 have X1 : Hid (Bx W1 (w.heap.size + 2) [vi ki q.1, vS q.2.1, vi ki q.2.2]) := X0.out.below hB1
 have S1 : Hid (RS g b cap T W1 (q :: l) d) := HP0.out.below hB1
 clear hb hB1 HKK B0 HP HP0 K0 H0 T0 X0 cg0 cg1 cg2 fg0 fg1 t0 t1 t2 hgW hbW hlen hmost hle HEQ HBX HTR hne
 have j0 := X1.out.c 0 rfl
 have j1 := X1.out.1
 have HWa0 := rwant_no g b (w.heap.size + 2) cap T l q HGq.out (b1 40) hsg d (by omega) W1 S1.out
 have HWa : Hid _ := HWa0
 clear hsg HWa0
 go_wp2_with fail
 refine Calls.mono HWa.out ?_
 rintro e W4 ⟨rfl, hk4, hf4⟩
 have K4 : Hid (Kp g w W4) := K1.out.trans hk4
 have H4 : Hid (Bx W4 (w.heap.size + 1) [vi ki 0, vS ⟨#[]⟩, vL none 0 0, vi ki 0]) := hk4.bx H1.out (by omega)
 have F4 := hZz hf4
 clear hk4 hf4 HWa
 obtain ⟨c9, o9, n9, m9, D9, i9, z9, t9, hc9, hb9, -⟩ := F4.out
 have bg2 := hb9.c 2 rfl
 have hgl := hb9.1
 clear hb9 hc9
 obtain ⟨y0', y1', y2', y3', HFK, HFO, HFS, rr0, rr1, rr2, rr3, rf0, rf1, rf2, rf3, hrw'⟩ := fin9 (vi ki 0) (vS ⟨#[]⟩) (vL none 0 0) (vi ki 0) K4.out (by omega) (H4.out)
 go_wp2
 refine bodyPost_ret (v := .agg #[vi ki 0, vS ⟨#[]⟩, vL none 0 0, vi ki 0]) (by simp [results, Tryd.results67, go_sem, y0', y1', y2', y3']) rfl ⟨HFK.out, by decide, (F4.out.off HFO.out HFS.out (by omega) (by omega) (by omega)).mono (by omega), _, _, _, _, _, _, rfl⟩
theorem rnamed_lit (g b cap : Nat) (T : List Tk) (hGT : Hid (∀ x ∈ T, GoodT x)) (t q : Tk) (l : List Tk) (d : Nat) (hd : d ≤ 20) (h3 : q.1 = 3) (hy : typB (lowB t.2.1) = true) (w : World) (h : RS g b cap T w (q :: l) d) (hGt : GoodT t) (hL : EndL (mL (q :: l))) :
  Calls Tryd.prog 67 #[.pointer (some ⟨g, 0, none⟩), .agg #[vi ki t.1, vS t.2.1, vi ki t.2.2], vS (lowB t.2.1)] w fun e w' => Kp g w w' ∧ ROut g b w.heap.size cap T (fun c => w.heap.size ≤ c) w' d e (.ok (.mk 5 (lowB t.2.1) [.mk 3 q.2.1 [] q.2.2] t.2.2) (mL l)) := by
 have g3 : (q.1 == 3) = true := by simpa using h3
 have g3p : (q.1 = 3) = True := eq_true h3
 have H3 := hZz h3
 clear h3
 have HL := hZz hL
 have hg := h.lt
 have hbl := h.tr.1
 have HGt := hZz hGt
 have HGq : Hid (GoodT q) := h.good hGT.out
 have hsz := hGt.size
 have HP := hZz h
 obtain ⟨pre, pa, cg0, cg1, cg2, fg0, fg1, t0, t1, t2, hgW, hbW, hlen, hmost, hle, hne, HEQ, HBX, HTR⟩ := RS.facts (h)
 clear h hL hGt
 have B0 := bsm3 w [vi ki t.1, vS t.2.1, vi ki t.2.2] 59 [vi ki 0, vS ⟨#[]⟩, vL none 0 0, vi ki 0] 30 [vi ki q.1, vS q.2.1, vi ki q.2.2] 59
 have HP0 : Hid (RS g b cap T (((w.alloc (.cells #[vi ki t.1, vS t.2.1, vi ki t.2.2] 59)).alloc (.cells #[vi ki 0, vS ⟨#[]⟩, vL none 0 0, vi ki 0] 30)).alloc (.cells #[vi ki q.1, vS q.2.1, vi ki q.2.2] 59)) (q :: l) d) := HP.out.below B0.out.1
 have K0 : Hid (Kp g w (((w.alloc (.cells #[vi ki t.1, vS t.2.1, vi ki t.2.2] 59)).alloc (.cells #[vi ki 0, vS ⟨#[]⟩, vL none 0 0, vi ki 0] 30)).alloc (.cells #[vi ki q.1, vS q.2.1, vi ki q.2.2] 59))) := Kp.of B0.out.1
 have H0 : Hid (Bx (((w.alloc (.cells #[vi ki t.1, vS t.2.1, vi ki t.2.2] 59)).alloc (.cells #[vi ki 0, vS ⟨#[]⟩, vL none 0 0, vi ki 0] 30)).alloc (.cells #[vi ki q.1, vS q.2.1, vi ki q.2.2] 59)) (w.heap.size + 1) [vi ki 0, vS ⟨#[]⟩, vL none 0 0, vi ki 0]) := B0.out.at (w.heap.size + 1) [vi ki 0, vS ⟨#[]⟩, vL none 0 0, vi ki 0] (by simp)
 have T0 : Hid (Bx (((w.alloc (.cells #[vi ki t.1, vS t.2.1, vi ki t.2.2] 59)).alloc (.cells #[vi ki 0, vS ⟨#[]⟩, vL none 0 0, vi ki 0] 30)).alloc (.cells #[vi ki q.1, vS q.2.1, vi ki q.2.2] 59)) w.heap.size [vi ki t.1, vS t.2.1, vi ki t.2.2]) := B0.out.at w.heap.size [vi ki t.1, vS t.2.1, vi ki t.2.2] (by simp)
 have X0 : Hid (Bx (((w.alloc (.cells #[vi ki t.1, vS t.2.1, vi ki t.2.2] 59)).alloc (.cells #[vi ki 0, vS ⟨#[]⟩, vL none 0 0, vi ki 0] 30)).alloc (.cells #[vi ki q.1, vS q.2.1, vi ki q.2.2] 59)) (w.heap.size + 2) [vi ki q.1, vS q.2.1, vi ki q.2.2]) := B0.out.at (w.heap.size + 1 + 1) [vi ki q.1, vS q.2.1, vi ki q.2.2] (by simp)
 have hTx : TxtA ((((w.alloc (.cells #[vi ki t.1, vS t.2.1, vi ki t.2.2] 59)).alloc (.cells #[vi ki 0, vS ⟨#[]⟩, vL none 0 0, vi ki 0] 30)).alloc (.cells #[vi ki q.1, vS q.2.1, vi ki q.2.2] 59)).alloc (.cells (sTx tyW).toArray 9)) ⟨w.heap.size + 1 + 1 + 1, 0, none⟩ tyW := by have q9 := txt_new (((w.alloc (.cells #[vi ki t.1, vS t.2.1, vi ki t.2.2] 59)).alloc (.cells #[vi ki 0, vS ⟨#[]⟩, vL none 0 0, vi ki 0] 30)).alloc (.cells #[vi ki q.1, vS q.2.1, vi ki q.2.2] 59)) tyW; rw [show (((w.alloc (.cells #[vi ki t.1, vS t.2.1, vi ki t.2.2] 59)).alloc (.cells #[vi ki 0, vS ⟨#[]⟩, vL none 0 0, vi ki 0] 30)).alloc (.cells #[vi ki q.1, vS q.2.1, vi ki q.2.2] 59)).heap.size = w.heap.size + 1 + 1 + 1 by simp] at q9; exact q9
 have HKn := rknownA_any (lowB t.2.1) tyW ⟨w.heap.size + 1 + 1 + 1, 0, none⟩ 4 ((((w.alloc (.cells #[vi ki t.1, vS t.2.1, vi ki t.2.2] 59)).alloc (.cells #[vi ki 0, vS ⟨#[]⟩, vL none 0 0, vi ki 0] 30)).alloc (.cells #[vi ki q.1, vS q.2.1, vi ki q.2.2] 59)).alloc (.cells (sTx tyW).toArray 9)) (by rw [lowB_size]; omega) (by intro j u hu; have := List.mem_of_getElem? hu; unfold tyW at this; simp only [List.mem_cons, List.not_mem_nil, or_false] at this; rcases this with rfl | rfl | rfl | rfl <;> decide) (by decide) (by decide) hTx
 have hty := typ_known (lowB t.2.1)
 rw [lowB_lowB, hy] at hty
 obtain ⟨G, hG⟩ : ∃ G, knownB (lowB t.2.1) tyW = G := ⟨_, rfl⟩
 rw [hG] at HKn hty
 have hGG : 0 ≤ G := by exact of_decide_eq_true hty
 have HKK : Hid _ := HKn
 clear HKn hG hty hTx
 clear hy
 have hEl : EndL (mL l) := EndL.tail HL.out (by rw [mT_kind.2.2.1 H3.out]; decide)
 have HE1 := hZz hEl
 have hl1 : 1 ≤ l.length := by obtain ⟨y, l', rfl⟩ := mL_none hEl; simp
 clear hEl
 go_enter Tryd.func67, Tryd.ntmps67
 go_wp2_with fail
 refine Calls.mono HKK.out ?_
 rintro e W1 ⟨rfl, hb⟩
 have hB1 : Below (((w.alloc (.cells #[vi ki t.1, vS t.2.1, vi ki t.2.2] 59)).alloc (.cells #[vi ki 0, vS ⟨#[]⟩, vL none 0 0, vi ki 0] 30)).alloc (.cells #[vi ki q.1, vS q.2.1, vi ki q.2.2] 59)).heap.size (((w.alloc (.cells #[vi ki t.1, vS t.2.1, vi ki t.2.2] 59)).alloc (.cells #[vi ki 0, vS ⟨#[]⟩, vL none 0 0, vi ki 0] 30)).alloc (.cells #[vi ki q.1, vS q.2.1, vi ki q.2.2] 59)) W1 := ((Below.refl _ _).alloc (Nat.le_refl _) _).trans (hb.mono (by simp))
 have K1 : Hid (Kp g w W1) := K0.out.trans (Kp.of hB1)
 have H1 : Hid (Bx W1 (w.heap.size + 1) [vi ki 0, vS ⟨#[]⟩, vL none 0 0, vi ki 0]) := H0.out.below hB1
 have T1 : Hid (Bx W1 w.heap.size [vi ki t.1, vS t.2.1, vi ki t.2.2]) := T0.out.below hB1
 have X1 : Hid (Bx W1 (w.heap.size + 2) [vi ki q.1, vS q.2.1, vi ki q.2.2]) := X0.out.below hB1
 have S1 : Hid (RS g b cap T W1 (q :: l) d) := HP0.out.below hB1
 clear hb hB1 HKK B0 HP HP0 K0 H0 T0 X0 cg0 cg1 cg2 fg0 fg1 t0 t1 t2 hgW hbW hlen hmost hle HEQ HBX HTR hne
 obtain ⟨pre, pa, cg0, cg1, cg2, fg0, fg1, t0, t1, t2, hgW, hbW, hlen, hmost, hle, hne, HEQ, HBX, HTR⟩ := RS.facts (S1.out)
 have hcp : ¬ cap - pre.length = 1 := by omega
 have j0 := X1.out.c 0 rfl
 have j1 := X1.out.c 1 rfl
 have j2 := X1.out.c 2 rfl
 have jh := X1.out.1
 have u0 := T1.out.c 0 rfl
 have u1 := T1.out.c 1 rfl
 have u2 := T1.out.c 2 rfl
 have uh := T1.out.1
 have hx1 : w.heap.size + 2 < W1.heap.size := jh
 have hgw1 : W1.heap.size ≠ g := by omega
 go_upto_region 4 with fail
 refine gen_to (fun V => Kp g w V ∧ Bx V (w.heap.size + 1) [vi ki 0, vS ⟨#[]⟩, vL none 0 0, vi ki 0] ∧ Bx V w.heap.size [vi ki t.1, vS t.2.1, vi ki t.2.2] ∧ Bx V (w.heap.size + 2) [vi ki q.1, vS q.2.1, vi ki q.2.2] ∧ RS g b cap T V l d) ⟨K1.out.set (p := ⟨g, 0, none⟩) (.inl rfl) _, ((Kp.refl g W1).set (p := ⟨g, 0, none⟩) (.inl rfl) _).bx H1.out (by omega), ((Kp.refl g W1).set (p := ⟨g, 0, none⟩) (.inl rfl) _).bx T1.out (by omega), ((Kp.refl g W1).set (p := ⟨g, 0, none⟩) (.inl rfl) _).bx X1.out (by omega), RS.next HTR.out HEQ.out hne hle hmost ((Kp.refl g W1).set (p := ⟨g, 0, none⟩) (.inl rfl) _) (HBX.out.set1 0 _ (by simp))⟩ ?_
 intro W5 hW5
 have K5 := hZz hW5.1
 have H5 := hZz hW5.2.1
 have T5 := hZz hW5.2.2.1
 have X5 := hZz hW5.2.2.2.1
 have S5 := hZz hW5.2.2.2.2
 clear hW5 K1 H1 T1 X1 S1 j0 j1 j2 jh u0 u1 u2 uh hcp hx1 hgw1 cg0 cg1 cg2 fg0 fg1 t0 t1 t2 hgW hbW hlen hmost hle HEQ HBX HTR hne
 have j0 := X5.out.c 0 rfl
 have j1 := X5.out.c 1 rfl
 have j2 := X5.out.c 2 rfl
 have jh := X5.out.1
 have u0 := T5.out.c 0 rfl
 have u1 := T5.out.c 1 rfl
 have u2 := T5.out.c 2 rfl
 have uh := T5.out.1
 obtain ⟨y0', y1', y2', y3', HFK, HFO, HFS, rr0, rr1, rr2, rr3, rf0, rf1, rf2, rf3, hrw'⟩ := fin8 [.cells #[vi ki 3, vS q.2.1, vL none 0 0, vi ki q.2.2] 30] (vi ki 5) (vS (lowB t.2.1)) (vL (some ⟨W5.heap.size, 0, none⟩) 1 1) (vi ki t.2.2) K5.out (by omega) (H5.out)
 simp only [List.foldl, World.setCells, Nat.zero_add, Nat.reduceAdd] at y0' y1' y2' y3'
 go_wp2
 refine bodyPost_ret (v := .agg #[vi ki 5, vS (lowB t.2.1), vL (some ⟨W5.heap.size, 0, none⟩) 1 1, vi ki t.2.2]) (by simp [results, Tryd.results67, go_sem, y0', y1', y2', y3']) rfl ⟨HFK.out, l, rfl, S5.out.off HFO.out HFS.out (by omega) (by omega), HE1.out, _, _, _, _, _, _, rfl, ?_⟩
 have q9 := Bx.new (W5.setCells (w.heap.size + 1) 0 [vi ki 5, vS (lowB t.2.1), vL (some ⟨W5.heap.size, 0, none⟩) 1 1, vi ki t.2.2]) [vi ki 3, vS q.2.1, vL none 0 0, vi ki q.2.2] 30
 rw [show (W5.setCells (w.heap.size + 1) 0 [vi ki 5, vS (lowB t.2.1), vL (some ⟨W5.heap.size, 0, none⟩) 1 1, vi ki t.2.2]).heap.size = W5.heap.size by simp [setCells_size]] at q9
 exact NdAt.row (ks := [.mk 3 q.2.1 [] q.2.2]) (by simp) (by simp) (by unfold maxLen; omega) (by have := K5.out.size; show w.heap.size ≤ _; omega) q9.1 (RwAt.one q9 (NdAt.leaf _ _ _ _ _))
theorem rnamed_deep (g b cap : Nat) (T : List Tk) (hGT : Hid (∀ x ∈ T, GoodT x)) (t q : Tk) (l : List Tk) (d : Nat) (hd : d ≤ 20) (h3 : q.1 ≠ 3) (hi : isT (mT q) [(5, b1 40)] = true) (h20 : d = 20) (w : World) (h : RS g b cap T w (q :: l) d) (hGt : GoodT t) (hL : EndL (mL (q :: l))) :
  Calls Tryd.prog 67 #[.pointer (some ⟨g, 0, none⟩), .agg #[vi ki t.1, vS t.2.1, vi ki t.2.2], vS (lowB t.2.1)] w fun e w' => Kp g w w' ∧ ROut g b w.heap.size cap T (fun c => w.heap.size ≤ c) w' d e (.no t.2.2 31) := by
 have g3 : (q.1 == 3) = false := by simpa using h3
 have g3p : (q.1 = 3) = False := eq_false h3
 clear h3
 have HL := hZz hL
 have hg := h.lt
 have hbl := h.tr.1
 have HGt := hZz hGt
 have HGq : Hid (GoodT q) := h.good hGT.out
 have hsz := hGt.size
 have HP := hZz h
 obtain ⟨pre, pa, cg0, cg1, cg2, fg0, fg1, t0, t1, t2, hgW, hbW, hlen, hmost, hle, hne, HEQ, HBX, HTR⟩ := RS.facts (h)
 clear h hL hGt
 have B0 := bsm3 w [vi ki t.1, vS t.2.1, vi ki t.2.2] 59 [vi ki 0, vS ⟨#[]⟩, vL none 0 0, vi ki 0] 30 [vi ki q.1, vS q.2.1, vi ki q.2.2] 59
 have HP0 : Hid (RS g b cap T (((w.alloc (.cells #[vi ki t.1, vS t.2.1, vi ki t.2.2] 59)).alloc (.cells #[vi ki 0, vS ⟨#[]⟩, vL none 0 0, vi ki 0] 30)).alloc (.cells #[vi ki q.1, vS q.2.1, vi ki q.2.2] 59)) (q :: l) d) := HP.out.below B0.out.1
 have K0 : Hid (Kp g w (((w.alloc (.cells #[vi ki t.1, vS t.2.1, vi ki t.2.2] 59)).alloc (.cells #[vi ki 0, vS ⟨#[]⟩, vL none 0 0, vi ki 0] 30)).alloc (.cells #[vi ki q.1, vS q.2.1, vi ki q.2.2] 59))) := Kp.of B0.out.1
 have H0 : Hid (Bx (((w.alloc (.cells #[vi ki t.1, vS t.2.1, vi ki t.2.2] 59)).alloc (.cells #[vi ki 0, vS ⟨#[]⟩, vL none 0 0, vi ki 0] 30)).alloc (.cells #[vi ki q.1, vS q.2.1, vi ki q.2.2] 59)) (w.heap.size + 1) [vi ki 0, vS ⟨#[]⟩, vL none 0 0, vi ki 0]) := B0.out.at (w.heap.size + 1) [vi ki 0, vS ⟨#[]⟩, vL none 0 0, vi ki 0] (by simp)
 have T0 : Hid (Bx (((w.alloc (.cells #[vi ki t.1, vS t.2.1, vi ki t.2.2] 59)).alloc (.cells #[vi ki 0, vS ⟨#[]⟩, vL none 0 0, vi ki 0] 30)).alloc (.cells #[vi ki q.1, vS q.2.1, vi ki q.2.2] 59)) w.heap.size [vi ki t.1, vS t.2.1, vi ki t.2.2]) := B0.out.at w.heap.size [vi ki t.1, vS t.2.1, vi ki t.2.2] (by simp)
 have X0 : Hid (Bx (((w.alloc (.cells #[vi ki t.1, vS t.2.1, vi ki t.2.2] 59)).alloc (.cells #[vi ki 0, vS ⟨#[]⟩, vL none 0 0, vi ki 0] 30)).alloc (.cells #[vi ki q.1, vS q.2.1, vi ki q.2.2] 59)) (w.heap.size + 2) [vi ki q.1, vS q.2.1, vi ki q.2.2]) := B0.out.at (w.heap.size + 1 + 1) [vi ki q.1, vS q.2.1, vi ki q.2.2] (by simp)
 go_enter Tryd.func67, Tryd.ntmps67
 have hl0 : l ≠ [] := by obtain ⟨y, l', rfl⟩ := mL_none (EndL.tail HL.out (isT_kind hi (by simp))); simp
 have HEl : Hid (EndL (mL l)) := EndL.tail HL.out (isT_kind hi (by simp))
 have hsg := (sg_sign HGq.out (show (b1 40) ∈ sgnL by unfold sgnL; simp)).trans hi
 clear hi
 have HWa0 := rwant_yes g b cap T l q HGq.out (b1 40) hsg hl0 d (((w.alloc (.cells #[vi ki t.1, vS t.2.1, vi ki t.2.2] 59)).alloc (.cells #[vi ki 0, vS ⟨#[]⟩, vL none 0 0, vi ki 0] 30)).alloc (.cells #[vi ki q.1, vS q.2.1, vi ki q.2.2] 59)) HP0.out
 have HWa : Hid _ := HWa0
 clear HWa0 hsg
 go_wp2_with fail
 refine Calls.mono HWa.out ?_
 rintro e W1 ⟨rfl, hk1, hr1⟩
 have K1 : Hid (Kp g w W1) := K0.out.trans hk1
 have H1 : Hid (Bx W1 (w.heap.size + 1) [vi ki 0, vS ⟨#[]⟩, vL none 0 0, vi ki 0]) := hk1.bx H0.out (by omega)
 have T1 : Hid (Bx W1 w.heap.size [vi ki t.1, vS t.2.1, vi ki t.2.2]) := hk1.bx T0.out (by omega)
 have S1 := hZz hr1
 have hz1 : w.heap.size + 3 ≤ W1.heap.size := by have := hk1.size; (try simp at this); omega
 clear hk1 hr1 HWa B0 HP HP0 K0 H0 T0 X0 cg0 cg1 cg2 fg0 fg1 t0 t1 t2 hgW hbW hlen hmost hle HEQ HBX HTR hne
 obtain ⟨⟨pre1, pa1, he1, hb1⟩, -⟩ := S1.out
 have cg2 := hb1.c 2 rfl
 have hgl := hb1.1
 clear hb1 he1
 have u2 := T1.out.c 2 rfl
 have uh := T1.out.1
 obtain ⟨u, l2, hq⟩ := mL_none HEl.out
 have hgu := (hq ▸ S1.out).good hGT.out
 subst h20
 have HI0 := rinner_no g b (w.heap.size + 2) cap T l2 u hgu.size t.2.2 W1 (hq ▸ S1.out)
 have HIn : Hid _ := HI0
 clear HI0 hgu hq
 go_wp2_with fail
 refine Calls.mono HIn.out ?_
 rintro e W4 ⟨rfl, hk4, hf4⟩
 have K4 : Hid (Kp g w W4) := K1.out.trans hk4
 have H4 : Hid (Bx W4 (w.heap.size + 1) [vi ki 0, vS ⟨#[]⟩, vL none 0 0, vi ki 0]) := hk4.bx H1.out (by omega)
 have F4 := hZz hf4
 clear hk4 hf4 HIn K1 H1 T1 S1 cg2 hgl u2 uh
 obtain ⟨y0', y1', y2', y3', HFK, HFO, HFS, rr0, rr1, rr2, rr3, rf0, rf1, rf2, rf3, hrw'⟩ := fin9 (vi ki 0) (vS ⟨#[]⟩) (vL none 0 0) (vi ki 0) K4.out (by omega) (H4.out)
 go_wp2
 refine bodyPost_ret (v := .agg #[vi ki 0, vS ⟨#[]⟩, vL none 0 0, vi ki 0]) (by simp [results, Tryd.results67, go_sem, y0', y1', y2', y3']) rfl ⟨HFK.out, by decide, (F4.out.off HFO.out HFS.out (by omega) (by omega) (by omega)).mono (by omega), _, _, _, _, _, _, rfl⟩
theorem rnamed_none (g b cap : Nat) (T : List Tk) (hGT : Hid (∀ x ∈ T, GoodT x)) (t q u : Tk) (l2 : List Tk) (d : Nat) (h3 : q.1 ≠ 3) (hi : isT (mT q) [(5, b1 40)] = true) (hu : isT (mT u) [(5, b1 41)] = true) (h20 : d < 20) (w : World) (h : RS g b cap T w (q :: u :: l2) d) (hGt : GoodT t) (hL : EndL (mL (q :: u :: l2))) :
  Calls Tryd.prog 67 #[.pointer (some ⟨g, 0, none⟩), .agg #[vi ki t.1, vS t.2.1, vi ki t.2.2], vS (lowB t.2.1)] w fun e w' => Kp g w w' ∧ ROut g b w.heap.size cap T (fun c => w.heap.size ≤ c) w' d e (.ok (.mk 9 (lowB t.2.1) [] t.2.2) (mL l2)) := by
 obtain ⟨l, hl⟩ : ∃ l, l = u :: l2 := ⟨_, rfl⟩
 rw [← hl] at h hL
 have hlq := hZz hl
 clear hl
 have g3 : (q.1 == 3) = false := by simpa using h3
 have g3p : (q.1 = 3) = False := eq_false h3
 clear h3
 have HL := hZz hL
 have hg := h.lt
 have hbl := h.tr.1
 have HGt := hZz hGt
 have HGq : Hid (GoodT q) := h.good hGT.out
 have hsz := hGt.size
 have HP := hZz h
 obtain ⟨pre, pa, cg0, cg1, cg2, fg0, fg1, t0, t1, t2, hgW, hbW, hlen, hmost, hle, hne, HEQ, HBX, HTR⟩ := RS.facts (h)
 clear h hL hGt
 have B0 := bsm3 w [vi ki t.1, vS t.2.1, vi ki t.2.2] 59 [vi ki 0, vS ⟨#[]⟩, vL none 0 0, vi ki 0] 30 [vi ki q.1, vS q.2.1, vi ki q.2.2] 59
 have HP0 : Hid (RS g b cap T (((w.alloc (.cells #[vi ki t.1, vS t.2.1, vi ki t.2.2] 59)).alloc (.cells #[vi ki 0, vS ⟨#[]⟩, vL none 0 0, vi ki 0] 30)).alloc (.cells #[vi ki q.1, vS q.2.1, vi ki q.2.2] 59)) (q :: l) d) := HP.out.below B0.out.1
 have K0 : Hid (Kp g w (((w.alloc (.cells #[vi ki t.1, vS t.2.1, vi ki t.2.2] 59)).alloc (.cells #[vi ki 0, vS ⟨#[]⟩, vL none 0 0, vi ki 0] 30)).alloc (.cells #[vi ki q.1, vS q.2.1, vi ki q.2.2] 59))) := Kp.of B0.out.1
 have H0 : Hid (Bx (((w.alloc (.cells #[vi ki t.1, vS t.2.1, vi ki t.2.2] 59)).alloc (.cells #[vi ki 0, vS ⟨#[]⟩, vL none 0 0, vi ki 0] 30)).alloc (.cells #[vi ki q.1, vS q.2.1, vi ki q.2.2] 59)) (w.heap.size + 1) [vi ki 0, vS ⟨#[]⟩, vL none 0 0, vi ki 0]) := B0.out.at (w.heap.size + 1) [vi ki 0, vS ⟨#[]⟩, vL none 0 0, vi ki 0] (by simp)
 have T0 : Hid (Bx (((w.alloc (.cells #[vi ki t.1, vS t.2.1, vi ki t.2.2] 59)).alloc (.cells #[vi ki 0, vS ⟨#[]⟩, vL none 0 0, vi ki 0] 30)).alloc (.cells #[vi ki q.1, vS q.2.1, vi ki q.2.2] 59)) w.heap.size [vi ki t.1, vS t.2.1, vi ki t.2.2]) := B0.out.at w.heap.size [vi ki t.1, vS t.2.1, vi ki t.2.2] (by simp)
 have X0 : Hid (Bx (((w.alloc (.cells #[vi ki t.1, vS t.2.1, vi ki t.2.2] 59)).alloc (.cells #[vi ki 0, vS ⟨#[]⟩, vL none 0 0, vi ki 0] 30)).alloc (.cells #[vi ki q.1, vS q.2.1, vi ki q.2.2] 59)) (w.heap.size + 2) [vi ki q.1, vS q.2.1, vi ki q.2.2]) := B0.out.at (w.heap.size + 1 + 1) [vi ki q.1, vS q.2.1, vi ki q.2.2] (by simp)
 go_enter Tryd.func67, Tryd.ntmps67
 have hl0 : l ≠ [] := by obtain ⟨y, l', rfl⟩ := mL_none (EndL.tail HL.out (isT_kind hi (by simp))); simp
 have HEl : Hid (EndL (mL l)) := EndL.tail HL.out (isT_kind hi (by simp))
 have hsg := (sg_sign HGq.out (show (b1 40) ∈ sgnL by unfold sgnL; simp)).trans hi
 clear hi
 have HWa0 := rwant_yes g b cap T l q HGq.out (b1 40) hsg hl0 d (((w.alloc (.cells #[vi ki t.1, vS t.2.1, vi ki t.2.2] 59)).alloc (.cells #[vi ki 0, vS ⟨#[]⟩, vL none 0 0, vi ki 0] 30)).alloc (.cells #[vi ki q.1, vS q.2.1, vi ki q.2.2] 59)) HP0.out
 have HWa : Hid _ := HWa0
 clear HWa0 hsg
 go_wp2_with fail
 refine Calls.mono HWa.out ?_
 rintro e W1 ⟨rfl, hk1, hr1⟩
 have K1 : Hid (Kp g w W1) := K0.out.trans hk1
 have H1 : Hid (Bx W1 (w.heap.size + 1) [vi ki 0, vS ⟨#[]⟩, vL none 0 0, vi ki 0]) := hk1.bx H0.out (by omega)
 have T1 : Hid (Bx W1 w.heap.size [vi ki t.1, vS t.2.1, vi ki t.2.2]) := hk1.bx T0.out (by omega)
 have S1 := hZz hr1
 have hz1 : w.heap.size + 3 ≤ W1.heap.size := by have := hk1.size; (try simp at this); omega
 clear hk1 hr1 HWa B0 HP HP0 K0 H0 T0 X0 cg0 cg1 cg2 fg0 fg1 t0 t1 t2 hgW hbW hlen hmost hle HEQ HBX HTR hne
 obtain ⟨⟨pre1, pa1, he1, hb1⟩, -⟩ := S1.out
 have cg2 := hb1.c 2 rfl
 have hgl := hb1.1
 clear hb1 he1
 have u2 := T1.out.c 2 rfl
 have uh := T1.out.1
 have hGu := (hlq.out ▸ S1.out).good hGT.out
 have HGu := hZz hGu
 have HI0 := rinner_ok g b cap T l2 u d h20 t.2.2 W1 (hlq.out ▸ S1.out)
 have HIn : Hid _ := HI0
 have HEu : Hid (EndL (mL (u :: l2))) := by have := HEl.out; rw [hlq.out] at this; exact this
 clear HI0 hGu HEl hl0
 go_wp2_with fail
 refine Calls.mono HIn.out ?_
 rintro e W2 ⟨rfl, hk2, hr2⟩
 have K2 : Hid (Kp g w W2) := K1.out.trans hk2
 have H2 : Hid (Bx W2 (w.heap.size + 1) [vi ki 0, vS ⟨#[]⟩, vL none 0 0, vi ki 0]) := hk2.bx H1.out (by omega)
 have T2 : Hid (Bx W2 w.heap.size [vi ki t.1, vS t.2.1, vi ki t.2.2]) := hk2.bx T1.out (by omega)
 have S2 := hZz hr2
 have hz2 : w.heap.size + 3 ≤ W2.heap.size := by have := hk2.size; omega
 clear hk2 hr2 HIn K1 H1 T1 S1 cg2 hgl u2 uh hlq
 have u2 := T2.out.c 2 rfl
 have uh := T2.out.1
 have X2 := bsm1 W2 [vi ki 9, vS (lowB t.2.1), vL none 0 0, vi ki t.2.2] 30
 have K3 : Hid (Kp g w (W2.alloc (.cells #[vi ki 9, vS (lowB t.2.1), vL none 0 0, vi ki t.2.2] 30))) := K2.out.alloc _
 have H3 : Hid (Bx (W2.alloc (.cells #[vi ki 9, vS (lowB t.2.1), vL none 0 0, vi ki t.2.2] 30)) (w.heap.size + 1) [vi ki 0, vS ⟨#[]⟩, vL none 0 0, vi ki 0]) := H2.out.alloc _
 have S3 : Hid (RS g b cap T (W2.alloc (.cells #[vi ki 9, vS (lowB t.2.1), vL none 0 0, vi ki t.2.2] 30)) (u :: l2) (d + 1)) := S2.out.below X2.out.1
 have hsu := (sg_sign HGu.out (show (b1 41) ∈ sgnL by unfold sgnL; simp)).trans hu
 have HE2 : Hid (EndL (mL l2)) := EndL.tail HEu.out (isT_kind hu (by simp))
 have hl2 : l2 ≠ [] := by obtain ⟨y, l', rfl⟩ := mL_none HE2.out; simp
 clear hu
 have HS0 := rsign_any g b cap T l2 u HGu.out (b1 41) (fun _ => hl2) (d + 1) (W2.alloc (.cells #[vi ki 9, vS (lowB t.2.1), vL none 0 0, vi ki t.2.2] 30)) S3.out
 rw [hsu, if_pos rfl] at HS0
 have HSg : Hid _ := HS0
 clear HS0 hsu hl2
 have hg2n : W2.heap.size ≠ g := by omega
 go_wp2_with fail
 refine Calls.mono HSg.out ?_
 rintro e W4 ⟨rfl, hk4, hr4⟩
 have K4 : Hid (Kp g w W4) := K3.out.trans hk4
 have H4 : Hid (Bx W4 (w.heap.size + 1) [vi ki 0, vS ⟨#[]⟩, vL none 0 0, vi ki 0]) := hk4.bx H3.out (by omega)
 have N4' : Hid (Bx W4 W2.heap.size [vi ki 9, vS (lowB t.2.1), vL none 0 0, vi ki t.2.2]) := hk4.bx X2.out.first (by omega)
 have S4 := hZz hr4
 clear hk4 hr4 HSg K3 H3 S3 X2 K2 H2 T2 S2 u2 uh
 obtain ⟨⟨pre4, pa4, he4, hb4⟩, -⟩ := S4.out
 have cg1 := hb4.c 1 rfl
 have fg1 := hb4.f 1 rfl
 have hgl := hb4.1
 clear hb4 he4
 have hdw : IntKind.i64.wrap ((d : Int) + 1 - 1) = (d : Int) := by rw [IntKind.wrap_i64]; omega
 have hdw2 : IntKind.i64.wrap (d : Int) = (d : Int) := by rw [IntKind.wrap_i64]; omega
 go_upto_region 15 with fail
 refine gen_to (fun V => Kp g w V ∧ Bx V (w.heap.size + 1) [vi ki 0, vS ⟨#[]⟩, vL none 0 0, vi ki 0] ∧ RS g b cap T V l2 d ∧ Bx V W2.heap.size [vi ki 9, vS (lowB t.2.1), vL none 0 0, vi ki t.2.2] ∧ NdAt (fun c => c ≠ g) V (.mk 9 (lowB t.2.1) [] t.2.2) [vi ki 9, vS (lowB t.2.1), vL none 0 0, vi ki t.2.2]) (rdeep_ok hg K4.out H4.out (by omega) S4.out N4'.out hg2n (NdAt.leaf _ _ _ _ _) (fun c hc => hc)) ?_
 rintro W5 ⟨k5, h5, s5, t5, -⟩
 have HK5 := hZz k5
 have HH5 := hZz h5
 have HS5 := hZz s5
 obtain ⟨B7, hB7⟩ : ∃ B7, B7 = W2.heap.size := ⟨_, rfl⟩
 rw [← hB7] at t5 ⊢
 have hB7w : w.heap.size + 1 < B7 := by omega
 clear hB7
 obtain ⟨l0', l1', l2', l3'⟩ := t5.d4
 have hl' := t5.1
 clear k5 h5 s5 t5 cg1 fg1 hgl K4 H4 N4' S4 hg2n
 obtain ⟨y0', y1', y2', y3', HFK, HFO, HFS, rr0, rr1, rr2, rr3, rf0, rf1, rf2, rf3, hrw'⟩ := fin9 (vi ki 9) (vS (lowB t.2.1)) (vL none 0 0) (vi ki t.2.2) HK5.out (by omega) (HH5.out)
 go_wp2
 refine bodyPost_ret (v := .agg #[vi ki 9, vS (lowB t.2.1), vL none 0 0, vi ki t.2.2]) (by simp [results, Tryd.results67, go_sem, y0', y1', y2', y3']) rfl ⟨HFK.out, l2, rfl, HS5.out.off HFO.out HFS.out (by omega) (by omega), HE2.out, _, _, _, _, _, _, rfl, NdAt.leaf _ _ _ _ _⟩
theorem rlv_bad (g b lo : Nat) (lev a e : Int) (he : e ≠ 0) (w : World) (h : RF g b lo w a e) (hbl : b < w.heap.size) (hlo : lo ≤ w.heap.size) :
  Calls Tryd.prog 18 #[.pointer (some ⟨g, 0, none⟩), vi ki lev] w fun e' w' => Kp g w w' ∧ RF g b lo w' a e ∧ e' = zr (.agg #[vi ki 0, vS ⟨#[]⟩, vL none 0 0, vi ki 0]) := by
 obtain ⟨c, o, n, m, D, k, z, t, hcc, hb, h2, h3, h4, h5, h6, h7, hD, t0, t1, t2⟩ := id h
 have c0 := hb.c 0 rfl
 have c2 := hb.c 2 rfl
 have hg := hb.1
 have HE := hZz he
 have he0 : (e == 0) = false := by simpa using he
 have he1 : (e = 0) = False := eq_false he
 have HF := hZz h
 clear hb h he hcc
 go_enter Tryd.func18, Tryd.ntmps18
 go_wp2
 refine bodyPost_ret (v := .agg #[vi ki 0, vS ⟨#[]⟩, vL none 0 0, vi ki 0]) (by simp [results, Tryd.results18, go_sem]) rfl ⟨(Kp.refl g w).alloc _, HF.out.below ((Below.refl _ w).alloc (Nat.le_refl _) _), rfl⟩
theorem rlv_8 (g b cap : Nat) (T : List Tk) (N : Nat) (HM : Hid (RM g b cap T 37 8 N)) : RLv g b cap T 8 N := by
 intro w L d f h hL hd hN hf
 obtain ⟨R, hR⟩ : ∃ R, par f (.lv 8) d (mL L) = R := ⟨_, rfl⟩
 have HC : Hid (∀ V : World, RS g b cap T V L d → Calls Tryd.prog 37 #[.pointer (some ⟨g, 0, none⟩)] V fun e w' => Kp g V w' ∧ ROut g b V.heap.size cap T (fun c => V.heap.size ≤ c) w' d e R) := fun V hV => by rw [← hR]; exact HM.out V L d f hV hL hd hN hf
 rw [hR]
 clear hR
 obtain ⟨r, l, rfl⟩ := mL_none hL
 have hg := h.lt
 have hbl := h.tr.1
 have HP : Hid _ := h
 obtain ⟨pre, pa, cg0, cg1, cg2, fg0, fg1, t0, t1, t2, hgW, hbW, hlen, hmost, hle, hne, HEQ, HBX, HTR⟩ := RS.facts (h)
 go_enter Tryd.func18, Tryd.ntmps18
 go_wp2_with fail
 have B0 := bsm1 w [vi ki 0, vS ⟨#[]⟩, vL none 0 0, vi ki 0] 30
 refine (HC.out _ (HP.out.below B0.out.1)).mono ?_
 rintro e W1 ⟨hk, ho⟩
 have hz1 : w.heap.size + 1 ≤ W1.heap.size := hzk hk
 have K1 := kpt B0 hk
 have H1 : Hid (Bx W1 w.heap.size [vi ki 0, vS ⟨#[]⟩, vL none 0 0, vi ki 0]) := hk.bx B0.out.first (by omega)
 clear B0 cg0 cg1 cg2 fg0 fg1 t0 t1 t2 hgW hbW hlen hmost hle HEQ HBX HTR hne HP HC hk
 cases R with
 | no ea er =>
  obtain ⟨her, hf, k9, u9, sq9, sn9, sc9, a9, rfl⟩ := ho
  have HF : Hid (RF g b (w.heap.size + 1) W1 ea er) := by have := hf; simp at this; exact this
  have HER := hZz her
  clear hf her
  obtain ⟨y0', y1', y2', y3', HFK, HFO, HFS, rr0, rr1, rr2, rr3, rf0, rf1, rf2, rf3, hrw'⟩ := fin9 (vi ki k9) (vS u9) (vL sq9 sn9 sc9) (vi ki a9) K1.out (Nat.le_refl _) (H1.out)
  go_wp2
  refine bodyPost_ret (v := .agg #[vi ki k9, vS u9, vL sq9 sn9 sc9, vi ki a9]) (by simp [results, Tryd.results18, go_sem, y0', y1', y2', y3']) rfl ⟨HFK.out, HER.out, (HF.out.off HFO.out HFS.out (by omega) (by omega) (by omega)).mono (by omega), _, _, _, _, _, _, rfl⟩
 | ok n l1 =>
  obtain ⟨L1, rfl, hrs, hend, k9, u9, sq9, sn9, sc9, a9, rfl, hnd⟩ := ho
  have HS := hZz hrs
  have HE1 := hZz hend
  have HNd : Hid (NdAt (fun c => w.heap.size + 1 ≤ c) W1 n [vi ki k9, vS u9, vL sq9 sn9 sc9, vi ki a9]) := NdAt.keep (Nat.le_refl _) (fun c hc _ => ⟨by (try simp at hc); omega, rfl⟩) _ _ hnd
  clear hrs hend hnd
  obtain ⟨y0', y1', y2', y3', HFK, HFO, HFS, rr0, rr1, rr2, rr3, rf0, rf1, rf2, rf3, hrw'⟩ := fin9 (vi ki k9) (vS u9) (vL sq9 sn9 sc9) (vi ki a9) K1.out (Nat.le_refl _) (H1.out)
  go_wp2
  refine bodyPost_ret (v := .agg #[vi ki k9, vS u9, vL sq9 sn9 sc9, vi ki a9]) (by simp [results, Tryd.results18, go_sem, y0', y1', y2', y3']) rfl ⟨HFK.out, L1, rfl, HS.out.off HFO.out HFS.out (by omega) (by omega), HE1.out, _, _, _, _, _, _, rfl, HNd.out.off HFO.out HFS.out (fun c hc => ⟨by omega, by omega⟩)⟩
end Go.Proofs.YtaoocecipacnhaaDoor
