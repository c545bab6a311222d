import Derived.Test.YtaoocecipacnhaaDoorWz
import Derived.Test.YtaoocecipacnhaaDoorW26
import Derived.Test.YtaoocecipacnhaaDoorW15
open Go.Value renaming int → vi
open Go.IntKind renaming i64 → ki
open List renaming setIfInBounds_toArray → zb, set_cons_zero → zc, set_cons_succ → zd
open Go.Act renaming put → za
open Go.Ending renaming returned → zr
set_option maxRecDepth 100000
set_option maxHeartbeats 16000000
set_option linter.unusedVariables false
namespace Go.Proofs.YtaoocecipacnhaaDoor
open Go.RowKit
theorem rdeep_bad {g b lo B C : Nat} {w W : World} {a e x : Int} {cs ds : List Value} (hg : g < w.heap.size) (hk : Kp g w W) (hr : Bx W B cs) (hB : B ≠ g) (hf : RF g b lo W a e) (hC : Bx W C ds) (hCg : C ≠ g) :
  Kp g w (W.setCell ⟨g, 1, none⟩ (vi ki x)) ∧ Bx (W.setCell ⟨g, 1, none⟩ (vi ki x)) B cs ∧ RF g b lo (W.setCell ⟨g, 1, none⟩ (vi ki x)) a e ∧ Bx (W.setCell ⟨g, 1, none⟩ (vi ki x)) C ds := by
 obtain ⟨c9, o9, n9, m9, D9, i9, z9, t9, hc9, hb9, e1, e2, e3, e4, e5, e6, -, e7, e8, e10⟩ := hf
 refine ⟨hk.set (p := ⟨g, 1, none⟩) (.inl rfl) _, ((Kp.refl g W).set (p := ⟨g, 1, none⟩) (.inl rfl) _).bx hr hB, ?_, ((Kp.refl g W).set (p := ⟨g, 1, none⟩) (.inl rfl) _).bx hC hCg⟩
 exact ⟨c9, o9, n9, m9, x, i9, z9, t9, hc9, hb9.set1 1 _ (by simp), e1, e2, e3, e4, by simpa using e5, e6, trivial, (World.cell?_setCell_other _ _ _ _ (fun q => e4 (congrArg Addr.block q).symm)).trans e7, (World.cell?_setCell_other _ _ _ _ (fun q => e4 (congrArg Addr.block q).symm)).trans e8, (World.cell?_setCell_other _ _ _ _ (fun q => e4 (congrArg Addr.block q).symm)).trans e10⟩
theorem rdeep_ok {g b cap B C d x' : Nat} {T L : List Tk} {w W : World} {cs ds es : List Value} {X : Nat → Prop} {n : Nd} (hg : g < w.heap.size) (hk : Kp g w W) (hr : Bx W B cs) (hB : B ≠ g) (hs : RS g b cap T W L d) (hC : Bx W C ds) (hCg : C ≠ g) (hn : NdAt X W n es) (hX : ∀ c, X c → c ≠ g) :
  Kp g w (W.setCell ⟨g, 1, none⟩ (vi ki (x' : Int))) ∧ Bx (W.setCell ⟨g, 1, none⟩ (vi ki (x' : Int))) B cs ∧ RS g b cap T (W.setCell ⟨g, 1, none⟩ (vi ki (x' : Int))) L x' ∧ Bx (W.setCell ⟨g, 1, none⟩ (vi ki (x' : Int))) C ds ∧ NdAt X (W.setCell ⟨g, 1, none⟩ (vi ki (x' : Int))) n es := by
 obtain ⟨⟨pre4, pa4, he4, hb4⟩, htr4, hne4, hle4, hmost4⟩ := hs
 exact ⟨hk.set (p := ⟨g, 1, none⟩) (.inl rfl) _, ((Kp.refl g W).set (p := ⟨g, 1, none⟩) (.inl rfl) _).bx hr hB, RS.of htr4 he4 hne4 hle4 hmost4 ((Kp.refl g W).set (p := ⟨g, 1, none⟩) (.inl rfl) _) (hb4.set1 1 _ (by simp)), ((Kp.refl g W).set (p := ⟨g, 1, none⟩) (.inl rfl) _).bx hC hCg, hn.kp ((Kp.refl g W).set (p := ⟨g, 1, none⟩) (.inl rfl) _) (fun c hc => ⟨hc, hX c hc⟩)⟩
theorem rprim_par (g b cap : Nat) (T : List Tk) (r : Tk) (l : List Tk) (d : Nat) (hd : d ≤ 20) (hGT : Hid (∀ x ∈ T, GoodT x)) (hk : r.1 = 4) (hw : r.2.1 = b1 40) (hd20 : d < 20) (N f : Nat) (HP : RLv g b cap T 0 N) (hN : l.length ≤ N) (hff : need (.lv 0) (mL l) ≤ f) (w : World) (h : RS g b cap T w (r :: l) d) (hGr : GoodT r) (hL : EndL (mL l)) :
  Calls Tryd.prog 58 #[.pointer (some ⟨g, 0, none⟩)] w fun e w' => Kp g w w' ∧ ROut g b w.heap.size cap T (fun c => w.heap.size ≤ c) w' d e ((match par f (.lv 0) (d + 1) (mL l) with | .no a e => PR.no a e | .ok n [] => PR.no 0 0 | .ok n (q :: l1) => if isT q [(5, b1 41)] then PR.ok n l1 else PR.no q.2.2 30)) := by
 obtain ⟨R, hR⟩ : ∃ R, (match par f (.lv 0) (d + 1) (mL l) with | .no a e => PR.no a e | .ok n [] => PR.no 0 0 | .ok n (q :: l1) => if isT q [(5, b1 41)] then PR.ok n l1 else PR.no q.2.2 30) = R := ⟨_, rfl⟩
 rw [hR]
 have HRR : Hid ((match par f (.lv 0) (d + 1) (mL l) with | .no a e => PR.no a e | .ok n [] => PR.no 0 0 | .ok n (q :: l1) => if isT q [(5, b1 41)] then PR.ok n l1 else PR.no q.2.2 30) = R) := hR
 clear hR
 have g1 : (r.1 == 1) = false := by rw [hk]; rfl
 have g3 : (r.1 == 3) = false := by rw [hk]; rfl
 have g4 : (r.1 == 4) = true := by rw [hk]; rfl
 have g1p : (r.1 = 1) = False := eq_false (by omega)
 have g3p : (r.1 = 3) = False := eq_false (by omega)
 have g4p : (r.1 = 4) = True := eq_true hk
 have m1 : (r.2.1.toList == [40]) = true := (lit_eq _ [40]).trans (decide_eq_true hw)
 have HK : Hid _ := hk
 clear hk hw
 have hl1 : 1 ≤ l.length := by obtain ⟨q, l', rfl⟩ := mL_none hL; simp
 have HL : Hid (EndL (mL l)) := hL
 have hg := h.lt
 have hbl := h.tr.1
 have HGr : Hid (GoodT r) := hGr
 have hsz := hGr.size
 obtain ⟨pre, pa, cg0, cg1, cg2, fg0, fg1, t0, t1, t2, hgW, hbW, hlen, hmost, hle, hne, HEQ, HBX, HTR⟩ := RS.facts (h)
 clear h hL hGr
 have hcp : ¬ cap - pre.length = 1 := by omega
 obtain ⟨KA, KB1, KB2, KR⟩ := prim_open HTR.out HEQ.out hne hle hmost HBX.out
 go_enter Tryd.func58, Tryd.ntmps58
 go_wp2_with fail
 refine (rlower_any r.2.1 (by omega) _).mono ?_
 rintro e W1 ⟨rfl, hb⟩
 have K1 : Hid (Kp g w W1) := KA.out.trans (Kp.of hb)
 have H1 : Hid (Bx W1 w.heap.size [vi ki 0, .string ⟨#[]⟩, .slice none 0 0, vi ki 0]) := KB1.out.below hb
 have H2 : Hid (Bx W1 (w.heap.size + 1) [vi ki r.1, .string r.2.1, vi ki r.2.2]) := KB2.out.below hb
 have Q1 : Hid (RS g b cap T W1 l d) := KR.out.below hb
 clear hb KA KB1 KB2 KR hcp cg0 cg1 cg2 fg0 fg1 t0 t1 t2 hgW hbW hlen hmost hle HEQ HBX HTR hne
 have j0 := H2.out.c 0 rfl
 have j1 := H2.out.c 1 rfl
 have j2 := H2.out.c 2 rfl
 have hj := H2.out.1
 have hdI : (d : Int) < 20 := by omega
 obtain ⟨q, l0, hq⟩ := mL_none HL.out
 have hgq := (hq ▸ Q1.out).good hGT.out
 have HIn : Hid _ := rinner_ok g b cap T l0 q d hd20 r.2.2 W1 (hq ▸ Q1.out)
 go_wp2_with fail
 refine Calls.mono HIn.out ?_
 rintro e W2 ⟨rfl, hk2, hr2⟩
 have K2 : Hid (Kp g w W2) := K1.out.trans hk2
 have H2' : Hid (Bx W2 w.heap.size [vi ki 0, .string ⟨#[]⟩, .slice none 0 0, vi ki 0]) := hk2.bx H1.out (by omega)
 have Q2 : Hid (RS g b cap T W2 l (d + 1)) := by have := hr2; rw [← hq] at this; exact this
 have hw2 : w.heap.size + 1 < W2.heap.size := by have := hk2.size; omega
 clear hk2 hr2 HIn K1 H1 H2 Q1 j0 j1 j2 hj hq hgq
 have HC := HP W2 l (d + 1) f Q2.out HL.out (by omega) hN hff
 cases hr : par f (.lv 0) (d + 1) (mL l) with
 | no ea er =>
  rw [hr] at HC
  have HR9 : Hid (R = .no ea er) := by have := HRR.out; rw [hr] at this; exact this.symm
  have HCC : Hid _ := HC
  clear HC hr HP HRR
  go_wp2_with fail
  refine Calls.mono HCC.out ?_
  rintro e W3 ⟨hk3, her, hf3, k9, u9, sq9, sn9, sc9, a9, rfl⟩
  have HER : Hid (er ≠ 0) := her
  have X9 : Hid (BS W3 [(W3.heap.size, [vi ki k9, .string u9, .slice sq9 sn9 sc9, vi ki a9])] (W3.alloc (.cells #[vi ki k9, .string u9, .slice sq9 sn9 sc9, vi ki a9] 30))) := (BS.start W3).new [vi ki k9, .string u9, .slice sq9 sn9 sc9, vi ki a9] 30 rfl
  have K3 : Hid (Kp g w (W3.alloc (.cells #[vi ki k9, .string u9, .slice sq9 sn9 sc9, vi ki a9] 30))) := (K2.out.trans hk3).alloc _
  have H3 : Hid (Bx (W3.alloc (.cells #[vi ki k9, .string u9, .slice sq9 sn9 sc9, vi ki a9] 30)) w.heap.size [vi ki 0, .string ⟨#[]⟩, .slice none 0 0, vi ki 0]) := (hk3.bx H2'.out (by omega)).alloc _
  have hw3 : W2.heap.size ≤ W3.heap.size := hk3.size
  have hg3 : g < W3.heap.size := by omega
  have hg3n : W3.heap.size ≠ g := by omega
  have F3 : Hid (RF g b W2.heap.size (W3.alloc (.cells #[vi ki k9, .string u9, .slice sq9 sn9 sc9, vi ki a9] 30)) ea er) := hf3.below X9.out.1
  have HWa : Hid _ := rwant_bad g b W2.heap.size (b1 41) ea er her _ F3.out
  clear hk3 her hf3 HCC K2 H2' Q2
  go_wp2_with fail
  refine Calls.mono HWa.out ?_
  rintro e W4 ⟨rfl, hk4, hf4⟩
  have K4 : Hid (Kp g w W4) := K3.out.trans hk4
  have H4 : Hid (Bx W4 w.heap.size [vi ki 0, .string ⟨#[]⟩, .slice none 0 0, vi ki 0]) := hk4.bx H3.out (by omega)
  have T4 : Hid (Bx W4 W3.heap.size [vi ki k9, .string u9, .slice sq9 sn9 sc9, vi ki a9]) := hk4.bx X9.out.first (by omega)
  obtain ⟨j0, j1, j2, j3⟩ := T4.out.d4
  have hj := T4.out.1
  have F4 : Hid (RF g b (w.heap.size + 1) W4 ea er) := RF.mono hf4 (by omega)
  clear hk4 hf4 HWa K3 H3 F3 X9
  obtain ⟨c9, o9, n9, m9, D9, i9, z9, t9, hc9, hb9, -⟩ := F4.out
  have cg1 := hb9.c 1 rfl
  have fg1 := hb9.f 1 rfl
  have hgl := hb9.1
  clear hb9 hc9
  go_upto_region 22 with fail
  refine gen_to (fun V => Kp g w V ∧ Bx V w.heap.size [vi ki 0, .string ⟨#[]⟩, .slice none 0 0, vi ki 0] ∧ RF g b (w.heap.size + 1) V ea er ∧ Bx V W3.heap.size [vi ki k9, .string u9, .slice sq9 sn9 sc9, vi ki a9]) (rdeep_bad hg K4.out H4.out (by omega) F4.out T4.out hg3n) ?_
  rintro W5 ⟨k5, h5, f5, t5⟩
  have HK5 : Hid (Kp g w W5) := k5
  have HH5 : Hid (Bx W5 w.heap.size [vi ki 0, .string ⟨#[]⟩, .slice none 0 0, vi ki 0]) := h5
  have HF5 : Hid (RF g b (w.heap.size + 1) W5 ea er) := f5
  obtain ⟨B7, hB7⟩ : ∃ B7, B7 = W3.heap.size := ⟨_, rfl⟩
  rw [← hB7] at t5 ⊢
  have hB7w : w.heap.size + 1 < B7 := by omega
  clear hB7
  obtain ⟨l0', l1', l2', l3'⟩ := t5.d4
  have hl' := t5.1
  clear k5 h5 f5 t5 cg1 fg1 hgl j0 j1 j2 j3 hj T4 K4 H4 F4
  obtain ⟨y0', y1', y2', y3', HFK, HFO, HFS, rr0, rr1, rr2, rr3, rf0, rf1, rf2, rf3, hrw'⟩ := fin9 (vi ki k9) (.string u9) (.slice sq9 sn9 sc9) (vi ki a9) HK5.out (Nat.le_refl _) (HH5.out)
  go_wp2
  refine bodyPost_ret (v := .agg #[vi ki k9, .string u9, .slice sq9 sn9 sc9, vi ki a9]) (by simp [results, Tryd.results58, go_sem, y0', y1', y2', y3']) rfl ⟨HFK.out, by rw [HR9.out]; exact ⟨HER.out, (HF5.out.off HFO.out HFS.out (by omega) (by omega) (by omega)).mono (by omega), _, _, _, _, _, _, rfl⟩⟩
 | ok n l1 =>
  rw [hr] at HC
  have HR8 : Hid ((match PR.ok n l1 with | .no a e => PR.no a e | .ok n [] => .no 0 0 | .ok n (q :: l1) => if isT q [(5, b1 41)] then .ok n l1 else .no q.2.2 30) = R) := by have := HRR.out; rw [hr] at this; exact this
  have HCC : Hid _ := HC
  clear HC hr HP HRR
  go_wp2_with fail
  refine Calls.mono HCC.out ?_
  rintro e W3 ⟨hk3, L1, rfl, hrs, hend, k9, u9, sq9, sn9, sc9, a9, rfl, hnd⟩
  obtain ⟨q1, L2, rfl⟩ := mL_none hend
  have hgq1 := hrs.good hGT.out
  have hsg := sg_sign hgq1 (show (b1 41) ∈ sgnL by unfold sgnL; simp)
  have HE1 : Hid (EndL (mL (q1 :: L2))) := hend
  have X9 : Hid (BS W3 [(W3.heap.size, [vi ki k9, .string u9, .slice sq9 sn9 sc9, vi ki a9])] (W3.alloc (.cells #[vi ki k9, .string u9, .slice sq9 sn9 sc9, vi ki a9] 30))) := (BS.start W3).new [vi ki k9, .string u9, .slice sq9 sn9 sc9, vi ki a9] 30 rfl
  have K3 : Hid (Kp g w (W3.alloc (.cells #[vi ki k9, .string u9, .slice sq9 sn9 sc9, vi ki a9] 30))) := (K2.out.trans hk3).alloc _
  have H3 : Hid (Bx (W3.alloc (.cells #[vi ki k9, .string u9, .slice sq9 sn9 sc9, vi ki a9] 30)) w.heap.size [vi ki 0, .string ⟨#[]⟩, .slice none 0 0, vi ki 0]) := (hk3.bx H2'.out (by omega)).alloc _
  have hw3 : W2.heap.size ≤ W3.heap.size := hk3.size
  have hg3 : g < W3.heap.size := by omega
  have hg3n : W3.heap.size ≠ g := by omega
  have HN9 : Hid (NdAt (fun c => W2.heap.size ≤ c) (W3.alloc (.cells #[vi ki k9, .string u9, .slice sq9 sn9 sc9, vi ki a9] 30)) n [vi ki k9, .string u9, .slice sq9 sn9 sc9, vi ki a9]) := hnd.below X9.out.1
  have S3 : Hid (RS g b cap T (W3.alloc (.cells #[vi ki k9, .string u9, .slice sq9 sn9 sc9, vi ki a9] 30)) (q1 :: L2) (d + 1)) := hrs.below X9.out.1
  have HGq1 : Hid (GoodT q1) := hgq1
  clear hk3 hrs hend hnd HCC K2 H2' Q2 hgq1
  have HR7 : Hid ((if isT (mT q1) [(5, b1 41)] then PR.ok n (mL L2) else .no q1.2.2 30) = R) := HR8.out
  clear HR8
  by_cases hi : isT (mT q1) [(5, b1 41)] = true
  ·rw [hi] at hsg
   have HR9 : Hid (R = .ok n (mL L2)) := by have := HR7.out; rw [if_pos hi] at this; exact this.symm
   clear HR7
   have hEl : EndL (mL L2) := EndL.tail HE1.out (isT_kind hi (by simp))
   have HWa : Hid _ := rwant_yes g b cap T L2 q1 HGq1.out (b1 41) hsg (by obtain ⟨y, l3, rfl⟩ := mL_none hEl; simp) (d + 1) _ S3.out
   have HE2 : Hid (EndL (mL L2)) := hEl
   clear hsg hEl hi
   go_wp2_with fail
   refine Calls.mono HWa.out ?_
   rintro e W4 ⟨rfl, hk4, hr4⟩
   have K4 : Hid (Kp g w W4) := K3.out.trans hk4
   have H4 : Hid (Bx W4 w.heap.size [vi ki 0, .string ⟨#[]⟩, .slice none 0 0, vi ki 0]) := hk4.bx H3.out (by omega)
   have T4 : Hid (Bx W4 W3.heap.size [vi ki k9, .string u9, .slice sq9 sn9 sc9, vi ki a9]) := hk4.bx X9.out.first (by omega)
   obtain ⟨j0, j1, j2, j3⟩ := T4.out.d4
   have hj := T4.out.1
   have N4' : Hid (NdAt (fun c => W2.heap.size ≤ c) W4 n [vi ki k9, .string u9, .slice sq9 sn9 sc9, vi ki a9]) := HN9.out.kp hk4 (fun c hc => ⟨hc, by omega⟩)
   have S4 : Hid (RS g b cap T W4 L2 (d + 1)) := hr4
   clear hk4 hr4 HWa K3 H3 S3 X9 HN9
   obtain ⟨⟨pre4, pa4, he4, hb4⟩, -⟩ := S4.out
   have cg1 := hb4.c 1 rfl
   have fg1 := hb4.f 1 rfl
   have hgl := hb4.1
   clear hb4 he4
   have hdw : IntKind.i64.wrap ((d : Int) + 1 - 1) = (d : Int) := by rw [IntKind.wrap_i64]; omega
   have hdw2 : IntKind.i64.wrap (d : Int) = (d : Int) := by rw [IntKind.wrap_i64]; omega
   go_upto_region 22 with fail
   refine gen_to (fun V => Kp g w V ∧ Bx V w.heap.size [vi ki 0, .string ⟨#[]⟩, .slice none 0 0, vi ki 0] ∧ RS g b cap T V L2 d ∧ Bx V W3.heap.size [vi ki k9, .string u9, .slice sq9 sn9 sc9, vi ki a9] ∧ NdAt (fun c => W2.heap.size ≤ c) V n [vi ki k9, .string u9, .slice sq9 sn9 sc9, vi ki a9]) (rdeep_ok hg K4.out H4.out (by omega) S4.out T4.out hg3n N4'.out (fun c hc => by omega)) ?_
   rintro W5 ⟨k5, h5, s5, t5, n5⟩
   have HK5 : Hid (Kp g w W5) := k5
   have HH5 : Hid (Bx W5 w.heap.size [vi ki 0, .string ⟨#[]⟩, .slice none 0 0, vi ki 0]) := h5
   have HS5 : Hid (RS g b cap T W5 L2 d) := s5
   have HN5 : Hid (NdAt (fun c => W2.heap.size ≤ c) W5 n [vi ki k9, .string u9, .slice sq9 sn9 sc9, vi ki a9]) := n5
   obtain ⟨B7, hB7⟩ : ∃ B7, B7 = W3.heap.size := ⟨_, rfl⟩
   rw [← hB7] at t5 ⊢
   have hB7w : w.heap.size + 1 < B7 := by omega
   clear hB7
   obtain ⟨l0', l1', l2', l3'⟩ := t5.d4
   have hl' := t5.1
   clear k5 h5 s5 t5 n5 cg1 fg1 hgl j0 j1 j2 j3 hj T4 K4 H4 S4 N4'
   obtain ⟨y0', y1', y2', y3', HFK, HFO, HFS, rr0, rr1, rr2, rr3, rf0, rf1, rf2, rf3, hrw'⟩ := fin9 (vi ki k9) (.string u9) (.slice sq9 sn9 sc9) (vi ki a9) HK5.out (Nat.le_refl _) (HH5.out)
   go_wp2
   refine bodyPost_ret (v := .agg #[vi ki k9, .string u9, .slice sq9 sn9 sc9, vi ki a9]) (by simp [results, Tryd.results58, go_sem, y0', y1', y2', y3']) rfl ⟨HFK.out, by rw [HR9.out]; exact ⟨L2, rfl, HS5.out.off HFO.out HFS.out (by omega) (by omega), HE2.out, _, _, _, _, _, _, rfl, HN5.out.off HFO.out HFS.out (fun c hc => ⟨by omega, by omega⟩)⟩⟩
  ·rw [Bool.not_eq_true] at hi
   rw [hi] at hsg
   have HR9 : Hid (R = .no q1.2.2 30) := by have := HR7.out; rw [hi, if_neg (by simp)] at this; exact this.symm
   clear HR7
   have HWa : Hid _ := rwant_no g b W2.heap.size cap T L2 q1 HGq1.out (b1 41) hsg (d + 1) (by omega) _ S3.out
   clear hsg hi
   go_wp2_with fail
   refine Calls.mono HWa.out ?_
   rintro e W4 ⟨rfl, hk4, hf4⟩
   have K4 : Hid (Kp g w W4) := K3.out.trans hk4
   have H4 : Hid (Bx W4 w.heap.size [vi ki 0, .string ⟨#[]⟩, .slice none 0 0, vi ki 0]) := hk4.bx H3.out (by omega)
   have T4 : Hid (Bx W4 W3.heap.size [vi ki k9, .string u9, .slice sq9 sn9 sc9, vi ki a9]) := hk4.bx X9.out.first (by omega)
   obtain ⟨j0, j1, j2, j3⟩ := T4.out.d4
   have hj := T4.out.1
   have F4 : Hid (RF g b (w.heap.size + 1) W4 q1.2.2 30) := RF.mono hf4 (by omega)
   clear hk4 hf4 HWa K3 H3 S3 X9 HN9
   obtain ⟨c9, o9, n9, m9, D9, i9, z9, t9, hc9, hb9, -⟩ := F4.out
   have cg1 := hb9.c 1 rfl
   have fg1 := hb9.f 1 rfl
   have hgl := hb9.1
   clear hb9 hc9
   go_upto_region 22 with fail
   refine gen_to (fun V => Kp g w V ∧ Bx V w.heap.size [vi ki 0, .string ⟨#[]⟩, .slice none 0 0, vi ki 0] ∧ RF g b (w.heap.size + 1) V q1.2.2 30 ∧ Bx V W3.heap.size [vi ki k9, .string u9, .slice sq9 sn9 sc9, vi ki a9]) (rdeep_bad hg K4.out H4.out (by omega) F4.out T4.out hg3n) ?_
   rintro W5 ⟨k5, h5, f5, t5⟩
   have HK5 : Hid (Kp g w W5) := k5
   have HH5 : Hid (Bx W5 w.heap.size [vi ki 0, .string ⟨#[]⟩, .slice none 0 0, vi ki 0]) := h5
   have HF5 : Hid (RF g b (w.heap.size + 1) W5 q1.2.2 30) := f5
   obtain ⟨B7, hB7⟩ : ∃ B7, B7 = W3.heap.size := ⟨_, rfl⟩
   rw [← hB7] at t5 ⊢
   have hB7w : w.heap.size + 1 < B7 := by omega
   clear hB7
   obtain ⟨l0', l1', l2', l3'⟩ := t5.d4
   have hl' := t5.1
   clear k5 h5 f5 t5 cg1 fg1 hgl j0 j1 j2 j3 hj T4 K4 H4 F4
   obtain ⟨y0', y1', y2', y3', HFK, HFO, HFS, rr0, rr1, rr2, rr3, rf0, rf1, rf2, rf3, hrw'⟩ := fin9 (vi ki k9) (.string u9) (.slice sq9 sn9 sc9) (vi ki a9) HK5.out (Nat.le_refl _) (HH5.out)
   go_wp2
   refine bodyPost_ret (v := .agg #[vi ki k9, .string u9, .slice sq9 sn9 sc9, vi ki a9]) (by simp [results, Tryd.results58, go_sem, y0', y1', y2', y3']) rfl ⟨HFK.out, by rw [HR9.out]; exact ⟨by decide, (HF5.out.off HFO.out HFS.out (by omega) (by omega) (by omega)).mono (by omega), _, _, _, _, _, _, rfl⟩⟩
theorem endL_one {p : Tk} {l : List Tk} (h : EndL (p :: l)) (h0 : p.1 = 0) : l = [] := by
 cases l with
 | nil => rfl
 | cons q l => exact absurd h0 h.1
theorem mL_nil {L : List Tk} (h : mL L = []) : L = [] := by
 cases L with
 | nil => rfl
 | cons r L => cases h
theorem isT_two (p : Tk) (k k' : Int) (s s' : ByteArray) : isT p [(k, s), (k', s')] = (decide (p.1 = k ∧ p.2.1 = s) || decide (p.1 = k' ∧ p.2.1 = s')) := by simp [isT]
theorem rprim_any (g b cap : Nat) (T : List Tk) (hG : Hid (∀ x ∈ T, GoodT x)) (N : Nat) (HP : Hid (RLv g b cap T 0 (N - 1))) (HN : Hid (RNm g b cap T (N - 1))) : RM g b cap T 58 9 N := by
 intro w L d f h hL hd hN hf
 obtain ⟨r, l, rfl⟩ := mL_none hL
 obtain ⟨f, rfl⟩ : ∃ f', f = f' + 1 := ⟨f - 1, by simp only [need, mL_cons, List.length_cons] at hf; omega⟩
 have hGr := h.good hG.out
 simp only [need, mL_cons, List.length_cons, mL_len] at hf hN
 rw [mL_cons] at hL
 have hk := hGr.kind
 have eP : par (f + 1) (.lv 9) d (mT r :: mL l) = (if (mT r).1 = 1 then PR.ok (.mk 1 (mT r).2.1 [] (mT r).2.2) (mL l)
   else if (mT r).1 = 2 then PR.ok (.mk 2 (mT r).2.1 [] (mT r).2.2) (mL l)
   else if (mT r).1 = 3 then PR.ok (.mk 3 (mT r).2.1 [] (mT r).2.2) (mL l)
   else if isT (mT r) [(4, trueB), (4, falseB)] then PR.ok (.mk 4 (mT r).2.1 [] (mT r).2.2) (mL l)
   else if isT (mT r) [(5, b1 40)] then
    if d = 20 then PR.no (mT r).2.2 31
    else match par f (.lv 0) (d + 1) (mL l) with
     | .no a e => PR.no a e
     | .ok n [] => PR.no 0 0
     | .ok n (q :: l1) => if isT q [(5, b1 41)] then PR.ok n l1 else PR.no q.2.2 30
   else if free (mT r) then nmF (par f) d (mT r) (mL l)
   else PR.no (mT r).2.2 30) := by
  rw [par_succ]; unfold pst; dsimp only
  rw [if_neg (by omega), if_neg (by omega), if_neg (by omega), if_neg (by omega), if_neg (by omega), if_pos rfl]
  rfl
 rw [mL_cons, eP]
 clear eP
 obtain ⟨k1, k2, k3, k4, k5, kn⟩ := @mT_kind r
 have hat : (mT r).2.2 = r.2.2 := rfl
 by_cases e5 : r.1 = 5
 ·have hl := mL_nil (endL_one hL (k5 e5))
  subst hl
  have q1 : (mT r).1 = 0 := k5 e5
  rw [if_neg (by omega), if_neg (by omega), if_neg (by omega), if_neg (by rw [isT_two, q1]; simp), if_neg (by rw [isT_one, q1]; simp), if_neg (by rw [mT_free hGr]; simp [e5])]
  exact rprim_end g b cap T r d hd e5 w h hGr
 have h0 : (mT r).1 ≠ 0 := fun q => e5 ((mT_end hGr).1 q)
 have hE : EndL (mL l) := EndL.tail hL h0
 by_cases e1 : r.1 = 1
 ·have q1 := k1 e1
  have q := rprim_1 g b cap T r l d hd e1 w h hGr hE
  by_cases hc : r.2.1.data.toList.contains 46 = true
  ·rw [if_pos hc] at q1 q
   rw [if_neg (by omega), if_pos q1, kn (by omega), hat]
   exact q
  ·rw [if_neg hc] at q1 q
   rw [if_pos q1, kn (by omega), hat]
   exact q
 by_cases e3 : r.1 = 3
 ·have q1 := k3 e3
  rw [if_neg (by omega), if_neg (by omega), if_pos q1, kn (by omega), hat]
  exact rprim_3 g b cap T r l d hd e3 w h hGr hE
 by_cases e4 : r.1 = 4
 ·have q1 := k4 e4
  rw [if_neg (by omega), if_neg (by omega), if_neg (by omega), if_neg (by rw [isT_two, q1]; simp), isT_one, q1, kn (by omega), hat]
  by_cases hw : r.2.1 = b1 40
  ·rw [if_pos (by simp [hw])]
   by_cases h20 : d = 20
   ·rw [if_pos h20]
    exact rprim_deep g b cap T r l d hd hG e4 hw h20 w h hGr hE
   ·rw [if_neg h20]
    exact rprim_par g b cap T r l d hd hG e4 hw (by omega) (N - 1) f HP.out (by omega) (by simp only [need, mL_len]; omega) w h hGr hE
  ·rw [if_neg (by simp [hw]), if_neg (by rw [mT_free hGr]; simp [e4])]
   exact rprim_sign g b cap T r l d hd hG e4 hw w h hGr hE
 have e2 : r.1 = 2 := by omega
 obtain ⟨q1, q2⟩ := k2 e2
 rw [if_neg (by omega), if_neg (by omega), if_neg (by omega), isT_two, q1, q2, hat]
 by_cases n1 : lowB r.2.1 = trueB
 ·rw [if_pos (by simp [n1]), n1]
  exact rprim_true g b cap T r l d hd e2 n1 w h hGr hE
 by_cases n2 : lowB r.2.1 = falseB
 ·rw [if_pos (by simp [n2]), n2]
  exact rprim_false g b cap T r l d hd e2 n2 w h hGr hE
 rw [if_neg (by simp [n1, n2]), if_neg (by rw [isT_one, q1]; simp)]
 by_cases hf2 : free (mT r) = true
 ·rw [if_pos hf2]
  exact rprim_name g b cap T r l d hd e2 hf2 (N - 1) f HN (by omega) (by omega) n1 n2 w h hGr hE
 ·rw [if_neg hf2]
  exact rprim_rsv g b cap T r l d hd hG e2 (by simpa using hf2) n1 n2 w h hGr hE
end Go.Proofs.YtaoocecipacnhaaDoor
