import Derived.Test.YtaoocecipacnhaaDoorX11
open Go.Value renaming int → vi, string → vS, slice → vL
open Go.IntKind renaming i64 → ki
open List renaming setIfInBounds_toArray → zb, set_cons_zero → zc, set_cons_succ → zd, length_cons → zl
open Go.Act renaming put → za
open Go.Ending renaming returned → zr
set_option maxRecDepth 100000
set_option maxHeartbeats 16000000
set_option linter.all false
namespace Go.Proofs.YtaoocecipacnhaaDoor
open Go.RowKit
def RM (g b cap : Nat) (T : List Tk) (K lev N : Nat) : Prop :=
 ∀ (w : World) (L : List Tk) (d f : Nat), RS g b cap T w L d → EndL (mL L) → d ≤ 20 → L.length ≤ N → need (.lv lev) (mL L) ≤ f →
  Calls Tryd.prog K #[.pointer (some ⟨g, 0, none⟩)] w fun e w' => Kp g w w' ∧ ROut g b w.heap.size cap T (fun c => w.heap.size ≤ c) w' d e (par f (.lv lev) d (mL L))
def lenAtR (g : Nat) (W : World) : Nat := match W.cell? ⟨g, 0, none⟩ with | some (vL _ n _) => n | _ => 0
theorem RS.len {g b cap : Nat} {T : List Tk} {w : World} {L : List Tk} {d : Nat} (h : RS g b cap T w L d) : lenAtR g w = L.length := by
 obtain ⟨_, _, _, hb⟩ := h.bx
 unfold lenAtR; rw [hb.c 0 rfl]
theorem mT_free {r : Tk} (h : GoodT r) : free (mT r) = (decide (r.1 = 2) && !rsvd (lowB r.2.1)) := by
 unfold free mT
 by_cases h2 : r.1 = 2
 ·simp [h2]
 ·have : ¬ (if r.1 = 1 then (if r.2.1.data.toList.contains 46 then (2 : Int) else 1) else if r.1 = 2 then 4 else if r.1 = 3 then 3 else if r.1 = 4 then 5 else 0) = 4 := by
   rw [if_neg h2]
   split
   ·split <;> omega
   ·split
    ·omega
    ·split <;> omega
  simp [h2]
  intro _
  simpa [h2] using this
theorem rcast_any (g b cap : Nat) (T : List Tk) (hG : Hid (∀ x ∈ T, GoodT x)) (N : Nat) (HM : Hid (RM g b cap T 58 9 N)) : RM g b cap T 37 8 N := by
 intro w L d f h hL hd hN hf
 obtain ⟨f, rfl⟩ : ∃ f', f = f' + 1 := ⟨f - 1, by obtain ⟨r, l, rfl⟩ := mL_none hL; simp only [need, mL_cons, zl] at hf; omega⟩
 obtain ⟨r, l, rfl⟩ := mL_none hL
 have eP : par (f + 1) (.lv 8) d (mL (r :: l)) = match par f (.lv 9) d (mL (r :: l)) with | .ok n l1 => par f (.cs n) d l1 | .no a e => .no a e := by
  rw [mL_cons, par_succ]; unfold pst; dsimp only
  rw [if_neg (by omega), if_neg (by omega), if_neg (by omega), if_neg (by omega), if_pos rfl]
  cases par f (.lv 9) d (mT r :: mL l) <;> rfl
 simp only [need, mL_cons, zl, mL_len] at hf
 have hok : okTg (.lv 9) := by simp [okTg]
 have hf1 : need (.lv 9) (mL (r :: l)) ≤ f := by simp only [need, mL_cons, zl, mL_len]; omega
 have HC : Hid (∀ V : World, RS g b cap T V (r :: l) d → Calls Tryd.prog 58 #[.pointer (some ⟨g, 0, none⟩)] V fun e w' => Kp g V w' ∧ ROut g b V.heap.size cap T (fun c => V.heap.size ≤ c) w' d e (par f (.lv 9) d (mL (r :: l)))) := fun V hV => HM.out V _ d f hV hL hd hN hf1
 obtain ⟨R, hR⟩ : ∃ R, R = par (f + 1) (.lv 8) d (mL (r :: l)) := ⟨_, rfl⟩
 rw [← hR]
 rw [eP] at hR
 clear eP
 have HP : Hid _ := h
 have hg := h.lt
 have hbl := h.tr.1
 clear h
 have hn0 : 0 < N := by simp only [zl] at hN; omega
 cases hr : par f (.lv 9) d (mL (r :: l)) with
 | no ea er =>
  rw [hr] at HC hR
  have HR0 := hZz hR
  clear hR hr
  go_enter Tryd.func37, Tryd.ntmps37
  go_wp2_with fail
  have B0 := bsm1 w [vi ki 0, vS ⟨#[]⟩, vL none 0 0, vi ki 0] 30
  refine (HC.out _ (HP.out.below B0.out.1)).mono ?_
  rintro e W1 ⟨hk, ho⟩
  have hz1 : w.heap.size + 1 ≤ W1.heap.size := hzk hk
  have K1 := kpt B0 hk
  have H1 : Hid (Bx W1 w.heap.size [vi ki 0, vS ⟨#[]⟩, vL none 0 0, vi ki 0]) := hk.bx B0.out.first (by omega)
  clear B0
  obtain ⟨her, hf, k9, u9, sq9, sn9, sc9, a9, rfl⟩ := ho
  have HF : Hid (RF g b (w.heap.size + 1) W1 ea er) := by have := hf; simp at this; exact this
  clear hf hk HC
  obtain ⟨B, hB⟩ : ∃ B, B = W1.heap.size := ⟨_, rfl⟩
  have KX : Hid (Kp g w (W1.alloc (.cells #[vi ki k9, vS u9, vL sq9 sn9 sc9, vi ki a9] 30))) := K1.out.alloc _
  have HX : Hid (Bx (W1.alloc (.cells #[vi ki k9, vS u9, vL sq9 sn9 sc9, vi ki a9] 30)) w.heap.size [vi ki 0, vS ⟨#[]⟩, vL none 0 0, vi ki 0]) := H1.out.alloc _
  have FX : Hid (RF g b (w.heap.size + 1) (W1.alloc (.cells #[vi ki k9, vS u9, vL sq9 sn9 sc9, vi ki a9] 30)) ea er) := HF.out.below ((Below.refl _ _).alloc (Nat.le_refl _) _)
  clear K1 H1 HF HP
  go_wp2_with fail
  go_loopw [] (fun W => Hid (Kp g w W) ∧ Hid (Bx W w.heap.size [vi ki 0, vS ⟨#[]⟩, vL none 0 0, vi ki 0]) ∧ Hid (RF g b (w.heap.size + 1) W ea er)) (fun _ => 0)
  case atStart => exact ⟨KX, HX, FX⟩
  case round =>
   obtain ⟨K2, H2, F2⟩ := hrel
   clear KX HX FX
   obtain ⟨_, _, _, _, _, _, _, _, _, hb, _⟩ := id F2.out
   have cg2 := hb.c 2 rfl
   have hgW := hb.1
   clear hb
   have he0 : (er == 0) = false := by simp; omega
   obtain ⟨y0', y1', y2', y3', HFK, HFO, HFS, rr0, rr1, rr2, rr3, rf0, rf1, rf2, rf3, hrw'⟩ := fin9 (vi ki 0) (vS ⟨#[]⟩) (vL none 0 0) (vi ki 0) K2.out (Nat.le_refl _) (H2.out)
   go_wp2
   refine bodyPost_ret (v := .agg #[vi ki 0, vS ⟨#[]⟩, vL none 0 0, vi ki 0]) (by simp [results, Tryd.results37, go_sem, y0', y1', y2', y3']) rfl ⟨HFK.out, by rw [HR0.out]; exact ⟨her, (F2.out.off HFO.out HFS.out (by omega) (by omega) (by omega)).mono (by omega), _, _, _, _, _, _, rfl⟩⟩
 | ok n0 l0 =>
  rw [hr] at HC hR
  have hls := par_less hok hL hf1 hr
  have hls2 := hls.2
  simp only [most, mL_cons, zl, mL_len] at hls2
  have HR0 := hZz hR.symm
  clear hR hr hls
  go_enter Tryd.func37, Tryd.ntmps37
  go_wp2_with fail
  have B0 := bsm1 w [vi ki 0, vS ⟨#[]⟩, vL none 0 0, vi ki 0] 30
  refine (HC.out _ (HP.out.below B0.out.1)).mono ?_
  rintro e W1 ⟨hk, ho⟩
  have hz1 : w.heap.size + 1 ≤ W1.heap.size := hzk hk
  have K1 := kpt B0 hk
  have H1 : Hid (Bx W1 w.heap.size [vi ki 0, vS ⟨#[]⟩, vL none 0 0, vi ki 0]) := hk.bx B0.out.first (by omega)
  clear B0
  obtain ⟨L1, rfl, hrs, hend, k0, u0, sq0, sn0, sc0, a0, rfl, hnd⟩ := ho
  have HS0 : Hid (CR g b cap T w W1.heap.size d L1 n0 (vi ki k0) (vS u0) (vL sq0 sn0 sc0) (vi ki a0) (W1.alloc (.cells #[vi ki k0, vS u0, vL sq0 sn0 sc0, vi ki a0] 30))) := by
   refine ⟨K1.out.alloc _, H1.out.alloc _, Bx.new W1 [vi ki k0, vS u0, vL sq0 sn0 sc0, vi ki a0] _, hrs.below ((Below.refl _ _).alloc (Nat.le_refl _) _), ?_, by omega, hend⟩
   exact NdAt.keep (by simp) (fun c hc hl => ⟨⟨by (try simp at hc); omega, by omega⟩, Below.heap_alloc _ _ _ hl⟩) _ _ hnd
  obtain ⟨B, hB⟩ : ∃ B, B = W1.heap.size := ⟨_, rfl⟩
  have hB1 : w.heap.size + 1 ≤ B := by omega
  rw [mL_len] at hls2
  have HF0 : Hid (10 * L1.length + 1 ≤ f) := by show _ ≤ _; omega
  have hN1 : L1.length ≤ N := by simp only [zl] at hN; omega
  clear hrs hend hnd hk K1 H1 hz1 HC HP
  go_wp2_with fail
  rw [← hB] at HS0
  rw [← hB]
  clear hB
  go_loopw [] (fun W => ∃ (L : List Tk) (f1 : Nat) (n : Nd) (kn : Int) (un : ByteArray) (sqn : Option Addr) (snn scn : Nat) (an : Int), Hid (CR g b cap T w B d L n (vi ki kn) (vS un) (vL sqn snn scn) (vi ki an) W) ∧ L.length ≤ N ∧ Hid (10 * L.length + 1 ≤ f1) ∧ Hid (par f1 (.cs n) d (mL L) = R)) (fun W => lenAtR g W)
  case atStart => exact ⟨L1, f, n0, k0, u0, sq0, sn0, sc0, a0, HS0, hN1, HF0, HR0⟩
  case round =>
   obtain ⟨L, f1, n, kn, un, sqn, snn, scn, an, KB, hN2, HF2, HR2⟩ := hrel
   clear HS0 HR0 HF0 hls2 hN1
   have HPL := hZz KB.out.2.2.2.1.len
   obtain ⟨q, l2, rfl⟩ := mL_none KB.out.2.2.2.2.2.2
   obtain ⟨f1, rfl⟩ : ∃ f', f1 = f' + 1 := ⟨f1 - 1, by have := HF2.out; simp only [zl] at this; omega⟩
   have hGq : Hid (GoodT q) := KB.out.2.2.2.1.good hG.out
   have hsg := sg_sign hGq.out (show (b2 58 58) ∈ sgnL by unfold sgnL; simp)
   have hwr5 : B < wr.heap.size := KB.out.2.2.1.1
   have hwr6 : w.heap.size < wr.heap.size := KB.out.2.1.1
   obtain ⟨pre, pa, cg0, cg1, cg2, fg0, fg1, t0, t1, t2, hgW, hbW, hlen, hmost, hle, hne, HEQ, HBX, HTR⟩ := RS.facts (KB.out.2.2.2.1)
   by_cases hi : isT (mT q) [(5, b2 58 58)] = true
   ·rw [hi] at hsg
    have hk0 : (mT q).1 ≠ 0 := isT_kind hi (by simp)
    have hEl : EndL (mL l2) := EndL.tail KB.out.2.2.2.2.2.2 hk0
    obtain ⟨u, l1, rfl⟩ := mL_none hEl
    have HE2 := hZz hEl
    clear hEl
    have HSi := rsign_any g b cap T (u :: l1) q hGq.out (b2 58 58) (fun _ => by simp) d wr KB.out.2.2.2.1
    rw [hsg, if_pos rfl] at HSi
    have HSg : Hid _ := HSi
    clear HSi hsg
    go_wp2_with fail
    refine Calls.mono HSg.out ?_
    rintro e W3 ⟨rfl, hk3, hp3⟩
    have KC : Hid (CR g b cap T w B d (u :: l1) n (vi ki kn) (vS un) (vL sqn snn scn) (vi ki an) W3) := KB.out.kp hg hk3 hp3 HE2.out
    clear HSg KB hk3 hp3 cg0 cg1 cg2 fg0 fg1 t0 t1 t2 hgW hbW hlen hmost hle HEQ HBX HTR hne hwr5 hwr6
    have hwr5 : B < W3.heap.size := KC.out.2.2.1.1
    have hwr6 : w.heap.size < W3.heap.size := KC.out.2.1.1
    have hg3 : W3.heap.size ≠ g := by omega
    have hGu : Hid (GoodT u) := KC.out.2.2.2.1.good hG.out
    obtain ⟨pre, pa, cg0, cg1, cg2, fg0, fg1, t0, t1, t2, hgW, hbW, hlen, hmost, hle, hne, HEQ, HBX, HTR⟩ := RS.facts (KC.out.2.2.2.1)
    have BT := bsm1 W3 [vi ki u.1, vS u.2.1, vi ki u.2.2] 59
    have KT : Hid (CR g b cap T w B d (u :: l1) n (vi ki kn) (vS un) (vL sqn snn scn) (vi ki an) (W3.alloc (.cells #[vi ki u.1, vS u.2.1, vi ki u.2.2] 59))) := KC.out.kp hg (Kp.of BT.out.1) (KC.out.2.2.2.1.below BT.out.1) HE2.out
    have hfr := mT_free hGu.out
    by_cases h2 : u.1 = 2
    ·rw [decide_eq_true h2, Bool.true_and] at hfr
     have g2 : (u.1 == 2) = true := by simpa using h2
     have g2p : (u.1 = 2) = True := eq_true h2
     have HH2 := hZz h2
     clear h2
     obtain ⟨V, hV⟩ : ∃ V, rsvd (lowB u.2.1) = V := ⟨_, rfl⟩
     have HRs := rreserved_any u.2.1 (by have := hGu.out.size; omega) (W3.alloc (.cells #[vi ki u.1, vS u.2.1, vi ki u.2.2] 59))
     rw [hV] at HRs hfr
     have HRv : Hid _ := HRs
     clear HRs hV
     go_wp2_with fail
     refine Calls.mono HRv.out ?_
     rintro e W4 ⟨rfl, hb4⟩
     have K4 : Hid (CR g b cap T w B d (u :: l1) n (vi ki kn) (vS un) (vL sqn snn scn) (vi ki an) W4) := KT.out.kp hg (Kp.of hb4) (KT.out.2.2.2.1.below hb4) HE2.out
     have H5 : Hid (Bx W4 W3.heap.size [vi ki u.1, vS u.2.1, vi ki u.2.2]) := BT.out.first.below hb4
     have hW34 : W3.heap.size < W4.heap.size := H5.out.1
     clear HRv hb4 BT KT KC cg0 cg1 cg2 fg0 fg1 t0 t1 t2 hgW hbW hlen hmost hle HEQ HBX HTR hne hwr5 hwr6
     have hwr5 : B < W4.heap.size := K4.out.2.2.1.1
     have hwr6 : w.heap.size < W4.heap.size := K4.out.2.1.1
     have j0 := H5.out.c 0 rfl
     have j1 := H5.out.c 1 rfl
     have j2 := H5.out.c 2 rfl
     cases V
     ·have hfr2 : free (mT u) = true := hfr
      have hk1 : (mT u).1 ≠ 0 := free_kind hfr2
      have hEl : EndL (mL l1) := EndL.tail HE2.out hk1
      obtain ⟨y, l3, rfl⟩ := mL_none hEl
      have HE3 := hZz hEl
      clear hEl
      have eU : (mT u).2.1 = lowB u.2.1 := by unfold mT; simp only; rw [if_pos HH2.out]
      have eL : par (f1 + 1) (.cs n) d (mL (q :: u :: y :: l3)) = par f1 (.cs (.mk 10 (lowB u.2.1) [n] q.2.2)) d (mL (y :: l3)) := by rw [mL_cons, mL_cons, par_succ]; unfold pst; dsimp only; rw [if_pos hi, if_pos hfr2, eU]; rfl
      have HR1 : Hid (par f1 (.cs (.mk 10 (lowB u.2.1) [n] q.2.2)) d (mL (y :: l3)) = R) := by have := HR2.out; rw [eL] at this; exact this
      have HF1 : Hid (10 * (y :: l3).length + 1 ≤ f1) := by have := HF2.out; simp only [zl] at this ⊢; show _ ≤ _; omega
      clear eL eU HR2 HF2
      obtain ⟨pre, pa, cg0, cg1, cg2, fg0, fg1, t0, t1, t2, hgW, hbW, hlen, hmost, hle, hne, HEQ, HBX, HTR⟩ := RS.facts (K4.out.2.2.2.1)
      have hcp : ¬ cap - pre.length = 1 := by simp only [zl] at hlen; omega
      go_upto_region 10 with fail
      have KK0 : Hid (CR g b cap T w B d (y :: l3) n (vi ki kn) (vS un) (vL sqn snn scn) (vi ki an) (W4.setCell ⟨g, 0, none⟩ (vL (some ⟨b, pre.length * 3 + 3, none⟩) ((y :: l3).length) (cap - pre.length - 1)))) := K4.out.kp hg ((Kp.refl g W4).set (p := ⟨g, 0, none⟩) (.inl rfl) _) (RS.next HTR.out HEQ.out hne hle hmost ((Kp.refl g W4).set (p := ⟨g, 0, none⟩) (.inl rfl) _) (HBX.out.set1 0 _ (by simp))) HE3.out
      have HK5 : Hid (Bx (W4.setCell ⟨g, 0, none⟩ (vL (some ⟨b, pre.length * 3 + 3, none⟩) ((y :: l3).length) (cap - pre.length - 1))) W3.heap.size [vi ki u.1, vS u.2.1, vi ki u.2.2]) := ((Kp.refl g W4).set (p := ⟨g, 0, none⟩) (.inl rfl) _).bx H5.out hg3
      refine gen_to (fun V => CR g b cap T w B d (y :: l3) n (vi ki kn) (vS un) (vL sqn snn scn) (vi ki an) V ∧ Bx V W3.heap.size [vi ki u.1, vS u.2.1, vi ki u.2.2] ∧ W3.heap.size < V.heap.size) ⟨KK0.out, HK5.out, HK5.out.1⟩ ?_
      intro W5 hW5
      have KK := hZz hW5.1
      have TK := hZz hW5.2.1
      clear hW5 KK0 HK5 K4 H5 j0 j1 j2 hwr5 hwr6 hW34 hcp hg3 cg0 cg1 cg2 fg0 fg1 t0 t1 t2 hgW hbW hlen hmost hle HEQ HBX HTR hne
      obtain ⟨B5, hB5⟩ : ∃ B5, B5 = W3.heap.size := ⟨_, rfl⟩
      rw [← hB5] at TK ⊢
      clear hB5
      refine wp_region_held_drew (S := fun _ => True) (by kernel_rfl) trivial (fun hHeld => ?_)
      refine tks 0 ?_
      simp only [za, zb, zc, zd]
      refine tks 5 ?_
      simp only [za, zb, zc, zd]
      refine rd2 1 3 (fun K hK => ?_) (fun K hK => ?_)
      ·
       have q1 := TK.out.c 1 rfl
       have q9 := TK.out.1
       go_simp
       refine hK.out _ _ trivial (fun hHeld => ?_)
       clear hK K q1 q9
       refine rd2 2 3 (fun K hK => ?_) (fun K hK => ?_)
       ·
        go_simp
        refine (rlower_any u.2.1 (by have := hGu.out.size; omega) _).mono ?_
        rintro e v2 ⟨rfl, hb2⟩
        refine hK.out _ _ trivial (fun hHeld => ?_)
        replace TK : Hid (Bx v2 B5 [vi ki u.1, vS u.2.1, vi ki u.2.2]) := by first | exact TK.out.below hb2 | exact Bx.below (W := W5.drew) TK.out hb2
        replace KK : Hid (CR g b cap T w B d (y :: l3) n (vi ki kn) (vS un) (vL sqn snn scn) (vi ki an) v2) := by first | exact KK.out.kp hg (Kp.of hb2) (KK.out.2.2.2.1.below hb2) HE3.out | exact KK.out.drew.kp hg (Kp.of hb2) (KK.out.drew.2.2.2.1.below hb2) HE3.out
        clear hK K hb2
        refine rd 3 (fun K hK => ?_)
        obtain ⟨q0, q1, q2, q3⟩ := KK.out.2.2.1.d4
        have q9 := KK.out.2.2.1.1
        go_simp
        refine hK.out _ _ trivial (fun hHeld => ?_)
        clear hK K q0 q1 q2 q3 q9
        refine rd 4 (fun K hK => ?_)
        have hwB : B < v2.heap.size := by first | exact KK.out.2.2.1.1 | exact KK.out.drew.2.2.1.1
        have hwT : B5 < v2.heap.size := by first | exact TK.out.1
        go_simp
        refine hK.out _ _ trivial (fun hHeld => ?_)
        obtain ⟨BR, hBR⟩ : ∃ BR, BR = v2.heap.size := ⟨_, rfl⟩
        have BN := bsm1 v2 [vi ki kn, vS un, vL sqn snn scn, vi ki an] 30
        have KN : Hid (CR g b cap T w B d (y :: l3) n (vi ki kn) (vS un) (vL sqn snn scn) (vi ki an) (v2.alloc (.cells #[vi ki kn, vS un, vL sqn snn scn, vi ki an] 30)) ∧ Bx (v2.alloc (.cells #[vi ki kn, vS un, vL sqn snn scn, vi ki an] 30)) BR [vi ki kn, vS un, vL sqn snn scn, vi ki an] ∧ Bx (v2.alloc (.cells #[vi ki kn, vS un, vL sqn snn scn, vi ki an] 30)) B5 [vi ki u.1, vS u.2.1, vi ki u.2.2]) := ⟨KK.out.kp hg (Kp.of BN.out.1) (KK.out.2.2.2.1.below BN.out.1) HE3.out, by rw [hBR]; exact BN.out.first, TK.out.alloc _⟩
        refine gen_anyR (fun V' => CR g b cap T w B d (y :: l3) n (vi ki kn) (vS un) (vL sqn snn scn) (vi ki an) V' ∧ Bx V' BR [vi ki kn, vS un, vL sqn snn scn, vi ki an] ∧ Bx V' B5 [vi ki u.1, vS u.2.1, vi ki u.2.2]) (by first | exact KN.out | exact ⟨KN.out.1.drew, KN.out.2⟩) ?_
        have hBR1 : w.heap.size + 1 ≤ BR := by have := KK.out.2.2.2.2.2.1; omega
        have hBR2 : BR ≠ B := by omega
        rw [← hBR]
        clear hHeld hK K KN BN hBR hwB hwT KK TK
        rintro v4 ⟨kk1, kk2, kk3⟩
        have KK := hZz kk1
        have HRW := hZz kk2
        have TK := hZz kk3
        clear kk1 kk2 kk3
        have hHeld : True := trivial
        refine tks 6 ?_
        simp only [za, zb, zc, zd]
        refine rd 7 (fun K hK => ?_)
        have hnn : NdAt (fun c => (w.heap.size + 1 ≤ c ∧ c ≠ B) ∨ v4.heap.size ≤ c) v4 (.mk 10 (lowB u.2.1) [n] q.2.2) [vi ki 10, vS (lowB u.2.1), vL (some ⟨BR, 0, none⟩) 1 1, vi ki q.2.2] := NdAt.row (ks := [n]) (by simp) (by simp) (by unfold maxLen; omega) (.inl ⟨hBR1, hBR2⟩) HRW.out.1 (RwAt.one HRW.out (NdAt.keep (Nat.le_refl _) (fun c hc _ => ⟨.inl hc, rfl⟩) _ _ KK.out.2.2.2.2.1))
        have KP : Hid (CR g b cap T w B d (y :: l3) (.mk 10 (lowB u.2.1) [n] q.2.2) (vi ki 10) (vS (lowB u.2.1)) (vL (some ⟨BR, 0, none⟩) 1 1) (vi ki q.2.2) (v4.setCells B 0 [vi ki 10, vS (lowB u.2.1), vL (some ⟨BR, 0, none⟩) 1 1, vi ki q.2.2])) := KK.out.put hg hbl (Kp.refl g _) KK.out.2.2.2.1 HE3.out hnn
        simp only [World.setCells, Nat.zero_add, Nat.reduceAdd] at KP
        obtain ⟨q0, q1, q2, q3, z0, z1, z2, z3⟩ := KK.out.2.2.1.cf4
        have hB9 := KK.out.2.2.1.1
        go_simp
        refine hK.out _ _ trivial (fun hHeld => ?_)
        refine gen_anyR (CR g b cap T w B d (y :: l3) (.mk 10 (lowB u.2.1) [n] q.2.2) (vi ki 10) (vS (lowB u.2.1)) (vL (some ⟨BR, 0, none⟩) 1 1) (vi ki q.2.2)) (by first | exact KP.out | exact KP.out.drew) ?_
        clear hHeld hK K KP q0 q1 q2 q3 z0 z1 z2 z3 hB9 KK hnn HRW TK
        intro v5 KK'
        have KK := hZz KK'
        clear KK'
        have hHeld : True := trivial
        refine dn ?_
        go_wp2_with fail
        exact ⟨⟨y :: l3, f1, _, _, _, _, _, _, _, KK, by simp only [zl] at hN2 ⊢; omega, HF1, HR1⟩, by rw [KK.out.2.2.2.1.len, HPL.out]; simp only [zl]; omega⟩
       ·
        obtain ⟨q0, q1, q2, q3⟩ := KK.out.2.2.1.d4
        have q9 := KK.out.2.2.1.1
        go_simp
        refine hK.out _ _ trivial (fun hHeld => ?_)
        clear hK K q0 q1 q2 q3 q9
        refine rd2 2 4 (fun K hK => ?_) (fun K hK => ?_)
        ·
         go_simp
         refine (rlower_any u.2.1 (by have := hGu.out.size; omega) _).mono ?_
         rintro e v7 ⟨rfl, hb7⟩
         refine hK.out _ _ trivial (fun hHeld => ?_)
         replace TK : Hid (Bx v7 B5 [vi ki u.1, vS u.2.1, vi ki u.2.2]) := by first | exact TK.out.below hb7 | exact Bx.below (W := W5.drew) TK.out hb7
         replace KK : Hid (CR g b cap T w B d (y :: l3) n (vi ki kn) (vS un) (vL sqn snn scn) (vi ki an) v7) := by first | exact KK.out.kp hg (Kp.of hb7) (KK.out.2.2.2.1.below hb7) HE3.out | exact KK.out.drew.kp hg (Kp.of hb7) (KK.out.drew.2.2.2.1.below hb7) HE3.out
         clear hK K hb7
         refine rd 4 (fun K hK => ?_)
         have hwB : B < v7.heap.size := by first | exact KK.out.2.2.1.1 | exact KK.out.drew.2.2.1.1
         have hwT : B5 < v7.heap.size := by first | exact TK.out.1
         go_simp
         refine hK.out _ _ trivial (fun hHeld => ?_)
         obtain ⟨BR, hBR⟩ : ∃ BR, BR = v7.heap.size := ⟨_, rfl⟩
         have BN := bsm1 v7 [vi ki kn, vS un, vL sqn snn scn, vi ki an] 30
         have KN : Hid (CR g b cap T w B d (y :: l3) n (vi ki kn) (vS un) (vL sqn snn scn) (vi ki an) (v7.alloc (.cells #[vi ki kn, vS un, vL sqn snn scn, vi ki an] 30)) ∧ Bx (v7.alloc (.cells #[vi ki kn, vS un, vL sqn snn scn, vi ki an] 30)) BR [vi ki kn, vS un, vL sqn snn scn, vi ki an] ∧ Bx (v7.alloc (.cells #[vi ki kn, vS un, vL sqn snn scn, vi ki an] 30)) B5 [vi ki u.1, vS u.2.1, vi ki u.2.2]) := ⟨KK.out.kp hg (Kp.of BN.out.1) (KK.out.2.2.2.1.below BN.out.1) HE3.out, by rw [hBR]; exact BN.out.first, TK.out.alloc _⟩
         refine gen_anyR (fun V' => CR g b cap T w B d (y :: l3) n (vi ki kn) (vS un) (vL sqn snn scn) (vi ki an) V' ∧ Bx V' BR [vi ki kn, vS un, vL sqn snn scn, vi ki an] ∧ Bx V' B5 [vi ki u.1, vS u.2.1, vi ki u.2.2]) (by first | exact KN.out | exact ⟨KN.out.1.drew, KN.out.2⟩) ?_
         have hBR1 : w.heap.size + 1 ≤ BR := by have := KK.out.2.2.2.2.2.1; omega
         have hBR2 : BR ≠ B := by omega
         rw [← hBR]
         clear hHeld hK K KN BN hBR hwB hwT KK TK
         rintro v8 ⟨kk1, kk2, kk3⟩
         have KK := hZz kk1
         have HRW := hZz kk2
         have TK := hZz kk3
         clear kk1 kk2 kk3
         have hHeld : True := trivial
         refine tks 6 ?_
         simp only [za, zb, zc, zd]
         refine rd 7 (fun K hK => ?_)
         have hnn : NdAt (fun c => (w.heap.size + 1 ≤ c ∧ c ≠ B) ∨ v8.heap.size ≤ c) v8 (.mk 10 (lowB u.2.1) [n] q.2.2) [vi ki 10, vS (lowB u.2.1), vL (some ⟨BR, 0, none⟩) 1 1, vi ki q.2.2] := NdAt.row (ks := [n]) (by simp) (by simp) (by unfold maxLen; omega) (.inl ⟨hBR1, hBR2⟩) HRW.out.1 (RwAt.one HRW.out (NdAt.keep (Nat.le_refl _) (fun c hc _ => ⟨.inl hc, rfl⟩) _ _ KK.out.2.2.2.2.1))
         have KP : Hid (CR g b cap T w B d (y :: l3) (.mk 10 (lowB u.2.1) [n] q.2.2) (vi ki 10) (vS (lowB u.2.1)) (vL (some ⟨BR, 0, none⟩) 1 1) (vi ki q.2.2) (v8.setCells B 0 [vi ki 10, vS (lowB u.2.1), vL (some ⟨BR, 0, none⟩) 1 1, vi ki q.2.2])) := KK.out.put hg hbl (Kp.refl g _) KK.out.2.2.2.1 HE3.out hnn
         simp only [World.setCells, Nat.zero_add, Nat.reduceAdd] at KP
         obtain ⟨q0, q1, q2, q3, z0, z1, z2, z3⟩ := KK.out.2.2.1.cf4
         have hB9 := KK.out.2.2.1.1
         go_simp
         refine hK.out _ _ trivial (fun hHeld => ?_)
         refine gen_anyR (CR g b cap T w B d (y :: l3) (.mk 10 (lowB u.2.1) [n] q.2.2) (vi ki 10) (vS (lowB u.2.1)) (vL (some ⟨BR, 0, none⟩) 1 1) (vi ki q.2.2)) (by first | exact KP.out | exact KP.out.drew) ?_
         clear hHeld hK K KP q0 q1 q2 q3 z0 z1 z2 z3 hB9 KK hnn HRW TK
         intro v9 KK'
         have KK := hZz KK'
         clear KK'
         have hHeld : True := trivial
         refine dn ?_
         go_wp2_with fail
         exact ⟨⟨y :: l3, f1, _, _, _, _, _, _, _, KK, by simp only [zl] at hN2 ⊢; omega, HF1, HR1⟩, by rw [KK.out.2.2.2.1.len, HPL.out]; simp only [zl]; omega⟩
        ·
         have hwB : B < W5.heap.size := by first | exact KK.out.2.2.1.1 | exact KK.out.drew.2.2.1.1
         have hwT : B5 < W5.heap.size := by first | exact TK.out.1
         go_simp
         refine hK.out _ _ trivial (fun hHeld => ?_)
         obtain ⟨BR, hBR⟩ : ∃ BR, BR = W5.heap.size := ⟨_, rfl⟩
         have BN := bsm1 W5 [vi ki kn, vS un, vL sqn snn scn, vi ki an] 30
         have KN : Hid (CR g b cap T w B d (y :: l3) n (vi ki kn) (vS un) (vL sqn snn scn) (vi ki an) (W5.alloc (.cells #[vi ki kn, vS un, vL sqn snn scn, vi ki an] 30)) ∧ Bx (W5.alloc (.cells #[vi ki kn, vS un, vL sqn snn scn, vi ki an] 30)) BR [vi ki kn, vS un, vL sqn snn scn, vi ki an] ∧ Bx (W5.alloc (.cells #[vi ki kn, vS un, vL sqn snn scn, vi ki an] 30)) B5 [vi ki u.1, vS u.2.1, vi ki u.2.2]) := ⟨KK.out.kp hg (Kp.of BN.out.1) (KK.out.2.2.2.1.below BN.out.1) HE3.out, by rw [hBR]; exact BN.out.first, TK.out.alloc _⟩
         refine gen_anyR (fun V' => CR g b cap T w B d (y :: l3) n (vi ki kn) (vS un) (vL sqn snn scn) (vi ki an) V' ∧ Bx V' BR [vi ki kn, vS un, vL sqn snn scn, vi ki an] ∧ Bx V' B5 [vi ki u.1, vS u.2.1, vi ki u.2.2]) (by first | exact KN.out | exact ⟨KN.out.1.drew, KN.out.2⟩) ?_
         have hBR1 : w.heap.size + 1 ≤ BR := by have := KK.out.2.2.2.2.2.1; omega
         have hBR2 : BR ≠ B := by omega
         rw [← hBR]
         clear hHeld hK K KN BN hBR hwB hwT KK TK
         rintro v10 ⟨kk1, kk2, kk3⟩
         have KK := hZz kk1
         have HRW := hZz kk2
         have TK := hZz kk3
         clear kk1 kk2 kk3
         have hHeld : True := trivial
         refine rd 2 (fun K hK => ?_)
         go_simp
         refine (rlower_any u.2.1 (by have := hGu.out.size; omega) _).mono ?_
         rintro e v11 ⟨rfl, hb11⟩
         refine hK.out _ _ trivial (fun hHeld => ?_)
         have HRW2 : Hid (Bx v11 BR [vi ki kn, vS un, vL sqn snn scn, vi ki an]) := by first | exact HRW.out.below hb11 | exact Bx.below (W := v10.drew) HRW.out hb11
         clear HRW
         have HRW := HRW2
         clear HRW2
         replace TK : Hid (Bx v11 B5 [vi ki u.1, vS u.2.1, vi ki u.2.2]) := by first | exact TK.out.below hb11 | exact Bx.below (W := v10.drew) TK.out hb11
         replace KK : Hid (CR g b cap T w B d (y :: l3) n (vi ki kn) (vS un) (vL sqn snn scn) (vi ki an) v11) := by first | exact KK.out.kp hg (Kp.of hb11) (KK.out.2.2.2.1.below hb11) HE3.out | exact KK.out.drew.kp hg (Kp.of hb11) (KK.out.drew.2.2.2.1.below hb11) HE3.out
         clear hK K hb11
         refine tks 6 ?_
         simp only [za, zb, zc, zd]
         refine rd 7 (fun K hK => ?_)
         have hnn : NdAt (fun c => (w.heap.size + 1 ≤ c ∧ c ≠ B) ∨ v11.heap.size ≤ c) v11 (.mk 10 (lowB u.2.1) [n] q.2.2) [vi ki 10, vS (lowB u.2.1), vL (some ⟨BR, 0, none⟩) 1 1, vi ki q.2.2] := NdAt.row (ks := [n]) (by simp) (by simp) (by unfold maxLen; omega) (.inl ⟨hBR1, hBR2⟩) HRW.out.1 (RwAt.one HRW.out (NdAt.keep (Nat.le_refl _) (fun c hc _ => ⟨.inl hc, rfl⟩) _ _ KK.out.2.2.2.2.1))
         have KP : Hid (CR g b cap T w B d (y :: l3) (.mk 10 (lowB u.2.1) [n] q.2.2) (vi ki 10) (vS (lowB u.2.1)) (vL (some ⟨BR, 0, none⟩) 1 1) (vi ki q.2.2) (v11.setCells B 0 [vi ki 10, vS (lowB u.2.1), vL (some ⟨BR, 0, none⟩) 1 1, vi ki q.2.2])) := KK.out.put hg hbl (Kp.refl g _) KK.out.2.2.2.1 HE3.out hnn
         simp only [World.setCells, Nat.zero_add, Nat.reduceAdd] at KP
         obtain ⟨q0, q1, q2, q3, z0, z1, z2, z3⟩ := KK.out.2.2.1.cf4
         have hB9 := KK.out.2.2.1.1
         go_simp
         refine hK.out _ _ trivial (fun hHeld => ?_)
         refine gen_anyR (CR g b cap T w B d (y :: l3) (.mk 10 (lowB u.2.1) [n] q.2.2) (vi ki 10) (vS (lowB u.2.1)) (vL (some ⟨BR, 0, none⟩) 1 1) (vi ki q.2.2)) (by first | exact KP.out | exact KP.out.drew) ?_
         clear hHeld hK K KP q0 q1 q2 q3 z0 z1 z2 z3 hB9 KK hnn HRW TK
         intro v12 KK'
         have KK := hZz KK'
         clear KK'
         have hHeld : True := trivial
         refine dn ?_
         go_wp2_with fail
         exact ⟨⟨y :: l3, f1, _, _, _, _, _, _, _, KK, by simp only [zl] at hN2 ⊢; omega, HF1, HR1⟩, by rw [KK.out.2.2.2.1.len, HPL.out]; simp only [zl]; omega⟩
      ·
       obtain ⟨q0, q1, q2, q3⟩ := KK.out.2.2.1.d4
       have q9 := KK.out.2.2.1.1
       go_simp
       refine hK.out _ _ trivial (fun hHeld => ?_)
       clear hK K q0 q1 q2 q3 q9
       refine rd2 1 4 (fun K hK => ?_) (fun K hK => ?_)
       ·
        have q1 := TK.out.c 1 rfl
        have q9 := TK.out.1
        go_simp
        refine hK.out _ _ trivial (fun hHeld => ?_)
        clear hK K q1 q9
        refine rd2 2 4 (fun K hK => ?_) (fun K hK => ?_)
        ·
         go_simp
         refine (rlower_any u.2.1 (by have := hGu.out.size; omega) _).mono ?_
         rintro e v15 ⟨rfl, hb15⟩
         refine hK.out _ _ trivial (fun hHeld => ?_)
         replace TK : Hid (Bx v15 B5 [vi ki u.1, vS u.2.1, vi ki u.2.2]) := by first | exact TK.out.below hb15 | exact Bx.below (W := W5.drew) TK.out hb15
         replace KK : Hid (CR g b cap T w B d (y :: l3) n (vi ki kn) (vS un) (vL sqn snn scn) (vi ki an) v15) := by first | exact KK.out.kp hg (Kp.of hb15) (KK.out.2.2.2.1.below hb15) HE3.out | exact KK.out.drew.kp hg (Kp.of hb15) (KK.out.drew.2.2.2.1.below hb15) HE3.out
         clear hK K hb15
         refine rd 4 (fun K hK => ?_)
         have hwB : B < v15.heap.size := by first | exact KK.out.2.2.1.1 | exact KK.out.drew.2.2.1.1
         have hwT : B5 < v15.heap.size := by first | exact TK.out.1
         go_simp
         refine hK.out _ _ trivial (fun hHeld => ?_)
         obtain ⟨BR, hBR⟩ : ∃ BR, BR = v15.heap.size := ⟨_, rfl⟩
         have BN := bsm1 v15 [vi ki kn, vS un, vL sqn snn scn, vi ki an] 30
         have KN : Hid (CR g b cap T w B d (y :: l3) n (vi ki kn) (vS un) (vL sqn snn scn) (vi ki an) (v15.alloc (.cells #[vi ki kn, vS un, vL sqn snn scn, vi ki an] 30)) ∧ Bx (v15.alloc (.cells #[vi ki kn, vS un, vL sqn snn scn, vi ki an] 30)) BR [vi ki kn, vS un, vL sqn snn scn, vi ki an] ∧ Bx (v15.alloc (.cells #[vi ki kn, vS un, vL sqn snn scn, vi ki an] 30)) B5 [vi ki u.1, vS u.2.1, vi ki u.2.2]) := ⟨KK.out.kp hg (Kp.of BN.out.1) (KK.out.2.2.2.1.below BN.out.1) HE3.out, by rw [hBR]; exact BN.out.first, TK.out.alloc _⟩
         refine gen_anyR (fun V' => CR g b cap T w B d (y :: l3) n (vi ki kn) (vS un) (vL sqn snn scn) (vi ki an) V' ∧ Bx V' BR [vi ki kn, vS un, vL sqn snn scn, vi ki an] ∧ Bx V' B5 [vi ki u.1, vS u.2.1, vi ki u.2.2]) (by first | exact KN.out | exact ⟨KN.out.1.drew, KN.out.2⟩) ?_
         have hBR1 : w.heap.size + 1 ≤ BR := by have := KK.out.2.2.2.2.2.1; omega
         have hBR2 : BR ≠ B := by omega
         rw [← hBR]
         clear hHeld hK K KN BN hBR hwB hwT KK TK
         rintro v16 ⟨kk1, kk2, kk3⟩
         have KK := hZz kk1
         have HRW := hZz kk2
         have TK := hZz kk3
         clear kk1 kk2 kk3
         have hHeld : True := trivial
         refine tks 6 ?_
         simp only [za, zb, zc, zd]
         refine rd 7 (fun K hK => ?_)
         have hnn : NdAt (fun c => (w.heap.size + 1 ≤ c ∧ c ≠ B) ∨ v16.heap.size ≤ c) v16 (.mk 10 (lowB u.2.1) [n] q.2.2) [vi ki 10, vS (lowB u.2.1), vL (some ⟨BR, 0, none⟩) 1 1, vi ki q.2.2] := NdAt.row (ks := [n]) (by simp) (by simp) (by unfold maxLen; omega) (.inl ⟨hBR1, hBR2⟩) HRW.out.1 (RwAt.one HRW.out (NdAt.keep (Nat.le_refl _) (fun c hc _ => ⟨.inl hc, rfl⟩) _ _ KK.out.2.2.2.2.1))
         have KP : Hid (CR g b cap T w B d (y :: l3) (.mk 10 (lowB u.2.1) [n] q.2.2) (vi ki 10) (vS (lowB u.2.1)) (vL (some ⟨BR, 0, none⟩) 1 1) (vi ki q.2.2) (v16.setCells B 0 [vi ki 10, vS (lowB u.2.1), vL (some ⟨BR, 0, none⟩) 1 1, vi ki q.2.2])) := KK.out.put hg hbl (Kp.refl g _) KK.out.2.2.2.1 HE3.out hnn
         simp only [World.setCells, Nat.zero_add, Nat.reduceAdd] at KP
         obtain ⟨q0, q1, q2, q3, z0, z1, z2, z3⟩ := KK.out.2.2.1.cf4
         have hB9 := KK.out.2.2.1.1
         go_simp
         refine hK.out _ _ trivial (fun hHeld => ?_)
         refine gen_anyR (CR g b cap T w B d (y :: l3) (.mk 10 (lowB u.2.1) [n] q.2.2) (vi ki 10) (vS (lowB u.2.1)) (vL (some ⟨BR, 0, none⟩) 1 1) (vi ki q.2.2)) (by first | exact KP.out | exact KP.out.drew) ?_
         clear hHeld hK K KP q0 q1 q2 q3 z0 z1 z2 z3 hB9 KK hnn HRW TK
         intro v17 KK'
         have KK := hZz KK'
         clear KK'
         have hHeld : True := trivial
         refine dn ?_
         go_wp2_with fail
         exact ⟨⟨y :: l3, f1, _, _, _, _, _, _, _, KK, by simp only [zl] at hN2 ⊢; omega, HF1, HR1⟩, by rw [KK.out.2.2.2.1.len, HPL.out]; simp only [zl]; omega⟩
        ·
         have hwB : B < W5.heap.size := by first | exact KK.out.2.2.1.1 | exact KK.out.drew.2.2.1.1
         have hwT : B5 < W5.heap.size := by first | exact TK.out.1
         go_simp
         refine hK.out _ _ trivial (fun hHeld => ?_)
         obtain ⟨BR, hBR⟩ : ∃ BR, BR = W5.heap.size := ⟨_, rfl⟩
         have BN := bsm1 W5 [vi ki kn, vS un, vL sqn snn scn, vi ki an] 30
         have KN : Hid (CR g b cap T w B d (y :: l3) n (vi ki kn) (vS un) (vL sqn snn scn) (vi ki an) (W5.alloc (.cells #[vi ki kn, vS un, vL sqn snn scn, vi ki an] 30)) ∧ Bx (W5.alloc (.cells #[vi ki kn, vS un, vL sqn snn scn, vi ki an] 30)) BR [vi ki kn, vS un, vL sqn snn scn, vi ki an] ∧ Bx (W5.alloc (.cells #[vi ki kn, vS un, vL sqn snn scn, vi ki an] 30)) B5 [vi ki u.1, vS u.2.1, vi ki u.2.2]) := ⟨KK.out.kp hg (Kp.of BN.out.1) (KK.out.2.2.2.1.below BN.out.1) HE3.out, by rw [hBR]; exact BN.out.first, TK.out.alloc _⟩
         refine gen_anyR (fun V' => CR g b cap T w B d (y :: l3) n (vi ki kn) (vS un) (vL sqn snn scn) (vi ki an) V' ∧ Bx V' BR [vi ki kn, vS un, vL sqn snn scn, vi ki an] ∧ Bx V' B5 [vi ki u.1, vS u.2.1, vi ki u.2.2]) (by first | exact KN.out | exact ⟨KN.out.1.drew, KN.out.2⟩) ?_
         have hBR1 : w.heap.size + 1 ≤ BR := by have := KK.out.2.2.2.2.2.1; omega
         have hBR2 : BR ≠ B := by omega
         rw [← hBR]
         clear hHeld hK K KN BN hBR hwB hwT KK TK
         rintro v18 ⟨kk1, kk2, kk3⟩
         have KK := hZz kk1
         have HRW := hZz kk2
         have TK := hZz kk3
         clear kk1 kk2 kk3
         have hHeld : True := trivial
         refine rd 2 (fun K hK => ?_)
         go_simp
         refine (rlower_any u.2.1 (by have := hGu.out.size; omega) _).mono ?_
         rintro e v19 ⟨rfl, hb19⟩
         refine hK.out _ _ trivial (fun hHeld => ?_)
         have HRW2 : Hid (Bx v19 BR [vi ki kn, vS un, vL sqn snn scn, vi ki an]) := by first | exact HRW.out.below hb19 | exact Bx.below (W := v18.drew) HRW.out hb19
         clear HRW
         have HRW := HRW2
         clear HRW2
         replace TK : Hid (Bx v19 B5 [vi ki u.1, vS u.2.1, vi ki u.2.2]) := by first | exact TK.out.below hb19 | exact Bx.below (W := v18.drew) TK.out hb19
         replace KK : Hid (CR g b cap T w B d (y :: l3) n (vi ki kn) (vS un) (vL sqn snn scn) (vi ki an) v19) := by first | exact KK.out.kp hg (Kp.of hb19) (KK.out.2.2.2.1.below hb19) HE3.out | exact KK.out.drew.kp hg (Kp.of hb19) (KK.out.drew.2.2.2.1.below hb19) HE3.out
         clear hK K hb19
         refine tks 6 ?_
         simp only [za, zb, zc, zd]
         refine rd 7 (fun K hK => ?_)
         have hnn : NdAt (fun c => (w.heap.size + 1 ≤ c ∧ c ≠ B) ∨ v19.heap.size ≤ c) v19 (.mk 10 (lowB u.2.1) [n] q.2.2) [vi ki 10, vS (lowB u.2.1), vL (some ⟨BR, 0, none⟩) 1 1, vi ki q.2.2] := NdAt.row (ks := [n]) (by simp) (by simp) (by unfold maxLen; omega) (.inl ⟨hBR1, hBR2⟩) HRW.out.1 (RwAt.one HRW.out (NdAt.keep (Nat.le_refl _) (fun c hc _ => ⟨.inl hc, rfl⟩) _ _ KK.out.2.2.2.2.1))
         have KP : Hid (CR g b cap T w B d (y :: l3) (.mk 10 (lowB u.2.1) [n] q.2.2) (vi ki 10) (vS (lowB u.2.1)) (vL (some ⟨BR, 0, none⟩) 1 1) (vi ki q.2.2) (v19.setCells B 0 [vi ki 10, vS (lowB u.2.1), vL (some ⟨BR, 0, none⟩) 1 1, vi ki q.2.2])) := KK.out.put hg hbl (Kp.refl g _) KK.out.2.2.2.1 HE3.out hnn
         simp only [World.setCells, Nat.zero_add, Nat.reduceAdd] at KP
         obtain ⟨q0, q1, q2, q3, z0, z1, z2, z3⟩ := KK.out.2.2.1.cf4
         have hB9 := KK.out.2.2.1.1
         go_simp
         refine hK.out _ _ trivial (fun hHeld => ?_)
         refine gen_anyR (CR g b cap T w B d (y :: l3) (.mk 10 (lowB u.2.1) [n] q.2.2) (vi ki 10) (vS (lowB u.2.1)) (vL (some ⟨BR, 0, none⟩) 1 1) (vi ki q.2.2)) (by first | exact KP.out | exact KP.out.drew) ?_
         clear hHeld hK K KP q0 q1 q2 q3 z0 z1 z2 z3 hB9 KK hnn HRW TK
         intro v20 KK'
         have KK := hZz KK'
         clear KK'
         have hHeld : True := trivial
         refine dn ?_
         go_wp2_with fail
         exact ⟨⟨y :: l3, f1, _, _, _, _, _, _, _, KK, by simp only [zl] at hN2 ⊢; omega, HF1, HR1⟩, by rw [KK.out.2.2.2.1.len, HPL.out]; simp only [zl]; omega⟩
       ·
        have hwB : B < W5.heap.size := by first | exact KK.out.2.2.1.1 | exact KK.out.drew.2.2.1.1
        have hwT : B5 < W5.heap.size := by first | exact TK.out.1
        go_simp
        refine hK.out _ _ trivial (fun hHeld => ?_)
        obtain ⟨BR, hBR⟩ : ∃ BR, BR = W5.heap.size := ⟨_, rfl⟩
        have BN := bsm1 W5 [vi ki kn, vS un, vL sqn snn scn, vi ki an] 30
        have KN : Hid (CR g b cap T w B d (y :: l3) n (vi ki kn) (vS un) (vL sqn snn scn) (vi ki an) (W5.alloc (.cells #[vi ki kn, vS un, vL sqn snn scn, vi ki an] 30)) ∧ Bx (W5.alloc (.cells #[vi ki kn, vS un, vL sqn snn scn, vi ki an] 30)) BR [vi ki kn, vS un, vL sqn snn scn, vi ki an] ∧ Bx (W5.alloc (.cells #[vi ki kn, vS un, vL sqn snn scn, vi ki an] 30)) B5 [vi ki u.1, vS u.2.1, vi ki u.2.2]) := ⟨KK.out.kp hg (Kp.of BN.out.1) (KK.out.2.2.2.1.below BN.out.1) HE3.out, by rw [hBR]; exact BN.out.first, TK.out.alloc _⟩
        refine gen_anyR (fun V' => CR g b cap T w B d (y :: l3) n (vi ki kn) (vS un) (vL sqn snn scn) (vi ki an) V' ∧ Bx V' BR [vi ki kn, vS un, vL sqn snn scn, vi ki an] ∧ Bx V' B5 [vi ki u.1, vS u.2.1, vi ki u.2.2]) (by first | exact KN.out | exact ⟨KN.out.1.drew, KN.out.2⟩) ?_
        have hBR1 : w.heap.size + 1 ≤ BR := by have := KK.out.2.2.2.2.2.1; omega
        have hBR2 : BR ≠ B := by omega
        rw [← hBR]
        clear hHeld hK K KN BN hBR hwB hwT KK TK
        rintro v21 ⟨kk1, kk2, kk3⟩
        have KK := hZz kk1
        have HRW := hZz kk2
        have TK := hZz kk3
        clear kk1 kk2 kk3
        have hHeld : True := trivial
        refine rd 1 (fun K hK => ?_)
        have q1 := TK.out.c 1 rfl
        have q9 := TK.out.1
        go_simp
        refine hK.out _ _ trivial (fun hHeld => ?_)
        clear hK K q1 q9
        refine rd 2 (fun K hK => ?_)
        go_simp
        refine (rlower_any u.2.1 (by have := hGu.out.size; omega) _).mono ?_
        rintro e v23 ⟨rfl, hb23⟩
        refine hK.out _ _ trivial (fun hHeld => ?_)
        have HRW2 : Hid (Bx v23 BR [vi ki kn, vS un, vL sqn snn scn, vi ki an]) := by first | exact HRW.out.below hb23 | exact Bx.below (W := v21.drew) HRW.out hb23
        clear HRW
        have HRW := HRW2
        clear HRW2
        replace TK : Hid (Bx v23 B5 [vi ki u.1, vS u.2.1, vi ki u.2.2]) := by first | exact TK.out.below hb23 | exact Bx.below (W := v21.drew) TK.out hb23
        replace KK : Hid (CR g b cap T w B d (y :: l3) n (vi ki kn) (vS un) (vL sqn snn scn) (vi ki an) v23) := by first | exact KK.out.kp hg (Kp.of hb23) (KK.out.2.2.2.1.below hb23) HE3.out | exact KK.out.drew.kp hg (Kp.of hb23) (KK.out.drew.2.2.2.1.below hb23) HE3.out
        clear hK K hb23
        refine tks 6 ?_
        simp only [za, zb, zc, zd]
        refine rd 7 (fun K hK => ?_)
        have hnn : NdAt (fun c => (w.heap.size + 1 ≤ c ∧ c ≠ B) ∨ v23.heap.size ≤ c) v23 (.mk 10 (lowB u.2.1) [n] q.2.2) [vi ki 10, vS (lowB u.2.1), vL (some ⟨BR, 0, none⟩) 1 1, vi ki q.2.2] := NdAt.row (ks := [n]) (by simp) (by simp) (by unfold maxLen; omega) (.inl ⟨hBR1, hBR2⟩) HRW.out.1 (RwAt.one HRW.out (NdAt.keep (Nat.le_refl _) (fun c hc _ => ⟨.inl hc, rfl⟩) _ _ KK.out.2.2.2.2.1))
        have KP : Hid (CR g b cap T w B d (y :: l3) (.mk 10 (lowB u.2.1) [n] q.2.2) (vi ki 10) (vS (lowB u.2.1)) (vL (some ⟨BR, 0, none⟩) 1 1) (vi ki q.2.2) (v23.setCells B 0 [vi ki 10, vS (lowB u.2.1), vL (some ⟨BR, 0, none⟩) 1 1, vi ki q.2.2])) := KK.out.put hg hbl (Kp.refl g _) KK.out.2.2.2.1 HE3.out hnn
        simp only [World.setCells, Nat.zero_add, Nat.reduceAdd] at KP
        obtain ⟨q0, q1, q2, q3, z0, z1, z2, z3⟩ := KK.out.2.2.1.cf4
        have hB9 := KK.out.2.2.1.1
        go_simp
        refine hK.out _ _ trivial (fun hHeld => ?_)
        refine gen_anyR (CR g b cap T w B d (y :: l3) (.mk 10 (lowB u.2.1) [n] q.2.2) (vi ki 10) (vS (lowB u.2.1)) (vL (some ⟨BR, 0, none⟩) 1 1) (vi ki q.2.2)) (by first | exact KP.out | exact KP.out.drew) ?_
        clear hHeld hK K KP q0 q1 q2 q3 z0 z1 z2 z3 hB9 KK hnn HRW TK
        intro v24 KK'
        have KK := hZz KK'
        clear KK'
        have hHeld : True := trivial
        refine dn ?_
        go_wp2_with fail
        exact ⟨⟨y :: l3, f1, _, _, _, _, _, _, _, KK, by simp only [zl] at hN2 ⊢; omega, HF1, HR1⟩, by rw [KK.out.2.2.2.1.len, HPL.out]; simp only [zl]; omega⟩
     ·have hfr2 : free (mT u) = false := hfr
      have eL : par (f1 + 1) (.cs n) d (mL (q :: u :: l1)) = .no u.2.2 30 := by rw [mL_cons, mL_cons, par_succ]; unfold pst; dsimp only; rw [if_pos hi, hfr2]; rfl
      have HR9 : Hid (R = .no u.2.2 30) := by have := HR2.out; rw [eL] at this; exact this.symm
      clear eL HR2
      have HFl : Hid _ := rfail_ok g b (w.heap.size + 1) cap T l1 u hGu.out.size d (by omega) 30 u.2.2 W4 K4.out.2.2.2.1
      go_wp2_with fail
      refine Calls.mono HFl.out ?_
      rintro e W6 ⟨rfl, hk6, hf6⟩
      have K9 : Hid (Kp g w W6) := K4.out.1.trans hk6
      have H9 : Hid (Bx W6 w.heap.size [vi ki 0, vS ⟨#[]⟩, vL none 0 0, vi ki 0]) := hk6.bx K4.out.2.1 (by omega)
      have HF6 := hZz hf6
      clear hk6 hf6 HFl
      obtain ⟨y0', y1', y2', y3', HFK, HFO, HFS, rr0, rr1, rr2, rr3, rf0, rf1, rf2, rf3, hrw'⟩ := fin9 (vi ki 0) (vS ⟨#[]⟩) (vL none 0 0) (vi ki 0) K9.out (Nat.le_refl _) (H9.out)
      go_wp2
      refine bodyPost_ret (v := .agg #[vi ki 0, vS ⟨#[]⟩, vL none 0 0, vi ki 0]) (by simp [results, Tryd.results37, go_sem, y0', y1', y2', y3']) rfl ⟨HFK.out, by rw [HR9.out]; exact ⟨by decide, (HF6.out.off HFO.out HFS.out (by omega) (by omega) (by omega)).mono (by omega), _, _, _, _, _, _, rfl⟩⟩
    ·rw [decide_eq_false h2, Bool.false_and] at hfr
     have eL : par (f1 + 1) (.cs n) d (mL (q :: u :: l1)) = .no u.2.2 30 := by rw [mL_cons, mL_cons, par_succ]; unfold pst; dsimp only; rw [if_pos hi, hfr]; rfl
     have HR9 : Hid (R = .no u.2.2 30) := by have := HR2.out; rw [eL] at this; exact this.symm
     clear eL HR2
     have g2 : (u.1 == 2) = false := by simpa using h2
     have HFl : Hid _ := rfail_ok g b (w.heap.size + 1) cap T l1 u hGu.out.size d (by omega) 30 u.2.2 _ KT.out.2.2.2.1
     go_wp2_with fail
     refine Calls.mono HFl.out ?_
     rintro e W6 ⟨rfl, hk6, hf6⟩
     have K9 : Hid (Kp g w W6) := KT.out.1.trans hk6
     have H9 : Hid (Bx W6 w.heap.size [vi ki 0, vS ⟨#[]⟩, vL none 0 0, vi ki 0]) := hk6.bx KT.out.2.1 (by omega)
     have HF6 := hZz hf6
     clear hk6 hf6 HFl
     obtain ⟨y0', y1', y2', y3', HFK, HFO, HFS, rr0, rr1, rr2, rr3, rf0, rf1, rf2, rf3, hrw'⟩ := fin9 (vi ki 0) (vS ⟨#[]⟩) (vL none 0 0) (vi ki 0) K9.out (Nat.le_refl _) (H9.out)
     go_wp2
     refine bodyPost_ret (v := .agg #[vi ki 0, vS ⟨#[]⟩, vL none 0 0, vi ki 0]) (by simp [results, Tryd.results37, go_sem, y0', y1', y2', y3']) rfl ⟨HFK.out, by rw [HR9.out]; exact ⟨by decide, (HF6.out.off HFO.out HFS.out (by omega) (by omega) (by omega)).mono (by omega), _, _, _, _, _, _, rfl⟩⟩
   ·rw [Bool.not_eq_true] at hi
    rw [hi] at hsg
    have HSi := rsign_any g b cap T l2 q hGq.out (b2 58 58) (fun z => by rw [hsg] at z; cases z) d wr KB.out.2.2.2.1
    rw [hsg, if_neg (by simp)] at HSi
    have HSg : Hid _ := HSi
    clear HSi hsg
    have eL : par (f1 + 1) (.cs n) d (mL (q :: l2)) = .ok n (mL (q :: l2)) := by rw [mL_cons, par_succ]; unfold pst; dsimp only; rw [hi]; rfl
    have HR9 : Hid (R = .ok n (mL (q :: l2))) := by have := HR2.out; rw [eL] at this; exact this.symm
    clear eL HR2
    go_wp2_with fail
    refine Calls.mono HSg.out ?_
    rintro e W3 ⟨rfl, hk3, hp3⟩
    have KC : Hid (CR g b cap T w B d (q :: l2) n (vi ki kn) (vS un) (vL sqn snn scn) (vi ki an) W3) := KB.out.kp hg hk3 hp3 KB.out.2.2.2.2.2.2
    clear HSg KB hk3 hp3 cg0 cg1 cg2 fg0 fg1 t0 t1 t2 hgW hbW hlen hmost hle HEQ HBX HTR hne hwr5 hwr6
    obtain ⟨n0, n1, n2, n3⟩ := KC.out.2.2.1.d4
    have hwr5 : B < W3.heap.size := KC.out.2.2.1.1
    have HB4 := hZz hB1
    obtain ⟨y0', y1', y2', y3', HFK, HFO, HFS, rr0, rr1, rr2, rr3, rf0, rf1, rf2, rf3, hrw'⟩ := fin9 (vi ki kn) (vS un) (vL sqn snn scn) (vi ki an) KC.out.1 (Nat.le_refl _) (KC.out.2.1)
    go_wp2
    refine bodyPost_ret (v := .agg #[vi ki kn, vS un, vL sqn snn scn, vi ki an]) (by simp [results, Tryd.results37, go_sem, y0', y1', y2', y3']) rfl ⟨HFK.out, by rw [HR9.out]; exact ⟨q :: l2, rfl, KC.out.2.2.2.1.off HFO.out HFS.out (by omega) (by omega), KC.out.2.2.2.2.2.2, _, _, _, _, _, _, rfl, KC.out.2.2.2.2.1.off HFO.out HFS.out (fun c hc => ⟨by omega, by omega⟩)⟩⟩
end Go.Proofs.YtaoocecipacnhaaDoor
