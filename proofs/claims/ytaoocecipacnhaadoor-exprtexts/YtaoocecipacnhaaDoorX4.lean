import Derived.Test.YtaoocecipacnhaaDoorX3
import Derived.OwnWalk
open Go.Value renaming int → vi, string → vS, slice → vL
open Go.IntKind renaming i64 → ki
open List renaming setIfInBounds_toArray → zb, set_cons_zero → zc, set_cons_succ → zd, length_cons → zl
open Go.Act renaming put → za
open Go.Ending renaming returned → zr
set_option maxRecDepth 100000
set_option maxHeartbeats 16000000
set_option linter.all false
namespace Go.Proofs.YtaoocecipacnhaaDoor
open Go.RowKit
theorem cast_lv (g b cap : Nat) (T : List Tk) (N : Nat) (HM : Hid (LvOk g b cap T 95 9 N)) : LvOk g b cap T 94 8 N := by
 intro w L d f h hL hd hN hf
 obtain ⟨f, rfl⟩ : ∃ f', f = f' + 1 := ⟨f - 1, by obtain ⟨p, l, rfl⟩ := hL.cons; simp only [need, zl] at hf; omega⟩
 obtain ⟨p, l, rfl⟩ := hL.cons
 have eP : par (f + 1) (.lv 8) d (p :: l) = match par f (.lv 9) d (p :: l) with | .ok n l1 => par f (.cs n) d l1 | .no a e => .no a e := by
  rw [par_succ]; unfold pst; dsimp only
  rw [if_neg (by omega), if_neg (by omega), if_neg (by omega), if_neg (by omega), if_pos rfl]
  cases par f (.lv 9) d (p :: l) <;> rfl
 simp only [need, zl] at hf
 have hok : okTg (.lv 9) := by simp [okTg]
 have hf1 : need (.lv 9) (p :: l) ≤ f := by simp only [need, zl]; omega
 have HC : Hid (∀ V : World, PS g b cap T V (p :: l) d → Calls Tryd.prog 95 #[.pointer (some ⟨g, 0, none⟩)] V fun e w' => Kp g V w' ∧ Out g b cap T (fun c => V.heap.size ≤ c) w' d e (par f (.lv 9) d (p :: l))) := fun V hV => HM.out V _ d f hV hL hd hN hf1
 obtain ⟨R, hR⟩ : ∃ R, R = par (f + 1) (.lv 8) d (p :: l) := ⟨_, rfl⟩
 rw [← hR]
 rw [eP] at hR
 clear eP
 cases hr : par f (.lv 9) d (p :: l) with
 | no ea er =>
  rw [hr] at HC hR
  have HR0 := hZz hR
  clear hR hr
  have HP : Hid _ := h
  have hg := h.lt
  have hbl := h.tr.1
  clear h
  go_enter Tryd.func94, Tryd.ntmps94
  go_wp2_with fail
  have B0 := bsm1 w [vi ki 0, vS ⟨#[]⟩, vL none 0 0, vi ki 0] 24
  refine (HC.out _ (HP.out.below B0.out.1)).mono ?_
  rintro e W1 ⟨hk, ho⟩
  have hz1 : w.heap.size + 1 ≤ W1.heap.size := hzk hk
  have K1 := kpt B0 hk
  have H1_0 := bxk hk B0 0
  clear B0
  obtain ⟨hf, rfl⟩ := ho
  have HF := hZz hf
  clear hf hk
  have HS0 : Hid (CF g w W1.heap.size d ea er (W1.alloc (.cells #[vi ki 0, vS ⟨#[]⟩, vL none 0 0, vi ki 0] 24))) := ⟨K1.out.alloc _, H1_0.out.alloc _, Bx.new W1 [vi ki 0, vS ⟨#[]⟩, vL none 0 0, vi ki 0] _, HF.out.keep (by simp) (Below.heap_alloc _ _ _ (by obtain ⟨_, h, _⟩ := HF.out; exact h.1))⟩
  obtain ⟨B, hB⟩ : ∃ B, B = W1.heap.size := ⟨_, rfl⟩
  have hB1 : w.heap.size + 1 ≤ B := by omega
  clear K1 H1_0 hz1 HF HC HP
  go_wp2_with fail
  rw [← hB] at HS0
  rw [← hB]
  clear hB
  go_loopw [] (fun W => Hid (CF g w B d ea er W)) (fun _ => 0)
  case atStart => exact HS0.out
  case round =>
   have HW := hrel
   clear HS0
   have K9 := hZz HW.out.1
   have H9 := hZz HW.out.2.1
   have H8 := hZz HW.out.2.2.1
   have HF := hZz HW.out.2.2.2
   clear HW
   obtain ⟨x0, x1, x2, x3⟩ := H8.out.d4
   obtain ⟨y0', y1', y2', y3', HFK, HFO, HFS, r0, r1, r2, r3, s0, s1, s2, s3, hrw'⟩ := fin9 (vi ki 0) (vS ⟨#[]⟩) (vL none 0 0) (vi ki 0) K9.out (by omega) (H9.out)
   go_wp2
   refine bodyPost_ret (v := .tuple #[.agg #[vi ki 0, vS ⟨#[]⟩, vL none 0 0, vi ki 0], .bool false]) (by simp [results, Tryd.results94, go_sem, y0', y1', y2', y3']) rfl ⟨HFK.out, by rw [HR0.out]; exact ⟨PF.off HF.out HFO.out HFS.out (by omega), rfl⟩⟩
 | ok n0 l0 =>
  rw [hr] at HC hR
  have hls := par_less hok hL hf1 hr
  have hls2 := hls.2
  simp only [most, zl] at hls2
  have HE0 := hZz hls.1
  have HR0 := hZz hR.symm
  clear hR hr hls
  have HP : Hid _ := h
  have hg := h.lt
  have hbl := h.tr.1
  clear h
  go_enter Tryd.func94, Tryd.ntmps94
  go_wp2_with fail
  have B0 := bsm1 w [vi ki 0, vS ⟨#[]⟩, vL none 0 0, vi ki 0] 24
  refine (HC.out _ (HP.out.below B0.out.1)).mono ?_
  rintro e W1 ⟨hk, ho⟩
  have hz1 : w.heap.size + 1 ≤ W1.heap.size := hzk hk
  have K1 := kpt B0 hk
  have H1_0 := bxk hk B0 0
  clear B0
  obtain ⟨hps, hend, k0, u0, sq0, sn0, sc0, a0, rfl, hnd⟩ := ho
  have HS0 : Hid (CS g b cap T w W1.heap.size d l0 n0 (vi ki k0) (vS u0) (vL sq0 sn0 sc0) (vi ki a0) (W1.alloc (.cells #[vi ki k0, vS u0, vL sq0 sn0 sc0, vi ki a0] 24))) := by
   refine ⟨K1.out.alloc _, H1_0.out.alloc _, Bx.new W1 [vi ki k0, vS u0, vL sq0 sn0 sc0, vi ki a0] _, hps.below ((Below.refl _ _).alloc (Nat.le_refl _) _), ?_, by omega, hend⟩
   exact NdAt.keep (by simp) (fun c hc hl => ⟨⟨by (try simp at hc); omega, by omega⟩, Below.heap_alloc _ _ _ hl⟩) _ _ hnd
  obtain ⟨B, hB⟩ : ∃ B, B = W1.heap.size := ⟨_, rfl⟩
  have hB1 : w.heap.size + 1 ≤ B := by omega
  clear hps hend hnd hk K1 H1_0 hz1 HC HP
  go_wp2_with fail
  rw [← hB] at HS0
  rw [← hB]
  clear hB
  go_loopw [] (fun W => ∃ (n : Nd) (l1 : List Tk) (f1 : Nat) (k : Int) (t : ByteArray) (sq : Option Addr) (sn sc : Nat) (a : Int), Hid (CS g b cap T w B d l1 n (vi ki k) (vS t) (vL sq sn sc) (vi ki a) W) ∧ l1.length ≤ N ∧ Hid (10 * l1.length + 1 ≤ f1) ∧ Hid (par f1 (.cs n) d l1 = R)) (fun W => lenAt g W)
  case atStart => exact ⟨n0, l0, f, _, _, _, _, _, _, HS0, by simp only [zl] at hN; omega, by show _ ≤ _; omega, HR0⟩
  case round =>
   clear HS0 HR0 HE0
   obtain ⟨n, l1, f1, k, t, sq, sn, sc, a, KK, hN1, HF0, HR0⟩ := hrel
   ·obtain ⟨q, l, rfl⟩ := KK.out.2.2.2.2.2.2.cons
    obtain ⟨f1, rfl⟩ : ∃ f', f1 = f' + 1 := ⟨f1 - 1, by have := HF0.out; omega⟩
    have HPL := hZz KK.out.2.2.2.1.len
    have hwr : B < wr.heap.size := KK.out.2.2.1.1
    have hwr2 : w.heap.size < wr.heap.size := KK.out.2.1.1
    have HF2 : Hid (10 * l.length + 10 ≤ f1) := by have := HF0.out; simp only [zl] at this; show _ ≤ _; omega
    clear HF0
    have B2 := bsm1 wr [vi ki 5, vS ⟨#[58, 58]⟩] 79
    go_wp2_with fail
    refine (is_any g b cap T q l d [(5, b2 58 58)] wr.heap.size 1 _ (KK.out.2.2.2.1.below B2.out.1) (by simp) (by omega) (by simp) B2.out.first).mono ?_
    rintro e W2 ⟨rfl, hb⟩
    have KB2 : Hid (CS g b cap T w B d (q :: l) n (vi ki k) (vS t) (vL sq sn sc) (vi ki a) W2) := KK.out.kp hg ((Kp.of B2.out.1).trans (Kp.of hb)) ((KK.out.2.2.2.1.below B2.out.1).below hb) KK.out.2.2.2.2.2.2
    have hwr3 : B < W2.heap.size := KB2.out.2.2.1.1
    have hwr4 : w.heap.size < W2.heap.size := KB2.out.2.1.1
    clear hb KK B2
    by_cases hi : isT q [(5, b2 58 58)] = true
    ·rw [hi]
     have hfd1 : ∀ W : World, (Instr.field 81 (.agg #[vi ki q.1, vS q.2.1, vi ki q.2.2]) 1).run Tryd.prog W = .ok (vi ki q.2.2) W := fun W => by kernel_rfl
     have hk0 : q.1 ≠ 0 := isT_kind hi (by simp)
     have hEl : EndL l := EndL.tail KB2.out.2.2.2.2.2.2 hk0
     obtain ⟨u, l1, rfl⟩ := hEl.cons
     have HE2 := hZz hEl
     clear hEl
     go_wp2_with fail
     refine (next_any g b cap T q u l1 d _ KB2.out.2.2.2.1).mono ?_
     rintro e W3 ⟨rfl, hk3, hp3⟩
     have KC : Hid (CS g b cap T w B d (u :: l1) n (vi ki k) (vS t) (vL sq sn sc) (vi ki a) W3) := KB2.out.kp hg hk3 hp3 HE2.out
     have hwr5 : B < W3.heap.size := KC.out.2.2.1.1
     have hwr6 : w.heap.size < W3.heap.size := KC.out.2.1.1
     clear KB2 hk3 hp3
     obtain ⟨⟨pre, pa, pe, he, hbx⟩, htr, hne, hle, hmost⟩ := KC.out.2.2.2.1
     have cg := hbx.c 0 rfl
     obtain ⟨t0, t1, t2⟩ := htr.at he
     have hgW := hbx.1
     have hbW := htr.1
     have hlen : T.length = pre.length + l1.length + 1 := by rw [he]; simp <;> omega
     unfold maxLen at hmost
     have HEQ : Hid _ := he
     clear hbx htr he
     go_wp2_with fail
     refine (isFree_any u.1 u.2.1 u.2.2 _).mono ?_
     rintro e W4 ⟨rfl, hb4⟩
     have K4 : Hid (CS g b cap T w B d (u :: l1) n (vi ki k) (vS t) (vL sq sn sc) (vi ki a) W4) := KC.out.kp hg (Kp.of hb4) (KC.out.2.2.2.1.below hb4) HE2.out
     clear hb4 KC cg t0 t1 t2 hgW hbW hwr5 hwr6 HEQ hlen hmost hle hne
     rw [show (u.1, u.2.1, u.2.2) = u from rfl]
     have hw41 : B < W4.heap.size := K4.out.2.2.1.1
     have hw42 : w.heap.size < W4.heap.size := K4.out.2.1.1
     by_cases ht : free u = true
     ·have hk1 : u.1 ≠ 0 := free_kind ht
      have hEl : EndL l1 := EndL.tail HE2.out hk1
      obtain ⟨y, l2, rfl⟩ := hEl.cons
      have HE3 := hZz hEl
      clear hEl
      have eL : par (f1 + 1) (.cs n) d (q :: u :: y :: l2) = par f1 (.cs (.mk 10 u.2.1 [n] q.2.2)) d (y :: l2) := by rw [par_succ]; unfold pst; dsimp only; rw [if_pos hi, if_pos ht]
      have hR1 := HR0.out
      rw [eL] at hR1
      have HR1 := hZz hR1
      have HF1 : Hid (10 * (y :: l2).length + 1 ≤ f1) := by have := HF2.out; simp only [zl] at this ⊢; show _ ≤ _; omega
      simp only [zl] at HPL hN1
      clear eL hR1 HR0
      have KK := hZz K4
      clear K4
      have hfd2 : ∀ W : World, (Instr.field 81 (.agg #[vi ki u.1, vS u.2.1, vi ki u.2.2]) 0).run Tryd.prog W = .ok (.agg #[vi ki u.1, vS u.2.1]) W := fun W => by kernel_rfl
      have hfd3 : ∀ W : World, (Instr.field 79 (.agg #[vi ki u.1, vS u.2.1]) 1).run Tryd.prog W = .ok (vS u.2.1) W := fun W => by kernel_rfl
      rw [ht]
      go_wp2_with fail
      refine wp_region_held_drew (S := fun _ => True) (by kernel_rfl) trivial (fun hHeld => ?_)
      refine tks 0 ?_
      simp only [za, zb, zc, zd]
      refine tks 6 ?_
      simp only [za, zb, zc, zd]
      refine rd2 1 4 (fun K hK => ?_) (fun K hK => ?_)
      ·
       go_simp
       refine (next_any g b cap T u y l2 d _ (by first | exact KK.out.2.2.2.1 | exact KK.out.drew.2.2.2.1)).mono ?_
       rintro e v1 ⟨rfl, hk1, hp1⟩
       refine hK.out _ _ trivial (fun hHeld => ?_)
       replace KK : Hid (CS g b cap T w B d (y :: l2) n (vi ki k) (vS t) (vL sq sn sc) (vi ki a) v1) := by first | exact KK.out.kp hg hk1 hp1 HE3.out | exact KK.out.drew.kp hg hk1 hp1 HE3.out
       clear hK K hk1 hp1
       refine tks 2 ?_
       simp only [za, zb, zc, zd]
       refine tks 3 ?_
       simp only [za, zb, zc, zd]
       refine rd 4 (fun K hK => ?_)
       obtain ⟨q0, q1, q2, q3⟩ := KK.out.2.2.1.d4
       go_simp
       refine hK.out _ _ trivial (fun hHeld => ?_)
       clear hK K q0 q1 q2 q3
       refine rd 5 (fun K hK => ?_)
       have hwB : B < v1.heap.size := by first | exact KK.out.2.2.1.1 | exact KK.out.drew.2.2.1.1
       go_simp
       refine hK.out _ _ trivial (fun hHeld => ?_)
       obtain ⟨BR, hBR⟩ : ∃ BR, BR = v1.heap.size := ⟨_, rfl⟩
       have BN := bsm1 v1 [vi ki k, vS t, vL sq sn sc, vi ki a] 24
       have KN : Hid (CS g b cap T w B d (y :: l2) n (vi ki k) (vS t) (vL sq sn sc) (vi ki a) (v1.alloc (.cells #[vi ki k, vS t, vL sq sn sc, vi ki a] 24)) ∧ Bx (v1.alloc (.cells #[vi ki k, vS t, vL sq sn sc, vi ki a] 24)) BR [vi ki k, vS t, vL sq sn sc, vi ki a]) := ⟨KK.out.kp hg (Kp.of BN.out.1) (KK.out.2.2.2.1.below BN.out.1) HE3.out, by rw [hBR]; exact BN.out.first⟩
       refine gen_anyH (fun V' => CS g b cap T w B d (y :: l2) n (vi ki k) (vS t) (vL sq sn sc) (vi ki a) V' ∧ Bx V' BR [vi ki k, vS t, vL sq sn sc, vi ki a]) (by first | exact KN.out | exact ⟨KN.out.1.drew, KN.out.2⟩) ?_
       have hBR1 : w.heap.size + 1 ≤ BR := by omega
       have hBR2 : BR ≠ B := by omega
       rw [← hBR]
       clear hHeld hK K KN BN hBR hwB KK
       rintro v3 ⟨kk1, kk2⟩
       have KK := hZz kk1
       have HRW := hZz kk2
       clear kk1 kk2
       have hHeld : True := trivial
       refine tks 7 ?_
       simp only [za, zb, zc, zd]
       refine rd 8 (fun K hK => ?_)
       have hnn : NdAt (fun c => (w.heap.size + 1 ≤ c ∧ c ≠ B) ∨ v3.heap.size ≤ c) v3 (.mk 10 u.2.1 [n] q.2.2) [vi ki 10, vS u.2.1, vL (some ⟨BR, 0, none⟩) 1 1, vi ki q.2.2] := NdAt.row (ks := [n]) (by simp) (by simp) (by unfold maxLen; omega) (.inl ⟨hBR1, hBR2⟩) HRW.out.1 (RwAt.one HRW.out (NdAt.keep (Nat.le_refl _) (fun c hc _ => ⟨.inl hc, rfl⟩) _ _ KK.out.2.2.2.2.1))
       have KP : Hid (CS g b cap T w B d (y :: l2) (.mk 10 u.2.1 [n] q.2.2) (vi ki 10) (vS u.2.1) (vL (some ⟨BR, 0, none⟩) 1 1) (vi ki q.2.2) (v3.setCells B 0 [vi ki 10, vS u.2.1, vL (some ⟨BR, 0, none⟩) 1 1, vi ki q.2.2])) := KK.out.put hg hbl (Kp.refl g _) KK.out.2.2.2.1 HE3.out hnn
       simp only [World.setCells, Nat.zero_add, Nat.reduceAdd] at KP
       obtain ⟨q0, q1, q2, q3, z0, z1, z2, z3⟩ := KK.out.2.2.1.cf4
       have hB9 := KK.out.2.2.1.1
       go_simp
       refine hK.out _ _ trivial (fun hHeld => ?_)
       refine gen_anyH (CS g b cap T w B d (y :: l2) (.mk 10 u.2.1 [n] q.2.2) (vi ki 10) (vS u.2.1) (vL (some ⟨BR, 0, none⟩) 1 1) (vi ki q.2.2)) (by first | exact KP.out | exact KP.out.drew) ?_
       clear hHeld hK K KP q0 q1 q2 q3 z0 z1 z2 z3 hB9 KK hnn HRW
       intro v4 KK'
       have KK := hZz KK'
       clear KK'
       have hHeld : True := trivial
       refine dn ?_
       go_wp2_with fail
       exact ⟨⟨_, y :: l2, f1, _, _, _, _, _, _, KK, by simp only [zl]; omega, HF1.out, HR1.out⟩, by rw [KK.out.2.2.2.1.len, HPL.out]; simp only [zl]; omega⟩
      ·
       obtain ⟨q0, q1, q2, q3⟩ := KK.out.2.2.1.d4
       go_simp
       refine hK.out _ _ trivial (fun hHeld => ?_)
       clear hK K q0 q1 q2 q3
       refine rd2 1 5 (fun K hK => ?_) (fun K hK => ?_)
       ·
        go_simp
        refine (next_any g b cap T u y l2 d _ (by first | exact KK.out.2.2.2.1 | exact KK.out.drew.2.2.2.1)).mono ?_
        rintro e v6 ⟨rfl, hk6, hp6⟩
        refine hK.out _ _ trivial (fun hHeld => ?_)
        replace KK : Hid (CS g b cap T w B d (y :: l2) n (vi ki k) (vS t) (vL sq sn sc) (vi ki a) v6) := by first | exact KK.out.kp hg hk6 hp6 HE3.out | exact KK.out.drew.kp hg hk6 hp6 HE3.out
        clear hK K hk6 hp6
        refine tks 2 ?_
        simp only [za, zb, zc, zd]
        refine tks 3 ?_
        simp only [za, zb, zc, zd]
        refine rd 5 (fun K hK => ?_)
        have hwB : B < v6.heap.size := by first | exact KK.out.2.2.1.1 | exact KK.out.drew.2.2.1.1
        go_simp
        refine hK.out _ _ trivial (fun hHeld => ?_)
        obtain ⟨BR, hBR⟩ : ∃ BR, BR = v6.heap.size := ⟨_, rfl⟩
        have BN := bsm1 v6 [vi ki k, vS t, vL sq sn sc, vi ki a] 24
        have KN : Hid (CS g b cap T w B d (y :: l2) n (vi ki k) (vS t) (vL sq sn sc) (vi ki a) (v6.alloc (.cells #[vi ki k, vS t, vL sq sn sc, vi ki a] 24)) ∧ Bx (v6.alloc (.cells #[vi ki k, vS t, vL sq sn sc, vi ki a] 24)) BR [vi ki k, vS t, vL sq sn sc, vi ki a]) := ⟨KK.out.kp hg (Kp.of BN.out.1) (KK.out.2.2.2.1.below BN.out.1) HE3.out, by rw [hBR]; exact BN.out.first⟩
        refine gen_anyH (fun V' => CS g b cap T w B d (y :: l2) n (vi ki k) (vS t) (vL sq sn sc) (vi ki a) V' ∧ Bx V' BR [vi ki k, vS t, vL sq sn sc, vi ki a]) (by first | exact KN.out | exact ⟨KN.out.1.drew, KN.out.2⟩) ?_
        have hBR1 : w.heap.size + 1 ≤ BR := by omega
        have hBR2 : BR ≠ B := by omega
        rw [← hBR]
        clear hHeld hK K KN BN hBR hwB KK
        rintro v7 ⟨kk1, kk2⟩
        have KK := hZz kk1
        have HRW := hZz kk2
        clear kk1 kk2
        have hHeld : True := trivial
        refine tks 7 ?_
        simp only [za, zb, zc, zd]
        refine rd 8 (fun K hK => ?_)
        have hnn : NdAt (fun c => (w.heap.size + 1 ≤ c ∧ c ≠ B) ∨ v7.heap.size ≤ c) v7 (.mk 10 u.2.1 [n] q.2.2) [vi ki 10, vS u.2.1, vL (some ⟨BR, 0, none⟩) 1 1, vi ki q.2.2] := NdAt.row (ks := [n]) (by simp) (by simp) (by unfold maxLen; omega) (.inl ⟨hBR1, hBR2⟩) HRW.out.1 (RwAt.one HRW.out (NdAt.keep (Nat.le_refl _) (fun c hc _ => ⟨.inl hc, rfl⟩) _ _ KK.out.2.2.2.2.1))
        have KP : Hid (CS g b cap T w B d (y :: l2) (.mk 10 u.2.1 [n] q.2.2) (vi ki 10) (vS u.2.1) (vL (some ⟨BR, 0, none⟩) 1 1) (vi ki q.2.2) (v7.setCells B 0 [vi ki 10, vS u.2.1, vL (some ⟨BR, 0, none⟩) 1 1, vi ki q.2.2])) := KK.out.put hg hbl (Kp.refl g _) KK.out.2.2.2.1 HE3.out hnn
        simp only [World.setCells, Nat.zero_add, Nat.reduceAdd] at KP
        obtain ⟨q0, q1, q2, q3, z0, z1, z2, z3⟩ := KK.out.2.2.1.cf4
        have hB9 := KK.out.2.2.1.1
        go_simp
        refine hK.out _ _ trivial (fun hHeld => ?_)
        refine gen_anyH (CS g b cap T w B d (y :: l2) (.mk 10 u.2.1 [n] q.2.2) (vi ki 10) (vS u.2.1) (vL (some ⟨BR, 0, none⟩) 1 1) (vi ki q.2.2)) (by first | exact KP.out | exact KP.out.drew) ?_
        clear hHeld hK K KP q0 q1 q2 q3 z0 z1 z2 z3 hB9 KK hnn HRW
        intro v8 KK'
        have KK := hZz KK'
        clear KK'
        have hHeld : True := trivial
        refine dn ?_
        go_wp2_with fail
        exact ⟨⟨_, y :: l2, f1, _, _, _, _, _, _, KK, by simp only [zl]; omega, HF1.out, HR1.out⟩, by rw [KK.out.2.2.2.1.len, HPL.out]; simp only [zl]; omega⟩
       ·
        have hwB : B < W4.heap.size := by first | exact KK.out.2.2.1.1 | exact KK.out.drew.2.2.1.1
        go_simp
        refine hK.out _ _ trivial (fun hHeld => ?_)
        obtain ⟨BR, hBR⟩ : ∃ BR, BR = W4.heap.size := ⟨_, rfl⟩
        have BN := bsm1 W4 [vi ki k, vS t, vL sq sn sc, vi ki a] 24
        have KN : Hid (CS g b cap T w B d (u :: y :: l2) n (vi ki k) (vS t) (vL sq sn sc) (vi ki a) (W4.alloc (.cells #[vi ki k, vS t, vL sq sn sc, vi ki a] 24)) ∧ Bx (W4.alloc (.cells #[vi ki k, vS t, vL sq sn sc, vi ki a] 24)) BR [vi ki k, vS t, vL sq sn sc, vi ki a]) := ⟨KK.out.kp hg (Kp.of BN.out.1) (KK.out.2.2.2.1.below BN.out.1) HE2.out, by rw [hBR]; exact BN.out.first⟩
        refine gen_anyH (fun V' => CS g b cap T w B d (u :: y :: l2) n (vi ki k) (vS t) (vL sq sn sc) (vi ki a) V' ∧ Bx V' BR [vi ki k, vS t, vL sq sn sc, vi ki a]) (by first | exact KN.out | exact ⟨KN.out.1.drew, KN.out.2⟩) ?_
        have hBR1 : w.heap.size + 1 ≤ BR := by omega
        have hBR2 : BR ≠ B := by omega
        rw [← hBR]
        clear hHeld hK K KN BN hBR hwB KK
        rintro v9 ⟨kk1, kk2⟩
        have KK := hZz kk1
        have HRW := hZz kk2
        clear kk1 kk2
        have hHeld : True := trivial
        refine rd 1 (fun K hK => ?_)
        go_simp
        refine (next_any g b cap T u y l2 d _ (by first | exact KK.out.2.2.2.1 | exact KK.out.drew.2.2.2.1)).mono ?_
        rintro e v10 ⟨rfl, hk10, hp10⟩
        refine hK.out _ _ trivial (fun hHeld => ?_)
        have HRW2 : Hid (Bx v10 BR [vi ki k, vS t, vL sq sn sc, vi ki a]) := by first | exact hk10.bx HRW.out (by omega) | exact hk10.bx (W := v10) HRW.out (by omega)
        clear HRW
        have HRW := HRW2
        clear HRW2
        replace KK : Hid (CS g b cap T w B d (y :: l2) n (vi ki k) (vS t) (vL sq sn sc) (vi ki a) v10) := by first | exact KK.out.kp hg hk10 hp10 HE3.out | exact KK.out.drew.kp hg hk10 hp10 HE3.out
        clear hK K hk10 hp10
        refine tks 2 ?_
        simp only [za, zb, zc, zd]
        refine tks 3 ?_
        simp only [za, zb, zc, zd]
        refine tks 7 ?_
        simp only [za, zb, zc, zd]
        refine rd 8 (fun K hK => ?_)
        have hnn : NdAt (fun c => (w.heap.size + 1 ≤ c ∧ c ≠ B) ∨ v10.heap.size ≤ c) v10 (.mk 10 u.2.1 [n] q.2.2) [vi ki 10, vS u.2.1, vL (some ⟨BR, 0, none⟩) 1 1, vi ki q.2.2] := NdAt.row (ks := [n]) (by simp) (by simp) (by unfold maxLen; omega) (.inl ⟨hBR1, hBR2⟩) HRW.out.1 (RwAt.one HRW.out (NdAt.keep (Nat.le_refl _) (fun c hc _ => ⟨.inl hc, rfl⟩) _ _ KK.out.2.2.2.2.1))
        have KP : Hid (CS g b cap T w B d (y :: l2) (.mk 10 u.2.1 [n] q.2.2) (vi ki 10) (vS u.2.1) (vL (some ⟨BR, 0, none⟩) 1 1) (vi ki q.2.2) (v10.setCells B 0 [vi ki 10, vS u.2.1, vL (some ⟨BR, 0, none⟩) 1 1, vi ki q.2.2])) := KK.out.put hg hbl (Kp.refl g _) KK.out.2.2.2.1 HE3.out hnn
        simp only [World.setCells, Nat.zero_add, Nat.reduceAdd] at KP
        obtain ⟨q0, q1, q2, q3, z0, z1, z2, z3⟩ := KK.out.2.2.1.cf4
        have hB9 := KK.out.2.2.1.1
        go_simp
        refine hK.out _ _ trivial (fun hHeld => ?_)
        refine gen_anyH (CS g b cap T w B d (y :: l2) (.mk 10 u.2.1 [n] q.2.2) (vi ki 10) (vS u.2.1) (vL (some ⟨BR, 0, none⟩) 1 1) (vi ki q.2.2)) (by first | exact KP.out | exact KP.out.drew) ?_
        clear hHeld hK K KP q0 q1 q2 q3 z0 z1 z2 z3 hB9 KK hnn HRW
        intro v11 KK'
        have KK := hZz KK'
        clear KK'
        have hHeld : True := trivial
        refine dn ?_
        go_wp2_with fail
        exact ⟨⟨_, y :: l2, f1, _, _, _, _, _, _, KK, by simp only [zl]; omega, HF1.out, HR1.out⟩, by rw [KK.out.2.2.2.1.len, HPL.out]; simp only [zl]; omega⟩
     ·rw [Bool.not_eq_true] at ht
      have eL : par (f1 + 1) (.cs n) d (q :: u :: l1) = .no u.2.2 30 := by rw [par_succ]; unfold pst; dsimp only; rw [if_pos hi, ht]; rfl
      have hR1 := HR0.out
      rw [eL] at hR1
      have HR1 := hZz hR1.symm
      clear eL hR1 HR0
      rw [ht]
      go_wp2_with fail
      refine (wrong_any g b cap T u l1 d _ K4.out.2.2.2.1).mono ?_
      rintro e W6 ⟨rfl, hk6, hf6⟩
      have K9 : Hid (Kp g w W6) := K4.out.1.trans hk6
      have H9 : Hid (Bx W6 w.heap.size _) := hk6.bx K4.out.2.1 (by omega)
      have HF6 := hZz hf6
      clear hk6 hf6
      obtain ⟨y0', y1', y2', y3', HFK, HFO, HFS, r0, r1, r2, r3, s0, s1, s2, s3, hrw'⟩ := fin9 (vi ki 0) (vS ⟨#[]⟩) (vL none 0 0) (vi ki 0) K9.out (by omega) (H9.out)
      go_wp2
      refine bodyPost_ret (v := .tuple #[.agg #[vi ki 0, vS ⟨#[]⟩, vL none 0 0, vi ki 0], .bool false]) (by simp [results, Tryd.results94, go_sem, y0', y1', y2', y3']) rfl ⟨HFK.out, by rw [HR1.out]; exact ⟨PF.off HF6.out HFO.out HFS.out (by omega), rfl⟩⟩
    ·rw [Bool.not_eq_true] at hi
     rw [hi]
     have eL : par (f1 + 1) (.cs n) d (q :: l) = .ok n (q :: l) := by rw [par_succ]; unfold pst; dsimp only; rw [hi]; rfl
     have hR1 := HR0.out
     rw [eL] at hR1
     have HR1 := hZz hR1.symm
     have K9 := hZz KB2.out.1
     have H9 := hZz KB2.out.2.1
     have H8 := hZz KB2.out.2.2.1
     clear eL hR1 HR0
     obtain ⟨x0, x1, x2, x3⟩ := H8.out.d4
     obtain ⟨y0', y1', y2', y3', HFK, HFO, HFS, r0, r1, r2, r3, s0, s1, s2, s3, hrw'⟩ := fin9 (vi ki k) (vS t) (vL sq sn sc) (vi ki a) K9.out (by omega) (H9.out)
     go_wp2
     refine bodyPost_ret (v := .tuple #[.agg #[vi ki k, vS t, vL sq sn sc, vi ki a], .bool true]) (by simp [results, Tryd.results94, go_sem, y0', y1', y2', y3']) rfl ⟨HFK.out, by rw [HR1.out]; exact ⟨KB2.out.2.2.2.1.off HFO.out HFS.out (by omega) (by omega), KB2.out.2.2.2.2.2.2, _, _, _, _, _, _, rfl, KB2.out.2.2.2.2.1.off HFO.out HFS.out (fun c hc => ⟨by omega, by omega⟩)⟩⟩
def innR : PR → PR
 | .no a e => .no a e
 | .ok n [] => .no 0 0
 | .ok n (q :: l1) => if isT q [(5, b1 41)] then .ok n l1 else .no q.2.2 30
theorem inner_no (g b cap : Nat) (T : List Tk) (L : List Tk) (d : Nat) (ea er : Int) (HC : Hid (∀ V : World, PS g b cap T V L d → Calls Tryd.prog 27 #[.pointer (some ⟨g, 0, none⟩)] V fun e w' => Kp g V w' ∧ Out g b cap T (fun c => V.heap.size ≤ c) w' d e (.no ea er))) (w : World) (h : PS g b cap T w L d) :
  Calls Tryd.prog 98 #[.pointer (some ⟨g, 0, none⟩)] w fun e w' => Kp g w w' ∧ Out g b cap T (fun c => w.heap.size ≤ c) w' d e (.no ea er) := by
 have HP : Hid _ := h
 have hg := h.lt
 have hbl := h.tr.1
 clear h
 go_enter Tryd.func98, Tryd.ntmps98
 go_wp2_with fail
 have B0 := bsm1 w [vi ki 0, vS ⟨#[]⟩, vL none 0 0, vi ki 0] 24
 refine (HC.out _ (HP.out.below B0.out.1)).mono ?_
 rintro e W1 ⟨hk, ho⟩
 have hz1 : w.heap.size + 1 ≤ W1.heap.size := hzk hk
 have K1 := kpt B0 hk
 have H1_0 := bxk hk B0 0
 clear B0
 obtain ⟨hf, rfl⟩ := ho
 have HF := hZz hf
 clear hf hk
 have hl1_0 := H1_0.out.1
 obtain ⟨y0', y1', y2', y3', HFK, HFO, HFS, r0, r1, r2, r3, s0, s1, s2, s3, hrw'⟩ := fin8 [.cells #[vi ki 0, vS ⟨#[]⟩, vL none 0 0, vi ki 0] 24] (vi ki 0) (vS ⟨#[]⟩) (vL none 0 0) (vi ki 0) K1.out (by omega) (H1_0.out)
 simp only [List.foldl, World.setCells, Nat.zero_add, Nat.reduceAdd] at y0' y1' y2' y3'
 go_wp2
 refine bodyPost_ret (v := .tuple #[.agg #[vi ki 0, vS ⟨#[]⟩, vL none 0 0, vi ki 0], .bool false]) (by simp [results, Tryd.results98, go_sem, y0', y1', y2', y3']) rfl ⟨HFK.out, PF.off HF.out HFO.out HFS.out (by omega), rfl⟩
theorem inner_bad (g b cap : Nat) (T : List Tk) (L : List Tk) (d : Nat) (n : Nd) (q : Tk) (l1 : List Tk) (hi : isT q [(5, b1 41)] = false) (HC : Hid (∀ V : World, PS g b cap T V L d → Calls Tryd.prog 27 #[.pointer (some ⟨g, 0, none⟩)] V fun e w' => Kp g V w' ∧ Out g b cap T (fun c => V.heap.size ≤ c) w' d e (.ok n (q :: l1)))) (w : World) (h : PS g b cap T w L d) :
  Calls Tryd.prog 98 #[.pointer (some ⟨g, 0, none⟩)] w fun e w' => Kp g w w' ∧ Out g b cap T (fun c => w.heap.size ≤ c) w' d e (.no q.2.2 30) := by
 have HP : Hid _ := h
 have hg := h.lt
 have hbl := h.tr.1
 clear h
 go_enter Tryd.func98, Tryd.ntmps98
 go_wp2_with fail
 have B0 := bsm1 w [vi ki 0, vS ⟨#[]⟩, vL none 0 0, vi ki 0] 24
 refine (HC.out _ (HP.out.below B0.out.1)).mono ?_
 rintro e W1 ⟨hk, ho⟩
 have hz1 : w.heap.size + 1 ≤ W1.heap.size := hzk hk
 have K1 := kpt B0 hk
 have H1_0 := bxk hk B0 0
 clear B0
 obtain ⟨hps, hend, k2, u2, sq2, sn2, sc2, a2, rfl, hnd⟩ := ho
 have HQ : Hid _ := hps
 have HE1 : Hid _ := hend
 have HM2 : Hid _ := hnd
 clear hps hend hnd hk
 have HM3 : Hid (NdAt (fun c => w.heap.size + 1 ≤ c) W1 n [vi ki k2, vS u2, vL sq2 sn2 sc2, vi ki a2]) := NdAt.keep (Nat.le_refl _) (fun c hc _ => ⟨by (try simp at hc ⊢); omega, rfl⟩) _ _ HM2.out
 clear HM2
 have hl1_0 := H1_0.out.1
 obtain ⟨c1_0_0, c1_0_1, c1_0_2, c1_0_3⟩ := H1_0.out.d4
 go_wp2_with fail
 have B1 := bsm1 W1 [vi ki k2, vS u2, vL sq2 sn2 sc2, vi ki a2] 24
 refine (take_no g b cap T q l1 d 5 (b1 41) _ (HQ.out.below B1.out.1) hi).mono ?_
 rintro e W2 ⟨rfl, hk, hf⟩
 have hz2 : W1.heap.size + 1 ≤ W2.heap.size := hzk hk
 have K2 : Hid (Kp g w W2) := (K1.out.trans (Kp.of B1.out.1)).trans hk
 have H2_0 := bxb hk H1_0 B1
 have H2_1 := bxk hk B1 0
 have HM3_2 : Hid (NdAt (fun c => w.heap.size + 1 ≤ c) W2 n [vi ki k2, vS u2, vL sq2 sn2 sc2, vi ki a2]) := (HM3.out.kp (g := g) (Kp.of B1.out.1) (fun c hc => ⟨hc, by (try simp at hc); omega⟩)).kp hk (fun c hc => ⟨hc, by (try simp at hc); omega⟩)
 clear hl1_0 c1_0_0 c1_0_1 c1_0_2 c1_0_3 B1 H1_0 HM3 K1
 have HF := hZz hf
 clear hf hk
 have hl2_0 := H2_0.out.1
 obtain ⟨y0', y1', y2', y3', HFK, HFO, HFS, r0, r1, r2, r3, s0, s1, s2, s3, hrw'⟩ := fin9 (vi ki 0) (vS ⟨#[]⟩) (vL none 0 0) (vi ki 0) K2.out (by omega) (H2_0.out)
 go_wp2
 refine bodyPost_ret (v := .tuple #[.agg #[vi ki 0, vS ⟨#[]⟩, vL none 0 0, vi ki 0], .bool false]) (by simp [results, Tryd.results98, go_sem, y0', y1', y2', y3']) rfl ⟨HFK.out, PF.off HF.out HFO.out HFS.out (by omega), rfl⟩
theorem inner_good (g b cap : Nat) (T : List Tk) (L : List Tk) (d : Nat) (n : Nd) (q y : Tk) (l1 : List Tk) (hi : isT q [(5, b1 41)] = true) (HEy : Hid (EndL (y :: l1))) (HC : Hid (∀ V : World, PS g b cap T V L d → Calls Tryd.prog 27 #[.pointer (some ⟨g, 0, none⟩)] V fun e w' => Kp g V w' ∧ Out g b cap T (fun c => V.heap.size ≤ c) w' d e (.ok n (q :: y :: l1)))) (w : World) (h : PS g b cap T w L d) :
  Calls Tryd.prog 98 #[.pointer (some ⟨g, 0, none⟩)] w fun e w' => Kp g w w' ∧ Out g b cap T (fun c => w.heap.size ≤ c) w' d e (.ok n (y :: l1)) := by
 have HP : Hid _ := h
 have hg := h.lt
 have hbl := h.tr.1
 clear h
 go_enter Tryd.func98, Tryd.ntmps98
 go_wp2_with fail
 have B0 := bsm1 w [vi ki 0, vS ⟨#[]⟩, vL none 0 0, vi ki 0] 24
 refine (HC.out _ (HP.out.below B0.out.1)).mono ?_
 rintro e W1 ⟨hk, ho⟩
 have hz1 : w.heap.size + 1 ≤ W1.heap.size := hzk hk
 have K1 := kpt B0 hk
 have H1_0 := bxk hk B0 0
 clear B0
 obtain ⟨hps, hend, k2, u2, sq2, sn2, sc2, a2, rfl, hnd⟩ := ho
 have HQ : Hid _ := hps
 have HE1 : Hid _ := hend
 have HM2 : Hid _ := hnd
 clear hps hend hnd hk
 have HM3 : Hid (NdAt (fun c => w.heap.size + 1 ≤ c) W1 n [vi ki k2, vS u2, vL sq2 sn2 sc2, vi ki a2]) := NdAt.keep (Nat.le_refl _) (fun c hc _ => ⟨by (try simp at hc ⊢); omega, rfl⟩) _ _ HM2.out
 clear HM2
 have hl1_0 := H1_0.out.1
 obtain ⟨c1_0_0, c1_0_1, c1_0_2, c1_0_3⟩ := H1_0.out.d4
 go_wp2_with fail
 have B1 := bsm1 W1 [vi ki k2, vS u2, vL sq2 sn2 sc2, vi ki a2] 24
 refine (take_yes g b cap T q l1 d 5 (b1 41) _ y (HQ.out.below B1.out.1) hi).mono ?_
 rintro e W2 ⟨rfl, hk, hp⟩
 have hz2 : W1.heap.size + 1 ≤ W2.heap.size := hzk hk
 have K2 : Hid (Kp g w W2) := (K1.out.trans (Kp.of B1.out.1)).trans hk
 have H2_0 := bxb hk H1_0 B1
 have H2_1 := bxk hk B1 0
 have HM3_2 : Hid (NdAt (fun c => w.heap.size + 1 ≤ c) W2 n [vi ki k2, vS u2, vL sq2 sn2 sc2, vi ki a2]) := (HM3.out.kp (g := g) (Kp.of B1.out.1) (fun c hc => ⟨hc, by (try simp at hc); omega⟩)).kp hk (fun c hc => ⟨hc, by (try simp at hc); omega⟩)
 clear hl1_0 c1_0_0 c1_0_1 c1_0_2 c1_0_3 B1 H1_0 HM3 K1
 have Q2' : Hid _ := hp
 clear hp hk
 have hl2_0 := H2_0.out.1
 obtain ⟨c2_0_0, c2_0_1, c2_0_2, c2_0_3, z2_0_0, z2_0_1, z2_0_2, z2_0_3⟩ := H2_0.out.cf4
 have hl2_1 := H2_1.out.1
 obtain ⟨c2_1_0, c2_1_1, c2_1_2, c2_1_3⟩ := H2_1.out.d4
 obtain ⟨y0', y1', y2', y3', HFK, HFO, HFS, r0, r1, r2, r3, s0, s1, s2, s3, hrw'⟩ := fin9 (vi ki k2) (vS u2) (vL sq2 sn2 sc2) (vi ki a2) K2.out (by omega) (H2_0.out)
 go_wp2
 refine bodyPost_ret (v := .tuple #[.agg #[vi ki k2, vS u2, vL sq2 sn2 sc2, vi ki a2], .bool true]) (by simp [results, Tryd.results98, go_sem, y0', y1', y2', y3']) rfl ⟨HFK.out, Q2'.out.off HFO.out HFS.out (by omega) (by omega), HEy.out, _, _, _, _, _, _, rfl, HM3_2.out.off HFO.out HFS.out (fun c hc => ⟨by (try simp at hc ⊢); omega, by (try simp at hc); omega⟩)⟩
theorem whole_no (g b cap : Nat) (T : List Tk) (L : List Tk) (d : Nat) (ea er : Int) (HC : Hid (∀ V : World, PS g b cap T V L d → Calls Tryd.prog 27 #[.pointer (some ⟨g, 0, none⟩)] V fun e w' => Kp g V w' ∧ Out g b cap T (fun c => V.heap.size ≤ c) w' d e (.no ea er))) (w : World) (h : PS g b cap T w L d) :
  Calls Tryd.prog 15 #[.pointer (some ⟨g, 0, none⟩)] w fun e w' => Kp g w w' ∧ Out g b cap T (fun c => w.heap.size ≤ c) w' d e (.no ea er) := by
 have HP : Hid _ := h
 have hg := h.lt
 have hbl := h.tr.1
 clear h
 go_enter Tryd.func15, Tryd.ntmps15
 go_wp2_with fail
 have B0 := bsm1 w [vi ki 0, vS ⟨#[]⟩, vL none 0 0, vi ki 0] 24
 refine (HC.out _ (HP.out.below B0.out.1)).mono ?_
 rintro e W1 ⟨hk, ho⟩
 have hz1 : w.heap.size + 1 ≤ W1.heap.size := hzk hk
 have K1 := kpt B0 hk
 have H1_0 := bxk hk B0 0
 clear B0
 obtain ⟨hf, rfl⟩ := ho
 have HF := hZz hf
 clear hf hk
 have hl1_0 := H1_0.out.1
 obtain ⟨y0', y1', y2', y3', HFK, HFO, HFS, r0, r1, r2, r3, s0, s1, s2, s3, hrw'⟩ := fin8 [.cells #[vi ki 0, vS ⟨#[]⟩, vL none 0 0, vi ki 0] 24] (vi ki 0) (vS ⟨#[]⟩) (vL none 0 0) (vi ki 0) K1.out (by omega) (H1_0.out)
 simp only [List.foldl, World.setCells, Nat.zero_add, Nat.reduceAdd] at y0' y1' y2' y3'
 go_wp2
 refine bodyPost_ret (v := .tuple #[.agg #[vi ki 0, vS ⟨#[]⟩, vL none 0 0, vi ki 0], .bool false]) (by simp [results, Tryd.results15, go_sem, y0', y1', y2', y3']) rfl ⟨HFK.out, PF.off HF.out HFO.out HFS.out (by omega), rfl⟩
theorem whole_bad (g b cap : Nat) (T : List Tk) (L : List Tk) (d : Nat) (n : Nd) (q : Tk) (l1 : List Tk) (hi : isT q [(0, ⟨#[]⟩)] = false) (HC : Hid (∀ V : World, PS g b cap T V L d → Calls Tryd.prog 27 #[.pointer (some ⟨g, 0, none⟩)] V fun e w' => Kp g V w' ∧ Out g b cap T (fun c => V.heap.size ≤ c) w' d e (.ok n (q :: l1)))) (w : World) (h : PS g b cap T w L d) :
  Calls Tryd.prog 15 #[.pointer (some ⟨g, 0, none⟩)] w fun e w' => Kp g w w' ∧ Out g b cap T (fun c => w.heap.size ≤ c) w' d e (.no q.2.2 30) := by
 have HP : Hid _ := h
 have hg := h.lt
 have hbl := h.tr.1
 clear h
 go_enter Tryd.func15, Tryd.ntmps15
 go_wp2_with fail
 have B0 := bsm1 w [vi ki 0, vS ⟨#[]⟩, vL none 0 0, vi ki 0] 24
 refine (HC.out _ (HP.out.below B0.out.1)).mono ?_
 rintro e W1 ⟨hk, ho⟩
 have hz1 : w.heap.size + 1 ≤ W1.heap.size := hzk hk
 have K1 := kpt B0 hk
 have H1_0 := bxk hk B0 0
 clear B0
 obtain ⟨hps, hend, k2, u2, sq2, sn2, sc2, a2, rfl, hnd⟩ := ho
 have HQ : Hid _ := hps
 have HE1 : Hid _ := hend
 have HM2 : Hid _ := hnd
 clear hps hend hnd hk
 have HM3 : Hid (NdAt (fun c => w.heap.size + 1 ≤ c) W1 n [vi ki k2, vS u2, vL sq2 sn2 sc2, vi ki a2]) := NdAt.keep (Nat.le_refl _) (fun c hc _ => ⟨by (try simp at hc ⊢); omega, rfl⟩) _ _ HM2.out
 clear HM2
 have hl1_0 := H1_0.out.1
 obtain ⟨c1_0_0, c1_0_1, c1_0_2, c1_0_3⟩ := H1_0.out.d4
 go_wp2_with fail
 have B1 := bsm1 W1 [vi ki k2, vS u2, vL sq2 sn2 sc2, vi ki a2] 24
 refine (take_no g b cap T q l1 d 0 ⟨#[]⟩ _ (HQ.out.below B1.out.1) hi).mono ?_
 rintro e W2 ⟨rfl, hk, hf⟩
 have hz2 : W1.heap.size + 1 ≤ W2.heap.size := hzk hk
 have K2 : Hid (Kp g w W2) := (K1.out.trans (Kp.of B1.out.1)).trans hk
 have H2_0 := bxb hk H1_0 B1
 have H2_1 := bxk hk B1 0
 have HM3_2 : Hid (NdAt (fun c => w.heap.size + 1 ≤ c) W2 n [vi ki k2, vS u2, vL sq2 sn2 sc2, vi ki a2]) := (HM3.out.kp (g := g) (Kp.of B1.out.1) (fun c hc => ⟨hc, by (try simp at hc); omega⟩)).kp hk (fun c hc => ⟨hc, by (try simp at hc); omega⟩)
 clear hl1_0 c1_0_0 c1_0_1 c1_0_2 c1_0_3 B1 H1_0 HM3 K1
 have HF := hZz hf
 clear hf hk
 have hl2_0 := H2_0.out.1
 obtain ⟨y0', y1', y2', y3', HFK, HFO, HFS, r0, r1, r2, r3, s0, s1, s2, s3, hrw'⟩ := fin9 (vi ki 0) (vS ⟨#[]⟩) (vL none 0 0) (vi ki 0) K2.out (by omega) (H2_0.out)
 go_wp2
 refine bodyPost_ret (v := .tuple #[.agg #[vi ki 0, vS ⟨#[]⟩, vL none 0 0, vi ki 0], .bool false]) (by simp [results, Tryd.results15, go_sem, y0', y1', y2', y3']) rfl ⟨HFK.out, PF.off HF.out HFO.out HFS.out (by omega), rfl⟩
theorem whole_good (g b cap : Nat) (T : List Tk) (L : List Tk) (d : Nat) (n : Nd) (q : Tk) (hi : isT q [(0, ⟨#[]⟩)] = true) (HC : Hid (∀ V : World, PS g b cap T V L d → Calls Tryd.prog 27 #[.pointer (some ⟨g, 0, none⟩)] V fun e w' => Kp g V w' ∧ Out g b cap T (fun c => V.heap.size ≤ c) w' d e (.ok n [q]))) (w : World) (h : PS g b cap T w L d) :
  Calls Tryd.prog 15 #[.pointer (some ⟨g, 0, none⟩)] w fun e w' => Kp g w w' ∧ ∃ k t sq sn sc a, e = zr (.tuple #[.agg #[vi ki k, vS t, vL sq sn sc, vi ki a], .bool true]) ∧ NdAt (fun c => w.heap.size ≤ c) w' n [vi ki k, vS t, vL sq sn sc, vi ki a] := by
 have HP : Hid _ := h
 have hg := h.lt
 have hbl := h.tr.1
 clear h
 go_enter Tryd.func15, Tryd.ntmps15
 go_wp2_with fail
 have B0 := bsm1 w [vi ki 0, vS ⟨#[]⟩, vL none 0 0, vi ki 0] 24
 refine (HC.out _ (HP.out.below B0.out.1)).mono ?_
 rintro e W1 ⟨hk, ho⟩
 have hz1 : w.heap.size + 1 ≤ W1.heap.size := hzk hk
 have K1 := kpt B0 hk
 have H1_0 := bxk hk B0 0
 clear B0
 obtain ⟨hps, hend, k2, u2, sq2, sn2, sc2, a2, rfl, hnd⟩ := ho
 have HQ : Hid _ := hps
 have HE1 : Hid _ := hend
 have HM2 : Hid _ := hnd
 clear hps hend hnd hk
 have HM3 : Hid (NdAt (fun c => w.heap.size + 1 ≤ c) W1 n [vi ki k2, vS u2, vL sq2 sn2 sc2, vi ki a2]) := NdAt.keep (Nat.le_refl _) (fun c hc _ => ⟨by (try simp at hc ⊢); omega, rfl⟩) _ _ HM2.out
 clear HM2
 have hl1_0 := H1_0.out.1
 obtain ⟨c1_0_0, c1_0_1, c1_0_2, c1_0_3⟩ := H1_0.out.d4
 go_wp2_with fail
 have B1 := bsm1 W1 [vi ki k2, vS u2, vL sq2 sn2 sc2, vi ki a2] 24
 refine (take_end g b cap T q [] d 0 ⟨#[]⟩ _ (HQ.out.below B1.out.1) hi).mono ?_
 rintro e W2 ⟨rfl, hk⟩
 have hz2 : W1.heap.size + 1 ≤ W2.heap.size := hzk hk
 have K2 : Hid (Kp g w W2) := (K1.out.trans (Kp.of B1.out.1)).trans hk
 have H2_0 := bxb hk H1_0 B1
 have H2_1 := bxk hk B1 0
 have HM3_2 : Hid (NdAt (fun c => w.heap.size + 1 ≤ c) W2 n [vi ki k2, vS u2, vL sq2 sn2 sc2, vi ki a2]) := (HM3.out.kp (g := g) (Kp.of B1.out.1) (fun c hc => ⟨hc, by (try simp at hc); omega⟩)).kp hk (fun c hc => ⟨hc, by (try simp at hc); omega⟩)
 clear hl1_0 c1_0_0 c1_0_1 c1_0_2 c1_0_3 B1 H1_0 HM3 K1
 clear hk
 have hl2_0 := H2_0.out.1
 obtain ⟨c2_0_0, c2_0_1, c2_0_2, c2_0_3, z2_0_0, z2_0_1, z2_0_2, z2_0_3⟩ := H2_0.out.cf4
 have hl2_1 := H2_1.out.1
 obtain ⟨c2_1_0, c2_1_1, c2_1_2, c2_1_3⟩ := H2_1.out.d4
 obtain ⟨y0', y1', y2', y3', HFK, HFO, HFS, r0, r1, r2, r3, s0, s1, s2, s3, hrw'⟩ := fin9 (vi ki k2) (vS u2) (vL sq2 sn2 sc2) (vi ki a2) K2.out (by omega) (H2_0.out)
 go_wp2
 refine bodyPost_ret (v := .tuple #[.agg #[vi ki k2, vS u2, vL sq2 sn2 sc2, vi ki a2], .bool true]) (by simp [results, Tryd.results15, go_sem, y0', y1', y2', y3']) rfl ⟨HFK.out, _, _, _, _, _, _, rfl, HM3_2.out.off HFO.out HFS.out (fun c hc => ⟨by (try simp at hc ⊢); omega, by (try simp at hc); omega⟩)⟩
theorem inner_any (g b cap : Nat) (T : List Tk) (N : Nat) (HM : LvOk g b cap T 27 0 N) (L : List Tk) (d f : Nat) (hL : EndL L) (hd : d ≤ 20) (hN : L.length ≤ N) (hf : need (.lv 0) L ≤ f) (w : World) (h : PS g b cap T w L d) :
  Calls Tryd.prog 98 #[.pointer (some ⟨g, 0, none⟩)] w fun e w' => Kp g w w' ∧ Out g b cap T (fun c => w.heap.size ≤ c) w' d e (innR (par f (.lv 0) d L)) := by
 have HC : ∀ V : World, PS g b cap T V L d → Calls Tryd.prog 27 #[.pointer (some ⟨g, 0, none⟩)] V fun e w' => Kp g V w' ∧ Out g b cap T (fun c => V.heap.size ≤ c) w' d e (par f (.lv 0) d L) := fun V hV => HM V L d f hV hL hd hN hf
 cases hr : par f (.lv 0) d L with
 | no ea er => rw [hr] at HC; exact inner_no g b cap T L d ea er HC w h
 | ok n l1 =>
  rw [hr] at HC
  have hl := (par_less (g := .lv 0) (by simp [okTg]) hL hf hr).1
  obtain ⟨q, l2, rfl⟩ := hl.cons
  unfold innR; dsimp only
  by_cases hi : isT q [(5, b1 41)] = true
  ·rw [if_pos hi]
   have hl2 := hl.tail (isT_kind hi (by simp))
   obtain ⟨y, l3, rfl⟩ := hl2.cons
   exact inner_good g b cap T L d n q y l3 hi hl2 HC w h
  ·rw [if_neg hi]
   exact inner_bad g b cap T L d n q l2 (by simpa using hi) HC w h
theorem infoNode : (Tryd.prog.info? 24).map (fun i => (i.zero, i.size, i.bytes)) = some (some (.agg #[vi ki 0, vS ByteArray.empty, vL none 0 0, vi ki 0]), 4, 56) := by kernel_rfl
theorem append_new {P : Program} (w : World) (base : Nat) (t ty e : TypeId) (i : TypeInfo) (z : Value) (size bytes : Nat) (ht : P.underlying t = some (.slice e)) (hi : P.info? e = some i) (hz : i.zero = some z)
  (hsize : i.size = size) (hby : i.bytes = bytes) (hzs : z.cells.size = size) (hsz : 0 < size)
  (v : Value) (n : Nat) (xs : List Value) (hown : w.ownsRow base e size v n xs)
  (a : Addr) (c : Nat) (news : List Value) (hl : news.length = 1 * size) (hnews : ∀ j u, news[j]? = some u → w.cell? (a.add j) = some u) (h1 : ∀ u ∈ news, u.oneCell' = true)
  (h63 : n + 1 ≤ maxLen) (hbytes : (n + 1) * bytes ≤ 140737488355328) (hbase : base ≤ w.heap.size) :
  ∃ v' w', (Builtin.append_ #[t, t] ty #[v, vL (some a) 1 c]).run P w = .ok v' w' ∧ w'.ownsRow base e size v' (n + 1) (xs ++ news) ∧ w.grownBy w' v.ownBlock ∧ (∀ k, v'.ownBlock = some k → v.ownBlock = some k ∨ k = w.heap.size) := by
 obtain ⟨v', w', hr, h2, h3, _⟩ := run_append_own (P := P) w base t ty e i z size bytes ht hi hz hsize hby hzs hsz v n xs hown a 1 c news hl hnews h1 h63 hbytes hbase
 refine ⟨v', w', hr, h2, h3, fun k hk => ?_⟩
 subst hsize
 subst hby
 have hsmall : n + 1 ≤ 9223372036854775807 := by simp only [maxLen] at h63; omega
 rcases hown.2 with ⟨rfl, rfl⟩ | ⟨g, cap, cur, rfl, hbg, hg, hnc, hcm, hcs, htake⟩
 ·have hr2 := run_append_nil (P := P) w t ty e i z ht hi hz a 1 c news hl hnews (by omega) (by omega) (by have hb := hbytes; simp only [Nat.zero_add] at hb; omega)
  rw [hr2] at hr
  cases hr; cases hk; exact .inr rfl
 ·by_cases hroom : n + 1 ≤ cap
  ·have hfit : n * i.size + news.length ≤ cur.size := by rw [hl, hcs, ← Nat.add_mul]; exact Nat.mul_le_mul_right _ hroom
   have hr2 := run_append_room (P := P) w t ty e i ht hi g n cap cur hg a 1 c news hl hnews h1 hroom hfit
   rw [hr2] at hr
   cases hr; exact .inl hk
  ·have hr2 := run_append_grow (P := P) w t ty e i z ht hi hz ⟨g, 0, none⟩ n cap xs hown.1 (hown.cells (g := g) rfl) a 1 c news hl hnews (by omega) (by omega) (growslice_fits (by omega) hbytes)
   rw [hr2] at hr
   cases hr; cases hk; exact .inr rfl
theorem wpl_append_new {P : Program} {w : World} {ops : Array Oper} {rest : List Oper} {o : Oper} {a : Act} {Q : Exit → Act → World → Prop} (hgd : o.guard = none) (s x : Operand) (t : TypeId)
  (ho : o.op = .call { callee := .builtin .append, args := #[s, x], argTypes := #[t, t] })
  (base : Nat) (e : TypeId) (i : TypeInfo) (z : Value) (size bytes : Nat) (ht : P.underlying t = some (.slice e)) (hi : P.info? e = some i) (hz : i.zero = some z)
  (hsize : i.size = size) (hby : i.bytes = bytes) (hzs : z.cells.size = size) (hsz : 0 < size)
  (v : Value) (n : Nat) (xs : List Value) (hs : a.eval s = v) (hown : w.ownsRow base e size v n xs)
  (ad : Addr) (c : Nat) (news : List Value) (hx : a.eval x = vL (some ad) 1 c) (hl : news.length = 1 * size) (hnews : ∀ j u, news[j]? = some u → w.cell? (ad.add j) = some u) (h1 : ∀ u ∈ news, u.oneCell' = true)
  (h63 : n + 1 ≤ maxLen) (hbytes : (n + 1) * bytes ≤ 140737488355328) (hbase : base ≤ w.heap.size)
  (h : ∀ v' w', w'.ownsRow base e size v' (n + 1) (xs ++ news) → w.grownBy w' v.ownBlock → (∀ k, v'.ownBlock = some k → v.ownBlock = some k ∨ k = w.heap.size) → wpList P ops Q rest (a.put o.dst v') w') : wpList P ops Q (o :: rest) a w := by
 refine wpList_plain hgd fun K hK => ?_
 obtain ⟨v', w', hr, h2, h3, h4⟩ := append_new (P := P) w base t o.type e i z size bytes ht hi hz hsize hby hzs hsz v n xs hown ad c news hl hnews h1 h63 hbytes hbase
 unfold Oper.wp
 simp [execOp, ho, resolve, invoke, builtin, hs, hx, hr, Result.andThen]
 exact hK _ _ (h v' w' h2 h3 h4)
def KidsL (X : Nat → Prop) (V : World) : List Nd → List Value → Prop
 | [], xs => xs = []
 | n :: l, xs => ∃ c0 c1 c2 c3 ys, xs = c0 :: c1 :: c2 :: c3 :: ys ∧ NdAt X V n [c0, c1, c2, c3] ∧ KidsL X V l ys
theorem KidsL.keep {X Y : Nat → Prop} {w W : World} (hs : w.heap.size ≤ W.heap.size) (h : ∀ b, X b → b < w.heap.size → Y b ∧ W.heap[b]? = w.heap[b]?) : ∀ (l : List Nd) (xs : List Value), KidsL X w l xs → KidsL Y W l xs
 | [], xs, hk => hk
 | n :: l, xs, ⟨c0, c1, c2, c3, ys, e, hn, hk⟩ => ⟨c0, c1, c2, c3, ys, e, NdAt.keep hs h _ _ hn, KidsL.keep hs h l ys hk⟩
theorem KidsL.snoc {X : Nat → Prop} {V : World} {n : Nd} {c0 c1 c2 c3 : Value} (hn : NdAt X V n [c0, c1, c2, c3]) : ∀ (l : List Nd) (xs : List Value), KidsL X V l xs → KidsL X V (l ++ [n]) (xs ++ [c0, c1, c2, c3])
 | [], xs, hk => by rw [show xs = [] from hk]; exact ⟨c0, c1, c2, c3, [], rfl, hn, rfl⟩
 | m :: l, xs, ⟨d0, d1, d2, d3, ys, e, hm, hk⟩ => by rw [e]; exact ⟨d0, d1, d2, d3, ys ++ [c0, c1, c2, c3], rfl, hm, KidsL.snoc hn l ys hk⟩
theorem KidsL.row {X : Nat → Prop} {V : World} {b : Nat} : ∀ (l : List Nd) (xs : List Value) (i : Nat), (∀ j v, xs[j]? = some v → V.cell? ⟨b, i * 4 + j, none⟩ = some v) → KidsL X V l xs → RwAt X V b i l
 | [], xs, i, hc, hk => by rw [RwAt]; trivial
 | n :: l, xs, i, hc, ⟨c0, c1, c2, c3, ys, e, hn, hk⟩ => by
  subst e
  rw [RwAt]
  refine ⟨⟨c0, c1, c2, c3, hc 0 _ rfl, hc 1 _ rfl, hc 2 _ rfl, hc 3 _ rfl, hn⟩, KidsL.row l ys (i + 1) (fun j v hv => ?_) hk⟩
  have := hc (j + 4) v (by simpa using hv)
  rwa [show i * 4 + (j + 4) = (i + 1) * 4 + j by omega] at this
def KL (g b cap : Nat) (T : List Tk) (w : World) (d : Nat) (L : List Tk) (acc : List Nd) (sq : Option Addr) (sn sc : Nat) (xs : List Value) (V : World) : Prop :=
 Kp g w V ∧ Bx V w.heap.size [vi ki 0, vS ⟨#[]⟩, vL none 0 0, vi ki 0] ∧ Bx V (w.heap.size + 1) [vi ki 9, vS ⟨#[]⟩, vL sq sn sc, vi ki 0] ∧ PS g b cap T V L d ∧ EndL L ∧ V.ownsRow (w.heap.size + 2) 24 4 (vL sq sn sc) acc.length xs ∧ KidsL (fun c => w.heap.size + 2 ≤ c ∧ (Value.slice sq sn sc).ownBlock ≠ some c) V acc xs
theorem ownsRow_kp {g : Nat} {w W : World} {base : Nat} {e : TypeId} {size : Nat} {v : Value} {n : Nat} {xs : List Value} (h : w.ownsRow base e size v n xs) (hk : Kp g w W) (hg : g < base) : W.ownsRow base e size v n xs :=
 ownsRow_keep h (fun k h1 h2 => hk.block k h2 (by omega))
theorem KL.kp {g b cap : Nat} {T : List Tk} {w : World} {d : Nat} {L L' : List Tk} {acc : List Nd} {sq : Option Addr} {sn sc : Nat} {xs : List Value} {V V' : World} (h : KL g b cap T w d L acc sq sn sc xs V) (hg : g < w.heap.size) (hk : Kp g V V') (hp : PS g b cap T V' L' d) (he : EndL L') : KL g b cap T w d L' acc sq sn sc xs V' :=
 ⟨h.1.trans hk, hk.bx h.2.1 (by omega), hk.bx h.2.2.1 (by omega), hp, he, ownsRow_kp h.2.2.2.2.2.1 hk (by omega), KidsL.keep hk.size (fun c hc hl => ⟨hc, hk.block c hl (by omega)⟩) _ _ h.2.2.2.2.2.2⟩
theorem KL.more {g b cap : Nat} {T : List Tk} {w : World} {d : Nat} {L : List Tk} {acc : List Nd} {sq sq' : Option Addr} {sn sc sn' sc' : Nat} {xs : List Value} {V V' : World} {n : Nd} {c0 c1 c2 c3 : Value} (h : KL g b cap T w d L acc sq sn sc xs V) (hg : g < w.heap.size) (hbl : b < w.heap.size)
  (hn : NdAt (fun c => w.heap.size + 2 ≤ c ∧ (Value.slice sq sn sc).ownBlock ≠ some c) V n [c0, c1, c2, c3]) (hgr : V.grownBy V' (Value.slice sq sn sc).ownBlock) (hnew : ∀ c, (Value.slice sq' sn' sc').ownBlock = some c → c < V.heap.size → (Value.slice sq sn sc).ownBlock = some c)
  (hown : V'.ownsRow (w.heap.size + 2) 24 4 (vL sq' sn' sc') (acc ++ [n]).length (xs ++ [c0, c1, c2, c3])) : KL g b cap T w d L (acc ++ [n]) sq' sn' sc' (xs ++ [c0, c1, c2, c3]) (V'.setCell ⟨w.heap.size + 1, 2, none⟩ (vL sq' sn' sc')) := by
 have hob : ∀ c, (Value.slice sq sn sc).ownBlock = some c → w.heap.size + 2 ≤ c := by
  intro c hc
  rcases h.2.2.2.2.2.1.2 with ⟨e, _⟩ | ⟨g1, cp, cur, e, h1, _⟩
  ·rw [e] at hc; cases hc
  ·rw [e] at hc; cases hc; exact h1
 have hob' : ∀ c, (Value.slice sq' sn' sc').ownBlock = some c → w.heap.size + 2 ≤ c := by
  intro c hc
  rcases hown.2 with ⟨e, _⟩ | ⟨g1, cp, cur, e, h1, _⟩
  ·rw [e] at hc; cases hc
  ·rw [e] at hc; cases hc; exact h1
 have hz := h.1.size
 have hz1 := h.2.2.1.1
 have bl : ∀ c, c < V.heap.size → (Value.slice sq sn sc).ownBlock ≠ some c → V'.heap[c]? = V.heap[c]? := fun c hc hne => hgr.block c hc (fun e => hne e.symm)
 have kp : Kp g w V' := ⟨hgr.os.trans h.1.os, hgr.tape.trans h.1.tape, hgr.output.trans h.1.output, Nat.le_trans hz hgr.size, fun k hk hg' => (bl k (by omega) (fun e => by have := hob _ e; omega)).trans (h.1.block k hk hg')⟩
 have bx : ∀ b l, b < w.heap.size + 2 → Bx V b l → Bx V' b l := fun b l hb hB => by
  have q := bl b hB.1 (fun e => by have := hob _ e; omega)
  exact ⟨Nat.lt_of_lt_of_le hB.1 hgr.size, fun i v e => ⟨(World.cell?_of_block (w := V) (a := ⟨b, i, none⟩) q).trans (hB.2 i v e).1, (World.frozen?_of_block (w := V) (a := ⟨b, i, none⟩) q).trans (hB.2 i v e).2⟩⟩
 have k2 : ∀ c, c < V'.heap.size → c ≠ w.heap.size + 1 → (V'.setCell ⟨w.heap.size + 1, 2, none⟩ (vL sq' sn' sc')).heap[c]? = V'.heap[c]? := fun c _ hc => Below.heap_setCell _ _ _ _ hc
 refine ⟨kp.set (p := ⟨w.heap.size + 1, 2, none⟩) (.inr (by show _ ≤ w.heap.size + 1; omega)) _, (bx _ _ (by omega) h.2.1).setOther (by omega) [_] 2, (bx _ _ (by omega) h.2.2.1).set1 2 _ (by simp), ?_, h.2.2.2.2.1, ?_, ?_⟩
 ·refine PS.off (r := w.heap.size + 1) (h.2.2.2.1.keep hgr.size (fun c hc => bl c ?_ ?_)) k2 (by simp) (by omega) (by omega)
  ·rcases hc with rfl | rfl; exact h.2.2.2.1.lt; exact h.2.2.2.1.tr.1
  ·intro e; have := hob _ e; rcases hc with rfl | rfl <;> omega
 ·exact ownsRow_keep hown (fun c h1 h2 => Below.heap_setCell _ _ _ _ (by show c ≠ w.heap.size + 1; omega))
 ·refine KidsL.keep (w := V) (by simpa using hgr.size) (fun c hc hl => ⟨⟨hc.1, fun e => hc.2 (hnew c e hl)⟩, ?_⟩) _ _ (KidsL.snoc hn _ _ h.2.2.2.2.2.2)
  rw [Below.heap_setCell _ _ _ _ (by show c ≠ w.heap.size + 1; omega)]; exact bl c hl hc.2
theorem ob_lt {w : World} {base : Nat} {e : TypeId} {size : Nat} {v : Value} {n : Nat} {xs : List Value} (h : w.ownsRow base e size v n xs) {c : Nat} (hc : v.ownBlock = some c) : base ≤ c ∧ c < w.heap.size := by
 rcases h.2 with ⟨rfl, _⟩ | ⟨g1, cp, cur, rfl, h1, h2, _⟩
 ·cases hc
 ·cases hc; exact ⟨h1, (Array.getElem?_eq_some_iff.1 h2).1⟩
theorem own_form {w : World} {base : Nat} {e : TypeId} {size : Nat} {v : Value} {n : Nat} {xs : List Value} (h : w.ownsRow base e size v n xs) : ∃ sq sn sc, v = vL sq sn sc := by
 rcases h.2 with ⟨rfl, _⟩ | ⟨g1, cp, cur, rfl, _⟩ <;> exact ⟨_, _, _, rfl⟩
theorem KL.node {g b cap : Nat} {T : List Tk} {w : World} {d : Nat} {L : List Tk} {acc : List Nd} {sq : Option Addr} {sn sc : Nat} {xs : List Value} {V : World} (h : KL g b cap T w d L acc sq sn sc xs V) (h0 : 0 < acc.length) : NdAt (fun c => w.heap.size + 2 ≤ c) V (.mk 9 ⟨#[]⟩ acc 0) [vi ki 9, vS ⟨#[]⟩, vL sq sn sc, vi ki 0] := by
 have hown := h.2.2.2.2.2.1
 rcases hown.2 with ⟨e, h1⟩ | ⟨g1, cp, cur, e, h1, h2, h3, h4, h5, h6⟩
 ·omega
 ·cases e
  have hlt := (Array.getElem?_eq_some_iff.1 h2).1
  refine NdAt.row h0 h3 h4 h1 hlt (KidsL.row acc xs 0 (fun j v hv => ?_) (KidsL.keep (Nat.le_refl _) (fun c hc _ => ⟨hc.1, rfl⟩) _ _ h.2.2.2.2.2.2))
  have hj := (List.getElem?_eq_some_iff.1 hv).1
  rw [hown.1] at hj
  rw [Nat.zero_mul, Nat.zero_add, hown.cellAt j hj]; exact hv
theorem KL.grown {g b cap : Nat} {T : List Tk} {w : World} {d : Nat} {L : List Tk} {acc : List Nd} {sq : Option Addr} {sn sc : Nat} {xs : List Value} {V V' : World} (h : KL g b cap T w d L acc sq sn sc xs V) (hgr : V.grownBy V' (Value.slice sq sn sc).ownBlock) : Bx V' (w.heap.size + 1) [vi ki 9, vS ⟨#[]⟩, vL sq sn sc, vi ki 0] := by
 have hB := h.2.2.1
 have q := hgr.block (w.heap.size + 1) hB.1 (fun e => by have := (ob_lt h.2.2.2.2.2.1 e.symm).1; omega)
 exact ⟨Nat.lt_of_lt_of_le hB.1 hgr.size, fun i v e => ⟨(World.cell?_of_block (w := V) (a := ⟨w.heap.size + 1, i, none⟩) q).trans (hB.2 i v e).1, (World.frozen?_of_block (w := V) (a := ⟨w.heap.size + 1, i, none⟩) q).trans (hB.2 i v e).2⟩⟩
theorem kids_any (g b cap : Nat) (T : List Tk) (N : Nat) (hNN : N ≤ 100000) (HM : Hid (LvOk g b cap T 27 0 N)) (r : Tk) (l2 : List Tk) (d f : Nat) (hL : EndL (r :: l2)) (hd : d ≤ 20) (hN : (r :: l2).length ≤ N) (hf : need (.ks []) (r :: l2) ≤ f) (w : World) (h : PS g b cap T w (r :: l2) d) :
  Calls Tryd.prog 101 #[.pointer (some ⟨g, 0, none⟩)] w fun e w' => Kp g w w' ∧ Out g b cap T (fun c => w.heap.size ≤ c) w' d e (if isT r [(5, b1 41)] then .ok (.mk 9 ⟨#[]⟩ [] 0) l2 else par f (.ks []) d (r :: l2)) := by
 obtain ⟨i0, hi0, iz0, iz1, iz2⟩ := info_parts infoNode
 obtain ⟨R, hR⟩ : ∃ R, R = (if isT r [(5, b1 41)] then PR.ok (.mk 9 ⟨#[]⟩ [] 0) l2 else par f (.ks []) d (r :: l2)) := ⟨_, rfl⟩
 rw [← hR]
 simp only [need, zl] at hf hN
 have HP : Hid _ := h
 have hg := h.lt
 have hbl := h.tr.1
 clear h
 go_enter Tryd.func101, Tryd.ntmps101
 go_wp2_with fail
 have B0 := bsm3 w [vi ki 0, vS ⟨#[]⟩, vL none 0 0, vi ki 0] 24 [vi ki 9, vS ⟨#[]⟩, vL none 0 0, vi ki 0] 24 [vi ki 5, vS ⟨#[41]⟩] 79
 refine (is_any g b cap T r l2 d [(5, b1 41)] (w.heap.size + 1 + 1) 1 _ (HP.out.below B0.out.1) (by simp) (by omega) (by simp) (B0.out.at (w.heap.size + 1 + 1) [vi ki 5, vS ⟨#[41]⟩] (by simp))).mono ?_
 rintro e W1 ⟨rfl, hb⟩
 have hk : Kp g _ W1 := Kp.of hb
 have hz1 : w.heap.size + 3 ≤ W1.heap.size := hzk hk
 have K1 := kpt B0 hk
 have H1_0 := bxk hk B0 2
 have H1_1 := bxk hk B0 1
 have H1_2 := bxk hk B0 0
 have Q1 : Hid _ := (HP.out.below B0.out.1).below hb
 clear B0 hb
 clear hk
 by_cases hi : isT r [(5, b1 41)] = true
 ·rw [hi]
  rw [if_pos hi] at hR
  have hEl : EndL l2 := EndL.tail hL (isT_kind hi (by simp))
  obtain ⟨y, l3, rfl⟩ := hEl.cons
  have HE2 := hZz hEl
  have HR0 := hZz hR
  clear hR hEl
  have hl1_0 := H1_0.out.1
  obtain ⟨c1_0_0, c1_0_1, c1_0_2, c1_0_3⟩ := H1_0.out.d4
  have hl1_1 := H1_1.out.1
  obtain ⟨c1_1_0, c1_1_1, c1_1_2, c1_1_3⟩ := H1_1.out.d4
  go_wp2_with fail
  refine (next_any g b cap T r y l3 d _ Q1.out).mono ?_
  rintro e W2 ⟨rfl, hk, hp⟩
  have hz2 : W1.heap.size + 0 ≤ W2.heap.size := hzk hk
  have K2 := kph K1 hk
  have H2_0 := bxh hk H1_0
  have H2_1 := bxh hk H1_1
  have H2_2 := bxh hk H1_2
  clear hl1_0 c1_0_0 c1_0_1 c1_0_2 c1_0_3 hl1_1 c1_1_0 c1_1_1 c1_1_2 c1_1_3 H1_0 H1_1 H1_2 K1
  have Q2' : Hid _ := hp
  clear hp hk
  have hl2_0 := H2_0.out.1
  obtain ⟨c2_0_0, c2_0_1, c2_0_2, c2_0_3, z2_0_0, z2_0_1, z2_0_2, z2_0_3⟩ := H2_0.out.cf4
  have hl2_1 := H2_1.out.1
  obtain ⟨c2_1_0, c2_1_1, c2_1_2, c2_1_3⟩ := H2_1.out.d4
  obtain ⟨y0', y1', y2', y3', HFK, HFO, HFS, r0, r1, r2, r3, s0, s1, s2, s3, hrw'⟩ := fin9 (vi ki 9) (vS ⟨#[]⟩) (vL none 0 0) (vi ki 0) K2.out (by omega) (H2_0.out)
  go_wp2
  refine bodyPost_ret (v := .tuple #[.agg #[vi ki 9, vS ⟨#[]⟩, vL none 0 0, vi ki 0], .bool true]) (by simp [results, Tryd.results101, go_sem, y0', y1', y2', y3']) rfl ⟨HFK.out, by rw [HR0.out]; exact ⟨Q2'.out.off HFO.out HFS.out (by omega) (by omega), HE2.out, _, _, _, _, _, _, rfl, NdAt.leaf _ _ _ _ _⟩⟩
 ·rw [Bool.not_eq_true] at hi
  rw [hi] at hR ⊢
  rw [if_neg (by simp)] at hR
  have HR0 := hZz hR.symm
  clear hR
  have HS0 : Hid (KL g b cap T w d (r :: l2) [] none 0 0 [] W1) := ⟨K1.out, H1_0.out, H1_1.out, Q1.out, hL, World.ownsRow_nil _ _ _ _, rfl⟩
  have hl11 : w.heap.size + 1 < W1.heap.size := HS0.out.2.2.1.1
  clear H1_0 H1_1 H1_2 K1 Q1
  go_wp2_with fail
  go_loopw [] (fun W => ∃ (acc : List Nd) (l1 : List Tk) (f1 : Nat) (sq : Option Addr) (sn sc : Nat) (xs : List Value), Hid (KL g b cap T w d l1 acc sq sn sc xs W) ∧ acc.length + l1.length ≤ N ∧ Hid (10 * l1.length + 11 ≤ f1) ∧ Hid (par f1 (.ks acc) d l1 = R)) (fun W => lenAt g W)
  case atStart => exact ⟨[], r :: l2, f, none, 0, 0, [], HS0, by simp; omega, by show _ ≤ _; simp; omega, HR0⟩
  case round =>
   clear HS0 HR0 hL
   obtain ⟨acc, l1, f1, sq, sn, sc, xs, KK, hN1, HF0, HR0⟩ := hrel
   obtain ⟨p, l, rfl⟩ := KK.out.2.2.2.2.1.cons
   have HE1 := hZz KK.out.2.2.2.2.1
   obtain ⟨f1, rfl⟩ : ∃ f', f1 = f' + 1 := ⟨f1 - 1, by have := HF0.out; omega⟩
   have HPL := hZz KK.out.2.2.2.1.len
   have hw1 : w.heap.size + 1 < wr.heap.size := KK.out.2.2.1.1
   simp only [zl] at hN1 HPL
   have hf2 : need (.lv 0) (p :: l) ≤ f1 := by have := HF0.out; simp only [need, zl] at this ⊢; omega
   have HC0 : Hid (∀ V : World, PS g b cap T V (p :: l) d → Calls Tryd.prog 27 #[.pointer (some ⟨g, 0, none⟩)] V fun e w' => Kp g V w' ∧ Out g b cap T (fun c => V.heap.size ≤ c) w' d e (par f1 (.lv 0) d (p :: l))) := fun V hV => HM.out V _ d f1 hV HE1.out hd (by simp only [zl]; omega) hf2
   have eL : par (f1 + 1) (.ks acc) d (p :: l) = match par f1 (.lv 0) d (p :: l) with | .no a e => .no a e | .ok n [] => .no 0 0 | .ok n (q :: l1) => if isT q [(5, b1 44)] then par f1 (.ks (acc ++ [n])) d l1 else if isT q [(5, b1 41)] then .ok (.mk 9 ByteArray.empty (acc ++ [n]) 0) l1 else .no q.2.2 30 := by
    rw [par_succ]; unfold pst; dsimp only; cases par f1 (.lv 0) d (p :: l) with | no a e => rfl | ok n l1 => cases l1 <;> rfl
   have hR1 := HR0.out
   rw [eL] at hR1
   clear eL HR0
   cases hr : par f1 (.lv 0) d (p :: l) with
   | no ea er =>
    rw [hr] at HC0 hR1
    have HR1 := hZz hR1.symm
    have HC : Hid _ := HC0
    clear hR1 hr HC0
    go_wp2_with fail
    refine (HC.out _ KK.out.2.2.2.1).mono ?_
    rintro e W2 ⟨hk2, hf2', rfl⟩
    have K9 : Hid (Kp g w W2) := KK.out.1.trans hk2
    have H9 : Hid (Bx W2 w.heap.size _) := hk2.bx KK.out.2.1 (by omega)
    have HF6 := hZz hf2'
    clear hk2 hf2'
    obtain ⟨y0', y1', y2', y3', HFK, HFO, HFS, r0, r1, r2, r3, s0, s1, s2, s3, hrw'⟩ := fin8 [.cells #[vi ki 0, vS ⟨#[]⟩, vL none 0 0, vi ki 0] 24] (vi ki 0) (vS ⟨#[]⟩) (vL none 0 0) (vi ki 0) K9.out (by omega) (H9.out)
    simp only [List.foldl, World.setCells, Nat.zero_add, Nat.reduceAdd] at y0' y1' y2' y3'
    go_wp2
    refine bodyPost_ret (v := .tuple #[.agg #[vi ki 0, vS ⟨#[]⟩, vL none 0 0, vi ki 0], .bool false]) (by simp [results, Tryd.results101, go_sem, y0', y1', y2', y3']) rfl ⟨HFK.out, by rw [HR1.out]; exact ⟨PF.off HF6.out HFO.out HFS.out (by omega), rfl⟩⟩
   | ok n l1 =>
    rw [hr] at HC0 hR1
    have hls := par_less (g := .lv 0) (by simp [okTg]) HE1.out hf2 hr
    obtain ⟨q, l2, rfl⟩ := hls.1.cons
    have HE2 := hZz hls.1
    have hls2 := hls.2
    simp only [most, zl] at hls2
    dsimp only at hR1
    have HC : Hid _ := HC0
    have HRq : Hid _ := hR1
    clear hR1 hr HC0 hls
    go_wp2_with fail
    refine (HC.out _ KK.out.2.2.2.1).mono ?_
    rintro e W2 ⟨hk2, hps, hend, k2, u2, sq2, sn2, sc2, a2, rfl, hnd⟩
    have K2 : Hid (KL g b cap T w d (q :: l2) acc sq sn sc xs W2) := KK.out.kp hg hk2 hps HE2.out
    have N2 : Hid (NdAt (fun c => w.heap.size + 2 ≤ c ∧ (Value.slice sq sn sc).ownBlock ≠ some c) W2 n [vi ki k2, vS u2, vL sq2 sn2 sc2, vi ki a2]) := NdAt.keep (Nat.le_refl _) (fun c hc _ => ⟨⟨by omega, fun e => by have := (ob_lt KK.out.2.2.2.2.2.1 e).2; omega⟩, rfl⟩) _ _ hnd
    clear hk2 hps hend hnd KK hw1
    have hw2 : w.heap.size + 1 < W2.heap.size := K2.out.2.2.1.1
    have B2 := bsm1 W2 [vi ki k2, vS u2, vL sq2 sn2 sc2, vi ki a2] 24
    go_upto_region 8 with fail
    obtain ⟨B5, hB5⟩ : ∃ B5, B5 = W2.heap.size := ⟨_, rfl⟩
    refine gen_to (fun V => KL g b cap T w d (q :: l2) acc sq sn sc xs V ∧ Bx V B5 [vi ki k2, vS u2, vL sq2 sn2 sc2, vi ki a2] ∧ NdAt (fun c => w.heap.size + 2 ≤ c ∧ (Value.slice sq sn sc).ownBlock ≠ some c) V n [vi ki k2, vS u2, vL sq2 sn2 sc2, vi ki a2]) ⟨?_, ?_, ?_⟩ ?_
    ·exact K2.out.kp hg (Kp.of B2.out.1) (K2.out.2.2.2.1.below B2.out.1) HE2.out
    ·rw [hB5]; exact B2.out.first
    ·exact N2.out.kp (g := g) (Kp.of B2.out.1) (fun c hc => ⟨hc, by omega⟩)
    rintro W3 ⟨hc3, hb3, hn3⟩
    have K3 := hZz hc3
    have H5 := hZz hb3
    have N3 := hZz hn3
    rw [← hB5]
    have h5w : w.heap.size + 1 < B5 := by omega
    clear hc3 hb3 hn3 K2 N2 B2 hB5 hw2
    have hw3 : w.heap.size + 1 < W3.heap.size := K3.out.2.2.1.1
    have hw5 : B5 < W3.heap.size := H5.out.1
    obtain ⟨c50, c51, c52, c53⟩ := H5.out.d4
    obtain ⟨c90, c91, c92, c93⟩ := K3.out.2.2.1.d4
    have BR := bsm1 W3 [vi ki k2, vS u2, vL sq2 sn2 sc2, vi ki a2] 24
    have KR : Hid (KL g b cap T w d (q :: l2) acc sq sn sc xs (W3.alloc (.cells #[vi ki k2, vS u2, vL sq2 sn2 sc2, vi ki a2] 24))) := K3.out.kp hg (Kp.of BR.out.1) (K3.out.2.2.2.1.below BR.out.1) HE2.out
    have NR : Hid (NdAt (fun c => w.heap.size + 2 ≤ c ∧ (Value.slice sq sn sc).ownBlock ≠ some c) (W3.alloc (.cells #[vi ki k2, vS u2, vL sq2 sn2 sc2, vi ki a2] 24)) n [vi ki k2, vS u2, vL sq2 sn2 sc2, vi ki a2]) := N3.out.kp (g := g) (Kp.of BR.out.1) (fun c hc => ⟨hc, by omega⟩)
    have hsl : (sq = none ∧ sn = 0 ∧ sc = 0) ∨ ∃ g0, sq = some ⟨g0, 0, none⟩ := by
     rcases KR.out.2.2.2.2.2.1.2 with ⟨e0, _⟩ | ⟨g0, cap0, cur, e0, _⟩
     ·cases e0; exact .inl ⟨rfl, rfl, rfl⟩
     ·cases e0; exact .inr ⟨g0, rfl⟩
    rcases hsl with ⟨rfl, rfl, rfl⟩ | ⟨g0, rfl⟩
    all_goals
     go_wp2_with (at_builtin; refine Hid.out ?_)
     unfold Hid
     refine wpl_append_new rfl _ _ 22 rfl (w.heap.size + 2) 24 i0 (.agg #[vi ki 0, vS ByteArray.empty, vL none 0 0, vi ki 0]) 4 56 Tryd.underlying22 hi0 iz0 iz1 iz2 rfl (by decide) _ acc.length xs rfl (KR.out.2.2.2.2.2.1) ⟨W3.heap.size, 0, none⟩ 1 [vi ki k2, vS u2, vL sq2 sn2 sc2, vi ki a2] rfl rfl (fun j u hj => by rw [show (⟨W3.heap.size, 0, none⟩ : Addr).add j = ⟨W3.heap.size, j, none⟩ from by rw [Addr.add_lit]; simp]; exact (BR.out.first.2 j u hj).1) (by intro u hu; simp at hu; rcases hu with rfl | rfl | rfl | rfl <;> rfl) (by unfold maxLen; omega) (by omega) (by have := KR.out.1.size; have := KR.out.2.2.1.1; omega) ?_
     intro v' w4 hown' hgrow hnew
     obtain ⟨sq', sn', sc', hv'⟩ := own_form hown'
     subst hv'
     have HO : Hid _ := hown'
     have HG : Hid _ := hgrow
     have HW4 : Hid _ := hnew
     have hB4 := KR.out.grown hgrow
     have c41 := hB4.c 2 rfl
     have z41 := hB4.f 2 rfl
     have hl4 := hB4.1
     clear hown' hgrow hnew hB4
     go_wp2_with fail
     have KM : Hid (KL g b cap T w d (q :: l2) (acc ++ [n]) sq' sn' sc' (xs ++ [vi ki k2, vS u2, vL sq2 sn2 sc2, vi ki a2]) (w4.setCell ⟨w.heap.size + 1, 2, none⟩ (vL sq' sn' sc'))) := KR.out.more hg hbl NR.out HG.out (fun c h1 h2 => (HW4.out c h1).resolve_right (by omega)) (by rw [show (acc ++ [n]).length = acc.length + 1 by simp]; exact HO.out)
     have hBx : Bx ((w4.setCell ⟨w.heap.size + 1, 2, none⟩ (vL sq' sn' sc')).alloc (.cells #[vi ki 5, vS ⟨#[44]⟩] 79)) w4.heap.size [vi ki 5, vS ⟨#[44]⟩] := by
      have q9 := Bx.new (w4.setCell ⟨w.heap.size + 1, 2, none⟩ (vL sq' sn' sc')) [vi ki 5, vS ⟨#[44]⟩] 79
      rw [show (w4.setCell ⟨w.heap.size + 1, 2, none⟩ (vL sq' sn' sc')).heap.size = w4.heap.size by simp] at q9; exact q9
     refine (is_any g b cap T q l2 d [(5, b1 44)] w4.heap.size 1 _ (KM.out.2.2.2.1.below ((Below.refl _ _).alloc (Nat.le_refl _) _)) (by simp) (by omega) (by simp) hBx).mono ?_
     rintro e W5 ⟨rfl, hb⟩
     have K5 : Hid (KL g b cap T w d (q :: l2) (acc ++ [n]) sq' sn' sc' (xs ++ [vi ki k2, vS u2, vL sq2 sn2 sc2, vi ki a2]) W5) := KM.out.kp hg (((Kp.refl g _).alloc _).trans (Kp.of hb)) ((KM.out.2.2.2.1.below ((Below.refl _ _).alloc (Nat.le_refl _) _)).below hb) HE2.out
     clear hb hBx KM HO HG HW4 KR NR BR K3 H5 N3 c41 z41 hl4 hw3 hw5 c50 c51 c52 c53 c90 c91 c92 c93
     have hw6 : w.heap.size + 1 < W5.heap.size := K5.out.2.2.1.1
     by_cases hi2 : isT q [(5, b1 44)] = true
     ·rw [hi2]
      have hR2 := HRq.out
      rw [if_pos hi2] at hR2
      have hEl : EndL l2 := EndL.tail HE2.out (isT_kind hi2 (by simp))
      obtain ⟨y, l3, rfl⟩ := hEl.cons
      have HE3 := hZz hEl
      have HR2 := hZz hR2
      clear hR2 HRq hEl
      simp only [zl] at hls2
      go_wp2_with fail
      refine (next_any g b cap T q y l3 d _ K5.out.2.2.2.1).mono ?_
      rintro e W6 ⟨rfl, hk6, hp6⟩
      have K6 : Hid (KL g b cap T w d (y :: l3) (acc ++ [n]) sq' sn' sc' (xs ++ [vi ki k2, vS u2, vL sq2 sn2 sc2, vi ki a2]) W6) := K5.out.kp hg hk6 hp6 HE3.out
      clear hk6 hp6
      go_wp2
      exact ⟨⟨acc ++ [n], y :: l3, f1, sq', sn', sc', _, K6, by simp only [List.length_append, zl, List.length_nil]; omega, by have := HF0.out; simp only [zl] at this ⊢; show _ ≤ _; omega, HR2⟩, by rw [K6.out.2.2.2.1.len, HPL.out]; simp only [zl]; omega⟩
     ·have hi2' : isT q [(5, b1 44)] = false := by simpa using hi2
      rw [hi2']
      have hR2 := HRq.out
      rw [if_neg hi2] at hR2
      by_cases hi3 : isT q [(5, b1 41)] = true
      ·rw [if_pos hi3] at hR2
       have hEl : EndL l2 := EndL.tail HE2.out (isT_kind hi3 (by simp))
       obtain ⟨y, l3, rfl⟩ := hEl.cons
       have HE3 := hZz hEl
       have HR2 := hZz hR2.symm
       clear hR2 HRq hEl
       go_wp2_with fail
       refine (take_yes g b cap T q l3 d 5 (b1 41) _ y K5.out.2.2.2.1 hi3).mono ?_
       rintro e W6 ⟨rfl, hk6, hp6⟩
       have K6 : Hid (KL g b cap T w d (y :: l3) (acc ++ [n]) sq' sn' sc' (xs ++ [vi ki k2, vS u2, vL sq2 sn2 sc2, vi ki a2]) W6) := K5.out.kp hg hk6 hp6 HE3.out
       clear hk6 hp6
       have K9 := hZz K6.out.1
       have H9 := hZz K6.out.2.1
       have H8 := hZz K6.out.2.2.1
       have hl8 := H8.out.1
       obtain ⟨x0, x1, x2, x3⟩ := H8.out.d4
       obtain ⟨y0', y1', y2', y3', HFK, HFO, HFS, r0, r1, r2, r3, s0, s1, s2, s3, hrw'⟩ := fin9 (vi ki 9) (vS ⟨#[]⟩) (vL sq' sn' sc') (vi ki 0) K9.out (by omega) (H9.out)
       go_wp2
       refine bodyPost_ret (v := .tuple #[.agg #[vi ki 9, vS ⟨#[]⟩, vL sq' sn' sc', vi ki 0], .bool true]) (by simp [results, Tryd.results101, go_sem, y0', y1', y2', y3']) rfl ⟨HFK.out, by rw [HR2.out]; exact ⟨K6.out.2.2.2.1.off HFO.out HFS.out (by omega) (by omega), HE3.out, _, _, _, _, _, _, rfl, (K6.out.node (by simp)).off HFO.out HFS.out (fun c hc => ⟨by (try simp at hc ⊢); omega, by (try simp at hc); omega⟩)⟩⟩
      ·rw [if_neg hi3] at hR2
       have HR2 := hZz hR2.symm
       clear hR2 HRq
       go_wp2_with fail
       refine (take_no g b cap T q l2 d 5 (b1 41) _ K5.out.2.2.2.1 (by simpa using hi3)).mono ?_
       rintro e W6 ⟨rfl, hk6, hf6⟩
       have K9 : Hid (Kp g w W6) := K5.out.1.trans hk6
       have H9 : Hid (Bx W6 w.heap.size _) := hk6.bx K5.out.2.1 (by omega)
       have HF6 := hZz hf6
       clear hk6 hf6
       obtain ⟨y0', y1', y2', y3', HFK, HFO, HFS, r0, r1, r2, r3, s0, s1, s2, s3, hrw'⟩ := fin9 (vi ki 0) (vS ⟨#[]⟩) (vL none 0 0) (vi ki 0) K9.out (by omega) (H9.out)
       go_wp2
       refine bodyPost_ret (v := .tuple #[.agg #[vi ki 0, vS ⟨#[]⟩, vL none 0 0, vi ki 0], .bool false]) (by simp [results, Tryd.results101, go_sem, y0', y1', y2', y3']) rfl ⟨HFK.out, by rw [HR2.out]; exact ⟨PF.off HF6.out HFO.out HFS.out (by omega), rfl⟩⟩
end Go.Proofs.YtaoocecipacnhaaDoor
