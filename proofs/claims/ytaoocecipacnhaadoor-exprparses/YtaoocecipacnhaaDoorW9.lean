import Derived.Test.YtaoocecipacnhaaDoorWz
import Derived.Test.YtaoocecipacnhaaDoorW8
open Go.Value renaming int → vi
open Go.IntKind renaming i64 → ki
open List renaming setIfInBounds_toArray → zb, set_cons_zero → zc, set_cons_succ → zd
open Go.Act renaming put → za
open Go.Ending renaming returned → zr
set_option maxRecDepth 100000
set_option maxHeartbeats 16000000
set_option linter.unusedVariables false
namespace Go.Proofs.YtaoocecipacnhaaDoor
open Go.RowKit
theorem cast_lv (g b cap : Nat) (T : List Tk) (N : Nat) (HM : Hid (LvOk g b cap T 95 9 N)) : LvOk g b cap T 94 8 N := by
 intro w L d f h hL hd hN hf
 obtain ⟨f, rfl⟩ : ∃ f', f = f' + 1 := ⟨f - 1, by obtain ⟨p, l, rfl⟩ := hL.cons; simp only [need, List.length_cons] at hf; omega⟩
 obtain ⟨p, l, rfl⟩ := hL.cons
 have eP : par (f + 1) (.lv 8) d (p :: l) = match par f (.lv 9) d (p :: l) with | .ok n l1 => par f (.cs n) d l1 | .no a e => .no a e := by
  rw [par_succ]; unfold pst; dsimp only
  rw [if_neg (by omega), if_neg (by omega), if_neg (by omega), if_neg (by omega), if_pos rfl]
  cases par f (.lv 9) d (p :: l) <;> rfl
 simp only [need, List.length_cons] at hf
 have hok : okTg (.lv 9) := by simp [okTg]
 have hf1 : need (.lv 9) (p :: l) ≤ f := by simp only [need, List.length_cons]; omega
 have HC : Hid (∀ V : World, PS g b cap T V (p :: l) d → Calls Tryd.prog 95 #[.pointer (some ⟨g, 0, none⟩)] V fun e w' => Kp g V w' ∧ Out g b cap T (fun c => V.heap.size ≤ c) w' d e (par f (.lv 9) d (p :: l))) := fun V hV => HM.out V _ d f hV hL hd hN hf1
 obtain ⟨R, hR⟩ : ∃ R, R = par (f + 1) (.lv 8) d (p :: l) := ⟨_, rfl⟩
 rw [← hR]
 rw [eP] at hR
 clear eP
 cases hr : par f (.lv 9) d (p :: l) with
 | no ea er =>
  rw [hr] at HC hR
  have HR0 : Hid (R = .no ea er) := hR
  clear hR hr
  have HP : Hid _ := h
  have hg := h.lt
  have hbl := h.tr.1
  clear h
  go_enter Tryd.func94, Tryd.ntmps94
  go_wp2_with fail
  have B0 : Hid (BS w [(w.heap.size, [vi ki 0, .string ⟨#[]⟩, .slice none 0 0, vi ki 0])] _) := ((BS.start w).new [vi ki 0, .string ⟨#[]⟩, .slice none 0 0, vi ki 0] 24 rfl)
  refine (HC.out _ (HP.out.below B0.out.1)).mono ?_
  rintro e W1 ⟨hk, ho⟩
  have hz1 : w.heap.size + 1 ≤ W1.heap.size := by have := hk.size; (try simp at this); omega
  have K1 : Hid (Kp g w W1) := (Kp.of B0.out.1).trans hk
  have H1_0 : Hid (Bx W1 (w.heap.size) [vi ki 0, .string ⟨#[]⟩, .slice none 0 0, vi ki 0]) := hk.bx (B0.out.at (w.heap.size) [vi ki 0, .string ⟨#[]⟩, .slice none 0 0, vi ki 0] (by simp)) (by omega)
  clear B0
  obtain ⟨hf, rfl⟩ := ho
  have HF : Hid (PF g W1 d ea er) := hf
  clear hf hk
  have HS0 : Hid (CF g w W1.heap.size d ea er (W1.alloc (.cells #[vi ki 0, .string ⟨#[]⟩, .slice none 0 0, vi ki 0] 24))) := ⟨K1.out.alloc _, H1_0.out.alloc _, Bx.new W1 [vi ki 0, .string ⟨#[]⟩, .slice none 0 0, vi ki 0] _, HF.out.keep (by simp) (Below.heap_alloc _ _ _ (by obtain ⟨_, h, _⟩ := HF.out; exact h.1))⟩
  obtain ⟨B, hB⟩ : ∃ B, B = W1.heap.size := ⟨_, rfl⟩
  have hB1 : w.heap.size + 1 ≤ B := by omega
  clear K1 H1_0 hz1 HF HC HP
  go_wp2_with fail
  rw [← hB] at HS0
  rw [← hB]
  clear hB
  go_loopw [] (fun W => Hid (CF g w B d ea er W)) (fun _ => 0)
  case atStart => exact HS0.out
  case round =>
   have HW := hrel
   clear HS0
   have K9 : Hid (Kp g w wr) := HW.out.1
   have H9 : Hid (Bx wr w.heap.size _) := HW.out.2.1
   have H8 : Hid (Bx wr B _) := HW.out.2.2.1
   have HF : Hid (PF g wr d ea er) := HW.out.2.2.2
   clear HW
   obtain ⟨x0, x1, x2, x3⟩ := H8.out.d4
   obtain ⟨y0', y1', y2', y3', HFK, HFO, HFS, r0, r1, r2, r3, s0, s1, s2, s3, hrw'⟩ := fin9 (vi ki 0) (.string ⟨#[]⟩) (.slice none 0 0) (vi ki 0) K9.out (by omega) (H9.out)
   go_wp2
   refine bodyPost_ret (v := .tuple #[.agg #[vi ki 0, .string ⟨#[]⟩, .slice none 0 0, vi ki 0], .bool false]) (by simp [results, Tryd.results94, go_sem, y0', y1', y2', y3']) rfl ⟨HFK.out, by rw [HR0.out]; exact ⟨PF.off HF.out HFO.out HFS.out (by omega), rfl⟩⟩
 | ok n0 l0 =>
  rw [hr] at HC hR
  have hls := par_less hok hL hf1 hr
  have hls2 := hls.2
  simp only [most, List.length_cons] at hls2
  have HE0 : Hid (EndL l0) := hls.1
  have HR0 : Hid (par f (.cs n0) d l0 = R) := hR.symm
  clear hR hr hls
  have HP : Hid _ := h
  have hg := h.lt
  have hbl := h.tr.1
  clear h
  go_enter Tryd.func94, Tryd.ntmps94
  go_wp2_with fail
  have B0 : Hid (BS w [(w.heap.size, [vi ki 0, .string ⟨#[]⟩, .slice none 0 0, vi ki 0])] _) := ((BS.start w).new [vi ki 0, .string ⟨#[]⟩, .slice none 0 0, vi ki 0] 24 rfl)
  refine (HC.out _ (HP.out.below B0.out.1)).mono ?_
  rintro e W1 ⟨hk, ho⟩
  have hz1 : w.heap.size + 1 ≤ W1.heap.size := by have := hk.size; (try simp at this); omega
  have K1 : Hid (Kp g w W1) := (Kp.of B0.out.1).trans hk
  have H1_0 : Hid (Bx W1 (w.heap.size) [vi ki 0, .string ⟨#[]⟩, .slice none 0 0, vi ki 0]) := hk.bx (B0.out.at (w.heap.size) [vi ki 0, .string ⟨#[]⟩, .slice none 0 0, vi ki 0] (by simp)) (by omega)
  clear B0
  obtain ⟨hps, hend, k0, u0, sq0, sn0, sc0, a0, rfl, hnd⟩ := ho
  have HS0 : Hid (CS g b cap T w W1.heap.size d l0 n0 (vi ki k0) (.string u0) (.slice sq0 sn0 sc0) (vi ki a0) (W1.alloc (.cells #[vi ki k0, .string u0, .slice sq0 sn0 sc0, vi ki a0] 24))) := by
   refine ⟨K1.out.alloc _, H1_0.out.alloc _, Bx.new W1 [vi ki k0, .string u0, .slice sq0 sn0 sc0, vi ki a0] _, hps.below ((Below.refl _ _).alloc (Nat.le_refl _) _), ?_, by omega, hend⟩
   exact NdAt.keep (by simp) (fun c hc hl => ⟨⟨by (try simp at hc); omega, by omega⟩, Below.heap_alloc _ _ _ hl⟩) _ _ hnd
  obtain ⟨B, hB⟩ : ∃ B, B = W1.heap.size := ⟨_, rfl⟩
  have hB1 : w.heap.size + 1 ≤ B := by omega
  clear hps hend hnd hk K1 H1_0 hz1 HC HP
  go_wp2_with fail
  rw [← hB] at HS0
  rw [← hB]
  clear hB
  go_loopw [] (fun W => ∃ (n : Nd) (l1 : List Tk) (f1 : Nat) (k : Int) (t : ByteArray) (sq : Option Addr) (sn sc : Nat) (a : Int), Hid (CS g b cap T w B d l1 n (vi ki k) (.string t) (.slice sq sn sc) (vi ki a) W) ∧ l1.length ≤ N ∧ Hid (10 * l1.length + 1 ≤ f1) ∧ Hid (par f1 (.cs n) d l1 = R)) (fun W => lenAt g W)
  case atStart => exact ⟨n0, l0, f, _, _, _, _, _, _, HS0, by simp only [List.length_cons] at hN; omega, by show _ ≤ _; omega, HR0⟩
  case round =>
   clear HS0 HR0 HE0
   obtain ⟨n, l1, f1, k, t, sq, sn, sc, a, KK, hN1, HF0, HR0⟩ := hrel
   ·obtain ⟨q, l, rfl⟩ := KK.out.2.2.2.2.2.2.cons
    obtain ⟨f1, rfl⟩ : ∃ f', f1 = f' + 1 := ⟨f1 - 1, by have := HF0.out; omega⟩
    have HPL : Hid (lenAt g wr = (q :: l).length) := KK.out.2.2.2.1.len
    have hwr : B < wr.heap.size := KK.out.2.2.1.1
    have hwr2 : w.heap.size < wr.heap.size := KK.out.2.1.1
    have HF2 : Hid (10 * l.length + 10 ≤ f1) := by have := HF0.out; simp only [List.length_cons] at this; show _ ≤ _; omega
    clear HF0
    have B2 : Hid (BS wr [(wr.heap.size, [vi ki 5, .string ⟨#[58, 58]⟩])] _) := (BS.start wr).new [vi ki 5, .string ⟨#[58, 58]⟩] 79 rfl
    go_wp2_with fail
    refine (is_any g b cap T q l d [(5, b2 58 58)] wr.heap.size 1 _ (KK.out.2.2.2.1.below B2.out.1) (by simp) (by omega) (by simp) B2.out.first).mono ?_
    rintro e W2 ⟨rfl, hb⟩
    have KB2 : Hid (CS g b cap T w B d (q :: l) n (vi ki k) (.string t) (.slice sq sn sc) (vi ki a) W2) := KK.out.kp hg ((Kp.of B2.out.1).trans (Kp.of hb)) ((KK.out.2.2.2.1.below B2.out.1).below hb) KK.out.2.2.2.2.2.2
    have hwr3 : B < W2.heap.size := KB2.out.2.2.1.1
    have hwr4 : w.heap.size < W2.heap.size := KB2.out.2.1.1
    clear hb KK B2
    by_cases hi : isT q [(5, b2 58 58)] = true
    ·rw [hi]
     have hfd1 : ∀ W : World, (Instr.field 81 (.agg #[vi ki q.1, .string q.2.1, vi ki q.2.2]) 1).run Tryd.prog W = .ok (vi ki q.2.2) W := fun W => by kernel_rfl
     have hk0 : q.1 ≠ 0 := isT_kind hi (by simp)
     have hEl : EndL l := EndL.tail KB2.out.2.2.2.2.2.2 hk0
     obtain ⟨u, l1, rfl⟩ := hEl.cons
     have HE2 : Hid (EndL (u :: l1)) := hEl
     clear hEl
     go_wp2_with fail
     refine (next_any g b cap T q u l1 d _ KB2.out.2.2.2.1).mono ?_
     rintro e W3 ⟨rfl, hk3, hp3⟩
     have KC : Hid (CS g b cap T w B d (u :: l1) n (vi ki k) (.string t) (.slice sq sn sc) (vi ki a) W3) := KB2.out.kp hg hk3 hp3 HE2.out
     have hwr5 : B < W3.heap.size := KC.out.2.2.1.1
     have hwr6 : w.heap.size < W3.heap.size := KC.out.2.1.1
     clear KB2 hk3 hp3
     obtain ⟨⟨pre, pa, pe, he, hbx⟩, htr, hne, hle, hmost⟩ := KC.out.2.2.2.1
     have cg := hbx.c 0 rfl
     obtain ⟨t0, t1, t2⟩ := htr.at he
     have hgW := hbx.1
     have hbW := htr.1
     have hlen : T.length = pre.length + l1.length + 1 := by rw [he]; simp <;> omega
     unfold maxLen at hmost
     have HEQ : Hid _ := he
     clear hbx htr he
     go_wp2_with fail
     refine (isFree_any u.1 u.2.1 u.2.2 _).mono ?_
     rintro e W4 ⟨rfl, hb4⟩
     have K4 : Hid (CS g b cap T w B d (u :: l1) n (vi ki k) (.string t) (.slice sq sn sc) (vi ki a) W4) := KC.out.kp hg (Kp.of hb4) (KC.out.2.2.2.1.below hb4) HE2.out
     clear hb4 KC cg t0 t1 t2 hgW hbW hwr5 hwr6 HEQ hlen hmost hle hne
     rw [show (u.1, u.2.1, u.2.2) = u from rfl]
     have hw41 : B < W4.heap.size := K4.out.2.2.1.1
     have hw42 : w.heap.size < W4.heap.size := K4.out.2.1.1
     by_cases ht : free u = true
     ·have hk1 : u.1 ≠ 0 := free_kind ht
      have hEl : EndL l1 := EndL.tail HE2.out hk1
      obtain ⟨y, l2, rfl⟩ := hEl.cons
      have HE3 : Hid (EndL (y :: l2)) := hEl
      clear hEl
      have eL : par (f1 + 1) (.cs n) d (q :: u :: y :: l2) = par f1 (.cs (.mk 10 u.2.1 [n] q.2.2)) d (y :: l2) := by rw [par_succ]; unfold pst; dsimp only; rw [if_pos hi, if_pos ht]
      have hR1 := HR0.out
      rw [eL] at hR1
      have HR1 : Hid (par f1 (.cs (.mk 10 u.2.1 [n] q.2.2)) d (y :: l2) = R) := hR1
      have HF1 : Hid (10 * (y :: l2).length + 1 ≤ f1) := by have := HF2.out; simp only [List.length_cons] at this ⊢; show _ ≤ _; omega
      simp only [List.length_cons] at HPL hN1
      clear eL hR1 HR0
      have KK : Hid (CS g b cap T w B d (u :: y :: l2) n (vi ki k) (.string t) (.slice sq sn sc) (vi ki a) W4) := K4
      clear K4
      have hfd2 : ∀ W : World, (Instr.field 81 (.agg #[vi ki u.1, .string u.2.1, vi ki u.2.2]) 0).run Tryd.prog W = .ok (.agg #[vi ki u.1, .string u.2.1]) W := fun W => by kernel_rfl
      have hfd3 : ∀ W : World, (Instr.field 79 (.agg #[vi ki u.1, .string u.2.1]) 1).run Tryd.prog W = .ok (.string u.2.1) W := fun W => by kernel_rfl
      rw [ht]
      go_wp2_with fail
      refine wp_region_held_drew (S := fun _ => True) (by kernel_rfl) trivial (fun hHeld => ?_)
      refine tks 0 ⟨some 35, _, _, _, _, none⟩ rfl ?_
      simp only [za, zb, zc, zd]
      refine tks 6 ⟨some 41, _, _, _, _, none⟩ rfl ?_
      simp only [za, zb, zc, zd]
      refine wpAnyH_ready (rs := [1, 4]) (by kernel_rfl) (by simp) (AllReadyH.cons (o := ⟨some 36, _, _, _, _, none⟩) rfl (fun K hK => ?_) (AllReadyH.cons (o := ⟨some 39, _, _, _, _, none⟩) rfl (fun K hK => ?_) AllReadyH.nil))
      ·
       go_simp
       refine (next_any g b cap T u y l2 d _ (by first | exact KK.out.2.2.2.1 | exact KK.out.drew.2.2.2.1)).mono ?_
       rintro e v1 ⟨rfl, hk1, hp1⟩
       refine hK.out _ _ trivial (fun hHeld => ?_)
       replace KK : Hid (CS g b cap T w B d (y :: l2) n (vi ki k) (.string t) (.slice sq sn sc) (vi ki a) v1) := by first | exact KK.out.kp hg hk1 hp1 HE3.out | exact KK.out.drew.kp hg hk1 hp1 HE3.out
       clear hK K hk1 hp1
       refine tks 2 ⟨some 37, _, _, _, _, none⟩ rfl ?_
       simp only [za, zb, zc, zd]
       refine tks 3 ⟨some 38, _, _, _, _, none⟩ rfl ?_
       simp only [za, zb, zc, zd]
       refine rd 4 ⟨some 39, _, _, _, _, none⟩ rfl (fun K hK => ?_)
       obtain ⟨q0, q1, q2, q3⟩ := KK.out.2.2.1.d4
       go_simp
       refine hK.out _ _ trivial (fun hHeld => ?_)
       clear hK K q0 q1 q2 q3
       refine rd 5 ⟨some 40, _, _, _, _, none⟩ rfl (fun K hK => ?_)
       have hwB : B < v1.heap.size := by first | exact KK.out.2.2.1.1 | exact KK.out.drew.2.2.1.1
       go_simp
       refine hK.out _ _ trivial (fun hHeld => ?_)
       obtain ⟨BR, hBR⟩ : ∃ BR, BR = v1.heap.size := ⟨_, rfl⟩
       have BN : Hid (BS v1 [(v1.heap.size, [vi ki k, .string t, .slice sq sn sc, vi ki a])] (v1.alloc (.cells #[vi ki k, .string t, .slice sq sn sc, vi ki a] 24))) := (BS.start v1).new [vi ki k, .string t, .slice sq sn sc, vi ki a] 24 rfl
       have KN : Hid (CS g b cap T w B d (y :: l2) n (vi ki k) (.string t) (.slice sq sn sc) (vi ki a) (v1.alloc (.cells #[vi ki k, .string t, .slice sq sn sc, vi ki a] 24)) ∧ Bx (v1.alloc (.cells #[vi ki k, .string t, .slice sq sn sc, vi ki a] 24)) BR [vi ki k, .string t, .slice sq sn sc, vi ki a]) := ⟨KK.out.kp hg (Kp.of BN.out.1) (KK.out.2.2.2.1.below BN.out.1) HE3.out, by rw [hBR]; exact BN.out.first⟩
       refine gen_anyH (fun V' => CS g b cap T w B d (y :: l2) n (vi ki k) (.string t) (.slice sq sn sc) (vi ki a) V' ∧ Bx V' BR [vi ki k, .string t, .slice sq sn sc, vi ki a]) (by first | exact KN.out | exact ⟨KN.out.1.drew, KN.out.2⟩) ?_
       have hBR1 : w.heap.size + 1 ≤ BR := by omega
       have hBR2 : BR ≠ B := by omega
       rw [← hBR]
       clear hHeld hK K KN BN hBR hwB KK
       rintro v3 ⟨kk1, kk2⟩
       have KK : Hid (CS g b cap T w B d (y :: l2) n (vi ki k) (.string t) (.slice sq sn sc) (vi ki a) v3) := kk1
       have HRW : Hid (Bx v3 BR [vi ki k, .string t, .slice sq sn sc, vi ki a]) := kk2
       clear kk1 kk2
       have hHeld : True := trivial
       refine tks 7 ⟨some 42, _, _, _, _, none⟩ rfl ?_
       simp only [za, zb, zc, zd]
       refine rd 8 ⟨none, _, _, _, _, none⟩ rfl (fun K hK => ?_)
       have hnn : NdAt (fun c => (w.heap.size + 1 ≤ c ∧ c ≠ B) ∨ v3.heap.size ≤ c) v3 (.mk 10 u.2.1 [n] q.2.2) [vi ki 10, .string u.2.1, .slice (some ⟨BR, 0, none⟩) 1 1, vi ki q.2.2] := NdAt.row (ks := [n]) (by simp) (by simp) (by unfold maxLen; omega) (.inl ⟨hBR1, hBR2⟩) HRW.out.1 (RwAt.one HRW.out (NdAt.keep (Nat.le_refl _) (fun c hc _ => ⟨.inl hc, rfl⟩) _ _ KK.out.2.2.2.2.1))
       have KP : Hid (CS g b cap T w B d (y :: l2) (.mk 10 u.2.1 [n] q.2.2) (vi ki 10) (.string u.2.1) (.slice (some ⟨BR, 0, none⟩) 1 1) (vi ki q.2.2) (v3.setCells B 0 [vi ki 10, .string u.2.1, .slice (some ⟨BR, 0, none⟩) 1 1, vi ki q.2.2])) := KK.out.put hg hbl (Kp.refl g _) KK.out.2.2.2.1 HE3.out hnn
       simp only [World.setCells, Nat.zero_add, Nat.reduceAdd] at KP
       obtain ⟨q0, q1, q2, q3, z0, z1, z2, z3⟩ := KK.out.2.2.1.cf4
       have hB9 := KK.out.2.2.1.1
       go_simp
       refine hK.out _ _ trivial (fun hHeld => ?_)
       refine gen_anyH (CS g b cap T w B d (y :: l2) (.mk 10 u.2.1 [n] q.2.2) (vi ki 10) (.string u.2.1) (.slice (some ⟨BR, 0, none⟩) 1 1) (vi ki q.2.2)) (by first | exact KP.out | exact KP.out.drew) ?_
       clear hHeld hK K KP q0 q1 q2 q3 z0 z1 z2 z3 hB9 KK hnn HRW
       intro v4 KK'
       have KK : Hid (CS g b cap T w B d (y :: l2) (.mk 10 u.2.1 [n] q.2.2) (vi ki 10) (.string u.2.1) (.slice (some ⟨BR, 0, none⟩) 1 1) (vi ki q.2.2) v4) := KK'
       clear KK'
       have hHeld : True := trivial
       refine wpAnyH_done (by kernel_rfl) ?_ _
       go_wp2_with fail
       exact ⟨⟨_, y :: l2, f1, _, _, _, _, _, _, KK, by simp only [List.length_cons]; omega, HF1.out, HR1.out⟩, by rw [KK.out.2.2.2.1.len, HPL.out]; simp only [List.length_cons]; omega⟩
      ·
       obtain ⟨q0, q1, q2, q3⟩ := KK.out.2.2.1.d4
       go_simp
       refine hK.out _ _ trivial (fun hHeld => ?_)
       clear hK K q0 q1 q2 q3
       refine wpAnyH_ready (rs := [1, 5]) (by kernel_rfl) (by simp) (AllReadyH.cons (o := ⟨some 36, _, _, _, _, none⟩) rfl (fun K hK => ?_) (AllReadyH.cons (o := ⟨some 40, _, _, _, _, none⟩) rfl (fun K hK => ?_) AllReadyH.nil))
       ·
        go_simp
        refine (next_any g b cap T u y l2 d _ (by first | exact KK.out.2.2.2.1 | exact KK.out.drew.2.2.2.1)).mono ?_
        rintro e v6 ⟨rfl, hk6, hp6⟩
        refine hK.out _ _ trivial (fun hHeld => ?_)
        replace KK : Hid (CS g b cap T w B d (y :: l2) n (vi ki k) (.string t) (.slice sq sn sc) (vi ki a) v6) := by first | exact KK.out.kp hg hk6 hp6 HE3.out | exact KK.out.drew.kp hg hk6 hp6 HE3.out
        clear hK K hk6 hp6
        refine tks 2 ⟨some 37, _, _, _, _, none⟩ rfl ?_
        simp only [za, zb, zc, zd]
        refine tks 3 ⟨some 38, _, _, _, _, none⟩ rfl ?_
        simp only [za, zb, zc, zd]
        refine rd 5 ⟨some 40, _, _, _, _, none⟩ rfl (fun K hK => ?_)
        have hwB : B < v6.heap.size := by first | exact KK.out.2.2.1.1 | exact KK.out.drew.2.2.1.1
        go_simp
        refine hK.out _ _ trivial (fun hHeld => ?_)
        obtain ⟨BR, hBR⟩ : ∃ BR, BR = v6.heap.size := ⟨_, rfl⟩
        have BN : Hid (BS v6 [(v6.heap.size, [vi ki k, .string t, .slice sq sn sc, vi ki a])] (v6.alloc (.cells #[vi ki k, .string t, .slice sq sn sc, vi ki a] 24))) := (BS.start v6).new [vi ki k, .string t, .slice sq sn sc, vi ki a] 24 rfl
        have KN : Hid (CS g b cap T w B d (y :: l2) n (vi ki k) (.string t) (.slice sq sn sc) (vi ki a) (v6.alloc (.cells #[vi ki k, .string t, .slice sq sn sc, vi ki a] 24)) ∧ Bx (v6.alloc (.cells #[vi ki k, .string t, .slice sq sn sc, vi ki a] 24)) BR [vi ki k, .string t, .slice sq sn sc, vi ki a]) := ⟨KK.out.kp hg (Kp.of BN.out.1) (KK.out.2.2.2.1.below BN.out.1) HE3.out, by rw [hBR]; exact BN.out.first⟩
        refine gen_anyH (fun V' => CS g b cap T w B d (y :: l2) n (vi ki k) (.string t) (.slice sq sn sc) (vi ki a) V' ∧ Bx V' BR [vi ki k, .string t, .slice sq sn sc, vi ki a]) (by first | exact KN.out | exact ⟨KN.out.1.drew, KN.out.2⟩) ?_
        have hBR1 : w.heap.size + 1 ≤ BR := by omega
        have hBR2 : BR ≠ B := by omega
        rw [← hBR]
        clear hHeld hK K KN BN hBR hwB KK
        rintro v7 ⟨kk1, kk2⟩
        have KK : Hid (CS g b cap T w B d (y :: l2) n (vi ki k) (.string t) (.slice sq sn sc) (vi ki a) v7) := kk1
        have HRW : Hid (Bx v7 BR [vi ki k, .string t, .slice sq sn sc, vi ki a]) := kk2
        clear kk1 kk2
        have hHeld : True := trivial
        refine tks 7 ⟨some 42, _, _, _, _, none⟩ rfl ?_
        simp only [za, zb, zc, zd]
        refine rd 8 ⟨none, _, _, _, _, none⟩ rfl (fun K hK => ?_)
        have hnn : NdAt (fun c => (w.heap.size + 1 ≤ c ∧ c ≠ B) ∨ v7.heap.size ≤ c) v7 (.mk 10 u.2.1 [n] q.2.2) [vi ki 10, .string u.2.1, .slice (some ⟨BR, 0, none⟩) 1 1, vi ki q.2.2] := NdAt.row (ks := [n]) (by simp) (by simp) (by unfold maxLen; omega) (.inl ⟨hBR1, hBR2⟩) HRW.out.1 (RwAt.one HRW.out (NdAt.keep (Nat.le_refl _) (fun c hc _ => ⟨.inl hc, rfl⟩) _ _ KK.out.2.2.2.2.1))
        have KP : Hid (CS g b cap T w B d (y :: l2) (.mk 10 u.2.1 [n] q.2.2) (vi ki 10) (.string u.2.1) (.slice (some ⟨BR, 0, none⟩) 1 1) (vi ki q.2.2) (v7.setCells B 0 [vi ki 10, .string u.2.1, .slice (some ⟨BR, 0, none⟩) 1 1, vi ki q.2.2])) := KK.out.put hg hbl (Kp.refl g _) KK.out.2.2.2.1 HE3.out hnn
        simp only [World.setCells, Nat.zero_add, Nat.reduceAdd] at KP
        obtain ⟨q0, q1, q2, q3, z0, z1, z2, z3⟩ := KK.out.2.2.1.cf4
        have hB9 := KK.out.2.2.1.1
        go_simp
        refine hK.out _ _ trivial (fun hHeld => ?_)
        refine gen_anyH (CS g b cap T w B d (y :: l2) (.mk 10 u.2.1 [n] q.2.2) (vi ki 10) (.string u.2.1) (.slice (some ⟨BR, 0, none⟩) 1 1) (vi ki q.2.2)) (by first | exact KP.out | exact KP.out.drew) ?_
        clear hHeld hK K KP q0 q1 q2 q3 z0 z1 z2 z3 hB9 KK hnn HRW
        intro v8 KK'
        have KK : Hid (CS g b cap T w B d (y :: l2) (.mk 10 u.2.1 [n] q.2.2) (vi ki 10) (.string u.2.1) (.slice (some ⟨BR, 0, none⟩) 1 1) (vi ki q.2.2) v8) := KK'
        clear KK'
        have hHeld : True := trivial
        refine wpAnyH_done (by kernel_rfl) ?_ _
        go_wp2_with fail
        exact ⟨⟨_, y :: l2, f1, _, _, _, _, _, _, KK, by simp only [List.length_cons]; omega, HF1.out, HR1.out⟩, by rw [KK.out.2.2.2.1.len, HPL.out]; simp only [List.length_cons]; omega⟩
       ·
        have hwB : B < W4.heap.size := by first | exact KK.out.2.2.1.1 | exact KK.out.drew.2.2.1.1
        go_simp
        refine hK.out _ _ trivial (fun hHeld => ?_)
        obtain ⟨BR, hBR⟩ : ∃ BR, BR = W4.heap.size := ⟨_, rfl⟩
        have BN : Hid (BS W4 [(W4.heap.size, [vi ki k, .string t, .slice sq sn sc, vi ki a])] (W4.alloc (.cells #[vi ki k, .string t, .slice sq sn sc, vi ki a] 24))) := (BS.start W4).new [vi ki k, .string t, .slice sq sn sc, vi ki a] 24 rfl
        have KN : Hid (CS g b cap T w B d (u :: y :: l2) n (vi ki k) (.string t) (.slice sq sn sc) (vi ki a) (W4.alloc (.cells #[vi ki k, .string t, .slice sq sn sc, vi ki a] 24)) ∧ Bx (W4.alloc (.cells #[vi ki k, .string t, .slice sq sn sc, vi ki a] 24)) BR [vi ki k, .string t, .slice sq sn sc, vi ki a]) := ⟨KK.out.kp hg (Kp.of BN.out.1) (KK.out.2.2.2.1.below BN.out.1) HE2.out, by rw [hBR]; exact BN.out.first⟩
        refine gen_anyH (fun V' => CS g b cap T w B d (u :: y :: l2) n (vi ki k) (.string t) (.slice sq sn sc) (vi ki a) V' ∧ Bx V' BR [vi ki k, .string t, .slice sq sn sc, vi ki a]) (by first | exact KN.out | exact ⟨KN.out.1.drew, KN.out.2⟩) ?_
        have hBR1 : w.heap.size + 1 ≤ BR := by omega
        have hBR2 : BR ≠ B := by omega
        rw [← hBR]
        clear hHeld hK K KN BN hBR hwB KK
        rintro v9 ⟨kk1, kk2⟩
        have KK : Hid (CS g b cap T w B d (u :: y :: l2) n (vi ki k) (.string t) (.slice sq sn sc) (vi ki a) v9) := kk1
        have HRW : Hid (Bx v9 BR [vi ki k, .string t, .slice sq sn sc, vi ki a]) := kk2
        clear kk1 kk2
        have hHeld : True := trivial
        refine rd 1 ⟨some 36, _, _, _, _, none⟩ rfl (fun K hK => ?_)
        go_simp
        refine (next_any g b cap T u y l2 d _ (by first | exact KK.out.2.2.2.1 | exact KK.out.drew.2.2.2.1)).mono ?_
        rintro e v10 ⟨rfl, hk10, hp10⟩
        refine hK.out _ _ trivial (fun hHeld => ?_)
        have HRW2 : Hid (Bx v10 BR [vi ki k, .string t, .slice sq sn sc, vi ki a]) := by first | exact hk10.bx HRW.out (by omega) | exact hk10.bx (W := v10) HRW.out (by omega)
        clear HRW
        have HRW := HRW2
        clear HRW2
        replace KK : Hid (CS g b cap T w B d (y :: l2) n (vi ki k) (.string t) (.slice sq sn sc) (vi ki a) v10) := by first | exact KK.out.kp hg hk10 hp10 HE3.out | exact KK.out.drew.kp hg hk10 hp10 HE3.out
        clear hK K hk10 hp10
        refine tks 2 ⟨some 37, _, _, _, _, none⟩ rfl ?_
        simp only [za, zb, zc, zd]
        refine tks 3 ⟨some 38, _, _, _, _, none⟩ rfl ?_
        simp only [za, zb, zc, zd]
        refine tks 7 ⟨some 42, _, _, _, _, none⟩ rfl ?_
        simp only [za, zb, zc, zd]
        refine rd 8 ⟨none, _, _, _, _, none⟩ rfl (fun K hK => ?_)
        have hnn : NdAt (fun c => (w.heap.size + 1 ≤ c ∧ c ≠ B) ∨ v10.heap.size ≤ c) v10 (.mk 10 u.2.1 [n] q.2.2) [vi ki 10, .string u.2.1, .slice (some ⟨BR, 0, none⟩) 1 1, vi ki q.2.2] := NdAt.row (ks := [n]) (by simp) (by simp) (by unfold maxLen; omega) (.inl ⟨hBR1, hBR2⟩) HRW.out.1 (RwAt.one HRW.out (NdAt.keep (Nat.le_refl _) (fun c hc _ => ⟨.inl hc, rfl⟩) _ _ KK.out.2.2.2.2.1))
        have KP : Hid (CS g b cap T w B d (y :: l2) (.mk 10 u.2.1 [n] q.2.2) (vi ki 10) (.string u.2.1) (.slice (some ⟨BR, 0, none⟩) 1 1) (vi ki q.2.2) (v10.setCells B 0 [vi ki 10, .string u.2.1, .slice (some ⟨BR, 0, none⟩) 1 1, vi ki q.2.2])) := KK.out.put hg hbl (Kp.refl g _) KK.out.2.2.2.1 HE3.out hnn
        simp only [World.setCells, Nat.zero_add, Nat.reduceAdd] at KP
        obtain ⟨q0, q1, q2, q3, z0, z1, z2, z3⟩ := KK.out.2.2.1.cf4
        have hB9 := KK.out.2.2.1.1
        go_simp
        refine hK.out _ _ trivial (fun hHeld => ?_)
        refine gen_anyH (CS g b cap T w B d (y :: l2) (.mk 10 u.2.1 [n] q.2.2) (vi ki 10) (.string u.2.1) (.slice (some ⟨BR, 0, none⟩) 1 1) (vi ki q.2.2)) (by first | exact KP.out | exact KP.out.drew) ?_
        clear hHeld hK K KP q0 q1 q2 q3 z0 z1 z2 z3 hB9 KK hnn HRW
        intro v11 KK'
        have KK : Hid (CS g b cap T w B d (y :: l2) (.mk 10 u.2.1 [n] q.2.2) (vi ki 10) (.string u.2.1) (.slice (some ⟨BR, 0, none⟩) 1 1) (vi ki q.2.2) v11) := KK'
        clear KK'
        have hHeld : True := trivial
        refine wpAnyH_done (by kernel_rfl) ?_ _
        go_wp2_with fail
        exact ⟨⟨_, y :: l2, f1, _, _, _, _, _, _, KK, by simp only [List.length_cons]; omega, HF1.out, HR1.out⟩, by rw [KK.out.2.2.2.1.len, HPL.out]; simp only [List.length_cons]; omega⟩
     ·rw [Bool.not_eq_true] at ht
      have eL : par (f1 + 1) (.cs n) d (q :: u :: l1) = .no u.2.2 30 := by rw [par_succ]; unfold pst; dsimp only; rw [if_pos hi, ht]; rfl
      have hR1 := HR0.out
      rw [eL] at hR1
      have HR1 : Hid (R = .no u.2.2 30) := hR1.symm
      clear eL hR1 HR0
      rw [ht]
      go_wp2_with fail
      refine (wrong_any g b cap T u l1 d _ K4.out.2.2.2.1).mono ?_
      rintro e W6 ⟨rfl, hk6, hf6⟩
      have K9 : Hid (Kp g w W6) := K4.out.1.trans hk6
      have H9 : Hid (Bx W6 w.heap.size _) := hk6.bx K4.out.2.1 (by omega)
      have HF6 : Hid (PF g W6 d u.2.2 30) := hf6
      clear hk6 hf6
      obtain ⟨y0', y1', y2', y3', HFK, HFO, HFS, r0, r1, r2, r3, s0, s1, s2, s3, hrw'⟩ := fin9 (vi ki 0) (.string ⟨#[]⟩) (.slice none 0 0) (vi ki 0) K9.out (by omega) (H9.out)
      go_wp2
      refine bodyPost_ret (v := .tuple #[.agg #[vi ki 0, .string ⟨#[]⟩, .slice none 0 0, vi ki 0], .bool false]) (by simp [results, Tryd.results94, go_sem, y0', y1', y2', y3']) rfl ⟨HFK.out, by rw [HR1.out]; exact ⟨PF.off HF6.out HFO.out HFS.out (by omega), rfl⟩⟩
    ·rw [Bool.not_eq_true] at hi
     rw [hi]
     have eL : par (f1 + 1) (.cs n) d (q :: l) = .ok n (q :: l) := by rw [par_succ]; unfold pst; dsimp only; rw [hi]; rfl
     have hR1 := HR0.out
     rw [eL] at hR1
     have HR1 : Hid (R = .ok n (q :: l)) := hR1.symm
     have K9 : Hid (Kp g w W2) := KB2.out.1
     have H9 : Hid (Bx W2 w.heap.size _) := KB2.out.2.1
     have H8 : Hid (Bx W2 B _) := KB2.out.2.2.1
     clear eL hR1 HR0
     obtain ⟨x0, x1, x2, x3⟩ := H8.out.d4
     obtain ⟨y0', y1', y2', y3', HFK, HFO, HFS, r0, r1, r2, r3, s0, s1, s2, s3, hrw'⟩ := fin9 (vi ki k) (.string t) (.slice sq sn sc) (vi ki a) K9.out (by omega) (H9.out)
     go_wp2
     refine bodyPost_ret (v := .tuple #[.agg #[vi ki k, .string t, .slice sq sn sc, vi ki a], .bool true]) (by simp [results, Tryd.results94, go_sem, y0', y1', y2', y3']) rfl ⟨HFK.out, by rw [HR1.out]; exact ⟨KB2.out.2.2.2.1.off HFO.out HFS.out (by omega) (by omega), KB2.out.2.2.2.2.2.2, _, _, _, _, _, _, rfl, KB2.out.2.2.2.2.1.off HFO.out HFS.out (fun c hc => ⟨by omega, by omega⟩)⟩⟩
end Go.Proofs.YtaoocecipacnhaaDoor
