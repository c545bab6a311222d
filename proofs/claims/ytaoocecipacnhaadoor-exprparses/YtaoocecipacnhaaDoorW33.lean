import Derived.Test.YtaoocecipacnhaaDoorWz
import Derived.Test.YtaoocecipacnhaaDoorW32
open Go.Value renaming int → vi
open Go.IntKind renaming i64 → ki
open List renaming setIfInBounds_toArray → zb, set_cons_zero → zc, set_cons_succ → zd
open Go.Act renaming put → za
open Go.Ending renaming returned → zr
set_option maxRecDepth 100000
set_option maxHeartbeats 16000000
set_option linter.unusedVariables false
namespace Go.Proofs.YtaoocecipacnhaaDoor
open Go.RowKit
theorem rlv_lp (g b cap : Nat) (T : List Tk) (hG : Hid (∀ x ∈ T, GoodT x)) (N lev : Nat) (hlev : lev = 0 ∨ lev = 1 ∨ lev = 3 ∨ lev = 4 ∨ lev = 5) (HA : Hid (RLv g b cap T (lev + 1) N)) : RLv g b cap T lev N := by
 intro w L d f h hL hd hN hf
 obtain ⟨i0, hi0, iz0, iz1, iz2⟩ := info_parts infoNode22
 obtain ⟨r, l, rfl⟩ := mL_none hL
 obtain ⟨f, rfl⟩ : ∃ f', f = f' + 1 := ⟨f - 1, by simp only [need, mL_cons, List.length_cons] at hf; omega⟩
 simp only [need, mL_cons, List.length_cons, mL_len] at hf hN
 have HL : Hid (EndL (mL (r :: l))) := hL
 have HV : Hid (lev = 0 ∨ lev = 1 ∨ lev = 3 ∨ lev = 4 ∨ lev = 5) := hlev
 have hlev5 : lev ≤ 5 := by omega
 have hl2 : ((lev : Int) == 2) = false := by rw [beq_eq_false_iff_ne]; omega
 have hl6 : ((lev : Int) == 6) = false := by rw [beq_eq_false_iff_ne]; omega
 have hl8 : ((lev : Int) == 8) = false := by rw [beq_eq_false_iff_ne]; omega
 have hlw : IntKind.i64.wrap ((lev : Int) + 1) = (lev : Int) + 1 := by rw [IntKind.wrap_i64]; omega
 clear hlev
 obtain ⟨R, hR⟩ : ∃ R, par (f + 1) (.lv lev) d (mL (r :: l)) = R := ⟨_, rfl⟩
 rw [hR]
 rw [mL_cons, ln_eq f lev d HV.out] at hR
 have HRR : Hid (lnK f lev d (par f (.lv (lev + 1)) d (mT r :: mL l)) = R) := hR
 clear hR hL
 have hg := h.lt
 have hbl := h.tr.1
 have HP : Hid (RS g b cap T w (r :: l) d) := h
 have HCC : Hid (∀ V : World, RS g b cap T V (r :: l) d → Calls Tryd.prog 18 #[.pointer (some ⟨g, 0, none⟩), vi ki ((lev : Int) + 1)] V fun e w' => Kp g V w' ∧ ROut g b V.heap.size cap T (fun c => V.heap.size ≤ c) w' d e (par f (.lv (lev + 1)) d (mT r :: mL l))) := fun V hV => HA.out V (r :: l) d f hV HL.out hd (by simp only [List.length_cons]; omega) (by simp only [need, mL_cons, List.length_cons, mL_len]; omega)
 obtain ⟨pre, pa, cg0, cg1, cg2, fg0, fg1, t0, t1, t2, hgW, hbW, hlen, hmost, hle, hne, HEQ, HBX, HTR⟩ := RS.facts (h)
 clear h
 go_enter Tryd.func18, Tryd.ntmps18
 go_upto_region 20 with fail
 have B0 := bsn1 w [vi ki 0, .string ⟨#[]⟩, .slice none 0 0, vi ki 0] 30
 have HP0 : Hid (RS g b cap T (w.alloc (.cells #[vi ki 0, .string ⟨#[]⟩, .slice none 0 0, vi ki 0] 30)) (r :: l) d) := HP.out.below B0.out.1
 clear cg0 cg1 cg2 fg0 fg1 t0 t1 t2 hgW hbW hlen hmost hle HEQ HBX HTR hne hl2 hl6 hl8
 go_cut [9] from 71 to 74 (fun v V => ∃ B, v = .pointer (some ⟨B, 0, none⟩) ∧ w.heap.size + 1 ≤ B ∧ LREL g b cap T w B d N (fun f1 n l => GG lev d f1 n l) R V)
 case first =>
  cases hr : par f (.lv (lev + 1)) d (mT r :: mL l) with
  | no ea er =>
   rw [hr] at HCC
   have HR9 : Hid (R = .no ea er) := by have := HRR.out; rw [hr] at this; exact this.symm
   clear hr HRR
   go_wp2_with fail
   refine (HCC.out _ HP0.out).mono ?_
   rintro e W1 ⟨hk, her, hf1, k9, u9, sq9, sn9, sc9, a9, rfl⟩
   have hz1 : w.heap.size + 1 ≤ W1.heap.size := by have := hk.size; (try simp at this); omega
   have K1 : Hid (Kp g w W1) := (Kp.of B0.out.1).trans hk
   have H1 : Hid (Bx W1 w.heap.size [vi ki 0, .string ⟨#[]⟩, .slice none 0 0, vi ki 0]) := hk.bx B0.out.first (by omega)
   have F1 : Hid (RF g b (w.heap.size + 1) W1 ea er) := hf1.mono (by simp)
   have HER : Hid (er ≠ 0) := her
   clear hk her hf1 B0 HP0 HP HCC
   go_wp2_with fail
   go_meet
   case rel =>
    refine ⟨_, rfl, hz1, Or.inr ⟨ea, er, w.heap.size + 1, k9, u9, sq9, sn9, sc9, a9, ⟨K1.out.alloc _, H1.out.alloc _, Bx.new W1 [vi ki k9, .string u9, .slice sq9 sn9 sc9, vi ki a9] _, F1.out.below ((Below.refl _ _).alloc (Nat.le_refl _) _)⟩, HR9, HER.out, by omega⟩⟩
  | ok n l1 =>
   rw [hr] at HCC
   have hls := par_less (g := .lv (lev + 1)) (by simp [okTg]; omega) (show EndL (mT r :: mL l) from HL.out) (by simp only [need, List.length_cons, mL_len]; omega) hr
   have hls2 := hls.2
   simp only [most, List.length_cons, mL_len] at hls2
   obtain ⟨f1, hf1⟩ : ∃ f1, f1 = if lev = 3 then f + 1 else f := ⟨_, rfl⟩
   have hff1 : f ≤ f1 := by rw [hf1]; split <;> omega
   have HR9 : Hid (GG lev d f1 n l1 = R) := by have := HRR.out; rw [hr, lnK, ← hf1] at this; exact this
   clear hr HRR hls hf1
   go_wp2_with fail
   refine (HCC.out _ HP0.out).mono ?_
   rintro e W1 ⟨hk, L1, rfl, hrs, hend, k9, u9, sq9, sn9, sc9, a9, rfl, hnd⟩
   have hz1 : w.heap.size + 1 ≤ W1.heap.size := by have := hk.size; (try simp at this); omega
   rw [mL_len] at hls2
   have X1 : Hid (CR g b cap T w W1.heap.size d L1 n (vi ki k9) (.string u9) (.slice sq9 sn9 sc9) (vi ki a9) (W1.alloc (.cells #[vi ki k9, .string u9, .slice sq9 sn9 sc9, vi ki a9] 30))) :=
    ⟨((Kp.of B0.out.1).trans hk).alloc _, (hk.bx B0.out.first (by omega)).alloc _, Bx.new W1 [vi ki k9, .string u9, .slice sq9 sn9 sc9, vi ki a9] _, hrs.below ((Below.refl _ _).alloc (Nat.le_refl _) _), NdAt.keep (by simp) (fun c hc hl => ⟨⟨by (try simp at hc); omega, by omega⟩, Below.heap_alloc _ _ _ hl⟩) _ _ hnd, by omega, hend⟩
   clear hk hrs hend hnd B0 HP0 HP HCC
   go_wp2_with fail
   go_meet
   case rel => exact ⟨_, rfl, hz1, Or.inl ⟨L1, f1, n, k9, u9, sq9, sn9, sc9, a9, X1, by omega, (by show _ ≤ _; omega), HR9⟩⟩
 case rest =>
  obtain ⟨B, rfl, hBw, hL0⟩ := hcut
  clear B0 HP0 HP HCC HRR
  go_wp2_with fail
  go_loopw [] (fun V => LREL g b cap T w B d N (fun f1 n l => GG lev d f1 n l) R V) (fun V => msR g V)
  case atStart => exact hL0
  case round =>
   clear hL0
   rcases hrel with ⟨L, f1, n, kn, un, sqn, snn, scn, an, KK, hN2, HF, HKs⟩ | ⟨ea, er, Z, kn, un, sqn, snn, scn, an, KB, HR9, her, hZ⟩
   ·obtain ⟨q, l2, rfl⟩ := mL_none KK.out.2.2.2.2.2.2
    obtain ⟨f2, rfl⟩ : ∃ f', f1 = f' + 1 := ⟨f1 - 1, by have := HF.out; simp only [List.length_cons] at this; omega⟩
    have HPL : Hid (msR g wr = (q :: l2).length + 1) := KK.out.2.2.2.1.msr
    have HGq : Hid (GoodT q) := KK.out.2.2.2.1.good hG.out
    obtain ⟨FD, hFD⟩ : ∃ FD, (sgW lev).find? (fun s => sgB q s) = FD := ⟨_, rfl⟩
    have HFi : Hid (FD = if isT (mT q) (sgs lev) = true then some (mT q).2.1 else none) := hFD.symm.trans (line_find HGq.out HV.out)
    have HFD : Hid ((sgW lev).find? (fun s => sgB q s) = FD) := hFD
    obtain ⟨KN, hKN⟩ : ∃ KN, KN = (sgW lev).length := ⟨_, rfl⟩
    have hK6 : KN ≤ 6 := by rw [hKN]; rcases HV.out with rfl | rfl | rfl | rfl | rfl <;> decide
    have HKN : Hid (KN = (sgW lev).length) := hKN
    obtain ⟨pre, pa, cg0, cg1, cg2, fg0, fg1, t0, t1, t2, hgW, hbW, hlen, hmost, hle, hne, HEQ, HBX, HTR⟩ := RS.facts (KK.out.2.2.2.1)
    go_upto_region 24 with fail
    have hwr : w.heap.size < wr.heap.size := KK.out.2.1.1
    clear cg0 cg1 cg2 fg0 fg1 t0 t1 t2 hgW hbW hlen hmost hle HEQ HBX HTR hne
    go_wp2_with fail
    refine Calls.mono (rsigns_at lev (by have := HV.out; omega) wr) ?_
    rw [← hKN]
    rintro e W1 ⟨bs, rfl, hbs, hb1, hx1⟩
    have K1 : Hid (CR g b cap T w B d (q :: l2) n (vi ki kn) (.string un) (.slice sqn snn scn) (vi ki an) W1) := KK.out.kp hg (Kp.of hb1) (KK.out.2.2.2.1.below hb1) KK.out.2.2.2.2.2.2
    have X1 : Hid (Bx W1 bs (sTx (sgW lev))) := hx1
    have hbg : bs ≠ g := by omega
    clear hb1 hx1 KK hwr hbs hFD hKN
    go_wp2_with fail
    go_loopw [10, 12] (fun sv iv V => ∃ (j : Nat) (L : List Tk), iv = vi ki (j : Int) ∧ j ≤ KN ∧ Hid (CR g b cap T w B d L n (vi ki kn) (.string un) (.slice sqn snn scn) (vi ki an) V) ∧ Hid (Bx V bs (sTx (sgW lev))) ∧ ((sv = .string ⟨#[]⟩ ∧ (q :: l2) = L ∧ Hid (((sgW lev).drop j).find? (fun s => sgB q s) = FD)) ∨ (∃ s, sv = .string s ∧ l2 = L ∧ Hid (FD = some s)))) (fun _ iv _ => KN - (intOf iv).toNat)
    case atStart => exact ⟨0, q :: l2, rfl, Nat.zero_le _, K1, X1, Or.inl ⟨rfl, rfl, HFD⟩⟩
    case round =>
     obtain ⟨j, L, rfl, hj, K2, X2, hAB⟩ := hrel
     clear K1 X1 HFD
     rcases hAB with ⟨rfl, rfl, HA2⟩ | ⟨s, rfl, rfl, HS2⟩
     ·by_cases hlt : j < KN
      ·obtain ⟨s1, hs1⟩ : ∃ s1, (sgW lev)[j]? = some s1 := ⟨(sgW lev)[j]'(by have := HKN.out; omega), List.getElem?_eq_getElem _⟩
       have hjI : (j : Int) < (KN : Int) := by omega
       have hj0 : (0 : Int) ≤ (j : Int) := by omega
       have hjw : IntKind.i64.wrap ((j : Int) + 1) = (j : Int) + 1 := by rw [IntKind.wrap_i64]; omega
       have xj := X2.out.c j (v := .string s1) (by unfold sTx; simp [hs1])
       have xh := X2.out.1
       have hfa := find_at (p := fun s => sgB q s) hs1
       have HA3 := HA2.out
       rw [hfa] at HA3
       clear hfa HA2 hs1
       by_cases hsg : sgB q s1 = true
       ·rw [if_pos hsg] at HA3
        have HFS : Hid (FD = some s1) := HA3.symm
        have hT := (find_yes HFi.out HFS.out).1
        have hEl : EndL (mL l2) := EndL.tail K2.out.2.2.2.2.2.2 (isT_kind hT (sgs_kind lev))
        have HSi := rsign_any g b cap T l2 q HGq.out s1 (fun _ => by obtain ⟨y, l9, rfl⟩ := mL_none hEl; simp) d wr K2.out.2.2.2.1
        rw [hsg, if_pos rfl] at HSi
        have HSg : Hid _ := HSi
        have HEl : Hid (EndL (mL l2)) := hEl
        clear HSi HA3 hsg hT hEl
        go_wp2_with fail
        refine Calls.mono HSg.out ?_
        rintro e W3 ⟨rfl, hk3, hr3⟩
        have K3 : Hid (CR g b cap T w B d l2 n (vi ki kn) (.string un) (.slice sqn snn scn) (vi ki an) W3) := K2.out.kp hg hk3 hr3 HEl.out
        have X3 : Hid (Bx W3 bs (sTx (sgW lev))) := hk3.bx X2.out hbg
        have xj3 : W3.cell? ⟨bs, j, none⟩ = some (.string s1) := (hk3.cell (p := ⟨bs, j, none⟩) xh hbg).trans xj
        have xh3 := X3.out.1
        clear xj xh hk3 hr3 K2 X2 HSg
        go_wp2_with fail
        exact ⟨⟨j + 1, l2, by go_num, by omega, K3, X3, Or.inr ⟨s1, rfl, rfl, HFS⟩⟩, by simp [intOf]; omega⟩
       ·rw [if_neg hsg] at HA3
        have HA4 : Hid (((sgW lev).drop (j + 1)).find? (fun s => sgB q s) = FD) := HA3
        rw [Bool.not_eq_true] at hsg
        have HSi := rsign_any g b cap T l2 q HGq.out s1 (fun z => by rw [hsg] at z; cases z) d wr K2.out.2.2.2.1
        rw [hsg, if_neg (by simp)] at HSi
        have HSg : Hid _ := HSi
        clear HSi HA3 hsg
        go_wp2_with fail
        refine Calls.mono HSg.out ?_
        rintro e W3 ⟨rfl, hk3, hr3⟩
        have K3 : Hid (CR g b cap T w B d (q :: l2) n (vi ki kn) (.string un) (.slice sqn snn scn) (vi ki an) W3) := K2.out.kp hg hk3 hr3 K2.out.2.2.2.2.2.2
        have X3 : Hid (Bx W3 bs (sTx (sgW lev))) := hk3.bx X2.out hbg
        clear xj xh hk3 hr3 K2 X2 HSg
        go_wp2_with fail
        exact ⟨⟨j + 1, q :: l2, by go_num, by omega, K3, X3, Or.inl ⟨rfl, rfl, HA4⟩⟩, by simp [intOf]; omega⟩
      ·obtain rfl : j = KN := by omega
       have HFN : FD = none := by have := HA2.out; rw [HKN.out, List.drop_length] at this; exact this.symm
       have hT := find_no HFi.out HFN
       have HR9 : Hid (R = .ok n (mL (q :: l2))) := by have e9 := HKs.out; rw [mL_cons] at e9; exact e9.symm.trans (gg_no _ _ _ _ hT)
       clear HFN hT HA2 HKs
       obtain ⟨n0, n1, n2, n3⟩ := K2.out.2.2.1.d4
       have nh := K2.out.2.2.1.1
       obtain ⟨y0', y1', y2', y3', HFK, HFO, HFS, rr0, rr1, rr2, rr3, rf0, rf1, rf2, rf3, hrw'⟩ := fin9 (vi ki kn) (.string un) (.slice sqn snn scn) (vi ki an) K2.out.1 (Nat.le_refl _) (K2.out.2.1)
       go_wp2
       refine bodyPost_ret (v := .agg #[vi ki kn, .string un, .slice sqn snn scn, vi ki an]) (by simp [results, Tryd.results18, go_sem, y0', y1', y2', y3']) rfl ⟨HFK.out, by rw [HR9.out]; exact ⟨q :: l2, rfl, K2.out.2.2.2.1.off HFO.out HFS.out (by omega) (by omega), K2.out.2.2.2.2.2.2, _, _, _, _, _, _, rfl, K2.out.2.2.2.2.1.off HFO.out HFS.out (fun c hc => ⟨by omega, by omega⟩)⟩⟩
     ·obtain ⟨hT, hs⟩ := find_yes HFi.out HS2.out
      obtain ⟨hs0, hsa⟩ := sgs_txt HV.out hT
      rw [← hs] at hs0 hsa
      obtain ⟨p, l3, rfl⟩ := mL_none K2.out.2.2.2.2.2.2
      have HE2 : Hid (EndL (mL (p :: l3))) := K2.out.2.2.2.2.2.2
      have e1 : (s.toList == []) = false := (lit_eq _ []).trans (decide_eq_false hs0)
      have e2 : (s.toList == [97, 116]) = false := (lit_eq _ [97, 116]).trans (decide_eq_false hsa)
      have HK2 : Hid (xG f2 lev d n s q.2.2 (par f2 (.lv (lev + 1)) d (mT p :: mL l3)) = R) := by have e9 := HKs.out; rw [hs]; exact (gg_yes f2 lev d n hT).symm.trans e9
      clear hs0 hsa hT hs HS2 HKs X2
      go_upto_region 26 with fail
      go_cut [96] from 89 to 96 (fun t V => t = .bool false ∧ wr = V)
      case first =>
       by_cases hlt : j < KN
       ·have hjI : (j : Int) < (KN : Int) := by omega
        go_wp2_with fail
        go_meet
        case rel => exact ⟨rfl, rfl⟩
       ·have hjI : ¬ (j : Int) < (KN : Int) := by omega
        go_wp2_with fail
        go_meet
        case rel => exact ⟨rfl, rfl⟩
      case rest =>
       obtain ⟨rfl, rfl⟩ := hcut
       have KK0 : Hid (CR g b cap T w B d (p :: l3) n (vi ki kn) (.string un) (.slice sqn snn scn) (vi ki an) wr) := K2
       clear K2
       go_upto_region 37 with fail
       obtain ⟨C, hC⟩ : ∃ C, C = wr.heap.size := ⟨_, rfl⟩
       have KX0 : Hid (XM g b cap T w B d (p :: l3) n (vi ki kn) (.string un) (.slice sqn snn scn) (vi ki an) C s q.2.2 (wr.alloc (.cells #[vi ki 8, .string s, .slice none 0 0, vi ki q.2.2] 30))) := by rw [hC]; exact XM.start KK0.out hg
       rw [← hC]
       refine gen_to (fun V => XM g b cap T w B d (p :: l3) n (vi ki kn) (.string un) (.slice sqn snn scn) (vi ki an) C s q.2.2 V) KX0.out ?_
       clear KX0 KK0 hC
       intro W5 hW5
       have KK : Hid (XM g b cap T w B d (p :: l3) n (vi ki kn) (.string un) (.slice sqn snn scn) (vi ki an) C s q.2.2 W5) := hW5
       clear hW5
       have HCC : Hid (∀ V : World, RS g b cap T V (p :: l3) d → Calls Tryd.prog 18 #[.pointer (some ⟨g, 0, none⟩), vi ki ((lev : Int) + 1)] V fun e w' => Kp g V w' ∧ ROut g b V.heap.size cap T (fun c => V.heap.size ≤ c) w' d e (par f2 (.lv (lev + 1)) d (mT p :: mL l3))) := fun V hV => HA.out V (p :: l3) d f2 hV HE2.out hd (by simp only [List.length_cons] at hN2 ⊢; omega) (by have := HF.out; simp only [need, mL_cons, List.length_cons, mL_len] at this ⊢; omega)
       cases hr : par f2 (.lv (lev + 1)) d (mT p :: mL l3) with
       | no ea er =>
        rw [hr] at HCC
        have HP1 : Hid (R = .no ea er) := by have := HK2.out; rw [hr] at this; exact this.symm
        clear hr HK2
        go_cut [] from 121 to 130 (fun V => er ≠ 0 ∧ ∃ sq' sn' sc', XF g b w B (vi ki kn) (.string un) (.slice sqn snn scn) (vi ki an) C s q.2.2 (.slice sq' sn' sc') ea er V)
        case first =>
         refine wp_region_held_drew (S := (fun V => Bx V B [vi ki kn, .string un, .slice sqn snn scn, vi ki an])) (by kernel_rfl) KK.out.1.2.2.1 (fun hHeld => ?_)
         refine gen_anyR (fun V => XM g b cap T w B d (p :: l3) n (vi ki kn) (.string un) (.slice sqn snn scn) (vi ki an) C s q.2.2 V) (by first | exact KK.out.drew | exact KK.out) ?_
         clear hHeld KK
         intro W6 hW6
         have KK : Hid (XM g b cap T w B d (p :: l3) n (vi ki kn) (.string un) (.slice sqn snn scn) (vi ki an) C s q.2.2 W6) := hW6
         clear hW6
         have hHeld : (fun V => Bx V B [vi ki kn, .string un, .slice sqn snn scn, vi ki an]) W6 := KK.out.1.2.2.1
         refine tks 0 ⟨some 121, _, _, _, _, none⟩ rfl ?_
         simp only [za, zb, zc, zd]
         refine tk (v := ?_) 2 ⟨some 123, _, _, _, _, none⟩ rfl ?_ ?_
         case refine_2 => (intro w9 hSw; have b0 := hSw.c 0 rfl; have b1 := hSw.c 1 rfl; have b2 := hSw.c 2 rfl; have b3 := hSw.c 3 rfl; have b9 := hSw.1; clear hSw; go_simp; try with_reducible rfl)
         simp only [za, zb, zc, zd]
         refine tks 3 ⟨some 124, _, _, _, _, none⟩ rfl ?_
         simp only [za, zb, zc, zd]
         refine tks 4 ⟨some 125, _, _, _, _, none⟩ rfl ?_
         simp only [za, zb, zc, zd]
         refine tks 5 ⟨some 126, _, _, _, _, none⟩ rfl ?_
         simp only [za, zb, zc, zd]
         refine wpAnyH_ready (rs := [1, 6]) (by kernel_rfl) (by simp) (AllReadyH.cons (o := ⟨some 122, _, _, _, _, none⟩) rfl (fun K hK => ?_) (AllReadyH.cons (o := ⟨some 127, _, _, _, _, none⟩) rfl (fun K hK => ?_) AllReadyH.nil))
         ·
          have q0 := KK.out.2.1.c 2 rfl
          have q9 := KK.out.2.1.1
          go_simp
          refine hK.out _ _ hHeld (fun hHeld => ?_)
          clear hK K q0 q9
          refine rd 6 ⟨some 127, _, _, _, _, none⟩ rfl (fun K hK => ?_)
          go_simp
          refine (HCC.out _ KK.out.1.2.2.2.1).mono ?_
          have hq9 := KK.out.2.1.1
          rintro e v2 ⟨hk2, her, hf, k9, u9, sq9, sn9, sc9, a9, rfl⟩
          have HER : Hid (er ≠ 0) := her
          replace KK : Hid (XF g b w B (vi ki kn) (.string un) (.slice sqn snn scn) (vi ki an) C s q.2.2 (.slice none 0 0) ea er v2) := KK.out.fail hg hk2 hf
          refine hK.out _ _ KK.out.2.2.1 (fun hHeld => ?_)
          clear hK K hk2 hf her hq9
          refine rd 7 ⟨some 128, _, _, _, _, none⟩ rfl (fun K hK => ?_)
          go_simp
          obtain ⟨BR, hBR⟩ : ∃ BR, BR = v2.heap.size := ⟨_, rfl⟩
          have BN : Hid (BS v2 [(v2.heap.size, [vi ki kn, .string un, .slice sqn snn scn, vi ki an, vi ki k9, .string u9, .slice sq9 sn9 sc9, vi ki a9])] (v2.alloc (.cells #[vi ki kn, .string un, .slice sqn snn scn, vi ki an, vi ki k9, .string u9, .slice sq9 sn9 sc9, vi ki a9] 30))) := (BS.start v2).new [vi ki kn, .string un, .slice sqn snn scn, vi ki an, vi ki k9, .string u9, .slice sq9 sn9 sc9, vi ki a9] 30 rfl
          refine hK.out _ _ (KK.out.2.2.1.below BN.out.1) (fun hHeld => ?_)
          refine gen_anyR (fun V' => (XF g b w B (vi ki kn) (.string un) (.slice sqn snn scn) (vi ki an) C s q.2.2 (.slice none 0 0) ea er V') ∧ Bx V' BR [vi ki kn, .string un, .slice sqn snn scn, vi ki an, vi ki k9, .string u9, .slice sq9 sn9 sc9, vi ki a9]) ⟨KK.out.below BN.out.1, by rw [hBR]; exact BN.out.first⟩ ?_
          rw [← hBR]
          clear hHeld hK K BN hBR KK
          rintro v3 ⟨kk1, kk2⟩
          have KK : Hid (XF g b w B (vi ki kn) (.string un) (.slice sqn snn scn) (vi ki an) C s q.2.2 (.slice none 0 0) ea er v3) := kk1
          have HRW : Hid (Bx v3 BR [vi ki kn, .string un, .slice sqn snn scn, vi ki an, vi ki k9, .string u9, .slice sq9 sn9 sc9, vi ki a9]) := kk2
          clear kk1 kk2
          have hHeld : (fun V => Bx V B [vi ki kn, .string un, .slice sqn snn scn, vi ki an]) v3 := KK.out.2.2.1
          refine rd 8 ⟨some 129, _, _, _, _, none⟩ rfl (fun K hK => ?_)
          refine (if_pos (by kernel_rfl)).mpr (wp_row2 _ _ rfl rfl rfl HRW.out ?_)
          intro v' w4 hown' hgrow
          have hgb : Below _ _ w4 := grown_below hgrow
          have hCV : C < v3.heap.size := KK.out.2.2.2.1.1
          obtain ⟨sq', sn', sc', hv'⟩ := own_form hown'
          subst hv'
          have K4 : Hid (XF g b w B (vi ki kn) (.string un) (.slice sqn snn scn) (vi ki an) C s q.2.2 (.slice none 0 0) ea er w4) := KK.out.below hgb
          have KD : Hid (XF g b w B (vi ki kn) (.string un) (.slice sqn snn scn) (vi ki an) C s q.2.2 (.slice sq' sn' sc') ea er (w4.setCell ⟨C, 2, none⟩ (.slice sq' sn' sc'))) := K4.out.store hg hbl
          refine hK.out _ _ K4.out.2.2.1 (fun hHeld => ?_)
          clear hK K hown' hgrow hgb hCV KK HRW
          refine tks 9 ⟨some 130, _, _, _, _, none⟩ rfl ?_
          simp only [za, zb, zc, zd]
          refine rd 10 ⟨none, _, _, _, _, none⟩ rfl (fun K hK => ?_)
          have z2 := K4.out.2.2.2.1.f 2 rfl
          have c2 := K4.out.2.2.2.1.c 2 rfl
          have hB4 := K4.out.2.2.2.1.1
          go_simp
          refine hK.out _ _ KD.out.2.2.1 (fun hHeld => ?_)
          refine gen_anyR (fun V => XF g b w B (vi ki kn) (.string un) (.slice sqn snn scn) (vi ki an) C s q.2.2 (.slice sq' sn' sc') ea er V) KD.out ?_
          clear hK K z2 c2 hB4 K4 KD hHeld
          intro v5 hv7
          have KK : Hid (XF g b w B (vi ki kn) (.string un) (.slice sqn snn scn) (vi ki an) C s q.2.2 (.slice sq' sn' sc') ea er v5) := hv7
          clear hv7
          have hHeld : (fun V => Bx V B [vi ki kn, .string un, .slice sqn snn scn, vi ki an]) v5 := KK.out.2.2.1
          refine wpAnyH_done (by kernel_rfl) ?_ _
          go_wp2_with fail
          go_meet
          case rel => exact ⟨HER.out, sq', sn', sc', KK.out⟩
         ·
          go_simp
          refine (HCC.out _ KK.out.1.2.2.2.1).mono ?_
          have hq9 := KK.out.2.1.1
          rintro e v6 ⟨hk6, her, hf, k9, u9, sq9, sn9, sc9, a9, rfl⟩
          have HER : Hid (er ≠ 0) := her
          replace KK : Hid (XF g b w B (vi ki kn) (.string un) (.slice sqn snn scn) (vi ki an) C s q.2.2 (.slice none 0 0) ea er v6) := KK.out.fail hg hk6 hf
          refine hK.out _ _ KK.out.2.2.1 (fun hHeld => ?_)
          clear hK K hk6 hf her hq9
          refine wpAnyH_ready (rs := [1, 7]) (by kernel_rfl) (by simp) (AllReadyH.cons (o := ⟨some 122, _, _, _, _, none⟩) rfl (fun K hK => ?_) (AllReadyH.cons (o := ⟨some 128, _, _, _, _, none⟩) rfl (fun K hK => ?_) AllReadyH.nil))
          ·
           have q0 := KK.out.2.2.2.1.c 2 rfl
           have q9 := KK.out.2.2.2.1.1
           go_simp
           refine hK.out _ _ hHeld (fun hHeld => ?_)
           clear hK K q0 q9
           refine rd 7 ⟨some 128, _, _, _, _, none⟩ rfl (fun K hK => ?_)
           go_simp
           obtain ⟨BR, hBR⟩ : ∃ BR, BR = v6.heap.size := ⟨_, rfl⟩
           have BN : Hid (BS v6 [(v6.heap.size, [vi ki kn, .string un, .slice sqn snn scn, vi ki an, vi ki k9, .string u9, .slice sq9 sn9 sc9, vi ki a9])] (v6.alloc (.cells #[vi ki kn, .string un, .slice sqn snn scn, vi ki an, vi ki k9, .string u9, .slice sq9 sn9 sc9, vi ki a9] 30))) := (BS.start v6).new [vi ki kn, .string un, .slice sqn snn scn, vi ki an, vi ki k9, .string u9, .slice sq9 sn9 sc9, vi ki a9] 30 rfl
           refine hK.out _ _ (KK.out.2.2.1.below BN.out.1) (fun hHeld => ?_)
           refine gen_anyR (fun V' => (XF g b w B (vi ki kn) (.string un) (.slice sqn snn scn) (vi ki an) C s q.2.2 (.slice none 0 0) ea er V') ∧ Bx V' BR [vi ki kn, .string un, .slice sqn snn scn, vi ki an, vi ki k9, .string u9, .slice sq9 sn9 sc9, vi ki a9]) ⟨KK.out.below BN.out.1, by rw [hBR]; exact BN.out.first⟩ ?_
           rw [← hBR]
           clear hHeld hK K BN hBR KK
           rintro v8 ⟨kk1, kk2⟩
           have KK : Hid (XF g b w B (vi ki kn) (.string un) (.slice sqn snn scn) (vi ki an) C s q.2.2 (.slice none 0 0) ea er v8) := kk1
           have HRW : Hid (Bx v8 BR [vi ki kn, .string un, .slice sqn snn scn, vi ki an, vi ki k9, .string u9, .slice sq9 sn9 sc9, vi ki a9]) := kk2
           clear kk1 kk2
           have hHeld : (fun V => Bx V B [vi ki kn, .string un, .slice sqn snn scn, vi ki an]) v8 := KK.out.2.2.1
           refine rd 8 ⟨some 129, _, _, _, _, none⟩ rfl (fun K hK => ?_)
           refine (if_pos (by kernel_rfl)).mpr (wp_row2 _ _ rfl rfl rfl HRW.out ?_)
           intro v' w4 hown' hgrow
           have hgb : Below _ _ w4 := grown_below hgrow
           have hCV : C < v8.heap.size := KK.out.2.2.2.1.1
           obtain ⟨sq', sn', sc', hv'⟩ := own_form hown'
           subst hv'
           have K4 : Hid (XF g b w B (vi ki kn) (.string un) (.slice sqn snn scn) (vi ki an) C s q.2.2 (.slice none 0 0) ea er w4) := KK.out.below hgb
           have KD : Hid (XF g b w B (vi ki kn) (.string un) (.slice sqn snn scn) (vi ki an) C s q.2.2 (.slice sq' sn' sc') ea er (w4.setCell ⟨C, 2, none⟩ (.slice sq' sn' sc'))) := K4.out.store hg hbl
           refine hK.out _ _ K4.out.2.2.1 (fun hHeld => ?_)
           clear hK K hown' hgrow hgb hCV KK HRW
           refine tks 9 ⟨some 130, _, _, _, _, none⟩ rfl ?_
           simp only [za, zb, zc, zd]
           refine rd 10 ⟨none, _, _, _, _, none⟩ rfl (fun K hK => ?_)
           have z2 := K4.out.2.2.2.1.f 2 rfl
           have c2 := K4.out.2.2.2.1.c 2 rfl
           have hB4 := K4.out.2.2.2.1.1
           go_simp
           refine hK.out _ _ KD.out.2.2.1 (fun hHeld => ?_)
           refine gen_anyR (fun V => XF g b w B (vi ki kn) (.string un) (.slice sqn snn scn) (vi ki an) C s q.2.2 (.slice sq' sn' sc') ea er V) KD.out ?_
           clear hK K z2 c2 hB4 K4 KD hHeld
           intro v10 hv7
           have KK : Hid (XF g b w B (vi ki kn) (.string un) (.slice sqn snn scn) (vi ki an) C s q.2.2 (.slice sq' sn' sc') ea er v10) := hv7
           clear hv7
           have hHeld : (fun V => Bx V B [vi ki kn, .string un, .slice sqn snn scn, vi ki an]) v10 := KK.out.2.2.1
           refine wpAnyH_done (by kernel_rfl) ?_ _
           go_wp2_with fail
           go_meet
           case rel => exact ⟨HER.out, sq', sn', sc', KK.out⟩
          ·
           go_simp
           obtain ⟨BR, hBR⟩ : ∃ BR, BR = v6.heap.size := ⟨_, rfl⟩
           have BN : Hid (BS v6 [(v6.heap.size, [vi ki kn, .string un, .slice sqn snn scn, vi ki an, vi ki k9, .string u9, .slice sq9 sn9 sc9, vi ki a9])] (v6.alloc (.cells #[vi ki kn, .string un, .slice sqn snn scn, vi ki an, vi ki k9, .string u9, .slice sq9 sn9 sc9, vi ki a9] 30))) := (BS.start v6).new [vi ki kn, .string un, .slice sqn snn scn, vi ki an, vi ki k9, .string u9, .slice sq9 sn9 sc9, vi ki a9] 30 rfl
           refine hK.out _ _ (KK.out.2.2.1.below BN.out.1) (fun hHeld => ?_)
           refine gen_anyR (fun V' => (XF g b w B (vi ki kn) (.string un) (.slice sqn snn scn) (vi ki an) C s q.2.2 (.slice none 0 0) ea er V') ∧ Bx V' BR [vi ki kn, .string un, .slice sqn snn scn, vi ki an, vi ki k9, .string u9, .slice sq9 sn9 sc9, vi ki a9]) ⟨KK.out.below BN.out.1, by rw [hBR]; exact BN.out.first⟩ ?_
           rw [← hBR]
           clear hHeld hK K BN hBR KK
           rintro v11 ⟨kk1, kk2⟩
           have KK : Hid (XF g b w B (vi ki kn) (.string un) (.slice sqn snn scn) (vi ki an) C s q.2.2 (.slice none 0 0) ea er v11) := kk1
           have HRW : Hid (Bx v11 BR [vi ki kn, .string un, .slice sqn snn scn, vi ki an, vi ki k9, .string u9, .slice sq9 sn9 sc9, vi ki a9]) := kk2
           clear kk1 kk2
           have hHeld : (fun V => Bx V B [vi ki kn, .string un, .slice sqn snn scn, vi ki an]) v11 := KK.out.2.2.1
           refine rd 1 ⟨some 122, _, _, _, _, none⟩ rfl (fun K hK => ?_)
           have q0 := KK.out.2.2.2.1.c 2 rfl
           have q9 := KK.out.2.2.2.1.1
           go_simp
           refine hK.out _ _ hHeld (fun hHeld => ?_)
           clear hK K q0 q9
           refine rd 8 ⟨some 129, _, _, _, _, none⟩ rfl (fun K hK => ?_)
           refine (if_pos (by kernel_rfl)).mpr (wp_row2 _ _ rfl rfl rfl HRW.out ?_)
           intro v' w4 hown' hgrow
           have hgb : Below _ _ w4 := grown_below hgrow
           have hCV : C < v11.heap.size := KK.out.2.2.2.1.1
           obtain ⟨sq', sn', sc', hv'⟩ := own_form hown'
           subst hv'
           have K4 : Hid (XF g b w B (vi ki kn) (.string un) (.slice sqn snn scn) (vi ki an) C s q.2.2 (.slice none 0 0) ea er w4) := KK.out.below hgb
           have KD : Hid (XF g b w B (vi ki kn) (.string un) (.slice sqn snn scn) (vi ki an) C s q.2.2 (.slice sq' sn' sc') ea er (w4.setCell ⟨C, 2, none⟩ (.slice sq' sn' sc'))) := K4.out.store hg hbl
           refine hK.out _ _ K4.out.2.2.1 (fun hHeld => ?_)
           clear hK K hown' hgrow hgb hCV KK HRW
           refine tks 9 ⟨some 130, _, _, _, _, none⟩ rfl ?_
           simp only [za, zb, zc, zd]
           refine rd 10 ⟨none, _, _, _, _, none⟩ rfl (fun K hK => ?_)
           have z2 := K4.out.2.2.2.1.f 2 rfl
           have c2 := K4.out.2.2.2.1.c 2 rfl
           have hB4 := K4.out.2.2.2.1.1
           go_simp
           refine hK.out _ _ KD.out.2.2.1 (fun hHeld => ?_)
           refine gen_anyR (fun V => XF g b w B (vi ki kn) (.string un) (.slice sqn snn scn) (vi ki an) C s q.2.2 (.slice sq' sn' sc') ea er V) KD.out ?_
           clear hK K z2 c2 hB4 K4 KD hHeld
           intro v14 hv7
           have KK : Hid (XF g b w B (vi ki kn) (.string un) (.slice sqn snn scn) (vi ki an) C s q.2.2 (.slice sq' sn' sc') ea er v14) := hv7
           clear hv7
           have hHeld : (fun V => Bx V B [vi ki kn, .string un, .slice sqn snn scn, vi ki an]) v14 := KK.out.2.2.1
           refine wpAnyH_done (by kernel_rfl) ?_ _
           go_wp2_with fail
           go_meet
           case rel => exact ⟨HER.out, sq', sn', sc', KK.out⟩
        case rest =>
         obtain ⟨her, sq', sn', sc', kk⟩ := hcut
         have KK : Hid (XF g b w B (vi ki kn) (.string un) (.slice sqn snn scn) (vi ki an) C s q.2.2 (.slice sq' sn' sc') ea er wc) := kk
         have HER : Hid (er ≠ 0) := her
         clear her kk HCC
         obtain ⟨x0, x1, x2, x3⟩ := KK.out.2.2.2.1.d4
         have xh := KK.out.2.2.2.1.1
         obtain ⟨r0, r1, r2, r3, rf0, rf1, rf2, rf3⟩ := KK.out.2.2.1.cf4
         have rh := (KK.out.2.2.1).1
         go_upto_region 39 with fail
         refine gen_to (fun V => Kp g w V ∧ Bx V w.heap.size Z4 ∧ Bx V B [vi ki 8, .string s, .slice sq' sn' sc', vi ki q.2.2] ∧ RF g b (C + 1) V ea er) (KK.out.put hg hbl (vi ki 8) (.string s) (.slice sq' sn' sc') (vi ki q.2.2)) ?_
         have hCw : w.heap.size < C + 1 := by have := KK.out.2.2.2.2.2; omega
         clear KK r0 r1 r2 r3 rf0 rf1 rf2 rf3 rh x0 x1 x2 x3 xh
         rintro V9 kk
         have KP : Hid (Kp g w V9 ∧ Bx V9 w.heap.size Z4 ∧ Bx V9 B [vi ki 8, .string s, .slice sq' sn' sc', vi ki q.2.2] ∧ RF g b (C + 1) V9 ea er) := kk
         clear kk
         by_cases h3 : lev = 3
         ·have hl3 : ((lev : Int) == 3) = true := by rw [beq_iff_eq]; omega
          obtain ⟨n0, n1, n2, n3⟩ := KP.out.2.2.1.d4
          have nh := KP.out.2.2.1.1
          obtain ⟨y0', y1', y2', y3', HFK, HFO, HFS, rr0, rr1, rr2, rr3, rf0, rf1, rf2, rf3, hrw'⟩ := fin9 (vi ki 8) (.string s) (.slice sq' sn' sc') (vi ki q.2.2) KP.out.1 (Nat.le_refl _) (KP.out.2.1)
          go_wp2
          refine bodyPost_ret (v := .agg #[vi ki 8, .string s, .slice sq' sn' sc', vi ki q.2.2]) (by simp [results, Tryd.results18, go_sem, y0', y1', y2', y3']) rfl ⟨HFK.out, by rw [HP1.out]; exact ⟨HER.out, (KP.out.2.2.2.off HFO.out HFS.out (by omega) (by omega) (by omega)).mono (by omega), _, _, _, _, _, _, rfl⟩⟩
         ·have hl3 : ((lev : Int) == 3) = false := by rw [beq_eq_false_iff_ne]; omega
          go_wp2_with fail
          go_roundw
          case rel => exact Or.inr ⟨ea, er, C + 1, 8, s, sq', sn', sc', q.2.2, KP, HP1, HER.out, hCw⟩
          case measure => rw [KP.out.2.2.2.msr HER.out, HPL.out]; omega
       | ok m l1 =>
        rw [hr] at HCC
        have HP0 : Hid ((if lev = 3 then PR.ok (.mk 8 s [n, m] q.2.2) l1 else GG lev d f2 (.mk 8 s [n, m] q.2.2) l1) = R) := by have := HK2.out; rw [hr] at this; exact this
        have hls := par_less (g := .lv (lev + 1)) (by simp [okTg]; omega) (show EndL (mT p :: mL l3) from HE2.out) (by have := HF.out; simp only [need, List.length_cons, mL_len] at this ⊢; omega) hr
        have hls2 := hls.2
        simp only [most, List.length_cons, mL_len] at hls2
        clear hr HK2 hls
        go_cut [] from 121 to 130 (fun V => ∃ L1 R1 cp1, l1 = mL L1 ∧ XD g b cap T w B d L1 n m (vi ki kn) (.string un) (.slice sqn snn scn) (vi ki an) C s q.2.2 (.slice (some ⟨R1, 0, none⟩) 2 cp1) V)
        case first =>
         refine wp_region_held_drew (S := (fun V => Bx V B [vi ki kn, .string un, .slice sqn snn scn, vi ki an])) (by kernel_rfl) KK.out.1.2.2.1 (fun hHeld => ?_)
         refine gen_anyR (fun V => XM g b cap T w B d (p :: l3) n (vi ki kn) (.string un) (.slice sqn snn scn) (vi ki an) C s q.2.2 V) (by first | exact KK.out.drew | exact KK.out) ?_
         clear hHeld KK
         intro W6 hW6
         have KK : Hid (XM g b cap T w B d (p :: l3) n (vi ki kn) (.string un) (.slice sqn snn scn) (vi ki an) C s q.2.2 W6) := hW6
         clear hW6
         have hHeld : (fun V => Bx V B [vi ki kn, .string un, .slice sqn snn scn, vi ki an]) W6 := KK.out.1.2.2.1
         refine tks 0 ⟨some 121, _, _, _, _, none⟩ rfl ?_
         simp only [za, zb, zc, zd]
         refine tk (v := ?_) 2 ⟨some 123, _, _, _, _, none⟩ rfl ?_ ?_
         case refine_2 => (intro w9 hSw; have b0 := hSw.c 0 rfl; have b1 := hSw.c 1 rfl; have b2 := hSw.c 2 rfl; have b3 := hSw.c 3 rfl; have b9 := hSw.1; clear hSw; go_simp; try with_reducible rfl)
         simp only [za, zb, zc, zd]
         refine tks 3 ⟨some 124, _, _, _, _, none⟩ rfl ?_
         simp only [za, zb, zc, zd]
         refine tks 4 ⟨some 125, _, _, _, _, none⟩ rfl ?_
         simp only [za, zb, zc, zd]
         refine tks 5 ⟨some 126, _, _, _, _, none⟩ rfl ?_
         simp only [za, zb, zc, zd]
         refine wpAnyH_ready (rs := [1, 6]) (by kernel_rfl) (by simp) (AllReadyH.cons (o := ⟨some 122, _, _, _, _, none⟩) rfl (fun K hK => ?_) (AllReadyH.cons (o := ⟨some 127, _, _, _, _, none⟩) rfl (fun K hK => ?_) AllReadyH.nil))
         ·
          have q0 := KK.out.2.1.c 2 rfl
          have q9 := KK.out.2.1.1
          go_simp
          refine hK.out _ _ hHeld (fun hHeld => ?_)
          clear hK K q0 q9
          refine rd 6 ⟨some 127, _, _, _, _, none⟩ rfl (fun K hK => ?_)
          go_simp
          refine (HCC.out _ KK.out.1.2.2.2.1).mono ?_
          have hq9 := KK.out.2.1.1
          rintro e v2 ⟨hk2, L1, hl2, hrs, hend, k9, u9, sq9, sn9, sc9, a9, rfl, hnd⟩
          subst hl2
          replace KK : Hid (XM g b cap T w B d L1 n (vi ki kn) (.string un) (.slice sqn snn scn) (vi ki an) C s q.2.2 v2 ∧ NdAt (fun c => C + 1 ≤ c) v2 m [vi ki k9, .string u9, .slice sq9 sn9 sc9, vi ki a9]) := ⟨KK.out.kp hg hk2 hrs hend, NdAt.keep (Nat.le_refl _) (fun c hc _ => ⟨by omega, rfl⟩) _ _ hnd⟩
          refine hK.out _ _ KK.out.1.1.2.2.1 (fun hHeld => ?_)
          clear hK K hk2 hrs hend hnd hq9
          refine rd 7 ⟨some 128, _, _, _, _, none⟩ rfl (fun K hK => ?_)
          go_simp
          obtain ⟨BR, hBR⟩ : ∃ BR, BR = v2.heap.size := ⟨_, rfl⟩
          have BN : Hid (BS v2 [(v2.heap.size, [vi ki kn, .string un, .slice sqn snn scn, vi ki an, vi ki k9, .string u9, .slice sq9 sn9 sc9, vi ki a9])] (v2.alloc (.cells #[vi ki kn, .string un, .slice sqn snn scn, vi ki an, vi ki k9, .string u9, .slice sq9 sn9 sc9, vi ki a9] 30))) := (BS.start v2).new [vi ki kn, .string un, .slice sqn snn scn, vi ki an, vi ki k9, .string u9, .slice sq9 sn9 sc9, vi ki a9] 30 rfl
          refine hK.out _ _ (KK.out.1.1.2.2.1.below BN.out.1) (fun hHeld => ?_)
          refine gen_anyR (fun V' => (XM g b cap T w B d L1 n (vi ki kn) (.string un) (.slice sqn snn scn) (vi ki an) C s q.2.2 V' ∧ NdAt (fun c => C + 1 ≤ c) V' m [vi ki k9, .string u9, .slice sq9 sn9 sc9, vi ki a9]) ∧ Bx V' BR [vi ki kn, .string un, .slice sqn snn scn, vi ki an, vi ki k9, .string u9, .slice sq9 sn9 sc9, vi ki a9]) ⟨⟨KK.out.1.below hg BN.out.1, KK.out.2.below BN.out.1⟩, by rw [hBR]; exact BN.out.first⟩ ?_
          rw [← hBR]
          clear hHeld hK K BN hBR KK
          rintro v3 ⟨kk1, kk2⟩
          have KK : Hid (XM g b cap T w B d L1 n (vi ki kn) (.string un) (.slice sqn snn scn) (vi ki an) C s q.2.2 v3 ∧ NdAt (fun c => C + 1 ≤ c) v3 m [vi ki k9, .string u9, .slice sq9 sn9 sc9, vi ki a9]) := kk1
          have HRW : Hid (Bx v3 BR [vi ki kn, .string un, .slice sqn snn scn, vi ki an, vi ki k9, .string u9, .slice sq9 sn9 sc9, vi ki a9]) := kk2
          clear kk1 kk2
          have hHeld : (fun V => Bx V B [vi ki kn, .string un, .slice sqn snn scn, vi ki an]) v3 := KK.out.1.1.2.2.1
          refine rd 8 ⟨some 129, _, _, _, _, none⟩ rfl (fun K hK => ?_)
          refine (if_pos (by kernel_rfl)).mpr (wp_row2 _ _ rfl rfl rfl HRW.out ?_)
          intro v' w4 hown' hgrow
          have hgb : Below _ _ w4 := grown_below hgrow
          have hCV : C < v3.heap.size := KK.out.1.2.1.1
          obtain ⟨R1, cp1, rfl, kd⟩ := (KK.out.1.below hg hgb).done hg hbl (KK.out.2.below hgb) hown' hCV
          have K4 : Hid (XM g b cap T w B d L1 n (vi ki kn) (.string un) (.slice sqn snn scn) (vi ki an) C s q.2.2 w4) := KK.out.1.below hg hgb
          have KD : Hid (XD g b cap T w B d L1 n m (vi ki kn) (.string un) (.slice sqn snn scn) (vi ki an) C s q.2.2 (.slice (some ⟨R1, 0, none⟩) 2 cp1) (w4.setCell ⟨C, 2, none⟩ (.slice (some ⟨R1, 0, none⟩) 2 cp1))) := kd
          clear kd
          refine hK.out _ _ K4.out.1.2.2.1 (fun hHeld => ?_)
          clear hK K hown' hgrow hgb hCV KK HRW
          refine tks 9 ⟨some 130, _, _, _, _, none⟩ rfl ?_
          simp only [za, zb, zc, zd]
          refine rd 10 ⟨none, _, _, _, _, none⟩ rfl (fun K hK => ?_)
          have z2 := K4.out.2.1.f 2 rfl
          have c2 := K4.out.2.1.c 2 rfl
          have hB4 := K4.out.2.1.1
          go_simp
          refine hK.out _ _ KD.out.1.2.2.1 (fun hHeld => ?_)
          refine gen_anyR (fun V => XD g b cap T w B d L1 n m (vi ki kn) (.string un) (.slice sqn snn scn) (vi ki an) C s q.2.2 (.slice (some ⟨R1, 0, none⟩) 2 cp1) V) KD.out ?_
          clear hK K z2 c2 hB4 K4 KD hHeld
          intro v5 hv7
          have KK : Hid (XD g b cap T w B d L1 n m (vi ki kn) (.string un) (.slice sqn snn scn) (vi ki an) C s q.2.2 (.slice (some ⟨R1, 0, none⟩) 2 cp1) v5) := hv7
          clear hv7
          have hHeld : (fun V => Bx V B [vi ki kn, .string un, .slice sqn snn scn, vi ki an]) v5 := KK.out.1.2.2.1
          refine wpAnyH_done (by kernel_rfl) ?_ _
          go_wp2_with fail
          go_meet
          case rel => exact ⟨L1, R1, cp1, rfl, KK.out⟩
         ·
          go_simp
          refine (HCC.out _ KK.out.1.2.2.2.1).mono ?_
          have hq9 := KK.out.2.1.1
          rintro e v6 ⟨hk6, L1, hl6, hrs, hend, k9, u9, sq9, sn9, sc9, a9, rfl, hnd⟩
          subst hl6
          replace KK : Hid (XM g b cap T w B d L1 n (vi ki kn) (.string un) (.slice sqn snn scn) (vi ki an) C s q.2.2 v6 ∧ NdAt (fun c => C + 1 ≤ c) v6 m [vi ki k9, .string u9, .slice sq9 sn9 sc9, vi ki a9]) := ⟨KK.out.kp hg hk6 hrs hend, NdAt.keep (Nat.le_refl _) (fun c hc _ => ⟨by omega, rfl⟩) _ _ hnd⟩
          refine hK.out _ _ KK.out.1.1.2.2.1 (fun hHeld => ?_)
          clear hK K hk6 hrs hend hnd hq9
          refine wpAnyH_ready (rs := [1, 7]) (by kernel_rfl) (by simp) (AllReadyH.cons (o := ⟨some 122, _, _, _, _, none⟩) rfl (fun K hK => ?_) (AllReadyH.cons (o := ⟨some 128, _, _, _, _, none⟩) rfl (fun K hK => ?_) AllReadyH.nil))
          ·
           have q0 := KK.out.1.2.1.c 2 rfl
           have q9 := KK.out.1.2.1.1
           go_simp
           refine hK.out _ _ hHeld (fun hHeld => ?_)
           clear hK K q0 q9
           refine rd 7 ⟨some 128, _, _, _, _, none⟩ rfl (fun K hK => ?_)
           go_simp
           obtain ⟨BR, hBR⟩ : ∃ BR, BR = v6.heap.size := ⟨_, rfl⟩
           have BN : Hid (BS v6 [(v6.heap.size, [vi ki kn, .string un, .slice sqn snn scn, vi ki an, vi ki k9, .string u9, .slice sq9 sn9 sc9, vi ki a9])] (v6.alloc (.cells #[vi ki kn, .string un, .slice sqn snn scn, vi ki an, vi ki k9, .string u9, .slice sq9 sn9 sc9, vi ki a9] 30))) := (BS.start v6).new [vi ki kn, .string un, .slice sqn snn scn, vi ki an, vi ki k9, .string u9, .slice sq9 sn9 sc9, vi ki a9] 30 rfl
           refine hK.out _ _ (KK.out.1.1.2.2.1.below BN.out.1) (fun hHeld => ?_)
           refine gen_anyR (fun V' => (XM g b cap T w B d L1 n (vi ki kn) (.string un) (.slice sqn snn scn) (vi ki an) C s q.2.2 V' ∧ NdAt (fun c => C + 1 ≤ c) V' m [vi ki k9, .string u9, .slice sq9 sn9 sc9, vi ki a9]) ∧ Bx V' BR [vi ki kn, .string un, .slice sqn snn scn, vi ki an, vi ki k9, .string u9, .slice sq9 sn9 sc9, vi ki a9]) ⟨⟨KK.out.1.below hg BN.out.1, KK.out.2.below BN.out.1⟩, by rw [hBR]; exact BN.out.first⟩ ?_
           rw [← hBR]
           clear hHeld hK K BN hBR KK
           rintro v8 ⟨kk1, kk2⟩
           have KK : Hid (XM g b cap T w B d L1 n (vi ki kn) (.string un) (.slice sqn snn scn) (vi ki an) C s q.2.2 v8 ∧ NdAt (fun c => C + 1 ≤ c) v8 m [vi ki k9, .string u9, .slice sq9 sn9 sc9, vi ki a9]) := kk1
           have HRW : Hid (Bx v8 BR [vi ki kn, .string un, .slice sqn snn scn, vi ki an, vi ki k9, .string u9, .slice sq9 sn9 sc9, vi ki a9]) := kk2
           clear kk1 kk2
           have hHeld : (fun V => Bx V B [vi ki kn, .string un, .slice sqn snn scn, vi ki an]) v8 := KK.out.1.1.2.2.1
           refine rd 8 ⟨some 129, _, _, _, _, none⟩ rfl (fun K hK => ?_)
           refine (if_pos (by kernel_rfl)).mpr (wp_row2 _ _ rfl rfl rfl HRW.out ?_)
           intro v' w4 hown' hgrow
           have hgb : Below _ _ w4 := grown_below hgrow
           have hCV : C < v8.heap.size := KK.out.1.2.1.1
           obtain ⟨R1, cp1, rfl, kd⟩ := (KK.out.1.below hg hgb).done hg hbl (KK.out.2.below hgb) hown' hCV
           have K4 : Hid (XM g b cap T w B d L1 n (vi ki kn) (.string un) (.slice sqn snn scn) (vi ki an) C s q.2.2 w4) := KK.out.1.below hg hgb
           have KD : Hid (XD g b cap T w B d L1 n m (vi ki kn) (.string un) (.slice sqn snn scn) (vi ki an) C s q.2.2 (.slice (some ⟨R1, 0, none⟩) 2 cp1) (w4.setCell ⟨C, 2, none⟩ (.slice (some ⟨R1, 0, none⟩) 2 cp1))) := kd
           clear kd
           refine hK.out _ _ K4.out.1.2.2.1 (fun hHeld => ?_)
           clear hK K hown' hgrow hgb hCV KK HRW
           refine tks 9 ⟨some 130, _, _, _, _, none⟩ rfl ?_
           simp only [za, zb, zc, zd]
           refine rd 10 ⟨none, _, _, _, _, none⟩ rfl (fun K hK => ?_)
           have z2 := K4.out.2.1.f 2 rfl
           have c2 := K4.out.2.1.c 2 rfl
           have hB4 := K4.out.2.1.1
           go_simp
           refine hK.out _ _ KD.out.1.2.2.1 (fun hHeld => ?_)
           refine gen_anyR (fun V => XD g b cap T w B d L1 n m (vi ki kn) (.string un) (.slice sqn snn scn) (vi ki an) C s q.2.2 (.slice (some ⟨R1, 0, none⟩) 2 cp1) V) KD.out ?_
           clear hK K z2 c2 hB4 K4 KD hHeld
           intro v10 hv7
           have KK : Hid (XD g b cap T w B d L1 n m (vi ki kn) (.string un) (.slice sqn snn scn) (vi ki an) C s q.2.2 (.slice (some ⟨R1, 0, none⟩) 2 cp1) v10) := hv7
           clear hv7
           have hHeld : (fun V => Bx V B [vi ki kn, .string un, .slice sqn snn scn, vi ki an]) v10 := KK.out.1.2.2.1
           refine wpAnyH_done (by kernel_rfl) ?_ _
           go_wp2_with fail
           go_meet
           case rel => exact ⟨L1, R1, cp1, rfl, KK.out⟩
          ·
           go_simp
           obtain ⟨BR, hBR⟩ : ∃ BR, BR = v6.heap.size := ⟨_, rfl⟩
           have BN : Hid (BS v6 [(v6.heap.size, [vi ki kn, .string un, .slice sqn snn scn, vi ki an, vi ki k9, .string u9, .slice sq9 sn9 sc9, vi ki a9])] (v6.alloc (.cells #[vi ki kn, .string un, .slice sqn snn scn, vi ki an, vi ki k9, .string u9, .slice sq9 sn9 sc9, vi ki a9] 30))) := (BS.start v6).new [vi ki kn, .string un, .slice sqn snn scn, vi ki an, vi ki k9, .string u9, .slice sq9 sn9 sc9, vi ki a9] 30 rfl
           refine hK.out _ _ (KK.out.1.1.2.2.1.below BN.out.1) (fun hHeld => ?_)
           refine gen_anyR (fun V' => (XM g b cap T w B d L1 n (vi ki kn) (.string un) (.slice sqn snn scn) (vi ki an) C s q.2.2 V' ∧ NdAt (fun c => C + 1 ≤ c) V' m [vi ki k9, .string u9, .slice sq9 sn9 sc9, vi ki a9]) ∧ Bx V' BR [vi ki kn, .string un, .slice sqn snn scn, vi ki an, vi ki k9, .string u9, .slice sq9 sn9 sc9, vi ki a9]) ⟨⟨KK.out.1.below hg BN.out.1, KK.out.2.below BN.out.1⟩, by rw [hBR]; exact BN.out.first⟩ ?_
           rw [← hBR]
           clear hHeld hK K BN hBR KK
           rintro v11 ⟨kk1, kk2⟩
           have KK : Hid (XM g b cap T w B d L1 n (vi ki kn) (.string un) (.slice sqn snn scn) (vi ki an) C s q.2.2 v11 ∧ NdAt (fun c => C + 1 ≤ c) v11 m [vi ki k9, .string u9, .slice sq9 sn9 sc9, vi ki a9]) := kk1
           have HRW : Hid (Bx v11 BR [vi ki kn, .string un, .slice sqn snn scn, vi ki an, vi ki k9, .string u9, .slice sq9 sn9 sc9, vi ki a9]) := kk2
           clear kk1 kk2
           have hHeld : (fun V => Bx V B [vi ki kn, .string un, .slice sqn snn scn, vi ki an]) v11 := KK.out.1.1.2.2.1
           refine rd 1 ⟨some 122, _, _, _, _, none⟩ rfl (fun K hK => ?_)
           have q0 := KK.out.1.2.1.c 2 rfl
           have q9 := KK.out.1.2.1.1
           go_simp
           refine hK.out _ _ hHeld (fun hHeld => ?_)
           clear hK K q0 q9
           refine rd 8 ⟨some 129, _, _, _, _, none⟩ rfl (fun K hK => ?_)
           refine (if_pos (by kernel_rfl)).mpr (wp_row2 _ _ rfl rfl rfl HRW.out ?_)
           intro v' w4 hown' hgrow
           have hgb : Below _ _ w4 := grown_below hgrow
           have hCV : C < v11.heap.size := KK.out.1.2.1.1
           obtain ⟨R1, cp1, rfl, kd⟩ := (KK.out.1.below hg hgb).done hg hbl (KK.out.2.below hgb) hown' hCV
           have K4 : Hid (XM g b cap T w B d L1 n (vi ki kn) (.string un) (.slice sqn snn scn) (vi ki an) C s q.2.2 w4) := KK.out.1.below hg hgb
           have KD : Hid (XD g b cap T w B d L1 n m (vi ki kn) (.string un) (.slice sqn snn scn) (vi ki an) C s q.2.2 (.slice (some ⟨R1, 0, none⟩) 2 cp1) (w4.setCell ⟨C, 2, none⟩ (.slice (some ⟨R1, 0, none⟩) 2 cp1))) := kd
           clear kd
           refine hK.out _ _ K4.out.1.2.2.1 (fun hHeld => ?_)
           clear hK K hown' hgrow hgb hCV KK HRW
           refine tks 9 ⟨some 130, _, _, _, _, none⟩ rfl ?_
           simp only [za, zb, zc, zd]
           refine rd 10 ⟨none, _, _, _, _, none⟩ rfl (fun K hK => ?_)
           have z2 := K4.out.2.1.f 2 rfl
           have c2 := K4.out.2.1.c 2 rfl
           have hB4 := K4.out.2.1.1
           go_simp
           refine hK.out _ _ KD.out.1.2.2.1 (fun hHeld => ?_)
           refine gen_anyR (fun V => XD g b cap T w B d L1 n m (vi ki kn) (.string un) (.slice sqn snn scn) (vi ki an) C s q.2.2 (.slice (some ⟨R1, 0, none⟩) 2 cp1) V) KD.out ?_
           clear hK K z2 c2 hB4 K4 KD hHeld
           intro v14 hv7
           have KK : Hid (XD g b cap T w B d L1 n m (vi ki kn) (.string un) (.slice sqn snn scn) (vi ki an) C s q.2.2 (.slice (some ⟨R1, 0, none⟩) 2 cp1) v14) := hv7
           clear hv7
           have hHeld : (fun V => Bx V B [vi ki kn, .string un, .slice sqn snn scn, vi ki an]) v14 := KK.out.1.2.2.1
           refine wpAnyH_done (by kernel_rfl) ?_ _
           go_wp2_with fail
           go_meet
           case rel => exact ⟨L1, R1, cp1, rfl, KK.out⟩
        case rest =>
         obtain ⟨L1, R1, cp1, rfl, kk⟩ := hcut
         have KK : Hid (XD g b cap T w B d L1 n m (vi ki kn) (.string un) (.slice sqn snn scn) (vi ki an) C s q.2.2 (.slice (some ⟨R1, 0, none⟩) 2 cp1) wc) := kk
         have HP1 : Hid _ := HP0
         clear kk HCC HP0
         rw [mL_len] at hls2
         obtain ⟨x0, x1, x2, x3⟩ := KK.out.2.1.d4
         have xh := KK.out.2.1.1
         obtain ⟨r0, r1, r2, r3, rf0, rf1, rf2, rf3⟩ := KK.out.1.2.2.1.cf4
         have rh := (KK.out.1.2.2.1).1
         go_upto_region 39 with fail
         refine gen_to (fun V => CR g b cap T w B d L1 (.mk 8 s [n, m] q.2.2) (vi ki 8) (.string s) (.slice (some ⟨R1, 0, none⟩) 2 cp1) (vi ki q.2.2) V) (KK.out.put hg hbl) ?_
         clear KK r0 r1 r2 r3 rf0 rf1 rf2 rf3 rh x0 x1 x2 x3 xh
         rintro V9 kk
         have KP : Hid (CR g b cap T w B d L1 (.mk 8 s [n, m] q.2.2) (vi ki 8) (.string s) (.slice (some ⟨R1, 0, none⟩) 2 cp1) (vi ki q.2.2) V9) := kk
         clear kk
         by_cases h3 : lev = 3
         ·have hl3 : ((lev : Int) == 3) = true := by rw [beq_iff_eq]; omega
          have HP2 : Hid (R = .ok (.mk 8 s [n, m] q.2.2) (mL L1)) := by have := HP1.out; rw [if_pos h3] at this; exact this.symm
          obtain ⟨n0, n1, n2, n3⟩ := KP.out.2.2.1.d4
          have nh := KP.out.2.2.1.1
          obtain ⟨y0', y1', y2', y3', HFK, HFO, HFS, rr0, rr1, rr2, rr3, rf0, rf1, rf2, rf3, hrw'⟩ := fin9 (vi ki 8) (.string s) (.slice (some ⟨R1, 0, none⟩) 2 cp1) (vi ki q.2.2) KP.out.1 (Nat.le_refl _) (KP.out.2.1)
          go_wp2
          refine bodyPost_ret (v := .agg #[vi ki 8, .string s, .slice (some ⟨R1, 0, none⟩) 2 cp1, vi ki q.2.2]) (by simp [results, Tryd.results18, go_sem, y0', y1', y2', y3']) rfl ⟨HFK.out, by rw [HP2.out]; exact ⟨L1, rfl, KP.out.2.2.2.1.off HFO.out HFS.out (by omega) (by omega), KP.out.2.2.2.2.2.2, _, _, _, _, _, _, rfl, KP.out.2.2.2.2.1.off HFO.out HFS.out (fun c hc => ⟨by omega, by omega⟩)⟩⟩
         ·have hl3 : ((lev : Int) == 3) = false := by rw [beq_eq_false_iff_ne]; omega
          have HP2 : Hid (GG lev d f2 (.mk 8 s [n, m] q.2.2) (mL L1) = R) := by have := HP1.out; rw [if_neg h3] at this; exact this
          go_wp2_with fail
          go_roundw
          case rel => exact Or.inl ⟨L1, f2, _, 8, s, some ⟨R1, 0, none⟩, 2, cp1, q.2.2, KP, by simp only [List.length_cons] at hN2; omega, (by have := HF.out; simp only [List.length_cons] at this; show _ ≤ _; omega), HP2⟩
          case measure => rw [KP.out.2.2.2.1.msr, HPL.out]; simp only [List.length_cons]; omega
   ·have HER : Hid (er ≠ 0) := her
    have K9 : Hid (Kp g w wr) := KB.out.1
    have H9 : Hid (Bx wr w.heap.size [vi ki 0, .string ⟨#[]⟩, .slice none 0 0, vi ki 0]) := KB.out.2.1
    have F9 : Hid (RF g b Z wr ea er) := KB.out.2.2.2
    have e0 : (er == 0) = false := by simpa using her
    have e0p : (er = 0) = False := eq_false her
    clear her KB
    obtain ⟨c9, o9, n9, m9, D9, i9, z9, t9, hc9, hb9, -⟩ := F9.out
    have cg2 := hb9.c 2 rfl
    have hgl := hb9.1
    clear hb9 hc9
    obtain ⟨y0', y1', y2', y3', HFK, HFO, HFS, rr0, rr1, rr2, rr3, rf0, rf1, rf2, rf3, hrw'⟩ := fin9 (vi ki 0) (.string ⟨#[]⟩) (.slice none 0 0) (vi ki 0) K9.out (Nat.le_refl _) (H9.out)
    go_wp2
    refine bodyPost_ret (v := .agg #[vi ki 0, .string ⟨#[]⟩, .slice none 0 0, vi ki 0]) (by simp [results, Tryd.results18, go_sem, y0', y1', y2', y3']) rfl ⟨HFK.out, by rw [HR9.out]; exact ⟨HER.out, (F9.out.off HFO.out HFS.out (by omega) (by omega) (by omega)).mono (by omega), _, _, _, _, _, _, rfl⟩⟩
end Go.Proofs.YtaoocecipacnhaaDoor
