import Derived.Test.YtaoocecipacnhaaDoorX17
open Go.Value renaming int → vi, string → vS, slice → vL
open Go.IntKind renaming i64 → ki
open List renaming setIfInBounds_toArray → zb, set_cons_zero → zc, set_cons_succ → zd, length_cons → zl
open Go.Act renaming put → za
open Go.Ending renaming returned → zr
set_option maxRecDepth 100000
set_option maxHeartbeats 16000000
set_option linter.all false
namespace Go.Proofs.YtaoocecipacnhaaDoor
open Go.RowKit
def zsK (f d : Nat) : PR → PR
 | .no a e => .no a e
 | .ok n l1 => par f (.zs n) d l1
theorem zs_eq (f d : Nat) (p : Tk) (l : List Tk) : par (f + 1) (.lv 7) d (p :: l) = zsK f d (par f (.lv 8) d (p :: l)) := by
 rw [par_succ]; unfold pst; dsimp only
 rw [if_neg (by omega), if_neg (by omega), if_neg (by omega), if_pos rfl]
 cases par f (.lv 8) d (p :: l) <;> rfl
theorem zs_no (f d : Nat) (n : Nd) {q : Tk} {l : List Tk} (h : isT q [(4, atB)] = false) : par (f + 1) (.zs n) d (q :: l) = .ok n (q :: l) := by
 rw [par_succ]; unfold pst; dsimp only
 rw [if_neg (by simp [h])]
theorem zs_t (f d : Nat) (n : Nd) {q t : Tk} {l : List Tk} (h : isT q [(4, atB)] = true) (ht : isT t [(4, timeB)] = false) : par (f + 1) (.zs n) d (q :: t :: l) = .no t.2.2 30 := by
 rw [par_succ]; unfold pst; dsimp only
 rw [if_pos h, if_neg (by simp [ht])]
theorem zs_z (f d : Nat) (n : Nd) {q t z : Tk} {l : List Tk} (h : isT q [(4, atB)] = true) (ht : isT t [(4, timeB)] = true) (hz : isT z [(4, zoneB)] = false) : par (f + 1) (.zs n) d (q :: t :: z :: l) = .no z.2.2 30 := by
 rw [par_succ]; unfold pst; dsimp only
 rw [if_pos h, if_pos ht, if_neg (by simp [hz])]
theorem zs_yes (f d : Nat) (n : Nd) {q t z : Tk} {l : List Tk} (h : isT q [(4, atB)] = true) (ht : isT t [(4, timeB)] = true) (hz : isT z [(4, zoneB)] = true) : par (f + 1) (.zs n) d (q :: t :: z :: l) = xZ f d n q.2.2 (par f (.lv 8) d l) := by
 rw [par_succ]; unfold pst; dsimp only
 rw [if_pos h, if_pos ht, if_pos hz]
 cases par f (.lv 8) d l <;> rfl
theorem RF.own {g b lo : Nat} {V : World} {a e : Int} (h : RF g b lo V a e) : ∃ c, (c = b ∨ lo ≤ c) ∧ c < V.heap.size ∧ ∀ lo', RF g c lo' V a e := by
 obtain ⟨c, o, n, m, D, k, z, t, h0, hb, i2, i3, i4, i5, i6, i7⟩ := h
 exact ⟨c, h0, i6, fun lo' => ⟨c, o, n, m, D, k, z, t, .inl rfl, hb, i2, i3, i4, i5, i6, i7⟩⟩
theorem RF.back {g b c lo lo' : Nat} {V : World} {a e : Int} (h : RF g c lo V a e) (hc : c = b ∨ lo' ≤ c) (hl : lo' ≤ lo) : RF g b lo' V a e := by
 obtain ⟨c', o, n, m, D, k, z, t, h0, hb⟩ := h
 refine ⟨c', o, n, m, D, k, z, t, ?_, hb⟩
 rcases h0 with rfl | h0
 ·exact hc
 ·exact .inr (Nat.le_trans hl h0)
def XE (g b cap : Nat) (T : List Tk) (w : World) (B d : Nat) (n : Nd) (c0 c1 c2 c3 : Value) (C c f N : Nat) (s : ByteArray) (at_ ea er : Int) (V : World) : Prop :=
 (∃ L, XM g b cap T w B d L n c0 c1 c2 c3 C s at_ V ∧ c = b ∧ par f (.lv 8) d (mL L) = .no ea er ∧ L.length ≤ N ∧ need (.lv 8) (mL L) ≤ f) ∨ (XF g c w B c0 c1 c2 c3 C s at_ (vL none 0 0) ea er V ∧ er ≠ 0)
theorem XE.C {g b cap : Nat} {T : List Tk} {w : World} {B d : Nat} {n : Nd} {c0 c1 c2 c3 : Value} {C c f N : Nat} {s : ByteArray} {at_ ea er : Int} {V : World} (h : XE g b cap T w B d n c0 c1 c2 c3 C c f N s at_ ea er V) : Bx V C [vi ki 8, vS s, vL none 0 0, vi ki at_] := by
 rcases h with ⟨L, h, _⟩ | ⟨h, _⟩
 ·exact h.2.1
 ·exact h.2.2.2.1
theorem XE.B {g b cap : Nat} {T : List Tk} {w : World} {B d : Nat} {n : Nd} {c0 c1 c2 c3 : Value} {C c f N : Nat} {s : ByteArray} {at_ ea er : Int} {V : World} (h : XE g b cap T w B d n c0 c1 c2 c3 C c f N s at_ ea er V) : Bx V B [c0, c1, c2, c3] := by
 rcases h with ⟨L, h, _⟩ | ⟨h, _⟩
 ·exact h.1.2.2.1
 ·exact h.2.2.1
theorem XE.drew {g b cap : Nat} {T : List Tk} {w : World} {B d : Nat} {n : Nd} {c0 c1 c2 c3 : Value} {C c f N : Nat} {s : ByteArray} {at_ ea er : Int} {V : World} (h : XE g b cap T w B d n c0 c1 c2 c3 C c f N s at_ ea er V) : XE g b cap T w B d n c0 c1 c2 c3 C c f N s at_ ea er V.drew := by
 rcases h with ⟨L, h, r⟩ | ⟨h, r⟩
 ·exact .inl ⟨L, h.drew, r⟩
 ·exact .inr ⟨⟨h.1.drew, h.2⟩, r⟩
theorem XE.call {g b cap : Nat} {T : List Tk} {w : World} {B d : Nat} {n : Nd} {c0 c1 c2 c3 : Value} {C c f N : Nat} {s : ByteArray} {at_ ea er : Int} (HA : Hid (RLv g b cap T 8 N)) (hd : d ≤ 20) (hg : g < w.heap.size) (hc : c < C) {V : World} (h : XE g b cap T w B d n c0 c1 c2 c3 C c f N s at_ ea er V) :
  Calls Tryd.prog 18 #[.pointer (some ⟨g, 0, none⟩), vi ki 8] V fun e w' => er ≠ 0 ∧ XF g c w B c0 c1 c2 c3 C s at_ (vL none 0 0) ea er w' ∧ ∃ k t sq sn sc a, e = zr (.agg #[vi ki k, vS t, vL sq sn sc, vi ki a]) := by
 rcases h with ⟨L, h, rfl, hp, hl, hf⟩ | ⟨h, he⟩
 ·refine (HA.out V L d f h.1.2.2.2.1 h.1.2.2.2.2.2.2 hd hl hf).mono ?_
  rintro e w' ⟨hk, ho⟩
  rw [hp] at ho
  obtain ⟨her, hf, k, t, sq, sn, sc, z, rfl⟩ := ho
  exact ⟨her, h.fail hg hk hf, k, t, sq, sn, sc, z, rfl⟩
 ·refine (rlv_bad g c (C + 1) 8 ea er he V h.2.2.2.2.1 (by have := h.2.2.2.1.1; omega) h.2.2.2.1.1).mono ?_
  rintro e w' ⟨hk, hf, rfl⟩
  obtain ⟨h1, h2, h3, h4, h5, h6, h7⟩ := h
  exact ⟨he, ⟨h1.trans hk, hk.bx h2 (by omega), hk.bx h3 (by omega), hk.bx h4 (by omega), hf, h6, h7⟩, _, _, _, _, _, _, rfl⟩
theorem XF.storeC {g b : Nat} {w : World} {B : Nat} {c0 c1 c2 c3 : Value} {C : Nat} {s : ByteArray} {at_ : Int} {sv sv' : Value} {ea er : Int} {V : World} (h : XF g b w B c0 c1 c2 c3 C s at_ sv ea er V) (hg : g < w.heap.size) (hbl : b < C) : XF g b w B c0 c1 c2 c3 C s at_ sv' ea er (V.setCell ⟨C, 2, none⟩ sv') := by
 obtain ⟨h1, h2, h3, h4, h5, h6, h7⟩ := h
 have hoff : ∀ c, c < V.heap.size → c ≠ C → (V.setCell ⟨C, 2, none⟩ sv').heap[c]? = V.heap[c]? := fun c _ hc => Below.heap_setCell _ _ _ _ hc
 exact ⟨h1.set (p := ⟨C, 2, none⟩) (.inr (by show _ ≤ C; omega)) _, h2.setOther (by omega) [_] 2, h3.setOther (by omega) [_] 2, h4.set1 2 _ (by simp), h5.off (r := C) hoff (by simp) (by omega) (by omega) (by omega), h6, h7⟩
theorem XF.putC {g b : Nat} {w : World} {B : Nat} {c0 c1 c2 c3 : Value} {C : Nat} {s : ByteArray} {at_ : Int} {sv : Value} {ea er : Int} {V : World} (h : XF g b w B c0 c1 c2 c3 C s at_ sv ea er V) (hg : g < w.heap.size) (hbl : b ≠ B) (v0 v1 v2 v3 : Value) :
  Kp g w (V.setCells B 0 [v0, v1, v2, v3]) ∧ Bx (V.setCells B 0 [v0, v1, v2, v3]) w.heap.size Z4 ∧ Bx (V.setCells B 0 [v0, v1, v2, v3]) B [v0, v1, v2, v3] ∧ RF g b (C + 1) (V.setCells B 0 [v0, v1, v2, v3]) ea er := by
 obtain ⟨h1, h2, h3, h4, h5, h6, h7⟩ := h
 obtain ⟨q1, q2, q3, q4⟩ := fin4 [] v0 v1 v2 v3 h1 (by omega) h3
 exact ⟨q1, h2.setOther (by omega) _, q2, h5.off q3 q4 (by omega) (by omega) (by omega)⟩
theorem XE.start {g b cap : Nat} {T : List Tk} {w : World} {B d : Nat} {n : Nd} {c0 c1 c2 c3 : Value} {c f N : Nat} {s : ByteArray} {at_ ea er : Int} {t : TypeId} {V : World} (hg : g < w.heap.size) (hB : w.heap.size + 1 ≤ B)
  (h : (∃ L, CR g b cap T w B d L n c0 c1 c2 c3 V ∧ c = b ∧ par f (.lv 8) d (mL L) = .no ea er ∧ L.length ≤ N ∧ need (.lv 8) (mL L) ≤ f) ∨ (Kp g w V ∧ Bx V w.heap.size Z4 ∧ Bx V B [c0, c1, c2, c3] ∧ (∀ lo, RF g c lo V ea er) ∧ er ≠ 0)) : XE g b cap T w B d n c0 c1 c2 c3 V.heap.size c f N s at_ ea er (V.alloc (.cells #[vi ki 8, vS s, vL none 0 0, vi ki at_] t)) := by
 rcases h with ⟨L, h, r⟩ | ⟨h1, h2, h3, h4, h5⟩
 ·exact .inl ⟨L, XM.start h hg, r⟩
 ·exact .inr ⟨⟨h1.alloc _, h2.alloc _, h3.alloc _, Bx.new V [vi ki 8, vS s, vL none 0 0, vi ki at_] t, (h4 _).below ((Below.refl _ _).alloc (Nat.le_refl _) _), hB, h3.1⟩, h5⟩
theorem rlv_7 (g b cap : Nat) (T : List Tk) (hG : Hid (∀ x ∈ T, GoodT x)) (N : Nat) (HA : Hid (RLv g b cap T 8 N)) : RLv g b cap T 7 N := by
 intro w L d f h hL hd hN hf
 obtain ⟨i0, hi0, iz0, iz1, iz2⟩ := info_parts infoNode22
 obtain ⟨r, l, rfl⟩ := mL_none hL
 obtain ⟨f, rfl⟩ : ∃ f', f = f' + 1 := ⟨f - 1, by simp only [need, mL_cons, zl] at hf; omega⟩
 simp only [need, mL_cons, zl, mL_len] at hf hN
 have HL := hZz hL
 obtain ⟨R, hR⟩ : ∃ R, par (f + 1) (.lv 7) d (mL (r :: l)) = R := ⟨_, rfl⟩
 rw [hR]
 rw [mL_cons, zs_eq f d] at hR
 have HRR := hZz hR
 clear hR hL
 have hg := h.lt
 have hbl := h.tr.1
 have HP := hZz h
 have HCC : Hid (∀ V : World, RS g b cap T V (r :: l) d → Calls Tryd.prog 18 #[.pointer (some ⟨g, 0, none⟩), vi ki 8] V fun e w' => Kp g V w' ∧ ROut g b V.heap.size cap T (fun c => V.heap.size ≤ c) w' d e (par f (.lv 8) d (mT r :: mL l))) := fun V hV => HA.out V (r :: l) d f hV HL.out hd (by simp only [zl]; omega) (by simp only [need, mL_cons, zl, mL_len]; omega)
 obtain ⟨pre, pa, cg0, cg1, cg2, fg0, fg1, t0, t1, t2, hgW, hbW, hlen, hmost, hle, hne, HEQ, HBX, HTR⟩ := RS.facts (h)
 clear h
 go_enter Tryd.func18, Tryd.ntmps18
 go_upto_region 20 with fail
 have B0 := bsn1 w [vi ki 0, vS ⟨#[]⟩, vL none 0 0, vi ki 0] 30
 have HP0 : Hid (RS g b cap T (w.alloc (.cells #[vi ki 0, vS ⟨#[]⟩, vL none 0 0, vi ki 0] 30)) (r :: l) d) := HP.out.below B0.out.1
 clear cg0 cg1 cg2 fg0 fg1 t0 t1 t2 hgW hbW hlen hmost hle HEQ HBX HTR hne
 go_cut [9] from 71 to 74 (fun v V => ∃ B, v = .pointer (some ⟨B, 0, none⟩) ∧ w.heap.size + 1 ≤ B ∧ LREL g b cap T w B d N (fun f1 n l => par f1 (.zs n) d l) R V)
 case first =>
  cases hr : par f (.lv 8) d (mT r :: mL l) with
  | no ea er =>
   rw [hr] at HCC
   have HR9 : Hid (R = .no ea er) := by have := HRR.out; rw [hr] at this; exact this.symm
   clear hr HRR
   go_wp2_with fail
   refine (HCC.out _ HP0.out).mono ?_
   rintro e W1 ⟨hk, her, hf1, k9, u9, sq9, sn9, sc9, a9, rfl⟩
   have hz1 : w.heap.size + 1 ≤ W1.heap.size := hzk hk
   have K1 := kpt B0 hk
   have H1 : Hid (Bx W1 w.heap.size [vi ki 0, vS ⟨#[]⟩, vL none 0 0, vi ki 0]) := hk.bx B0.out.first (by omega)
   have F1 : Hid (RF g b (w.heap.size + 1) W1 ea er) := hf1.mono (by simp)
   have HER := hZz her
   clear hk her hf1 B0 HP0 HP HCC
   go_wp2_with fail
   go_meet
   case rel =>
    refine ⟨_, rfl, hz1, Or.inr ⟨ea, er, w.heap.size + 1, k9, u9, sq9, sn9, sc9, a9, ⟨K1.out.alloc _, H1.out.alloc _, Bx.new W1 [vi ki k9, vS u9, vL sq9 sn9 sc9, vi ki a9] _, F1.out.below ((Below.refl _ _).alloc (Nat.le_refl _) _)⟩, HR9, HER.out, by omega⟩⟩
  | ok n l1 =>
   rw [hr] at HCC
   have hls := par_less (g := .lv 8) (by simp [okTg]) (show EndL (mT r :: mL l) from HL.out) (by simp only [need, zl, mL_len]; omega) hr
   have hls2 := hls.2
   simp only [most, zl, mL_len] at hls2
   have HR9 : Hid (par f (.zs n) d l1 = R) := by have := HRR.out; rw [hr] at this; exact this
   clear hr HRR hls
   go_wp2_with fail
   refine (HCC.out _ HP0.out).mono ?_
   rintro e W1 ⟨hk, L1, rfl, hrs, hend, k9, u9, sq9, sn9, sc9, a9, rfl, hnd⟩
   have hz1 : w.heap.size + 1 ≤ W1.heap.size := hzk hk
   rw [mL_len] at hls2
   have X1 : Hid (CR g b cap T w W1.heap.size d L1 n (vi ki k9) (vS u9) (vL sq9 sn9 sc9) (vi ki a9) (W1.alloc (.cells #[vi ki k9, vS u9, vL sq9 sn9 sc9, vi ki a9] 30))) :=
    ⟨((Kp.of B0.out.1).trans hk).alloc _, (hk.bx B0.out.first (by omega)).alloc _, Bx.new W1 [vi ki k9, vS u9, vL sq9 sn9 sc9, vi ki a9] _, hrs.below ((Below.refl _ _).alloc (Nat.le_refl _) _), NdAt.keep (by simp) (fun c hc hl => ⟨⟨by (try simp at hc); omega, by omega⟩, Below.heap_alloc _ _ _ hl⟩) _ _ hnd, by omega, hend⟩
   clear hk hrs hend hnd B0 HP0 HP HCC
   go_wp2_with fail
   go_meet
   case rel => exact ⟨_, rfl, hz1, Or.inl ⟨L1, f, n, k9, u9, sq9, sn9, sc9, a9, X1, by omega, (by show _ ≤ _; omega), HR9⟩⟩
 case rest =>
  obtain ⟨B, rfl, hBw2, hL0⟩ := hcut
  clear B0 HP0 HP HCC HRR
  go_wp2_with fail
  go_loopw [] (fun V => LREL g b cap T w B d N (fun f1 n l => par f1 (.zs n) d l) R V) (fun V => msR g V)
  case atStart => exact hL0
  case round =>
   clear hL0
   rcases hrel with ⟨L, f1, n, kn, un, sqn, snn, scn, an, KK, hN2, HF, HKs⟩ | ⟨ea, er, Z, kn, un, sqn, snn, scn, an, KB, HR9, her, hZ⟩
   ·obtain ⟨q, l2, rfl⟩ := mL_none KK.out.2.2.2.2.2.2
    obtain ⟨f2, rfl⟩ : ∃ f', f1 = f' + 1 := ⟨f1 - 1, by have := HF.out; simp only [zl] at this; omega⟩
    have HPL := hZz KK.out.2.2.2.1.msr
    have HGq : Hid (GoodT q) := KK.out.2.2.2.1.good hG.out
    have hsg := sg_word HGq.out (show atB ∈ wrdL by unfold wrdL; simp)
    obtain ⟨pre, pa, cg0, cg1, cg2, fg0, fg1, t0, t1, t2, hgW, hbW, hlen, hmost, hle, hne, HEQ, HBX, HTR⟩ := RS.facts (KK.out.2.2.2.1)
    go_upto_region 24 with fail
    have hwr : w.heap.size < wr.heap.size := KK.out.2.1.1
    clear cg0 cg1 cg2 fg0 fg1 t0 t1 t2 hgW hbW hlen hmost hle HEQ HBX HTR hne
    go_wp2_with fail
    refine Calls.mono (rsigns_at 7 (by simp) wr) ?_
    rintro e W1 ⟨bs, rfl, hbs, hb1, hx1⟩
    have K1 : Hid (CR g b cap T w B d (q :: l2) n (vi ki kn) (vS un) (vL sqn snn scn) (vi ki an) W1) := KK.out.kp hg (Kp.of hb1) (KK.out.2.2.2.1.below hb1) KK.out.2.2.2.2.2.2
    have X1 := hZz hx1
    have hbg : bs ≠ g := by omega
    have HSG := hZz hsg
    clear hb1 hx1 KK hwr hbs hsg
    rw [show (sgW 7).length = 1 from rfl]
    go_wp2_with fail
    go_loopw [10, 12] (fun sv iv V => ∃ (j : Nat) (L : List Tk), iv = vi ki (j : Int) ∧ j ≤ 1 ∧ Hid (CR g b cap T w B d L n (vi ki kn) (vS un) (vL sqn snn scn) (vi ki an) V) ∧ Hid (Bx V bs [vS atB]) ∧ ((sv = vS ⟨#[]⟩ ∧ (q :: l2) = L ∧ Hid (j = 1 → isT (mT q) [(4, atB)] = false)) ∨ (sv = vS ⟨#[97, 116]⟩ ∧ l2 = L ∧ j = 1 ∧ Hid (isT (mT q) [(4, atB)] = true)))) (fun _ iv _ => 1 - (intOf iv).toNat)
    case atStart => exact ⟨0, q :: l2, rfl, Nat.zero_le _, K1, X1, Or.inl ⟨rfl, rfl, fun z => by cases z⟩⟩
    case round =>
     obtain ⟨j, L, rfl, hj, K2, X2, hAB⟩ := hrel
     clear K1 X1
     rcases hAB with ⟨rfl, rfl, HA2⟩ | ⟨rfl, rfl, rfl, HT⟩
     ·by_cases hlt : j = 0
      ·subst hlt
       have xj := X2.out.c 0 rfl
       have xh := X2.out.1
       by_cases hT : isT (mT q) [(4, atB)] = true
       ·have hEl : EndL (mL l2) := EndL.tail K2.out.2.2.2.2.2.2 (isT_kind hT (by simp))
        have HSi := rsign_any g b cap T l2 q HGq.out atB (fun _ => by obtain ⟨y, l9, rfl⟩ := mL_none hEl; simp) d wr K2.out.2.2.2.1
        rw [HSG.out, hT, if_pos rfl] at HSi
        have HSg : Hid _ := HSi
        have HEl := hZz hEl
        have HT := hZz hT
        clear HSi hT hEl HA2
        go_wp2_with fail
        refine Calls.mono HSg.out ?_
        rintro e W3 ⟨rfl, hk3, hr3⟩
        have K3 : Hid (CR g b cap T w B d l2 n (vi ki kn) (vS un) (vL sqn snn scn) (vi ki an) W3) := K2.out.kp hg hk3 hr3 HEl.out
        have X3 : Hid (Bx W3 bs [vS atB]) := hk3.bx X2.out hbg
        have xj3 := X3.out.c 0 rfl
        have xh3 := X3.out.1
        clear xj xh hk3 hr3 K2 X2 HSg
        go_wp2_with fail
        exact ⟨⟨1, l2, by go_num, by omega, K3, X3, Or.inr ⟨rfl, rfl, rfl, HT⟩⟩, by simp [intOf]⟩
       ·rw [Bool.not_eq_true] at hT
        have HTn := hZz hT
        have HSi := rsign_any g b cap T l2 q HGq.out atB (fun z => by rw [HSG.out, hT] at z; cases z) d wr K2.out.2.2.2.1
        rw [HSG.out, hT, if_neg (by simp)] at HSi
        have HSg : Hid _ := HSi
        clear HSi hT HA2
        go_wp2_with fail
        refine Calls.mono HSg.out ?_
        rintro e W3 ⟨rfl, hk3, hr3⟩
        have K3 : Hid (CR g b cap T w B d (q :: l2) n (vi ki kn) (vS un) (vL sqn snn scn) (vi ki an) W3) := K2.out.kp hg hk3 hr3 K2.out.2.2.2.2.2.2
        have X3 : Hid (Bx W3 bs [vS atB]) := hk3.bx X2.out hbg
        clear xj xh hk3 hr3 K2 X2 HSg
        go_wp2_with fail
        exact ⟨⟨1, q :: l2, by go_num, by omega, K3, X3, Or.inl ⟨rfl, rfl, fun _ => HTn.out⟩⟩, by simp [intOf]⟩
      ·obtain rfl : j = 1 := by omega
       have hT := HA2.out rfl
       have HR9 : Hid (R = .ok n (mL (q :: l2))) := by have e9 := HKs.out; rw [mL_cons] at e9; exact e9.symm.trans (zs_no _ _ _ hT)
       clear hT HA2 HKs
       obtain ⟨n0, n1, n2, n3⟩ := K2.out.2.2.1.d4
       have nh := K2.out.2.2.1.1
       obtain ⟨y0', y1', y2', y3', HFK, HFO, HFS, rr0, rr1, rr2, rr3, rf0, rf1, rf2, rf3, hrw'⟩ := fin9 (vi ki kn) (vS un) (vL sqn snn scn) (vi ki an) K2.out.1 (Nat.le_refl _) (K2.out.2.1)
       go_wp2
       refine bodyPost_ret (v := .agg #[vi ki kn, vS un, vL sqn snn scn, vi ki an]) (by simp [results, Tryd.results18, go_sem, y0', y1', y2', y3']) rfl ⟨HFK.out, by rw [HR9.out]; exact ⟨q :: l2, rfl, K2.out.2.2.2.1.off HFO.out HFS.out (by omega) (by omega), K2.out.2.2.2.2.2.2, _, _, _, _, _, _, rfl, K2.out.2.2.2.2.1.off HFO.out HFS.out (fun c hc => ⟨by omega, by omega⟩)⟩⟩
     ·have hBw : B < wr.heap.size := K2.out.2.2.1.1
      obtain ⟨t, l3, rfl⟩ := mL_none K2.out.2.2.2.2.2.2
      have HE2 := hZz K2.out.2.2.2.2.2.2
      have HGt : Hid (GoodT t) := K2.out.2.2.2.1.good hG.out
      have hst := sg_word HGt.out (show timeB ∈ wrdL by unfold wrdL; simp)
      have HKq := hZz HKs.out
      clear HKs X2
      go_upto_if 113 with fail
      go_cut [10] from 114 to 117 (fun v V => v = vS atzB ∧ ((∃ p l5, Hid (CR g b cap T w B d (p :: l5) n (vi ki kn) (vS un) (vL sqn snn scn) (vi ki an) V) ∧ (p :: l5).length + 3 ≤ (q :: (t :: l3)).length ∧ Hid (xZ f2 d n q.2.2 (par f2 (.lv 8) d (mT p :: mL l5)) = R)) ∨ (∃ ea er, Hid (R = .no ea er) ∧ er ≠ 0 ∧ Hid (Kp g w V ∧ Bx V w.heap.size Z4 ∧ Bx V B [vi ki kn, vS un, vL sqn snn scn, vi ki an] ∧ RF g b (B + 1) V ea er))))
      case first =>
       by_cases ht : isT (mT t) [(4, timeB)] = true
       ·rw [ht] at hst
        have hEl : EndL (mL l3) := EndL.tail HE2.out (isT_kind ht (by simp))
        obtain ⟨z, l4, rfl⟩ := mL_none hEl
        have HE3 := hZz hEl
        have HW0 := rwant_yes g b cap T (z :: l4) t HGt.out timeB hst (by simp) d wr K2.out.2.2.2.1
        have HWa : Hid _ := HW0
        have Ht := hZz ht
        clear HW0 hst ht hEl
        go_wp2_with fail
        refine Calls.mono HWa.out ?_
        rintro e W3 ⟨rfl, hk3, hr3⟩
        have K3 : Hid (CR g b cap T w B d (z :: l4) n (vi ki kn) (vS un) (vL sqn snn scn) (vi ki an) W3) := K2.out.kp hg hk3 hr3 HE3.out
        clear hk3 hr3 HWa K2
        have HGz : Hid (GoodT z) := K3.out.2.2.2.1.good hG.out
        have hsz := sg_word HGz.out (show zoneB ∈ wrdL by unfold wrdL; simp)
        by_cases hz : isT (mT z) [(4, zoneB)] = true
        ·rw [hz] at hsz
         have hEl : EndL (mL l4) := EndL.tail HE3.out (isT_kind hz (by simp))
         obtain ⟨p, l5, rfl⟩ := mL_none hEl
         have HE4 := hZz hEl
         have HR9 : Hid (xZ f2 d n q.2.2 (par f2 (.lv 8) d (mT p :: mL l5)) = R) := (zs_yes f2 d n HT.out Ht.out hz).symm.trans HKq.out
         have HW0 := rwant_yes g b cap T (p :: l5) z HGz.out zoneB hsz (by simp) d W3 K3.out.2.2.2.1
         have HWa : Hid _ := HW0
         clear HW0 hsz hz hEl
         go_wp2_with fail
         refine Calls.mono HWa.out ?_
         rintro e W4 ⟨rfl, hk4, hr4⟩
         have K4 : Hid (CR g b cap T w B d (p :: l5) n (vi ki kn) (vS un) (vL sqn snn scn) (vi ki an) W4) := K3.out.kp hg hk4 hr4 HE4.out
         clear hk4 hr4 HWa K3
         go_wp2_with fail
         go_meet
         case rel => exact ⟨rfl, Or.inl ⟨p, l5, K4, by simp only [zl]; omega, HR9⟩⟩
        ·rw [Bool.not_eq_true] at hz
         rw [hz] at hsz
         have HR9 : Hid (R = .no z.2.2 30) := HKq.out.symm.trans (zs_z f2 d n HT.out Ht.out hz)
         have HW0 := rwant_no g b (B + 1) cap T l4 z HGz.out zoneB hsz d (by omega) W3 K3.out.2.2.2.1
         have HWa : Hid _ := HW0
         clear HW0 hsz hz
         go_wp2_with fail
         refine Calls.mono HWa.out ?_
         rintro e W4 ⟨rfl, hk4, hf4⟩
         have K5 : Hid (Kp g w W4 ∧ Bx W4 w.heap.size Z4 ∧ Bx W4 B [vi ki kn, vS un, vL sqn snn scn, vi ki an] ∧ RF g b (B + 1) W4 z.2.2 30) := ⟨K3.out.1.trans hk4, hk4.bx K3.out.2.1 (by omega), hk4.bx K3.out.2.2.1 (by omega), hf4⟩
         clear hk4 hf4 HWa K3
         go_wp2_with fail
         go_meet
         case rel => exact ⟨rfl, Or.inr ⟨z.2.2, 30, HR9, by decide, K5⟩⟩
       ·rw [Bool.not_eq_true] at ht
        rw [ht] at hst
        have HR9 : Hid (R = .no t.2.2 30) := HKq.out.symm.trans (zs_t f2 d n HT.out ht)
        have HW0 := rwant_no g b (B + 1) cap T l3 t HGt.out timeB hst d (by omega) wr K2.out.2.2.2.1
        have HWa : Hid _ := HW0
        clear HW0 hst ht
        go_wp2_with fail
        refine Calls.mono HWa.out ?_
        rintro e W3 ⟨rfl, hk3, hf3⟩
        have K3 : Hid (Kp g w W3 ∧ Bx W3 w.heap.size Z4 ∧ Bx W3 B [vi ki kn, vS un, vL sqn snn scn, vi ki an] ∧ RF g b (B + 1) W3 t.2.2 30) := ⟨K2.out.1.trans hk3, hk3.bx K2.out.2.1 (by omega), hk3.bx K2.out.2.2.1 (by omega), hf3⟩
        clear hk3 hf3 HWa K2
        have HW0 := rwant_bad g b (B + 1) zoneB t.2.2 30 (by decide) W3 K3.out.2.2.2
        have HWa : Hid _ := HW0
        clear HW0
        go_wp2_with fail
        refine Calls.mono HWa.out ?_
        rintro e W4 ⟨rfl, hk4, hf4⟩
        have K5 : Hid (Kp g w W4 ∧ Bx W4 w.heap.size Z4 ∧ Bx W4 B [vi ki kn, vS un, vL sqn snn scn, vi ki an] ∧ RF g b (B + 1) W4 t.2.2 30) := ⟨K3.out.1.trans hk4, hk4.bx K3.out.2.1 (by omega), hk4.bx K3.out.2.2.1 (by omega), hf4⟩
        clear hk4 hf4 HWa K3
        go_wp2_with fail
        go_meet
        case rel => exact ⟨rfl, Or.inr ⟨t.2.2, 30, HR9, by decide, K5⟩⟩
      case rest =>
       obtain ⟨rfl, hGB⟩ := hcut
       clear K2 HKq hst HT HSG
       have HALL : Hid ((∃ p l5 m l1, Hid (CR g b cap T w B d (p :: l5) n (vi ki kn) (vS un) (vL sqn snn scn) (vi ki an) wc) ∧ (p :: l5).length + 3 ≤ (q :: t :: l3).length ∧ Hid (par f2 (.lv 8) d (mT p :: mL l5) = .ok m l1) ∧ Hid (par f2 (.zs (.mk 8 atzB [n, m] q.2.2)) d l1 = R)) ∨ (∃ ea er c, Hid (R = .no ea er) ∧ (c = b ∨ B + 1 ≤ c) ∧ c < wc.heap.size ∧ Hid ((∃ L, CR g b cap T w B d L n (vi ki kn) (vS un) (vL sqn snn scn) (vi ki an) wc ∧ c = b ∧ par f2 (.lv 8) d (mL L) = .no ea er ∧ L.length ≤ N ∧ need (.lv 8) (mL L) ≤ f2) ∨ (Kp g w wc ∧ Bx wc w.heap.size Z4 ∧ Bx wc B [vi ki kn, vS un, vL sqn snn scn, vi ki an] ∧ (∀ lo, RF g c lo wc ea er) ∧ er ≠ 0)))) := by
        rcases hGB with ⟨p, l5, K4, hln, HR9⟩ | ⟨ea, er, HR9, her, K5⟩
        ·cases hr : par f2 (.lv 8) d (mT p :: mL l5) with
         | ok m l1 => exact .inl ⟨p, l5, m, l1, K4, hln, hr, by have := HR9.out; rw [hr] at this; exact this⟩
         | no ea er => exact .inr ⟨ea, er, b, by have := HR9.out; rw [hr] at this; exact this.symm, .inl rfl, by have := K4.out.1.size; omega, .inl ⟨_, K4.out, rfl, hr, by simp only [zl] at hln hN2 ⊢; omega, by have := HF.out; simp only [need, mL_cons, zl, mL_len] at this hln ⊢; omega⟩⟩
        ·obtain ⟨c, h0, h1, h2⟩ := K5.out.2.2.2.own
         exact .inr ⟨ea, er, c, HR9, h0, h1, .inr ⟨K5.out.1, K5.out.2.1, K5.out.2.2.1, h2, her⟩⟩
       clear hGB
       have hBc : B < wc.heap.size := by
        rcases HALL.out with ⟨p, l5, m, l1, K4, _⟩ | ⟨ea, er, c, _, _, _, h⟩
        ·exact K4.out.2.2.1.1
        ·rcases h.out with ⟨L, h, _⟩ | ⟨_, _, h, _⟩
         ·exact h.2.2.1.1
         ·exact h.1
       go_upto_region 37 with fail
       obtain ⟨C, hC⟩ : ∃ C, C = wc.heap.size := ⟨_, rfl⟩
       rcases HALL.out with ⟨p, l5, m, l1, K4, hln, hrr, HP0⟩ | ⟨ea, er, c, HP1, hc0, hc1, hst0⟩
       ·have hr := hrr.out
        have KX0 : Hid (XM g b cap T w B d (p :: l5) n (vi ki kn) (vS un) (vL sqn snn scn) (vi ki an) C atzB q.2.2 (wc.alloc (.cells #[vi ki 8, vS atzB, vL none 0 0, vi ki q.2.2] 30))) := by rw [hC]; exact XM.start K4.out hg
        rw [← hC]
        refine gen_to (fun V => XM g b cap T w B d (p :: l5) n (vi ki kn) (vS un) (vL sqn snn scn) (vi ki an) C atzB q.2.2 V) KX0.out ?_
        clear KX0 hC hBc HALL hrr
        intro W5 hW5
        have KK := hZz hW5
        have HE4 := hZz K4.out.2.2.2.2.2.2
        clear hW5 K4
        have HCC : Hid (∀ V : World, RS g b cap T V (p :: l5) d → Calls Tryd.prog 18 #[.pointer (some ⟨g, 0, none⟩), vi ki 8] V fun e w' => Kp g V w' ∧ ROut g b V.heap.size cap T (fun c => V.heap.size ≤ c) w' d e (par f2 (.lv 8) d (mT p :: mL l5))) := fun V hV => HA.out V (p :: l5) d f2 hV HE4.out hd (by simp only [zl] at hN2 hln ⊢; omega) (by have := HF.out; simp only [need, mL_cons, zl, mL_len] at this hln ⊢; omega)
        rw [hr] at HCC
        have hls := par_less (g := .lv 8) (by simp [okTg]) (show EndL (mT p :: mL l5) from HE4.out) (by have := HF.out; simp only [need, zl, mL_len] at this hln ⊢; omega) hr
        have hls2 := hls.2
        simp only [most, zl, mL_len] at hls2
        clear hr hls
        go_cut [] from 121 to 130 (fun V => ∃ L1 R1 cp1, l1 = mL L1 ∧ XD g b cap T w B d L1 n m (vi ki kn) (vS un) (vL sqn snn scn) (vi ki an) C atzB q.2.2 (vL (some ⟨R1, 0, none⟩) 2 cp1) V)
        case first =>
         refine wp_region_held_drew (S := (fun V => Bx V B [vi ki kn, vS un, vL sqn snn scn, vi ki an])) (by kernel_rfl) KK.out.1.2.2.1 (fun hHeld => ?_)
         refine gen_anyR (fun V => XM g b cap T w B d (p :: l5) n (vi ki kn) (vS un) (vL sqn snn scn) (vi ki an) C atzB q.2.2 V) (by first | exact KK.out.drew | exact KK.out) ?_
         clear hHeld KK
         intro W6 hW6
         have KK := hZz hW6
         clear hW6
         have hHeld : (fun V => Bx V B [vi ki kn, vS un, vL sqn snn scn, vi ki an]) W6 := KK.out.1.2.2.1
         refine tks 0 ?_
         simp only [za, zb, zc, zd]
         refine tk (v := ?_) 2 ?_ ?_
         case refine_2 => (intro w9 hSw; have b0 := hSw.c 0 rfl; have b1 := hSw.c 1 rfl; have b2 := hSw.c 2 rfl; have b3 := hSw.c 3 rfl; have b9 := hSw.1; clear hSw; go_simp; try with_reducible rfl)
         simp only [za, zb, zc, zd]
         refine tks 3 ?_
         simp only [za, zb, zc, zd]
         refine tks 4 ?_
         simp only [za, zb, zc, zd]
         refine tks 5 ?_
         simp only [za, zb, zc, zd]
         refine rd2 1 6 (fun K hK => ?_) (fun K hK => ?_)
         ·
          have q0 := KK.out.2.1.c 2 rfl
          have q9 := KK.out.2.1.1
          go_simp
          refine hK.out _ _ hHeld (fun hHeld => ?_)
          clear hK K q0 q9
          refine rd 6 (fun K hK => ?_)
          go_simp
          refine (HCC.out _ KK.out.1.2.2.2.1).mono ?_
          have hq9 := KK.out.2.1.1
          rintro e v2 ⟨hk2, L1, hl2, hrs, hend, k9, u9, sq9, sn9, sc9, a9, rfl, hnd⟩
          subst hl2
          replace KK : Hid (XM g b cap T w B d L1 n (vi ki kn) (vS un) (vL sqn snn scn) (vi ki an) C atzB q.2.2 v2 ∧ NdAt (fun c => C + 1 ≤ c) v2 m [vi ki k9, vS u9, vL sq9 sn9 sc9, vi ki a9]) := ⟨KK.out.kp hg hk2 hrs hend, NdAt.keep (Nat.le_refl _) (fun c hc _ => ⟨by omega, rfl⟩) _ _ hnd⟩
          refine hK.out _ _ KK.out.1.1.2.2.1 (fun hHeld => ?_)
          clear hK K hk2 hrs hend hnd hq9
          refine rd 7 (fun K hK => ?_)
          go_simp
          obtain ⟨BR, hBR⟩ : ∃ BR, BR = v2.heap.size := ⟨_, rfl⟩
          have BN := bsm1 v2 [vi ki kn, vS un, vL sqn snn scn, vi ki an, vi ki k9, vS u9, vL sq9 sn9 sc9, vi ki a9] 30
          refine hK.out _ _ (KK.out.1.1.2.2.1.below BN.out.1) (fun hHeld => ?_)
          refine gen_anyR (fun V' => (XM g b cap T w B d L1 n (vi ki kn) (vS un) (vL sqn snn scn) (vi ki an) C atzB q.2.2 V' ∧ NdAt (fun c => C + 1 ≤ c) V' m [vi ki k9, vS u9, vL sq9 sn9 sc9, vi ki a9]) ∧ Bx V' BR [vi ki kn, vS un, vL sqn snn scn, vi ki an, vi ki k9, vS u9, vL sq9 sn9 sc9, vi ki a9]) ⟨⟨KK.out.1.below hg BN.out.1, KK.out.2.below BN.out.1⟩, by rw [hBR]; exact BN.out.first⟩ ?_
          rw [← hBR]
          clear hHeld hK K BN hBR KK
          rintro v3 ⟨kk1, kk2⟩
          have KK := hZz kk1
          have HRW := hZz kk2
          clear kk1 kk2
          have hHeld : (fun V => Bx V B [vi ki kn, vS un, vL sqn snn scn, vi ki an]) v3 := KK.out.1.1.2.2.1
          refine rd 8 (fun K hK => ?_)
          refine (if_pos (by kernel_rfl)).mpr (wp_row2 _ _ rfl rfl rfl HRW.out ?_)
          intro v' w4 hown' hgrow
          have hgb : Below _ _ w4 := grown_below hgrow
          have hCV : C < v3.heap.size := KK.out.1.2.1.1
          obtain ⟨R1, cp1, rfl, kd⟩ := (KK.out.1.below hg hgb).done hg hbl (KK.out.2.below hgb) hown' hCV
          have K4 : Hid (XM g b cap T w B d L1 n (vi ki kn) (vS un) (vL sqn snn scn) (vi ki an) C atzB q.2.2 w4) := KK.out.1.below hg hgb
          have KD := hZz kd
          clear kd
          refine hK.out _ _ K4.out.1.2.2.1 (fun hHeld => ?_)
          clear hK K hown' hgrow hgb hCV KK HRW
          refine tks 9 ?_
          simp only [za, zb, zc, zd]
          refine rd 10 (fun K hK => ?_)
          have z2 := K4.out.2.1.f 2 rfl
          have c2 := K4.out.2.1.c 2 rfl
          have hB4 := K4.out.2.1.1
          go_simp
          refine hK.out _ _ KD.out.1.2.2.1 (fun hHeld => ?_)
          refine gen_anyR (fun V => XD g b cap T w B d L1 n m (vi ki kn) (vS un) (vL sqn snn scn) (vi ki an) C atzB q.2.2 (vL (some ⟨R1, 0, none⟩) 2 cp1) V) KD.out ?_
          clear hK K z2 c2 hB4 K4 KD hHeld
          intro v5 hv7
          have KK := hZz hv7
          clear hv7
          have hHeld : (fun V => Bx V B [vi ki kn, vS un, vL sqn snn scn, vi ki an]) v5 := KK.out.1.2.2.1
          refine dn ?_
          go_wp2_with fail
          go_meet
          case rel => exact ⟨L1, R1, cp1, rfl, KK.out⟩
         ·
          go_simp
          refine (HCC.out _ KK.out.1.2.2.2.1).mono ?_
          have hq9 := KK.out.2.1.1
          rintro e v6 ⟨hk6, L1, hl6, hrs, hend, k9, u9, sq9, sn9, sc9, a9, rfl, hnd⟩
          subst hl6
          replace KK : Hid (XM g b cap T w B d L1 n (vi ki kn) (vS un) (vL sqn snn scn) (vi ki an) C atzB q.2.2 v6 ∧ NdAt (fun c => C + 1 ≤ c) v6 m [vi ki k9, vS u9, vL sq9 sn9 sc9, vi ki a9]) := ⟨KK.out.kp hg hk6 hrs hend, NdAt.keep (Nat.le_refl _) (fun c hc _ => ⟨by omega, rfl⟩) _ _ hnd⟩
          refine hK.out _ _ KK.out.1.1.2.2.1 (fun hHeld => ?_)
          clear hK K hk6 hrs hend hnd hq9
          refine rd2 1 7 (fun K hK => ?_) (fun K hK => ?_)
          ·
           have q0 := KK.out.1.2.1.c 2 rfl
           have q9 := KK.out.1.2.1.1
           go_simp
           refine hK.out _ _ hHeld (fun hHeld => ?_)
           clear hK K q0 q9
           refine rd 7 (fun K hK => ?_)
           go_simp
           obtain ⟨BR, hBR⟩ : ∃ BR, BR = v6.heap.size := ⟨_, rfl⟩
           have BN := bsm1 v6 [vi ki kn, vS un, vL sqn snn scn, vi ki an, vi ki k9, vS u9, vL sq9 sn9 sc9, vi ki a9] 30
           refine hK.out _ _ (KK.out.1.1.2.2.1.below BN.out.1) (fun hHeld => ?_)
           refine gen_anyR (fun V' => (XM g b cap T w B d L1 n (vi ki kn) (vS un) (vL sqn snn scn) (vi ki an) C atzB q.2.2 V' ∧ NdAt (fun c => C + 1 ≤ c) V' m [vi ki k9, vS u9, vL sq9 sn9 sc9, vi ki a9]) ∧ Bx V' BR [vi ki kn, vS un, vL sqn snn scn, vi ki an, vi ki k9, vS u9, vL sq9 sn9 sc9, vi ki a9]) ⟨⟨KK.out.1.below hg BN.out.1, KK.out.2.below BN.out.1⟩, by rw [hBR]; exact BN.out.first⟩ ?_
           rw [← hBR]
           clear hHeld hK K BN hBR KK
           rintro v8 ⟨kk1, kk2⟩
           have KK := hZz kk1
           have HRW := hZz kk2
           clear kk1 kk2
           have hHeld : (fun V => Bx V B [vi ki kn, vS un, vL sqn snn scn, vi ki an]) v8 := KK.out.1.1.2.2.1
           refine rd 8 (fun K hK => ?_)
           refine (if_pos (by kernel_rfl)).mpr (wp_row2 _ _ rfl rfl rfl HRW.out ?_)
           intro v' w4 hown' hgrow
           have hgb : Below _ _ w4 := grown_below hgrow
           have hCV : C < v8.heap.size := KK.out.1.2.1.1
           obtain ⟨R1, cp1, rfl, kd⟩ := (KK.out.1.below hg hgb).done hg hbl (KK.out.2.below hgb) hown' hCV
           have K4 : Hid (XM g b cap T w B d L1 n (vi ki kn) (vS un) (vL sqn snn scn) (vi ki an) C atzB q.2.2 w4) := KK.out.1.below hg hgb
           have KD := hZz kd
           clear kd
           refine hK.out _ _ K4.out.1.2.2.1 (fun hHeld => ?_)
           clear hK K hown' hgrow hgb hCV KK HRW
           refine tks 9 ?_
           simp only [za, zb, zc, zd]
           refine rd 10 (fun K hK => ?_)
           have z2 := K4.out.2.1.f 2 rfl
           have c2 := K4.out.2.1.c 2 rfl
           have hB4 := K4.out.2.1.1
           go_simp
           refine hK.out _ _ KD.out.1.2.2.1 (fun hHeld => ?_)
           refine gen_anyR (fun V => XD g b cap T w B d L1 n m (vi ki kn) (vS un) (vL sqn snn scn) (vi ki an) C atzB q.2.2 (vL (some ⟨R1, 0, none⟩) 2 cp1) V) KD.out ?_
           clear hK K z2 c2 hB4 K4 KD hHeld
           intro v10 hv7
           have KK := hZz hv7
           clear hv7
           have hHeld : (fun V => Bx V B [vi ki kn, vS un, vL sqn snn scn, vi ki an]) v10 := KK.out.1.2.2.1
           refine dn ?_
           go_wp2_with fail
           go_meet
           case rel => exact ⟨L1, R1, cp1, rfl, KK.out⟩
          ·
           go_simp
           obtain ⟨BR, hBR⟩ : ∃ BR, BR = v6.heap.size := ⟨_, rfl⟩
           have BN := bsm1 v6 [vi ki kn, vS un, vL sqn snn scn, vi ki an, vi ki k9, vS u9, vL sq9 sn9 sc9, vi ki a9] 30
           refine hK.out _ _ (KK.out.1.1.2.2.1.below BN.out.1) (fun hHeld => ?_)
           refine gen_anyR (fun V' => (XM g b cap T w B d L1 n (vi ki kn) (vS un) (vL sqn snn scn) (vi ki an) C atzB q.2.2 V' ∧ NdAt (fun c => C + 1 ≤ c) V' m [vi ki k9, vS u9, vL sq9 sn9 sc9, vi ki a9]) ∧ Bx V' BR [vi ki kn, vS un, vL sqn snn scn, vi ki an, vi ki k9, vS u9, vL sq9 sn9 sc9, vi ki a9]) ⟨⟨KK.out.1.below hg BN.out.1, KK.out.2.below BN.out.1⟩, by rw [hBR]; exact BN.out.first⟩ ?_
           rw [← hBR]
           clear hHeld hK K BN hBR KK
           rintro v11 ⟨kk1, kk2⟩
           have KK := hZz kk1
           have HRW := hZz kk2
           clear kk1 kk2
           have hHeld : (fun V => Bx V B [vi ki kn, vS un, vL sqn snn scn, vi ki an]) v11 := KK.out.1.1.2.2.1
           refine rd 1 (fun K hK => ?_)
           have q0 := KK.out.1.2.1.c 2 rfl
           have q9 := KK.out.1.2.1.1
           go_simp
           refine hK.out _ _ hHeld (fun hHeld => ?_)
           clear hK K q0 q9
           refine rd 8 (fun K hK => ?_)
           refine (if_pos (by kernel_rfl)).mpr (wp_row2 _ _ rfl rfl rfl HRW.out ?_)
           intro v' w4 hown' hgrow
           have hgb : Below _ _ w4 := grown_below hgrow
           have hCV : C < v11.heap.size := KK.out.1.2.1.1
           obtain ⟨R1, cp1, rfl, kd⟩ := (KK.out.1.below hg hgb).done hg hbl (KK.out.2.below hgb) hown' hCV
           have K4 : Hid (XM g b cap T w B d L1 n (vi ki kn) (vS un) (vL sqn snn scn) (vi ki an) C atzB q.2.2 w4) := KK.out.1.below hg hgb
           have KD := hZz kd
           clear kd
           refine hK.out _ _ K4.out.1.2.2.1 (fun hHeld => ?_)
           clear hK K hown' hgrow hgb hCV KK HRW
           refine tks 9 ?_
           simp only [za, zb, zc, zd]
           refine rd 10 (fun K hK => ?_)
           have z2 := K4.out.2.1.f 2 rfl
           have c2 := K4.out.2.1.c 2 rfl
           have hB4 := K4.out.2.1.1
           go_simp
           refine hK.out _ _ KD.out.1.2.2.1 (fun hHeld => ?_)
           refine gen_anyR (fun V => XD g b cap T w B d L1 n m (vi ki kn) (vS un) (vL sqn snn scn) (vi ki an) C atzB q.2.2 (vL (some ⟨R1, 0, none⟩) 2 cp1) V) KD.out ?_
           clear hK K z2 c2 hB4 K4 KD hHeld
           intro v14 hv7
           have KK := hZz hv7
           clear hv7
           have hHeld : (fun V => Bx V B [vi ki kn, vS un, vL sqn snn scn, vi ki an]) v14 := KK.out.1.2.2.1
           refine dn ?_
           go_wp2_with fail
           go_meet
           case rel => exact ⟨L1, R1, cp1, rfl, KK.out⟩
        case rest =>
         obtain ⟨L1, R1, cp1, rfl, kk⟩ := hcut
         have KK := hZz kk
         clear kk HCC
         rw [mL_len] at hls2
         obtain ⟨x0, x1, x2, x3⟩ := KK.out.2.1.d4
         have xh := KK.out.2.1.1
         obtain ⟨r0, r1, r2, r3, rf0, rf1, rf2, rf3⟩ := KK.out.1.2.2.1.cf4
         have rh := (KK.out.1.2.2.1).1
         go_upto_region 39 with fail
         refine gen_to (fun V => CR g b cap T w B d L1 (.mk 8 atzB [n, m] q.2.2) (vi ki 8) (vS atzB) (vL (some ⟨R1, 0, none⟩) 2 cp1) (vi ki q.2.2) V) (KK.out.put hg hbl) ?_
         clear KK r0 r1 r2 r3 rf0 rf1 rf2 rf3 rh x0 x1 x2 x3 xh
         rintro V9 kk
         have KP := hZz kk
         clear kk
         go_wp2_with fail
         go_roundw
         case rel => (repeat apply Exists.intro); exact ⟨Or.inl ⟨L1, f2, _, 8, atzB, some ⟨R1, 0, none⟩, 2, cp1, q.2.2, KP, by simp only [zl] at hN2 hln; omega, (by have := HF.out; simp only [zl] at this hln; show _ ≤ _; omega), HP0⟩, rfl⟩
         case measure => rw [KP.out.2.2.2.1.msr, HPL.out]; simp only [zl] at hln ⊢; omega
       ·have KX0 : Hid (XE g b cap T w B d n (vi ki kn) (vS un) (vL sqn snn scn) (vi ki an) C c f2 N atzB q.2.2 ea er (wc.alloc (.cells #[vi ki 8, vS atzB, vL none 0 0, vi ki q.2.2] 30))) := by rw [hC]; exact XE.start hg hBw2 hst0.out
        have hcC : c < C := by omega
        have hcB : c ≠ B := by omega
        rw [← hC]
        refine gen_to (fun V => XE g b cap T w B d n (vi ki kn) (vS un) (vL sqn snn scn) (vi ki an) C c f2 N atzB q.2.2 ea er V) KX0.out ?_
        clear KX0 hC hBc HALL hst0
        intro W5 hW5
        have KK := hZz hW5
        clear hW5
        have HCC : Hid (∀ V : World, XE g b cap T w B d n (vi ki kn) (vS un) (vL sqn snn scn) (vi ki an) C c f2 N atzB q.2.2 ea er V → Calls Tryd.prog 18 #[.pointer (some ⟨g, 0, none⟩), vi ki 8] V fun e w' => er ≠ 0 ∧ XF g c w B (vi ki kn) (vS un) (vL sqn snn scn) (vi ki an) C atzB q.2.2 (vL none 0 0) ea er w' ∧ ∃ k t sq sn sc a, e = zr (.agg #[vi ki k, vS t, vL sq sn sc, vi ki a])) := fun V hV => hV.call HA hd hg hcC
        go_cut [] from 121 to 130 (fun V => er ≠ 0 ∧ ∃ sq' sn' sc', XF g c w B (vi ki kn) (vS un) (vL sqn snn scn) (vi ki an) C atzB q.2.2 (vL sq' sn' sc') ea er V)
        case first =>
         refine wp_region_held_drew (S := (fun V => Bx V B [vi ki kn, vS un, vL sqn snn scn, vi ki an])) (by kernel_rfl) KK.out.B (fun hHeld => ?_)
         refine gen_anyR (fun V => XE g b cap T w B d n (vi ki kn) (vS un) (vL sqn snn scn) (vi ki an) C c f2 N atzB q.2.2 ea er V) (by first | exact KK.out.drew | exact KK.out) ?_
         clear hHeld KK
         intro W6 hW6
         have KK := hZz hW6
         clear hW6
         have hHeld : (fun V => Bx V B [vi ki kn, vS un, vL sqn snn scn, vi ki an]) W6 := KK.out.B
         refine tks 0 ?_
         simp only [za, zb, zc, zd]
         refine tk (v := ?_) 2 ?_ ?_
         case refine_2 => (intro w9 hSw; have b0 := hSw.c 0 rfl; have b1 := hSw.c 1 rfl; have b2 := hSw.c 2 rfl; have b3 := hSw.c 3 rfl; have b9 := hSw.1; clear hSw; go_simp; try with_reducible rfl)
         simp only [za, zb, zc, zd]
         refine tks 3 ?_
         simp only [za, zb, zc, zd]
         refine tks 4 ?_
         simp only [za, zb, zc, zd]
         refine tks 5 ?_
         simp only [za, zb, zc, zd]
         refine rd2 1 6 (fun K hK => ?_) (fun K hK => ?_)
         ·
          have q0 := KK.out.C.c 2 rfl
          have q9 := KK.out.C.1
          go_simp
          refine hK.out _ _ hHeld (fun hHeld => ?_)
          clear hK K q0 q9
          refine rd 6 (fun K hK => ?_)
          go_simp
          refine (HCC.out _ KK.out).mono ?_
          rintro e v2 ⟨her, hx, k9, u9, sq9, sn9, sc9, a9, rfl⟩
          have HER := hZz her
          replace KK : Hid (XF g c w B (vi ki kn) (vS un) (vL sqn snn scn) (vi ki an) C atzB q.2.2 (vL none 0 0) ea er v2) := hx
          refine hK.out _ _ KK.out.2.2.1 (fun hHeld => ?_)
          clear hK K her hx
          refine rd 7 (fun K hK => ?_)
          go_simp
          obtain ⟨BR, hBR⟩ : ∃ BR, BR = v2.heap.size := ⟨_, rfl⟩
          have BN := bsm1 v2 [vi ki kn, vS un, vL sqn snn scn, vi ki an, vi ki k9, vS u9, vL sq9 sn9 sc9, vi ki a9] 30
          refine hK.out _ _ (KK.out.2.2.1.below BN.out.1) (fun hHeld => ?_)
          refine gen_anyR (fun V' => (XF g c w B (vi ki kn) (vS un) (vL sqn snn scn) (vi ki an) C atzB q.2.2 (vL none 0 0) ea er V') ∧ Bx V' BR [vi ki kn, vS un, vL sqn snn scn, vi ki an, vi ki k9, vS u9, vL sq9 sn9 sc9, vi ki a9]) ⟨KK.out.below BN.out.1, by rw [hBR]; exact BN.out.first⟩ ?_
          rw [← hBR]
          clear hHeld hK K BN hBR KK
          rintro v3 ⟨kk1, kk2⟩
          have KK := hZz kk1
          have HRW := hZz kk2
          clear kk1 kk2
          have hHeld : (fun V => Bx V B [vi ki kn, vS un, vL sqn snn scn, vi ki an]) v3 := KK.out.2.2.1
          refine rd 8 (fun K hK => ?_)
          refine (if_pos (by kernel_rfl)).mpr (wp_row2 _ _ rfl rfl rfl HRW.out ?_)
          intro v' w4 hown' hgrow
          have hgb : Below _ _ w4 := grown_below hgrow
          obtain ⟨sq', sn', sc', hv'⟩ := own_form hown'
          subst hv'
          have K4 : Hid (XF g c w B (vi ki kn) (vS un) (vL sqn snn scn) (vi ki an) C atzB q.2.2 (vL none 0 0) ea er w4) := KK.out.below hgb
          have KD : Hid (XF g c w B (vi ki kn) (vS un) (vL sqn snn scn) (vi ki an) C atzB q.2.2 (vL sq' sn' sc') ea er (w4.setCell ⟨C, 2, none⟩ (vL sq' sn' sc'))) := K4.out.storeC hg hcC
          refine hK.out _ _ K4.out.2.2.1 (fun hHeld => ?_)
          clear hK K hown' hgrow hgb KK HRW
          refine tks 9 ?_
          simp only [za, zb, zc, zd]
          refine rd 10 (fun K hK => ?_)
          have z2 := K4.out.2.2.2.1.f 2 rfl
          have c2 := K4.out.2.2.2.1.c 2 rfl
          have hB4 := K4.out.2.2.2.1.1
          go_simp
          refine hK.out _ _ KD.out.2.2.1 (fun hHeld => ?_)
          refine gen_anyR (fun V => XF g c w B (vi ki kn) (vS un) (vL sqn snn scn) (vi ki an) C atzB q.2.2 (vL sq' sn' sc') ea er V) KD.out ?_
          clear hK K z2 c2 hB4 K4 KD hHeld
          intro v5 hv7
          have KK := hZz hv7
          clear hv7
          have hHeld : (fun V => Bx V B [vi ki kn, vS un, vL sqn snn scn, vi ki an]) v5 := KK.out.2.2.1
          refine dn ?_
          go_wp2_with fail
          go_meet
          case rel => exact ⟨HER.out, sq', sn', sc', KK.out⟩
         ·
          go_simp
          refine (HCC.out _ KK.out).mono ?_
          rintro e v6 ⟨her, hx, k9, u9, sq9, sn9, sc9, a9, rfl⟩
          have HER := hZz her
          replace KK : Hid (XF g c w B (vi ki kn) (vS un) (vL sqn snn scn) (vi ki an) C atzB q.2.2 (vL none 0 0) ea er v6) := hx
          refine hK.out _ _ KK.out.2.2.1 (fun hHeld => ?_)
          clear hK K her hx
          refine rd2 1 7 (fun K hK => ?_) (fun K hK => ?_)
          ·
           have q0 := KK.out.2.2.2.1.c 2 rfl
           have q9 := KK.out.2.2.2.1.1
           go_simp
           refine hK.out _ _ hHeld (fun hHeld => ?_)
           clear hK K q0 q9
           refine rd 7 (fun K hK => ?_)
           go_simp
           obtain ⟨BR, hBR⟩ : ∃ BR, BR = v6.heap.size := ⟨_, rfl⟩
           have BN := bsm1 v6 [vi ki kn, vS un, vL sqn snn scn, vi ki an, vi ki k9, vS u9, vL sq9 sn9 sc9, vi ki a9] 30
           refine hK.out _ _ (KK.out.2.2.1.below BN.out.1) (fun hHeld => ?_)
           refine gen_anyR (fun V' => (XF g c w B (vi ki kn) (vS un) (vL sqn snn scn) (vi ki an) C atzB q.2.2 (vL none 0 0) ea er V') ∧ Bx V' BR [vi ki kn, vS un, vL sqn snn scn, vi ki an, vi ki k9, vS u9, vL sq9 sn9 sc9, vi ki a9]) ⟨KK.out.below BN.out.1, by rw [hBR]; exact BN.out.first⟩ ?_
           rw [← hBR]
           clear hHeld hK K BN hBR KK
           rintro v8 ⟨kk1, kk2⟩
           have KK := hZz kk1
           have HRW := hZz kk2
           clear kk1 kk2
           have hHeld : (fun V => Bx V B [vi ki kn, vS un, vL sqn snn scn, vi ki an]) v8 := KK.out.2.2.1
           refine rd 8 (fun K hK => ?_)
           refine (if_pos (by kernel_rfl)).mpr (wp_row2 _ _ rfl rfl rfl HRW.out ?_)
           intro v' w4 hown' hgrow
           have hgb : Below _ _ w4 := grown_below hgrow
           obtain ⟨sq', sn', sc', hv'⟩ := own_form hown'
           subst hv'
           have K4 : Hid (XF g c w B (vi ki kn) (vS un) (vL sqn snn scn) (vi ki an) C atzB q.2.2 (vL none 0 0) ea er w4) := KK.out.below hgb
           have KD : Hid (XF g c w B (vi ki kn) (vS un) (vL sqn snn scn) (vi ki an) C atzB q.2.2 (vL sq' sn' sc') ea er (w4.setCell ⟨C, 2, none⟩ (vL sq' sn' sc'))) := K4.out.storeC hg hcC
           refine hK.out _ _ K4.out.2.2.1 (fun hHeld => ?_)
           clear hK K hown' hgrow hgb KK HRW
           refine tks 9 ?_
           simp only [za, zb, zc, zd]
           refine rd 10 (fun K hK => ?_)
           have z2 := K4.out.2.2.2.1.f 2 rfl
           have c2 := K4.out.2.2.2.1.c 2 rfl
           have hB4 := K4.out.2.2.2.1.1
           go_simp
           refine hK.out _ _ KD.out.2.2.1 (fun hHeld => ?_)
           refine gen_anyR (fun V => XF g c w B (vi ki kn) (vS un) (vL sqn snn scn) (vi ki an) C atzB q.2.2 (vL sq' sn' sc') ea er V) KD.out ?_
           clear hK K z2 c2 hB4 K4 KD hHeld
           intro v10 hv7
           have KK := hZz hv7
           clear hv7
           have hHeld : (fun V => Bx V B [vi ki kn, vS un, vL sqn snn scn, vi ki an]) v10 := KK.out.2.2.1
           refine dn ?_
           go_wp2_with fail
           go_meet
           case rel => exact ⟨HER.out, sq', sn', sc', KK.out⟩
          ·
           go_simp
           obtain ⟨BR, hBR⟩ : ∃ BR, BR = v6.heap.size := ⟨_, rfl⟩
           have BN := bsm1 v6 [vi ki kn, vS un, vL sqn snn scn, vi ki an, vi ki k9, vS u9, vL sq9 sn9 sc9, vi ki a9] 30
           refine hK.out _ _ (KK.out.2.2.1.below BN.out.1) (fun hHeld => ?_)
           refine gen_anyR (fun V' => (XF g c w B (vi ki kn) (vS un) (vL sqn snn scn) (vi ki an) C atzB q.2.2 (vL none 0 0) ea er V') ∧ Bx V' BR [vi ki kn, vS un, vL sqn snn scn, vi ki an, vi ki k9, vS u9, vL sq9 sn9 sc9, vi ki a9]) ⟨KK.out.below BN.out.1, by rw [hBR]; exact BN.out.first⟩ ?_
           rw [← hBR]
           clear hHeld hK K BN hBR KK
           rintro v11 ⟨kk1, kk2⟩
           have KK := hZz kk1
           have HRW := hZz kk2
           clear kk1 kk2
           have hHeld : (fun V => Bx V B [vi ki kn, vS un, vL sqn snn scn, vi ki an]) v11 := KK.out.2.2.1
           refine rd 1 (fun K hK => ?_)
           have q0 := KK.out.2.2.2.1.c 2 rfl
           have q9 := KK.out.2.2.2.1.1
           go_simp
           refine hK.out _ _ hHeld (fun hHeld => ?_)
           clear hK K q0 q9
           refine rd 8 (fun K hK => ?_)
           refine (if_pos (by kernel_rfl)).mpr (wp_row2 _ _ rfl rfl rfl HRW.out ?_)
           intro v' w4 hown' hgrow
           have hgb : Below _ _ w4 := grown_below hgrow
           obtain ⟨sq', sn', sc', hv'⟩ := own_form hown'
           subst hv'
           have K4 : Hid (XF g c w B (vi ki kn) (vS un) (vL sqn snn scn) (vi ki an) C atzB q.2.2 (vL none 0 0) ea er w4) := KK.out.below hgb
           have KD : Hid (XF g c w B (vi ki kn) (vS un) (vL sqn snn scn) (vi ki an) C atzB q.2.2 (vL sq' sn' sc') ea er (w4.setCell ⟨C, 2, none⟩ (vL sq' sn' sc'))) := K4.out.storeC hg hcC
           refine hK.out _ _ K4.out.2.2.1 (fun hHeld => ?_)
           clear hK K hown' hgrow hgb KK HRW
           refine tks 9 ?_
           simp only [za, zb, zc, zd]
           refine rd 10 (fun K hK => ?_)
           have z2 := K4.out.2.2.2.1.f 2 rfl
           have c2 := K4.out.2.2.2.1.c 2 rfl
           have hB4 := K4.out.2.2.2.1.1
           go_simp
           refine hK.out _ _ KD.out.2.2.1 (fun hHeld => ?_)
           refine gen_anyR (fun V => XF g c w B (vi ki kn) (vS un) (vL sqn snn scn) (vi ki an) C atzB q.2.2 (vL sq' sn' sc') ea er V) KD.out ?_
           clear hK K z2 c2 hB4 K4 KD hHeld
           intro v14 hv7
           have KK := hZz hv7
           clear hv7
           have hHeld : (fun V => Bx V B [vi ki kn, vS un, vL sqn snn scn, vi ki an]) v14 := KK.out.2.2.1
           refine dn ?_
           go_wp2_with fail
           go_meet
           case rel => exact ⟨HER.out, sq', sn', sc', KK.out⟩
        case rest =>
         obtain ⟨her, sq', sn', sc', kk⟩ := hcut
         have KK := hZz kk
         have HER := hZz her
         clear her kk HCC
         obtain ⟨x0, x1, x2, x3⟩ := KK.out.2.2.2.1.d4
         have xh := KK.out.2.2.2.1.1
         obtain ⟨r0, r1, r2, r3, rf0, rf1, rf2, rf3⟩ := KK.out.2.2.1.cf4
         have rh := (KK.out.2.2.1).1
         go_upto_region 39 with fail
         refine gen_to (fun V => Kp g w V ∧ Bx V w.heap.size Z4 ∧ Bx V B [vi ki 8, vS atzB, vL sq' sn' sc', vi ki q.2.2] ∧ RF g c (C + 1) V ea er) (KK.out.putC hg hcB (vi ki 8) (vS atzB) (vL sq' sn' sc') (vi ki q.2.2)) ?_
         have hCB : B < C := KK.out.2.2.2.2.2.2
         clear KK r0 r1 r2 r3 rf0 rf1 rf2 rf3 rh x0 x1 x2 x3 xh
         rintro V9 kk
         have KP := hZz kk
         clear kk
         go_wp2_with fail
         go_roundw
         case rel => (repeat apply Exists.intro); exact ⟨Or.inr ⟨ea, er, B + 1, 8, atzB, sq', sn', sc', q.2.2, ⟨KP.out.1, KP.out.2.1, KP.out.2.2.1, KP.out.2.2.2.back hc0 (by omega)⟩, HP1, HER.out, by omega⟩, rfl⟩
         case measure => rw [KP.out.2.2.2.msr HER.out, HPL.out]; omega
   ·have HER := hZz her
    have K9 := hZz KB.out.1
    have H9 := hZz KB.out.2.1
    have F9 := hZz KB.out.2.2.2
    have e0 : (er == 0) = false := by simpa using her
    have e0p : (er = 0) = False := eq_false her
    clear her KB
    obtain ⟨c9, o9, n9, m9, D9, i9, z9, t9, hc9, hb9, -⟩ := F9.out
    have cg2 := hb9.c 2 rfl
    have hgl := hb9.1
    clear hb9 hc9
    obtain ⟨y0', y1', y2', y3', HFK, HFO, HFS, rr0, rr1, rr2, rr3, rf0, rf1, rf2, rf3, hrw'⟩ := fin9 (vi ki 0) (vS ⟨#[]⟩) (vL none 0 0) (vi ki 0) K9.out (Nat.le_refl _) (H9.out)
    go_wp2
    refine bodyPost_ret (v := .agg #[vi ki 0, vS ⟨#[]⟩, vL none 0 0, vi ki 0]) (by simp [results, Tryd.results18, go_sem, y0', y1', y2', y3']) rfl ⟨HFK.out, by rw [HR9.out]; exact ⟨HER.out, (F9.out.off HFO.out HFS.out (by omega) (by omega) (by omega)).mono (by omega), _, _, _, _, _, _, rfl⟩⟩
theorem mT_3 {q : Tk} (h : GoodT q) : (mT q).1 = 3 ↔ q.1 = 3 := by
 obtain ⟨k1, k2, k3, k4, k5, _⟩ := @mT_kind q
 have := h.kind
 constructor
 ·intro e
  by_cases e1 : q.1 = 1
  ·rw [k1 e1] at e; split at e <;> omega
  by_cases e2 : q.1 = 2
  ·have := (k2 e2).1; omega
  by_cases e4 : q.1 = 4
  ·have := k4 e4; omega
  by_cases e5 : q.1 = 5
  ·have := k5 e5; omega
  omega
 ·exact k3
theorem rnamed_any (g b cap : Nat) (T : List Tk) (hG : Hid (∀ x ∈ T, GoodT x)) (N : Nat) (hNN : N ≤ 100000) (HA : Hid (RLv g b cap T 0 N)) : RNm g b cap T N := by
 intro w t l d f h hL hGt hfr hd hN hff
 obtain ⟨q, l1, rfl⟩ := mL_none hL
 have hGq := h.good hG.out
 have ht2 : t.1 = 2 := by
  rw [mT_free hGt] at hfr
  exact of_decide_eq_true (Bool.and_eq_true_iff.1 hfr).1
 have e1 : (mT t).2.1 = lowB t.2.1 := (mT_kind.2.1 ht2).2
 have e2 : (mT t).2.2 = t.2.2 := rfl
 have eN : nmF (par f) d (mT t) (mL (q :: l1)) = (if (mT q).1 = 3 ∧ typB (lowB t.2.1) = true then PR.ok (.mk 5 (lowB t.2.1) [.mk 3 (mT q).2.1 [] (mT q).2.2] t.2.2) (mL l1)
   else if isT (mT q) [(5, b1 40)] then
    if d = 20 then PR.no t.2.2 31
    else match mL l1 with
     | [] => PR.no 0 0
     | u :: l2 =>
      if isT u [(5, b1 41)] then PR.ok (.mk 9 (lowB t.2.1) [] t.2.2) l2
      else clK (lowB t.2.1) t.2.2 (par f (.ks []) (d + 1) (u :: l2))
   else PR.no (mT q).2.2 30) := by
  rw [mL_cons]; unfold nmF; dsimp only
  rw [e1, e2]
  cases mL l1 with
  | nil => rfl
  | cons u l2 =>
   dsimp only
   have eC : (match par f (.ks []) (d + 1) (u :: l2) with | .no a e => PR.no a e | .ok n l3 => PR.ok (.mk 9 (lowB t.2.1) n.ks t.2.2) l3) = clK (lowB t.2.1) t.2.2 (par f (.ks []) (d + 1) (u :: l2)) := by
    cases par f (.ks []) (d + 1) (u :: l2) <;> rfl
   rw [← eC]
   rfl
 rw [eN]
 clear eN
 by_cases h3 : q.1 = 3
 ·by_cases hy : typB (lowB t.2.1) = true
  ·rw [if_pos ⟨(mT_3 hGq).2 h3, hy⟩, (mT_kind.2.2.2.2.2 (by omega) : (mT q).2.1 = q.2.1)]
   exact rnamed_lit g b cap T hG t q l1 d hd h3 hy w h hGt hL
  ·have hi : isT (mT q) [(5, b1 40)] = false := by rw [isT_one, mT_kind.2.2.1 h3]; simp
   rw [if_neg (fun z => hy z.2), hi, if_neg (by simp)]
   exact rnamed_no3 g b cap T hG t q l1 d hd h3 ((sg_sign hGq (show (b1 40) ∈ sgnL by unfold sgnL; simp)).trans hi) (by simpa using hy) w h hGt hL
 ·rw [if_neg (fun z => h3 ((mT_3 hGq).1 z.1))]
  by_cases hi : isT (mT q) [(5, b1 40)] = true
  ·rw [if_pos hi]
   by_cases h20 : d = 20
   ·rw [if_pos h20]
    exact rnamed_deep g b cap T hG t q l1 d hd h3 hi h20 w h hGt hL
   ·rw [if_neg h20]
    have hEl : EndL (mL l1) := EndL.tail hL (isT_kind hi (by simp))
    obtain ⟨u, l2, rfl⟩ := mL_none hEl
    rw [mL_cons]
    dsimp only
    simp only [zl] at hN hff
    by_cases hu : isT (mT u) [(5, b1 41)] = true
    ·rw [if_pos hu]
     exact rnamed_none g b cap T hG t q u l2 d h3 hi hu (by omega) w h hGt hL
    ·rw [if_neg hu]
     exact rnamed_kids g b cap T hG N hNN HA t q u l2 d f h3 hi (by simpa using hu) (by omega) (by simp only [zl]; omega) (by simp only [need, mL_len, zl]; omega) w h hGt hL
  ·rw [if_neg hi]
   exact rnamed_no g b cap T hG t q l1 d hd h3 ((sg_sign hGq (show (b1 40) ∈ sgnL by unfold sgnL; simp)).trans (by simpa using hi)) w h hGt hL
theorem rlv_low (g b cap : Nat) (T : List Tk) (hG : Hid (∀ x ∈ T, GoodT x)) (N : Nat) (hNN : N ≤ 100000) (HA : Hid (RLv g b cap T 0 (N - 1))) : RLv g b cap T 8 N :=
 rlv_8 g b cap T N (rcast_any g b cap T hG N (rprim_any g b cap T hG N HA (rnamed_any g b cap T hG (N - 1) (by omega) HA)))
theorem rlv_none (g b cap : Nat) (T : List Tk) (lev : Nat) : RLv g b cap T lev 0 := by
 intro w L d f h hL hd hN hf
 cases L with
 | nil => exact hL.elim
 | cons r L => simp at hN
theorem rlv_all (g b cap : Nat) (T : List Tk) (hG : Hid (∀ x ∈ T, GoodT x)) : ∀ N, N ≤ 100000 → RLv g b cap T 0 N ∧ RLv g b cap T 2 N ∧ RLv g b cap T 6 N
 | 0, _ => ⟨rlv_none g b cap T 0, rlv_none g b cap T 2, rlv_none g b cap T 6⟩
 | N + 1, h => by
  obtain ⟨i0, i2, i6⟩ := rlv_all g b cap T hG N (by omega)
  have l8 : RLv g b cap T 8 (N + 1) := rlv_low g b cap T hG (N + 1) h i0
  have l7 : RLv g b cap T 7 (N + 1) := rlv_7 g b cap T hG (N + 1) l8
  have l6 : RLv g b cap T 6 (N + 1) := rlv_6 g b cap T hG (N + 1) l7 i6
  have l5 : RLv g b cap T 5 (N + 1) := rlv_lp g b cap T hG (N + 1) 5 (by omega) l6
  have l4 : RLv g b cap T 4 (N + 1) := rlv_lp g b cap T hG (N + 1) 4 (by omega) l5
  have l3 : RLv g b cap T 3 (N + 1) := rlv_lp g b cap T hG (N + 1) 3 (by omega) l4
  have l2 : RLv g b cap T 2 (N + 1) := rlv_2 g b cap T hG (N + 1) l3 i2
  have l1 : RLv g b cap T 1 (N + 1) := rlv_lp g b cap T hG (N + 1) 1 (by omega) l2
  exact ⟨rlv_lp g b cap T hG (N + 1) 0 (by omega) l1, l2, l6⟩
end Go.Proofs.YtaoocecipacnhaaDoor
