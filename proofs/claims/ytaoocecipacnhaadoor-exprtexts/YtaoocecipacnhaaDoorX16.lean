import Derived.Test.YtaoocecipacnhaaDoorX15
open Go.Value renaming int → vi, string → vS, slice → vL
open Go.IntKind renaming i64 → ki
open List renaming setIfInBounds_toArray → zb, set_cons_zero → zc, set_cons_succ → zd, length_cons → zl
open Go.Act renaming put → za
open Go.Ending renaming returned → zr
set_option maxRecDepth 100000
set_option maxHeartbeats 16000000
set_option linter.all false
namespace Go.Proofs.YtaoocecipacnhaaDoor
open Go.RowKit
def clK (nm : ByteArray) (a : Int) : PR → PR
 | .no a e => .no a e
 | .ok n l3 => .ok (.mk 9 nm n.ks a) l3
def kdK (f d : Nat) (acc : List Nd) : PR → PR
 | .no a e => .no a e
 | .ok n l1 => ksT f d (acc ++ [n]) l1
theorem ks_kd (f d : Nat) (acc : List Nd) (p : Tk) (l : List Tk) : par (f + 1) (.ks acc) d (p :: l) = kdK f d acc (par f (.lv 0) d (p :: l)) := by
 rw [ks_step]; cases par f (.lv 0) d (p :: l) <;> rfl
theorem grow_bx {V V' : World} {o : Option Nat} {b : Nat} {l : List Value} (h : V.grownBy V' o) (hb : Bx V b l) (hne : o ≠ some b) : Bx V' b l := by
 have q := h.block b hb.1 (fun e => hne e.symm)
 exact ⟨Nat.lt_of_lt_of_le hb.1 h.size, fun i v e => ⟨(World.cell?_of_block (w := V) (a := ⟨b, i, none⟩) q).trans (hb.2 i v e).1, (World.frozen?_of_block (w := V) (a := ⟨b, i, none⟩) q).trans (hb.2 i v e).2⟩⟩
def KF (g b : Nat) (w : World) (B : Nat) (nm : ByteArray) (at_ : Int) (ea er : Int) (sq : Option Addr) (sn sc : Nat) (Z : Nat) (V : World) : Prop :=
 Kp g w V ∧ Bx V (w.heap.size + 1) [vi ki 0, vS ⟨#[]⟩, vL none 0 0, vi ki 0] ∧ Bx V B [vi ki 9, vS nm, vL sq sn sc, vi ki at_] ∧ RF g b Z V ea er
theorem KF.below {g b : Nat} {w : World} {B : Nat} {nm : ByteArray} {at_ ea er : Int} {sq : Option Addr} {sn sc Z : Nat} {V V' : World} (h : KF g b w B nm at_ ea er sq sn sc Z V) (k : Below V.heap.size V V') : KF g b w B nm at_ ea er sq sn sc Z V' :=
 ⟨h.1.trans (Kp.of k), h.2.1.below k, h.2.2.1.below k, h.2.2.2.below k⟩
theorem KF.more {g b : Nat} {w : World} {B : Nat} {nm : ByteArray} {at_ ea er : Int} {sq sq' : Option Addr} {sn sc sn' sc' Z : Nat} {V V' : World} (h : KF g b w B nm at_ ea er sq sn sc Z V) (hg : g < w.heap.size) (hbl : b < w.heap.size) (hB : w.heap.size + 2 ≤ B) (hBZ : B < Z) (hgr : V.grownBy V' (Value.slice sq sn sc).ownBlock)
  (hob : ∀ c, (Value.slice sq sn sc).ownBlock = some c → B + 1 ≤ c ∧ c < Z) : KF g b w B nm at_ ea er sq' sn' sc' Z (V'.setCell ⟨B, 2, none⟩ (vL sq' sn' sc')) := by
 have hz := h.1.size
 have bl : ∀ c, c < V.heap.size → (Value.slice sq sn sc).ownBlock ≠ some c → V'.heap[c]? = V.heap[c]? := fun c hc hne => hgr.block c hc (fun e => hne e.symm)
 have kp : Kp g w V' := ⟨hgr.os.trans h.1.os, hgr.tape.trans h.1.tape, hgr.output.trans h.1.output, Nat.le_trans hz hgr.size, fun k hk hg' => (bl k (by omega) (fun e => by have := (hob _ e).1; omega)).trans (h.1.block k hk hg')⟩
 have k2 : ∀ c, c < V'.heap.size → c ≠ B → (V'.setCell ⟨B, 2, none⟩ (vL sq' sn' sc')).heap[c]? = V'.heap[c]? := fun c _ hc => Below.heap_setCell _ _ _ _ hc
 have f1 : RF g b Z V' ea er := by
  obtain ⟨c, o, n, m, D, kk, z, t, h0, hb, i2, i3, i4, i5, i6, i7, hD, i8, i9, i10⟩ := h.2.2.2
  have q := bl c i6 (fun e => by have := hob _ e; omega)
  have qg := bl g hb.1 (fun e => by have := (hob _ e).1; omega)
  exact ⟨c, o, n, m, D, kk, z, t, h0, ⟨Nat.lt_of_lt_of_le hb.1 hgr.size, fun i v hv => ⟨(World.cell?_of_block (w := V) (a := ⟨g, i, none⟩) qg).trans (hb.2 i v hv).1, (World.frozen?_of_block (w := V) (a := ⟨g, i, none⟩) qg).trans (hb.2 i v hv).2⟩⟩, i2, i3, i4, i5, Nat.lt_of_lt_of_le i6 hgr.size, i7, hD,
   (World.cell?_of_block (w := V) (a := ⟨c, o, none⟩) q).trans i8, (World.cell?_of_block (w := V) (a := ⟨c, o + 1, none⟩) q).trans i9, (World.cell?_of_block (w := V) (a := ⟨c, o + 2, none⟩) q).trans i10⟩
 exact ⟨kp.set (p := ⟨B, 2, none⟩) (.inr (by show _ ≤ B; omega)) _, (grow_bx hgr h.2.1 (fun e => by have := (hob _ e).1; omega)).setOther (by omega) [_] 2, (grow_bx hgr h.2.2.1 (fun e => by have := (hob _ e).1; omega)).set1 2 _ (by simp), f1.off (r := B) k2 (by simp) (by omega) (by omega) hBZ⟩
def KREL (g b cap : Nat) (T : List Tk) (w : World) (B : Nat) (nm : ByteArray) (at_ : Int) (d N : Nat) (PK : PR) (V : World) : Prop :=
 (∃ (L : List Tk) (acc : List Nd) (f1 : Nat) (sq : Option Addr) (sn sc : Nat) (xs : List Value), Hid (KM g b cap T w B nm at_ (d + 1) L acc sq sn sc xs V) ∧ 0 < acc.length ∧ acc.length + L.length ≤ N ∧ Hid (10 * L.length + 1 ≤ f1) ∧ Hid (ksT f1 (d + 1) acc (mL L) = PK)) ∨
 (∃ (ea er : Int) (Z : Nat) (sq : Option Addr) (sn sc : Nat), Hid (KF g b w B nm at_ ea er sq sn sc Z V) ∧ Hid (PK = .no ea er) ∧ er ≠ 0 ∧ B < Z)
theorem rnamed_kids (g b cap : Nat) (T : List Tk) (hGT : Hid (∀ x ∈ T, GoodT x)) (N : Nat) (hNN : N ≤ 100000) (HA : Hid (RLv g b cap T 0 N)) (t q u : Tk) (l2 : List Tk) (d f : Nat) (h3 : q.1 ≠ 3) (hi : isT (mT q) [(5, b1 40)] = true) (hu : isT (mT u) [(5, b1 41)] = false) (h20 : d < 20) (hN : (u :: l2).length ≤ N) (hff : need (.ks []) (mL (u :: l2)) ≤ f) (w : World) (h : RS g b cap T w (q :: u :: l2) d) (hGt : GoodT t) (hL : EndL (mL (q :: u :: l2))) :
  Calls Tryd.prog 67 #[.pointer (some ⟨g, 0, none⟩), .agg #[vi ki t.1, vS t.2.1, vi ki t.2.2], vS (lowB t.2.1)] w fun e w' => Kp g w w' ∧ ROut g b w.heap.size cap T (fun c => w.heap.size ≤ c) w' d e (clK (lowB t.2.1) t.2.2 (par f (.ks []) (d + 1) (mL (u :: l2)))) := by
 obtain ⟨RR, hRR⟩ : ∃ RR, clK (lowB t.2.1) t.2.2 (par f (.ks []) (d + 1) (mL (u :: l2))) = RR := ⟨_, rfl⟩
 rw [hRR]
 simp only [need, mL_len, zl] at hff hN
 obtain ⟨f, rfl⟩ : ∃ f', f = f' + 1 := ⟨f - 1, by omega⟩
 obtain ⟨PK, hPK⟩ : ∃ PK, par (f + 1) (.ks []) (d + 1) (mL (u :: l2)) = PK := ⟨_, rfl⟩
 rw [hPK] at hRR
 rw [mL_cons, ks_kd] at hPK
 have HRR := hZz hRR
 have HPK := hZz hPK
 clear hRR hPK
 obtain ⟨i0, hi0, iz0, iz1, iz2⟩ := info_parts infoNode22
 obtain ⟨l, hl⟩ : ∃ l, l = u :: l2 := ⟨_, rfl⟩
 rw [← hl] at h hL
 have hlq := hZz hl
 clear hl
 have g3 : (q.1 == 3) = false := by simpa using h3
 have g3p : (q.1 = 3) = False := eq_false h3
 clear h3
 have HL := hZz hL
 have hg := h.lt
 have hbl := h.tr.1
 have HGt := hZz hGt
 have HGq : Hid (GoodT q) := h.good hGT.out
 have hsz := hGt.size
 have HP := hZz h
 obtain ⟨pre, pa, cg0, cg1, cg2, fg0, fg1, t0, t1, t2, hgW, hbW, hlen, hmost, hle, hne, HEQ, HBX, HTR⟩ := RS.facts (h)
 clear h hL hGt
 have B0 := bsm3 w [vi ki t.1, vS t.2.1, vi ki t.2.2] 59 [vi ki 0, vS ⟨#[]⟩, vL none 0 0, vi ki 0] 30 [vi ki q.1, vS q.2.1, vi ki q.2.2] 59
 have HP0 : Hid (RS g b cap T (((w.alloc (.cells #[vi ki t.1, vS t.2.1, vi ki t.2.2] 59)).alloc (.cells #[vi ki 0, vS ⟨#[]⟩, vL none 0 0, vi ki 0] 30)).alloc (.cells #[vi ki q.1, vS q.2.1, vi ki q.2.2] 59)) (q :: l) d) := HP.out.below B0.out.1
 have K0 : Hid (Kp g w (((w.alloc (.cells #[vi ki t.1, vS t.2.1, vi ki t.2.2] 59)).alloc (.cells #[vi ki 0, vS ⟨#[]⟩, vL none 0 0, vi ki 0] 30)).alloc (.cells #[vi ki q.1, vS q.2.1, vi ki q.2.2] 59))) := Kp.of B0.out.1
 have H0 : Hid (Bx (((w.alloc (.cells #[vi ki t.1, vS t.2.1, vi ki t.2.2] 59)).alloc (.cells #[vi ki 0, vS ⟨#[]⟩, vL none 0 0, vi ki 0] 30)).alloc (.cells #[vi ki q.1, vS q.2.1, vi ki q.2.2] 59)) (w.heap.size + 1) [vi ki 0, vS ⟨#[]⟩, vL none 0 0, vi ki 0]) := B0.out.at (w.heap.size + 1) [vi ki 0, vS ⟨#[]⟩, vL none 0 0, vi ki 0] (by simp)
 have T0 : Hid (Bx (((w.alloc (.cells #[vi ki t.1, vS t.2.1, vi ki t.2.2] 59)).alloc (.cells #[vi ki 0, vS ⟨#[]⟩, vL none 0 0, vi ki 0] 30)).alloc (.cells #[vi ki q.1, vS q.2.1, vi ki q.2.2] 59)) w.heap.size [vi ki t.1, vS t.2.1, vi ki t.2.2]) := B0.out.at w.heap.size [vi ki t.1, vS t.2.1, vi ki t.2.2] (by simp)
 have X0 : Hid (Bx (((w.alloc (.cells #[vi ki t.1, vS t.2.1, vi ki t.2.2] 59)).alloc (.cells #[vi ki 0, vS ⟨#[]⟩, vL none 0 0, vi ki 0] 30)).alloc (.cells #[vi ki q.1, vS q.2.1, vi ki q.2.2] 59)) (w.heap.size + 2) [vi ki q.1, vS q.2.1, vi ki q.2.2]) := B0.out.at (w.heap.size + 1 + 1) [vi ki q.1, vS q.2.1, vi ki q.2.2] (by simp)
 go_enter Tryd.func67, Tryd.ntmps67
 have hl0 : l ≠ [] := by obtain ⟨y, l', rfl⟩ := mL_none (EndL.tail HL.out (isT_kind hi (by simp))); simp
 have HEl : Hid (EndL (mL l)) := EndL.tail HL.out (isT_kind hi (by simp))
 have hsg := (sg_sign HGq.out (show (b1 40) ∈ sgnL by unfold sgnL; simp)).trans hi
 clear hi
 have HWa0 := rwant_yes g b cap T l q HGq.out (b1 40) hsg hl0 d (((w.alloc (.cells #[vi ki t.1, vS t.2.1, vi ki t.2.2] 59)).alloc (.cells #[vi ki 0, vS ⟨#[]⟩, vL none 0 0, vi ki 0] 30)).alloc (.cells #[vi ki q.1, vS q.2.1, vi ki q.2.2] 59)) HP0.out
 have HWa : Hid _ := HWa0
 clear HWa0 hsg
 go_wp2_with fail
 refine Calls.mono HWa.out ?_
 rintro e W1 ⟨rfl, hk1, hr1⟩
 have K1 : Hid (Kp g w W1) := K0.out.trans hk1
 have H1 : Hid (Bx W1 (w.heap.size + 1) [vi ki 0, vS ⟨#[]⟩, vL none 0 0, vi ki 0]) := hk1.bx H0.out (by omega)
 have T1 : Hid (Bx W1 w.heap.size [vi ki t.1, vS t.2.1, vi ki t.2.2]) := hk1.bx T0.out (by omega)
 have S1 := hZz hr1
 have hz1 : w.heap.size + 3 ≤ W1.heap.size := by have := hk1.size; (try simp at this); omega
 clear hk1 hr1 HWa B0 HP HP0 K0 H0 T0 X0 cg0 cg1 cg2 fg0 fg1 t0 t1 t2 hgW hbW hlen hmost hle HEQ HBX HTR hne
 obtain ⟨⟨pre1, pa1, he1, hb1⟩, -⟩ := S1.out
 have cg2 := hb1.c 2 rfl
 have hgl := hb1.1
 clear hb1 he1
 have u2 := T1.out.c 2 rfl
 have uh := T1.out.1
 have hGu := (hlq.out ▸ S1.out).good hGT.out
 have HGu := hZz hGu
 have HI0 := rinner_ok g b cap T l2 u d h20 t.2.2 W1 (hlq.out ▸ S1.out)
 have HIn : Hid _ := HI0
 have HEu : Hid (EndL (mL (u :: l2))) := by have := HEl.out; rw [hlq.out] at this; exact this
 clear HI0 hGu HEl hl0
 go_wp2_with fail
 refine Calls.mono HIn.out ?_
 rintro e W2 ⟨rfl, hk2, hr2⟩
 have K2 : Hid (Kp g w W2) := K1.out.trans hk2
 have H2 : Hid (Bx W2 (w.heap.size + 1) [vi ki 0, vS ⟨#[]⟩, vL none 0 0, vi ki 0]) := hk2.bx H1.out (by omega)
 have T2 : Hid (Bx W2 w.heap.size [vi ki t.1, vS t.2.1, vi ki t.2.2]) := hk2.bx T1.out (by omega)
 have S2 := hZz hr2
 have hz2 : w.heap.size + 3 ≤ W2.heap.size := by have := hk2.size; omega
 clear hk2 hr2 HIn K1 H1 T1 S1 cg2 hgl u2 uh hlq
 have u2 := T2.out.c 2 rfl
 have uh := T2.out.1
 have X2 := bsm1 W2 [vi ki 9, vS (lowB t.2.1), vL none 0 0, vi ki t.2.2] 30
 have K3 : Hid (Kp g w (W2.alloc (.cells #[vi ki 9, vS (lowB t.2.1), vL none 0 0, vi ki t.2.2] 30))) := K2.out.alloc _
 have H3 : Hid (Bx (W2.alloc (.cells #[vi ki 9, vS (lowB t.2.1), vL none 0 0, vi ki t.2.2] 30)) (w.heap.size + 1) [vi ki 0, vS ⟨#[]⟩, vL none 0 0, vi ki 0]) := H2.out.alloc _
 have S3 : Hid (RS g b cap T (W2.alloc (.cells #[vi ki 9, vS (lowB t.2.1), vL none 0 0, vi ki t.2.2] 30)) (u :: l2) (d + 1)) := S2.out.below X2.out.1
 have hsu := (sg_sign HGu.out (show (b1 41) ∈ sgnL by unfold sgnL; simp)).trans hu
 clear hu
 have HS0 := rsign_any g b cap T l2 u HGu.out (b1 41) (fun z => by rw [hsu] at z; cases z) (d + 1) (W2.alloc (.cells #[vi ki 9, vS (lowB t.2.1), vL none 0 0, vi ki t.2.2] 30)) S3.out
 rw [hsu, if_neg (by simp)] at HS0
 have HSg : Hid _ := HS0
 clear HS0 hsu
 have hg2n : W2.heap.size ≠ g := by omega
 go_wp2_with fail
 refine Calls.mono HSg.out ?_
 rintro e W4 ⟨rfl, hk4, hr4⟩
 obtain ⟨B, hB⟩ : ∃ B, B = W2.heap.size := ⟨_, rfl⟩
 have hB2 : w.heap.size + 2 ≤ B := by omega
 have KK : Hid (KM g b cap T w B (lowB t.2.1) t.2.2 (d + 1) (u :: l2) [] none 0 0 [] W4) := KM.start (K3.out.trans hk4) (hk4.bx H3.out (by omega)) (by rw [hB]; exact hk4.bx X2.out.first (by omega)) hr4 HEu.out
 clear hk4 hr4 HSg K3 H3 S3 X2 K2 H2 T2 S2 u2 uh hg2n
 go_upto_region 10 with fail
 rw [← hB]
 clear hB
 have HCC : Hid (∀ V : World, RS g b cap T V (u :: l2) (d + 1) → Calls Tryd.prog 18 #[.pointer (some ⟨g, 0, none⟩), vi ki 0] V fun e w' => Kp g V w' ∧ ROut g b V.heap.size cap T (fun c => V.heap.size ≤ c) w' (d + 1) e (par f (.lv 0) (d + 1) (mT u :: mL l2))) := fun V hV => HA.out V (u :: l2) (d + 1) f hV HEu.out (by omega) hN (by simp only [need, mL_len, zl]; omega)
 go_cut [] from 64 to 70 (fun V => KREL g b cap T w B (lowB t.2.1) t.2.2 d N PK V)
 case first =>
  cases hr : par f (.lv 0) (d + 1) (mT u :: mL l2) with
  | no ea er =>
   rw [hr] at HCC
   have HP1 : Hid (PK = .no ea er) := by have := HPK.out; rw [hr] at this; exact this.symm
   clear hr HPK
   have hal : ([] : List Nd).length ≤ N := Nat.zero_le _
   refine wp_region_held_drew (S := fun _ => True) (by kernel_rfl) trivial (fun hHeld => ?_)
   refine gen_anyR (fun V => KM g b cap T w B (lowB t.2.1) t.2.2 (d + 1) (u :: l2) ([] : List Nd) none 0 0 ([] : List Value) V) (by first | exact KK.out.drew | exact KK.out) ?_
   clear hHeld KK
   intro W6 hW6
   have KK := hZz hW6
   clear hW6
   have hHeld : True := trivial
   refine tks 0 ?_
   simp only [za, zb, zc, zd]
   refine tks 2 ?_
   simp only [za, zb, zc, zd]
   refine rd2 1 3 (fun K hK => ?_) (fun K hK => ?_)
   ·
    have q0 := KK.out.2.2.1.c 2 rfl
    have q9 := KK.out.2.2.1.1
    go_simp
    refine hK.out _ _ trivial (fun hHeld => ?_)
    clear hK K q0 q9
    refine rd 3 (fun K hK => ?_)
    go_simp
    refine (HCC.out _ KK.out.2.2.2.1).mono ?_
    have hq9 := KK.out.2.2.1.1
    rintro e v2 ⟨hk2, her, hf, k9, u9, sq9, sn9, sc9, a9, rfl⟩
    refine hK.out _ _ trivial (fun hHeld => ?_)
    have HER := hZz her
    obtain ⟨Z, hZ⟩ : ∃ Z, Z = W6.heap.size := ⟨_, rfl⟩
    have hBZ : B < Z := by omega
    have HOb : Hid (∀ c, (Value.slice none 0 0).ownBlock = some c → B + 1 ≤ c ∧ c < Z) := fun c e => by have := ob_lt KK.out.2.2.2.2.2.1 e; exact ⟨this.1, by omega⟩
    have HOw : Hid (v2.ownsRow (B + 1) 30 4 (vL none 0 0) ([] : List Nd).length ([] : List Value)) := ownsRow_kp KK.out.2.2.2.2.2.1 hk2 (by omega)
    replace KK : Hid (KF g b w B (lowB t.2.1) t.2.2 ea er none 0 0 Z v2) := ⟨KK.out.1.trans hk2, hk2.bx KK.out.2.1 (by omega), hk2.bx KK.out.2.2.1 (by omega), by rw [hZ]; exact hf⟩
    clear hK K hk2 hf her hq9 hZ
    refine rd 4 (fun K hK => ?_)
    have hwB := KK.out.2.2.1.1
    go_simp
    refine hK.out _ _ trivial (fun hHeld => ?_)
    obtain ⟨BR, hBR⟩ : ∃ BR, BR = v2.heap.size := ⟨_, rfl⟩
    have BN := bsm1 v2 [vi ki k9, vS u9, vL sq9 sn9 sc9, vi ki a9] 30
    have KN : Hid (KF g b w B (lowB t.2.1) t.2.2 ea er none 0 0 Z (v2.alloc (.cells #[vi ki k9, vS u9, vL sq9 sn9 sc9, vi ki a9] 30)) ∧ Bx (v2.alloc (.cells #[vi ki k9, vS u9, vL sq9 sn9 sc9, vi ki a9] 30)) BR [vi ki k9, vS u9, vL sq9 sn9 sc9, vi ki a9] ∧ (v2.alloc (.cells #[vi ki k9, vS u9, vL sq9 sn9 sc9, vi ki a9] 30)).ownsRow (B + 1) 30 4 (vL none 0 0) ([] : List Nd).length ([] : List Value)) := ⟨KK.out.below BN.out.1, by rw [hBR]; exact BN.out.first, ownsRow_kp (g := g) HOw.out (Kp.of BN.out.1) (by omega)⟩
    refine gen_anyR (fun V' => KF g b w B (lowB t.2.1) t.2.2 ea er none 0 0 Z V' ∧ Bx V' BR [vi ki k9, vS u9, vL sq9 sn9 sc9, vi ki a9] ∧ V'.ownsRow (B + 1) 30 4 (vL none 0 0) ([] : List Nd).length ([] : List Value)) KN.out ?_
    rw [← hBR]
    clear hHeld hK K KN BN hBR hwB KK HOw
    rintro v3 ⟨kk1, kk2, kk3⟩
    have KK := hZz kk1
    have HRW := hZz kk2
    have HOw := hZz kk3
    clear kk1 kk2 kk3
    have hHeld : True := trivial
    refine rd 5 (fun K hK => ?_)
    have hbase := KK.out.2.2.1.1
    refine (if_pos (by kernel_rfl)).mpr (wp_append_new _ _ 28 rfl (B + 1) 30 i0 (.agg #[vi ki 0, vS ByteArray.empty, vL none 0 0, vi ki 0]) 4 56 Tryd.underlying28 hi0 iz0 iz1 iz2 rfl (by decide) (vL none 0 0) ([] : List Nd).length ([] : List Value) rfl HOw.out ⟨BR, 0, none⟩ 1 [vi ki k9, vS u9, vL sq9 sn9 sc9, vi ki a9] rfl rfl (fun j u hj => by rw [show (⟨BR, 0, none⟩ : Addr).add j = ⟨BR, j, none⟩ from by rw [Addr.add_lit]; simp]; exact (HRW.out.2 j u hj).1) (by intro u hu; simp at hu; rcases hu with rfl | rfl | rfl | rfl <;> rfl) (by have := hal; unfold maxLen; omega) (by have := hal; omega) (by omega) ?_)
    intro v' w4 hown' hgrow hnew
    obtain ⟨sq', sn', sc', hv'⟩ := own_form hown'
    subst hv'
    have HO := hZz hown'
    have HG := hZz hgrow
    have HNw := hZz hnew
    refine hK.out _ _ trivial (fun hHeld => ?_)
    clear hK K hown' hgrow hnew hbase HRW
    refine tks 6 ?_
    simp only [za, zb, zc, zd]
    refine rd 7 (fun K hK => ?_)
    have hB4 := grow_bx HG.out KK.out.2.2.1 (fun e => by have := (HOb.out _ e).1; omega)
    have c2 := hB4.c 2 rfl
    have z2 := hB4.f 2 rfl
    have h4 := hB4.1
    go_simp
    refine hK.out _ _ trivial (fun hHeld => ?_)
    have KP : Hid (KF g b w B (lowB t.2.1) t.2.2 ea er sq' sn' sc' Z (w4.setCell ⟨B, 2, none⟩ (vL sq' sn' sc'))) := KK.out.more hg hbl hB2 hBZ HG.out HOb.out
    refine gen_anyR (fun V' => KF g b w B (lowB t.2.1) t.2.2 ea er sq' sn' sc' Z V') KP.out ?_
    clear hHeld hK K KP hB4 c2 z2 h4 KK HO HG HNw HOw HOb
    intro v5 kk
    have KK := hZz kk
    clear kk
    have hHeld : True := trivial
    refine dn ?_
    go_wp2_with fail
    go_meet
    case rel => exact Or.inr ⟨ea, er, Z, _, _, _, KK, HP1, HER.out, hBZ⟩
   ·
    go_simp
    refine (HCC.out _ KK.out.2.2.2.1).mono ?_
    have hq9 := KK.out.2.2.1.1
    rintro e v6 ⟨hk6, her, hf, k9, u9, sq9, sn9, sc9, a9, rfl⟩
    refine hK.out _ _ trivial (fun hHeld => ?_)
    have HER := hZz her
    obtain ⟨Z, hZ⟩ : ∃ Z, Z = W6.heap.size := ⟨_, rfl⟩
    have hBZ : B < Z := by omega
    have HOb : Hid (∀ c, (Value.slice none 0 0).ownBlock = some c → B + 1 ≤ c ∧ c < Z) := fun c e => by have := ob_lt KK.out.2.2.2.2.2.1 e; exact ⟨this.1, by omega⟩
    have HOw : Hid (v6.ownsRow (B + 1) 30 4 (vL none 0 0) ([] : List Nd).length ([] : List Value)) := ownsRow_kp KK.out.2.2.2.2.2.1 hk6 (by omega)
    replace KK : Hid (KF g b w B (lowB t.2.1) t.2.2 ea er none 0 0 Z v6) := ⟨KK.out.1.trans hk6, hk6.bx KK.out.2.1 (by omega), hk6.bx KK.out.2.2.1 (by omega), by rw [hZ]; exact hf⟩
    clear hK K hk6 hf her hq9 hZ
    refine rd2 1 4 (fun K hK => ?_) (fun K hK => ?_)
    ·
     have q0 := KK.out.2.2.1.c 2 rfl
     have q9 := KK.out.2.2.1.1
     go_simp
     refine hK.out _ _ trivial (fun hHeld => ?_)
     clear hK K q0 q9
     refine rd 4 (fun K hK => ?_)
     have hwB := KK.out.2.2.1.1
     go_simp
     refine hK.out _ _ trivial (fun hHeld => ?_)
     obtain ⟨BR, hBR⟩ : ∃ BR, BR = v6.heap.size := ⟨_, rfl⟩
     have BN := bsm1 v6 [vi ki k9, vS u9, vL sq9 sn9 sc9, vi ki a9] 30
     have KN : Hid (KF g b w B (lowB t.2.1) t.2.2 ea er none 0 0 Z (v6.alloc (.cells #[vi ki k9, vS u9, vL sq9 sn9 sc9, vi ki a9] 30)) ∧ Bx (v6.alloc (.cells #[vi ki k9, vS u9, vL sq9 sn9 sc9, vi ki a9] 30)) BR [vi ki k9, vS u9, vL sq9 sn9 sc9, vi ki a9] ∧ (v6.alloc (.cells #[vi ki k9, vS u9, vL sq9 sn9 sc9, vi ki a9] 30)).ownsRow (B + 1) 30 4 (vL none 0 0) ([] : List Nd).length ([] : List Value)) := ⟨KK.out.below BN.out.1, by rw [hBR]; exact BN.out.first, ownsRow_kp (g := g) HOw.out (Kp.of BN.out.1) (by omega)⟩
     refine gen_anyR (fun V' => KF g b w B (lowB t.2.1) t.2.2 ea er none 0 0 Z V' ∧ Bx V' BR [vi ki k9, vS u9, vL sq9 sn9 sc9, vi ki a9] ∧ V'.ownsRow (B + 1) 30 4 (vL none 0 0) ([] : List Nd).length ([] : List Value)) KN.out ?_
     rw [← hBR]
     clear hHeld hK K KN BN hBR hwB KK HOw
     rintro v8 ⟨kk1, kk2, kk3⟩
     have KK := hZz kk1
     have HRW := hZz kk2
     have HOw := hZz kk3
     clear kk1 kk2 kk3
     have hHeld : True := trivial
     refine rd 5 (fun K hK => ?_)
     have hbase := KK.out.2.2.1.1
     refine (if_pos (by kernel_rfl)).mpr (wp_append_new _ _ 28 rfl (B + 1) 30 i0 (.agg #[vi ki 0, vS ByteArray.empty, vL none 0 0, vi ki 0]) 4 56 Tryd.underlying28 hi0 iz0 iz1 iz2 rfl (by decide) (vL none 0 0) ([] : List Nd).length ([] : List Value) rfl HOw.out ⟨BR, 0, none⟩ 1 [vi ki k9, vS u9, vL sq9 sn9 sc9, vi ki a9] rfl rfl (fun j u hj => by rw [show (⟨BR, 0, none⟩ : Addr).add j = ⟨BR, j, none⟩ from by rw [Addr.add_lit]; simp]; exact (HRW.out.2 j u hj).1) (by intro u hu; simp at hu; rcases hu with rfl | rfl | rfl | rfl <;> rfl) (by have := hal; unfold maxLen; omega) (by have := hal; omega) (by omega) ?_)
     intro v' w4 hown' hgrow hnew
     obtain ⟨sq', sn', sc', hv'⟩ := own_form hown'
     subst hv'
     have HO := hZz hown'
     have HG := hZz hgrow
     have HNw := hZz hnew
     refine hK.out _ _ trivial (fun hHeld => ?_)
     clear hK K hown' hgrow hnew hbase HRW
     refine tks 6 ?_
     simp only [za, zb, zc, zd]
     refine rd 7 (fun K hK => ?_)
     have hB4 := grow_bx HG.out KK.out.2.2.1 (fun e => by have := (HOb.out _ e).1; omega)
     have c2 := hB4.c 2 rfl
     have z2 := hB4.f 2 rfl
     have h4 := hB4.1
     go_simp
     refine hK.out _ _ trivial (fun hHeld => ?_)
     have KP : Hid (KF g b w B (lowB t.2.1) t.2.2 ea er sq' sn' sc' Z (w4.setCell ⟨B, 2, none⟩ (vL sq' sn' sc'))) := KK.out.more hg hbl hB2 hBZ HG.out HOb.out
     refine gen_anyR (fun V' => KF g b w B (lowB t.2.1) t.2.2 ea er sq' sn' sc' Z V') KP.out ?_
     clear hHeld hK K KP hB4 c2 z2 h4 KK HO HG HNw HOw HOb
     intro v10 kk
     have KK := hZz kk
     clear kk
     have hHeld : True := trivial
     refine dn ?_
     go_wp2_with fail
     go_meet
     case rel => exact Or.inr ⟨ea, er, Z, _, _, _, KK, HP1, HER.out, hBZ⟩
    ·
     have hwB := KK.out.2.2.1.1
     go_simp
     refine hK.out _ _ trivial (fun hHeld => ?_)
     obtain ⟨BR, hBR⟩ : ∃ BR, BR = v6.heap.size := ⟨_, rfl⟩
     have BN := bsm1 v6 [vi ki k9, vS u9, vL sq9 sn9 sc9, vi ki a9] 30
     have KN : Hid (KF g b w B (lowB t.2.1) t.2.2 ea er none 0 0 Z (v6.alloc (.cells #[vi ki k9, vS u9, vL sq9 sn9 sc9, vi ki a9] 30)) ∧ Bx (v6.alloc (.cells #[vi ki k9, vS u9, vL sq9 sn9 sc9, vi ki a9] 30)) BR [vi ki k9, vS u9, vL sq9 sn9 sc9, vi ki a9] ∧ (v6.alloc (.cells #[vi ki k9, vS u9, vL sq9 sn9 sc9, vi ki a9] 30)).ownsRow (B + 1) 30 4 (vL none 0 0) ([] : List Nd).length ([] : List Value)) := ⟨KK.out.below BN.out.1, by rw [hBR]; exact BN.out.first, ownsRow_kp (g := g) HOw.out (Kp.of BN.out.1) (by omega)⟩
     refine gen_anyR (fun V' => KF g b w B (lowB t.2.1) t.2.2 ea er none 0 0 Z V' ∧ Bx V' BR [vi ki k9, vS u9, vL sq9 sn9 sc9, vi ki a9] ∧ V'.ownsRow (B + 1) 30 4 (vL none 0 0) ([] : List Nd).length ([] : List Value)) KN.out ?_
     rw [← hBR]
     clear hHeld hK K KN BN hBR hwB KK HOw
     rintro v11 ⟨kk1, kk2, kk3⟩
     have KK := hZz kk1
     have HRW := hZz kk2
     have HOw := hZz kk3
     clear kk1 kk2 kk3
     have hHeld : True := trivial
     refine rd 1 (fun K hK => ?_)
     have q0 := KK.out.2.2.1.c 2 rfl
     have q9 := KK.out.2.2.1.1
     go_simp
     refine hK.out _ _ trivial (fun hHeld => ?_)
     clear hK K q0 q9
     refine rd 5 (fun K hK => ?_)
     have hbase := KK.out.2.2.1.1
     refine (if_pos (by kernel_rfl)).mpr (wp_append_new _ _ 28 rfl (B + 1) 30 i0 (.agg #[vi ki 0, vS ByteArray.empty, vL none 0 0, vi ki 0]) 4 56 Tryd.underlying28 hi0 iz0 iz1 iz2 rfl (by decide) (vL none 0 0) ([] : List Nd).length ([] : List Value) rfl HOw.out ⟨BR, 0, none⟩ 1 [vi ki k9, vS u9, vL sq9 sn9 sc9, vi ki a9] rfl rfl (fun j u hj => by rw [show (⟨BR, 0, none⟩ : Addr).add j = ⟨BR, j, none⟩ from by rw [Addr.add_lit]; simp]; exact (HRW.out.2 j u hj).1) (by intro u hu; simp at hu; rcases hu with rfl | rfl | rfl | rfl <;> rfl) (by have := hal; unfold maxLen; omega) (by have := hal; omega) (by omega) ?_)
     intro v' w4 hown' hgrow hnew
     obtain ⟨sq', sn', sc', hv'⟩ := own_form hown'
     subst hv'
     have HO := hZz hown'
     have HG := hZz hgrow
     have HNw := hZz hnew
     refine hK.out _ _ trivial (fun hHeld => ?_)
     clear hK K hown' hgrow hnew hbase HRW
     refine tks 6 ?_
     simp only [za, zb, zc, zd]
     refine rd 7 (fun K hK => ?_)
     have hB4 := grow_bx HG.out KK.out.2.2.1 (fun e => by have := (HOb.out _ e).1; omega)
     have c2 := hB4.c 2 rfl
     have z2 := hB4.f 2 rfl
     have h4 := hB4.1
     go_simp
     refine hK.out _ _ trivial (fun hHeld => ?_)
     have KP : Hid (KF g b w B (lowB t.2.1) t.2.2 ea er sq' sn' sc' Z (w4.setCell ⟨B, 2, none⟩ (vL sq' sn' sc'))) := KK.out.more hg hbl hB2 hBZ HG.out HOb.out
     refine gen_anyR (fun V' => KF g b w B (lowB t.2.1) t.2.2 ea er sq' sn' sc' Z V') KP.out ?_
     clear hHeld hK K KP hB4 c2 z2 h4 KK HO HG HNw HOw HOb
     intro v14 kk
     have KK := hZz kk
     clear kk
     have hHeld : True := trivial
     refine dn ?_
     go_wp2_with fail
     go_meet
     case rel => exact Or.inr ⟨ea, er, Z, _, _, _, KK, HP1, HER.out, hBZ⟩
  | ok n l1 =>
   rw [hr] at HCC
   have HP1 : Hid (ksT f (d + 1) ([] ++ [n]) l1 = PK) := by have := HPK.out; rw [hr] at this; exact this
   have hls := par_less (g := .lv 0) (by simp [okTg]) (show EndL (mT u :: mL l2) from HEu.out) (by simp only [need, zl, mL_len]; omega) hr
   have hls2 := hls.2
   simp only [most, zl, mL_len] at hls2
   clear hr HPK hls
   have hal : ([] : List Nd).length ≤ N := Nat.zero_le _
   refine wp_region_held_drew (S := fun _ => True) (by kernel_rfl) trivial (fun hHeld => ?_)
   refine gen_anyR (fun V => KM g b cap T w B (lowB t.2.1) t.2.2 (d + 1) (u :: l2) ([] : List Nd) none 0 0 ([] : List Value) V) (by first | exact KK.out.drew | exact KK.out) ?_
   clear hHeld KK
   intro W6 hW6
   have KK := hZz hW6
   clear hW6
   have hHeld : True := trivial
   refine tks 0 ?_
   simp only [za, zb, zc, zd]
   refine tks 2 ?_
   simp only [za, zb, zc, zd]
   refine rd2 1 3 (fun K hK => ?_) (fun K hK => ?_)
   ·
    have q0 := KK.out.2.2.1.c 2 rfl
    have q9 := KK.out.2.2.1.1
    go_simp
    refine hK.out _ _ trivial (fun hHeld => ?_)
    clear hK K q0 q9
    refine rd 3 (fun K hK => ?_)
    go_simp
    refine (HCC.out _ KK.out.2.2.2.1).mono ?_
    have hq9 := KK.out.2.2.1.1
    rintro e v2 ⟨hk2, L1, hl2, hrs, hend, k9, u9, sq9, sn9, sc9, a9, rfl, hnd⟩
    refine hK.out _ _ trivial (fun hHeld => ?_)
    subst hl2
    have NN9 : Hid (NdAt (fun c => B + 1 ≤ c ∧ (Value.slice none 0 0).ownBlock ≠ some c) v2 n [vi ki k9, vS u9, vL sq9 sn9 sc9, vi ki a9]) := NdAt.keep (Nat.le_refl _) (fun c hc _ => ⟨⟨by omega, fun e => by have := (ob_lt KK.out.2.2.2.2.2.1 e).2; omega⟩, rfl⟩) _ _ hnd
    replace KK : Hid (KM g b cap T w B (lowB t.2.1) t.2.2 (d + 1) L1 ([] : List Nd) none 0 0 ([] : List Value) v2) := KK.out.kp hg hB2 hk2 hrs hend
    clear hK K hk2 hrs hend hnd hq9
    refine rd 4 (fun K hK => ?_)
    have hwB := KK.out.2.2.1.1
    go_simp
    refine hK.out _ _ trivial (fun hHeld => ?_)
    obtain ⟨BR, hBR⟩ : ∃ BR, BR = v2.heap.size := ⟨_, rfl⟩
    have BN := bsm1 v2 [vi ki k9, vS u9, vL sq9 sn9 sc9, vi ki a9] 30
    have KN : Hid (KM g b cap T w B (lowB t.2.1) t.2.2 (d + 1) L1 ([] : List Nd) none 0 0 ([] : List Value) (v2.alloc (.cells #[vi ki k9, vS u9, vL sq9 sn9 sc9, vi ki a9] 30)) ∧ Bx (v2.alloc (.cells #[vi ki k9, vS u9, vL sq9 sn9 sc9, vi ki a9] 30)) BR [vi ki k9, vS u9, vL sq9 sn9 sc9, vi ki a9] ∧ NdAt (fun c => B + 1 ≤ c ∧ (Value.slice none 0 0).ownBlock ≠ some c) (v2.alloc (.cells #[vi ki k9, vS u9, vL sq9 sn9 sc9, vi ki a9] 30)) n [vi ki k9, vS u9, vL sq9 sn9 sc9, vi ki a9]) := ⟨KK.out.kp hg hB2 (Kp.of BN.out.1) (KK.out.2.2.2.1.below BN.out.1) KK.out.2.2.2.2.1, by rw [hBR]; exact BN.out.first, NN9.out.below BN.out.1⟩
    refine gen_anyR (fun V' => KM g b cap T w B (lowB t.2.1) t.2.2 (d + 1) L1 ([] : List Nd) none 0 0 ([] : List Value) V' ∧ Bx V' BR [vi ki k9, vS u9, vL sq9 sn9 sc9, vi ki a9] ∧ NdAt (fun c => B + 1 ≤ c ∧ (Value.slice none 0 0).ownBlock ≠ some c) V' n [vi ki k9, vS u9, vL sq9 sn9 sc9, vi ki a9]) KN.out ?_
    rw [← hBR]
    clear hHeld hK K KN BN hBR hwB KK NN9
    rintro v3 ⟨kk1, kk2, kk3⟩
    have KK := hZz kk1
    have HRW := hZz kk2
    have NN9 := hZz kk3
    clear kk1 kk2 kk3
    have hHeld : True := trivial
    refine rd 5 (fun K hK => ?_)
    have hbase := KK.out.2.2.1.1
    refine (if_pos (by kernel_rfl)).mpr (wp_append_new _ _ 28 rfl (B + 1) 30 i0 (.agg #[vi ki 0, vS ByteArray.empty, vL none 0 0, vi ki 0]) 4 56 Tryd.underlying28 hi0 iz0 iz1 iz2 rfl (by decide) (vL none 0 0) ([] : List Nd).length ([] : List Value) rfl KK.out.2.2.2.2.2.1 ⟨BR, 0, none⟩ 1 [vi ki k9, vS u9, vL sq9 sn9 sc9, vi ki a9] rfl rfl (fun j u hj => by rw [show (⟨BR, 0, none⟩ : Addr).add j = ⟨BR, j, none⟩ from by rw [Addr.add_lit]; simp]; exact (HRW.out.2 j u hj).1) (by intro u hu; simp at hu; rcases hu with rfl | rfl | rfl | rfl <;> rfl) (by have := hal; unfold maxLen; omega) (by have := hal; omega) (by omega) ?_)
    intro v' w4 hown' hgrow hnew
    obtain ⟨sq', sn', sc', hv'⟩ := own_form hown'
    subst hv'
    have HO := hZz hown'
    have HG := hZz hgrow
    have HNw := hZz hnew
    refine hK.out _ _ trivial (fun hHeld => ?_)
    clear hK K hown' hgrow hnew hbase HRW
    refine tks 6 ?_
    simp only [za, zb, zc, zd]
    refine rd 7 (fun K hK => ?_)
    have hB4 := grow_bx HG.out KK.out.2.2.1 (fun e => by have := (ob_lt KK.out.2.2.2.2.2.1 e).1; omega)
    have c2 := hB4.c 2 rfl
    have z2 := hB4.f 2 rfl
    have h4 := hB4.1
    go_simp
    refine hK.out _ _ trivial (fun hHeld => ?_)
    have KP : Hid (KM g b cap T w B (lowB t.2.1) t.2.2 (d + 1) L1 (([] : List Nd) ++ [n]) sq' sn' sc' (([] : List Value) ++ [vi ki k9, vS u9, vL sq9 sn9 sc9, vi ki a9]) (w4.setCell ⟨B, 2, none⟩ (vL sq' sn' sc'))) := KK.out.more hg hbl hB2 NN9.out HG.out (fun c h1 h2 => (HNw.out c h1).resolve_right (by omega)) (by rw [List.length_append]; exact HO.out)
    refine gen_anyR (fun V' => KM g b cap T w B (lowB t.2.1) t.2.2 (d + 1) L1 (([] : List Nd) ++ [n]) sq' sn' sc' (([] : List Value) ++ [vi ki k9, vS u9, vL sq9 sn9 sc9, vi ki a9]) V') KP.out ?_
    clear hHeld hK K KP hB4 c2 z2 h4 KK NN9 HO HG HNw
    intro v5 kk
    have KK := hZz kk
    clear kk
    have hHeld : True := trivial
    refine dn ?_
    rw [mL_len] at hls2
    go_wp2_with fail
    go_meet
    case rel => exact Or.inl ⟨L1, _, f, _, _, _, _, KK, by simp, by simp only [List.length_append, zl, List.length_nil] at hN ⊢; omega, (by show _ ≤ _; omega), HP1⟩
   ·
    go_simp
    refine (HCC.out _ KK.out.2.2.2.1).mono ?_
    have hq9 := KK.out.2.2.1.1
    rintro e v6 ⟨hk6, L1, hl6, hrs, hend, k9, u9, sq9, sn9, sc9, a9, rfl, hnd⟩
    refine hK.out _ _ trivial (fun hHeld => ?_)
    subst hl6
    have NN9 : Hid (NdAt (fun c => B + 1 ≤ c ∧ (Value.slice none 0 0).ownBlock ≠ some c) v6 n [vi ki k9, vS u9, vL sq9 sn9 sc9, vi ki a9]) := NdAt.keep (Nat.le_refl _) (fun c hc _ => ⟨⟨by omega, fun e => by have := (ob_lt KK.out.2.2.2.2.2.1 e).2; omega⟩, rfl⟩) _ _ hnd
    replace KK : Hid (KM g b cap T w B (lowB t.2.1) t.2.2 (d + 1) L1 ([] : List Nd) none 0 0 ([] : List Value) v6) := KK.out.kp hg hB2 hk6 hrs hend
    clear hK K hk6 hrs hend hnd hq9
    refine rd2 1 4 (fun K hK => ?_) (fun K hK => ?_)
    ·
     have q0 := KK.out.2.2.1.c 2 rfl
     have q9 := KK.out.2.2.1.1
     go_simp
     refine hK.out _ _ trivial (fun hHeld => ?_)
     clear hK K q0 q9
     refine rd 4 (fun K hK => ?_)
     have hwB := KK.out.2.2.1.1
     go_simp
     refine hK.out _ _ trivial (fun hHeld => ?_)
     obtain ⟨BR, hBR⟩ : ∃ BR, BR = v6.heap.size := ⟨_, rfl⟩
     have BN := bsm1 v6 [vi ki k9, vS u9, vL sq9 sn9 sc9, vi ki a9] 30
     have KN : Hid (KM g b cap T w B (lowB t.2.1) t.2.2 (d + 1) L1 ([] : List Nd) none 0 0 ([] : List Value) (v6.alloc (.cells #[vi ki k9, vS u9, vL sq9 sn9 sc9, vi ki a9] 30)) ∧ Bx (v6.alloc (.cells #[vi ki k9, vS u9, vL sq9 sn9 sc9, vi ki a9] 30)) BR [vi ki k9, vS u9, vL sq9 sn9 sc9, vi ki a9] ∧ NdAt (fun c => B + 1 ≤ c ∧ (Value.slice none 0 0).ownBlock ≠ some c) (v6.alloc (.cells #[vi ki k9, vS u9, vL sq9 sn9 sc9, vi ki a9] 30)) n [vi ki k9, vS u9, vL sq9 sn9 sc9, vi ki a9]) := ⟨KK.out.kp hg hB2 (Kp.of BN.out.1) (KK.out.2.2.2.1.below BN.out.1) KK.out.2.2.2.2.1, by rw [hBR]; exact BN.out.first, NN9.out.below BN.out.1⟩
     refine gen_anyR (fun V' => KM g b cap T w B (lowB t.2.1) t.2.2 (d + 1) L1 ([] : List Nd) none 0 0 ([] : List Value) V' ∧ Bx V' BR [vi ki k9, vS u9, vL sq9 sn9 sc9, vi ki a9] ∧ NdAt (fun c => B + 1 ≤ c ∧ (Value.slice none 0 0).ownBlock ≠ some c) V' n [vi ki k9, vS u9, vL sq9 sn9 sc9, vi ki a9]) KN.out ?_
     rw [← hBR]
     clear hHeld hK K KN BN hBR hwB KK NN9
     rintro v8 ⟨kk1, kk2, kk3⟩
     have KK := hZz kk1
     have HRW := hZz kk2
     have NN9 := hZz kk3
     clear kk1 kk2 kk3
     have hHeld : True := trivial
     refine rd 5 (fun K hK => ?_)
     have hbase := KK.out.2.2.1.1
     refine (if_pos (by kernel_rfl)).mpr (wp_append_new _ _ 28 rfl (B + 1) 30 i0 (.agg #[vi ki 0, vS ByteArray.empty, vL none 0 0, vi ki 0]) 4 56 Tryd.underlying28 hi0 iz0 iz1 iz2 rfl (by decide) (vL none 0 0) ([] : List Nd).length ([] : List Value) rfl KK.out.2.2.2.2.2.1 ⟨BR, 0, none⟩ 1 [vi ki k9, vS u9, vL sq9 sn9 sc9, vi ki a9] rfl rfl (fun j u hj => by rw [show (⟨BR, 0, none⟩ : Addr).add j = ⟨BR, j, none⟩ from by rw [Addr.add_lit]; simp]; exact (HRW.out.2 j u hj).1) (by intro u hu; simp at hu; rcases hu with rfl | rfl | rfl | rfl <;> rfl) (by have := hal; unfold maxLen; omega) (by have := hal; omega) (by omega) ?_)
     intro v' w4 hown' hgrow hnew
     obtain ⟨sq', sn', sc', hv'⟩ := own_form hown'
     subst hv'
     have HO := hZz hown'
     have HG := hZz hgrow
     have HNw := hZz hnew
     refine hK.out _ _ trivial (fun hHeld => ?_)
     clear hK K hown' hgrow hnew hbase HRW
     refine tks 6 ?_
     simp only [za, zb, zc, zd]
     refine rd 7 (fun K hK => ?_)
     have hB4 := grow_bx HG.out KK.out.2.2.1 (fun e => by have := (ob_lt KK.out.2.2.2.2.2.1 e).1; omega)
     have c2 := hB4.c 2 rfl
     have z2 := hB4.f 2 rfl
     have h4 := hB4.1
     go_simp
     refine hK.out _ _ trivial (fun hHeld => ?_)
     have KP : Hid (KM g b cap T w B (lowB t.2.1) t.2.2 (d + 1) L1 (([] : List Nd) ++ [n]) sq' sn' sc' (([] : List Value) ++ [vi ki k9, vS u9, vL sq9 sn9 sc9, vi ki a9]) (w4.setCell ⟨B, 2, none⟩ (vL sq' sn' sc'))) := KK.out.more hg hbl hB2 NN9.out HG.out (fun c h1 h2 => (HNw.out c h1).resolve_right (by omega)) (by rw [List.length_append]; exact HO.out)
     refine gen_anyR (fun V' => KM g b cap T w B (lowB t.2.1) t.2.2 (d + 1) L1 (([] : List Nd) ++ [n]) sq' sn' sc' (([] : List Value) ++ [vi ki k9, vS u9, vL sq9 sn9 sc9, vi ki a9]) V') KP.out ?_
     clear hHeld hK K KP hB4 c2 z2 h4 KK NN9 HO HG HNw
     intro v10 kk
     have KK := hZz kk
     clear kk
     have hHeld : True := trivial
     refine dn ?_
     rw [mL_len] at hls2
     go_wp2_with fail
     go_meet
     case rel => exact Or.inl ⟨L1, _, f, _, _, _, _, KK, by simp, by simp only [List.length_append, zl, List.length_nil] at hN ⊢; omega, (by show _ ≤ _; omega), HP1⟩
    ·
     have hwB := KK.out.2.2.1.1
     go_simp
     refine hK.out _ _ trivial (fun hHeld => ?_)
     obtain ⟨BR, hBR⟩ : ∃ BR, BR = v6.heap.size := ⟨_, rfl⟩
     have BN := bsm1 v6 [vi ki k9, vS u9, vL sq9 sn9 sc9, vi ki a9] 30
     have KN : Hid (KM g b cap T w B (lowB t.2.1) t.2.2 (d + 1) L1 ([] : List Nd) none 0 0 ([] : List Value) (v6.alloc (.cells #[vi ki k9, vS u9, vL sq9 sn9 sc9, vi ki a9] 30)) ∧ Bx (v6.alloc (.cells #[vi ki k9, vS u9, vL sq9 sn9 sc9, vi ki a9] 30)) BR [vi ki k9, vS u9, vL sq9 sn9 sc9, vi ki a9] ∧ NdAt (fun c => B + 1 ≤ c ∧ (Value.slice none 0 0).ownBlock ≠ some c) (v6.alloc (.cells #[vi ki k9, vS u9, vL sq9 sn9 sc9, vi ki a9] 30)) n [vi ki k9, vS u9, vL sq9 sn9 sc9, vi ki a9]) := ⟨KK.out.kp hg hB2 (Kp.of BN.out.1) (KK.out.2.2.2.1.below BN.out.1) KK.out.2.2.2.2.1, by rw [hBR]; exact BN.out.first, NN9.out.below BN.out.1⟩
     refine gen_anyR (fun V' => KM g b cap T w B (lowB t.2.1) t.2.2 (d + 1) L1 ([] : List Nd) none 0 0 ([] : List Value) V' ∧ Bx V' BR [vi ki k9, vS u9, vL sq9 sn9 sc9, vi ki a9] ∧ NdAt (fun c => B + 1 ≤ c ∧ (Value.slice none 0 0).ownBlock ≠ some c) V' n [vi ki k9, vS u9, vL sq9 sn9 sc9, vi ki a9]) KN.out ?_
     rw [← hBR]
     clear hHeld hK K KN BN hBR hwB KK NN9
     rintro v11 ⟨kk1, kk2, kk3⟩
     have KK := hZz kk1
     have HRW := hZz kk2
     have NN9 := hZz kk3
     clear kk1 kk2 kk3
     have hHeld : True := trivial
     refine rd 1 (fun K hK => ?_)
     have q0 := KK.out.2.2.1.c 2 rfl
     have q9 := KK.out.2.2.1.1
     go_simp
     refine hK.out _ _ trivial (fun hHeld => ?_)
     clear hK K q0 q9
     refine rd 5 (fun K hK => ?_)
     have hbase := KK.out.2.2.1.1
     refine (if_pos (by kernel_rfl)).mpr (wp_append_new _ _ 28 rfl (B + 1) 30 i0 (.agg #[vi ki 0, vS ByteArray.empty, vL none 0 0, vi ki 0]) 4 56 Tryd.underlying28 hi0 iz0 iz1 iz2 rfl (by decide) (vL none 0 0) ([] : List Nd).length ([] : List Value) rfl KK.out.2.2.2.2.2.1 ⟨BR, 0, none⟩ 1 [vi ki k9, vS u9, vL sq9 sn9 sc9, vi ki a9] rfl rfl (fun j u hj => by rw [show (⟨BR, 0, none⟩ : Addr).add j = ⟨BR, j, none⟩ from by rw [Addr.add_lit]; simp]; exact (HRW.out.2 j u hj).1) (by intro u hu; simp at hu; rcases hu with rfl | rfl | rfl | rfl <;> rfl) (by have := hal; unfold maxLen; omega) (by have := hal; omega) (by omega) ?_)
     intro v' w4 hown' hgrow hnew
     obtain ⟨sq', sn', sc', hv'⟩ := own_form hown'
     subst hv'
     have HO := hZz hown'
     have HG := hZz hgrow
     have HNw := hZz hnew
     refine hK.out _ _ trivial (fun hHeld => ?_)
     clear hK K hown' hgrow hnew hbase HRW
     refine tks 6 ?_
     simp only [za, zb, zc, zd]
     refine rd 7 (fun K hK => ?_)
     have hB4 := grow_bx HG.out KK.out.2.2.1 (fun e => by have := (ob_lt KK.out.2.2.2.2.2.1 e).1; omega)
     have c2 := hB4.c 2 rfl
     have z2 := hB4.f 2 rfl
     have h4 := hB4.1
     go_simp
     refine hK.out _ _ trivial (fun hHeld => ?_)
     have KP : Hid (KM g b cap T w B (lowB t.2.1) t.2.2 (d + 1) L1 (([] : List Nd) ++ [n]) sq' sn' sc' (([] : List Value) ++ [vi ki k9, vS u9, vL sq9 sn9 sc9, vi ki a9]) (w4.setCell ⟨B, 2, none⟩ (vL sq' sn' sc'))) := KK.out.more hg hbl hB2 NN9.out HG.out (fun c h1 h2 => (HNw.out c h1).resolve_right (by omega)) (by rw [List.length_append]; exact HO.out)
     refine gen_anyR (fun V' => KM g b cap T w B (lowB t.2.1) t.2.2 (d + 1) L1 (([] : List Nd) ++ [n]) sq' sn' sc' (([] : List Value) ++ [vi ki k9, vS u9, vL sq9 sn9 sc9, vi ki a9]) V') KP.out ?_
     clear hHeld hK K KP hB4 c2 z2 h4 KK NN9 HO HG HNw
     intro v14 kk
     have KK := hZz kk
     clear kk
     have hHeld : True := trivial
     refine dn ?_
     rw [mL_len] at hls2
     go_wp2_with fail
     go_meet
     case rel => exact Or.inl ⟨L1, _, f, _, _, _, _, KK, by simp, by simp only [List.length_append, zl, List.length_nil] at hN ⊢; omega, (by show _ ≤ _; omega), HP1⟩
 case rest =>
  clear HPK HCC HEu hff
  go_wp2_with fail
  go_loopw [] (fun V => KREL g b cap T w B (lowB t.2.1) t.2.2 d N PK V) (fun V => msR g V)
  case atStart => exact hcut
  case round =>
   clear hcut
   rcases hrel with ⟨L, acc, f1, sq, sn, sc, xs, KK, ha0, haN, HF, HKs⟩ | ⟨ea, er, Z, sq, sn, sc, KB, HP1, her, hBZ⟩
   ·obtain ⟨q1, l1, rfl⟩ := mL_none KK.out.2.2.2.2.1
    obtain ⟨f2, rfl⟩ : ∃ f', f1 = f' + 1 := ⟨f1 - 1, by have := HF.out; simp only [zl] at this; omega⟩
    have HPL := hZz KK.out.2.2.2.1.msr
    have HGq1 : Hid (GoodT q1) := KK.out.2.2.2.1.good hGT.out
    have hs44 := sg_sign HGq1.out (show (b1 44) ∈ sgnL by unfold sgnL; simp)
    by_cases hi2 : isT (mT q1) [(5, b1 44)] = true
    ·rw [hi2] at hs44
     have hEl : EndL (mL l1) := EndL.tail KK.out.2.2.2.2.1 (isT_kind hi2 (by simp))
     obtain ⟨p, l3, rfl⟩ := mL_none hEl
     have HE1 := hZz hEl
     have HPK2 : Hid (kdK f2 (d + 1) acc (par f2 (.lv 0) (d + 1) (mT p :: mL l3)) = PK) := by have e9 := HKs.out; rw [mL_cons, ksT, if_pos hi2, mL_cons, ks_kd] at e9; exact e9
     have HS0 := rsign_any g b cap T (p :: l3) q1 HGq1.out (b1 44) (fun _ => by simp) (d + 1) wr KK.out.2.2.2.1
     rw [hs44, if_pos rfl] at HS0
     have HSg : Hid _ := HS0
     clear HS0 hs44 hi2 hEl HKs
     go_wp2_with fail
     refine Calls.mono HSg.out ?_
     rintro e W7 ⟨rfl, hk7, hr7⟩
     have KC : Hid (KM g b cap T w B (lowB t.2.1) t.2.2 (d + 1) (p :: l3) acc sq sn sc xs W7) := KK.out.kp hg hB2 hk7 hr7 HE1.out
     clear hk7 hr7 HSg KK
     have KK := KC
     clear KC
     simp only [zl] at haN
     have hal : acc.length ≤ N := by omega
     have HCC : Hid (∀ V : World, RS g b cap T V (p :: l3) (d + 1) → Calls Tryd.prog 18 #[.pointer (some ⟨g, 0, none⟩), vi ki 0] V fun e w' => Kp g V w' ∧ ROut g b V.heap.size cap T (fun c => V.heap.size ≤ c) w' (d + 1) e (par f2 (.lv 0) (d + 1) (mT p :: mL l3))) := fun V hV => HA.out V (p :: l3) (d + 1) f2 hV HE1.out (by omega) (by simp only [zl]; omega) (by have := HF.out; simp only [need, mL_len, zl] at this ⊢; omega)
     go_upto_region 12 with fail
     cases hr : par f2 (.lv 0) (d + 1) (mT p :: mL l3) with
     | no ea er =>
      rw [hr] at HCC
      have HP1 : Hid (PK = .no ea er) := by have := HPK2.out; rw [hr] at this; exact this.symm
      clear hr HPK2
      refine wp_region_held_drew (S := fun _ => True) (by kernel_rfl) trivial (fun hHeld => ?_)
      refine gen_anyR (fun V => KM g b cap T w B (lowB t.2.1) t.2.2 (d + 1) (p :: l3) acc sq sn sc xs V) (by first | exact KK.out.drew | exact KK.out) ?_
      clear hHeld KK
      intro W9 hW6
      have KK := hZz hW6
      clear hW6
      have hHeld : True := trivial
      refine tks 0 ?_
      simp only [za, zb, zc, zd]
      refine tks 2 ?_
      simp only [za, zb, zc, zd]
      refine rd2 1 3 (fun K hK => ?_) (fun K hK => ?_)
      ·
       have q0 := KK.out.2.2.1.c 2 rfl
       have q9 := KK.out.2.2.1.1
       go_simp
       refine hK.out _ _ trivial (fun hHeld => ?_)
       clear hK K q0 q9
       refine rd 3 (fun K hK => ?_)
       go_simp
       refine (HCC.out _ KK.out.2.2.2.1).mono ?_
       have hq9 := KK.out.2.2.1.1
       rintro e v2 ⟨hk2, her, hf, k9, u9, sq9, sn9, sc9, a9, rfl⟩
       refine hK.out _ _ trivial (fun hHeld => ?_)
       have HER := hZz her
       obtain ⟨Z, hZ⟩ : ∃ Z, Z = W9.heap.size := ⟨_, rfl⟩
       have hBZ : B < Z := by omega
       have HOb : Hid (∀ c, (Value.slice sq sn sc).ownBlock = some c → B + 1 ≤ c ∧ c < Z) := fun c e => by have := ob_lt KK.out.2.2.2.2.2.1 e; exact ⟨this.1, by omega⟩
       have HOw : Hid (v2.ownsRow (B + 1) 30 4 (vL sq sn sc) acc.length xs) := ownsRow_kp KK.out.2.2.2.2.2.1 hk2 (by omega)
       replace KK : Hid (KF g b w B (lowB t.2.1) t.2.2 ea er sq sn sc Z v2) := ⟨KK.out.1.trans hk2, hk2.bx KK.out.2.1 (by omega), hk2.bx KK.out.2.2.1 (by omega), by rw [hZ]; exact hf⟩
       clear hK K hk2 hf her hq9 hZ
       refine rd 4 (fun K hK => ?_)
       have hwB := KK.out.2.2.1.1
       go_simp
       refine hK.out _ _ trivial (fun hHeld => ?_)
       obtain ⟨BR, hBR⟩ : ∃ BR, BR = v2.heap.size := ⟨_, rfl⟩
       have BN := bsm1 v2 [vi ki k9, vS u9, vL sq9 sn9 sc9, vi ki a9] 30
       have KN : Hid (KF g b w B (lowB t.2.1) t.2.2 ea er sq sn sc Z (v2.alloc (.cells #[vi ki k9, vS u9, vL sq9 sn9 sc9, vi ki a9] 30)) ∧ Bx (v2.alloc (.cells #[vi ki k9, vS u9, vL sq9 sn9 sc9, vi ki a9] 30)) BR [vi ki k9, vS u9, vL sq9 sn9 sc9, vi ki a9] ∧ (v2.alloc (.cells #[vi ki k9, vS u9, vL sq9 sn9 sc9, vi ki a9] 30)).ownsRow (B + 1) 30 4 (vL sq sn sc) acc.length xs) := ⟨KK.out.below BN.out.1, by rw [hBR]; exact BN.out.first, ownsRow_kp (g := g) HOw.out (Kp.of BN.out.1) (by omega)⟩
       refine gen_anyR (fun V' => KF g b w B (lowB t.2.1) t.2.2 ea er sq sn sc Z V' ∧ Bx V' BR [vi ki k9, vS u9, vL sq9 sn9 sc9, vi ki a9] ∧ V'.ownsRow (B + 1) 30 4 (vL sq sn sc) acc.length xs) KN.out ?_
       rw [← hBR]
       clear hHeld hK K KN BN hBR hwB KK HOw
       rintro v3 ⟨kk1, kk2, kk3⟩
       have KK := hZz kk1
       have HRW := hZz kk2
       have HOw := hZz kk3
       clear kk1 kk2 kk3
       have hHeld : True := trivial
       refine rd 5 (fun K hK => ?_)
       have hbase := KK.out.2.2.1.1
       refine (if_pos (by kernel_rfl)).mpr (wp_append_new _ _ 28 rfl (B + 1) 30 i0 (.agg #[vi ki 0, vS ByteArray.empty, vL none 0 0, vi ki 0]) 4 56 Tryd.underlying28 hi0 iz0 iz1 iz2 rfl (by decide) (vL sq sn sc) acc.length xs rfl HOw.out ⟨BR, 0, none⟩ 1 [vi ki k9, vS u9, vL sq9 sn9 sc9, vi ki a9] rfl rfl (fun j u hj => by rw [show (⟨BR, 0, none⟩ : Addr).add j = ⟨BR, j, none⟩ from by rw [Addr.add_lit]; simp]; exact (HRW.out.2 j u hj).1) (by intro u hu; simp at hu; rcases hu with rfl | rfl | rfl | rfl <;> rfl) (by have := hal; unfold maxLen; omega) (by have := hal; omega) (by omega) ?_)
       intro v' w4 hown' hgrow hnew
       obtain ⟨sq', sn', sc', hv'⟩ := own_form hown'
       subst hv'
       have HO := hZz hown'
       have HG := hZz hgrow
       have HNw := hZz hnew
       refine hK.out _ _ trivial (fun hHeld => ?_)
       clear hK K hown' hgrow hnew hbase HRW
       refine tks 6 ?_
       simp only [za, zb, zc, zd]
       refine rd 7 (fun K hK => ?_)
       have hB4 := grow_bx HG.out KK.out.2.2.1 (fun e => by have := (HOb.out _ e).1; omega)
       have c2 := hB4.c 2 rfl
       have z2 := hB4.f 2 rfl
       have h4 := hB4.1
       go_simp
       refine hK.out _ _ trivial (fun hHeld => ?_)
       have KP : Hid (KF g b w B (lowB t.2.1) t.2.2 ea er sq' sn' sc' Z (w4.setCell ⟨B, 2, none⟩ (vL sq' sn' sc'))) := KK.out.more hg hbl hB2 hBZ HG.out HOb.out
       refine gen_anyR (fun V' => KF g b w B (lowB t.2.1) t.2.2 ea er sq' sn' sc' Z V') KP.out ?_
       clear hHeld hK K KP hB4 c2 z2 h4 KK HO HG HNw HOw HOb
       intro v5 kk
       have KK := hZz kk
       clear kk
       have hHeld : True := trivial
       refine dn ?_
       go_wp2_with fail
       exact ⟨Or.inr ⟨ea, er, Z, _, _, _, KK, HP1, HER.out, hBZ⟩, by rw [KK.out.2.2.2.msr HER.out, HPL.out]; omega⟩
      ·
       go_simp
       refine (HCC.out _ KK.out.2.2.2.1).mono ?_
       have hq9 := KK.out.2.2.1.1
       rintro e v6 ⟨hk6, her, hf, k9, u9, sq9, sn9, sc9, a9, rfl⟩
       refine hK.out _ _ trivial (fun hHeld => ?_)
       have HER := hZz her
       obtain ⟨Z, hZ⟩ : ∃ Z, Z = W9.heap.size := ⟨_, rfl⟩
       have hBZ : B < Z := by omega
       have HOb : Hid (∀ c, (Value.slice sq sn sc).ownBlock = some c → B + 1 ≤ c ∧ c < Z) := fun c e => by have := ob_lt KK.out.2.2.2.2.2.1 e; exact ⟨this.1, by omega⟩
       have HOw : Hid (v6.ownsRow (B + 1) 30 4 (vL sq sn sc) acc.length xs) := ownsRow_kp KK.out.2.2.2.2.2.1 hk6 (by omega)
       replace KK : Hid (KF g b w B (lowB t.2.1) t.2.2 ea er sq sn sc Z v6) := ⟨KK.out.1.trans hk6, hk6.bx KK.out.2.1 (by omega), hk6.bx KK.out.2.2.1 (by omega), by rw [hZ]; exact hf⟩
       clear hK K hk6 hf her hq9 hZ
       refine rd2 1 4 (fun K hK => ?_) (fun K hK => ?_)
       ·
        have q0 := KK.out.2.2.1.c 2 rfl
        have q9 := KK.out.2.2.1.1
        go_simp
        refine hK.out _ _ trivial (fun hHeld => ?_)
        clear hK K q0 q9
        refine rd 4 (fun K hK => ?_)
        have hwB := KK.out.2.2.1.1
        go_simp
        refine hK.out _ _ trivial (fun hHeld => ?_)
        obtain ⟨BR, hBR⟩ : ∃ BR, BR = v6.heap.size := ⟨_, rfl⟩
        have BN := bsm1 v6 [vi ki k9, vS u9, vL sq9 sn9 sc9, vi ki a9] 30
        have KN : Hid (KF g b w B (lowB t.2.1) t.2.2 ea er sq sn sc Z (v6.alloc (.cells #[vi ki k9, vS u9, vL sq9 sn9 sc9, vi ki a9] 30)) ∧ Bx (v6.alloc (.cells #[vi ki k9, vS u9, vL sq9 sn9 sc9, vi ki a9] 30)) BR [vi ki k9, vS u9, vL sq9 sn9 sc9, vi ki a9] ∧ (v6.alloc (.cells #[vi ki k9, vS u9, vL sq9 sn9 sc9, vi ki a9] 30)).ownsRow (B + 1) 30 4 (vL sq sn sc) acc.length xs) := ⟨KK.out.below BN.out.1, by rw [hBR]; exact BN.out.first, ownsRow_kp (g := g) HOw.out (Kp.of BN.out.1) (by omega)⟩
        refine gen_anyR (fun V' => KF g b w B (lowB t.2.1) t.2.2 ea er sq sn sc Z V' ∧ Bx V' BR [vi ki k9, vS u9, vL sq9 sn9 sc9, vi ki a9] ∧ V'.ownsRow (B + 1) 30 4 (vL sq sn sc) acc.length xs) KN.out ?_
        rw [← hBR]
        clear hHeld hK K KN BN hBR hwB KK HOw
        rintro v8 ⟨kk1, kk2, kk3⟩
        have KK := hZz kk1
        have HRW := hZz kk2
        have HOw := hZz kk3
        clear kk1 kk2 kk3
        have hHeld : True := trivial
        refine rd 5 (fun K hK => ?_)
        have hbase := KK.out.2.2.1.1
        refine (if_pos (by kernel_rfl)).mpr (wp_append_new _ _ 28 rfl (B + 1) 30 i0 (.agg #[vi ki 0, vS ByteArray.empty, vL none 0 0, vi ki 0]) 4 56 Tryd.underlying28 hi0 iz0 iz1 iz2 rfl (by decide) (vL sq sn sc) acc.length xs rfl HOw.out ⟨BR, 0, none⟩ 1 [vi ki k9, vS u9, vL sq9 sn9 sc9, vi ki a9] rfl rfl (fun j u hj => by rw [show (⟨BR, 0, none⟩ : Addr).add j = ⟨BR, j, none⟩ from by rw [Addr.add_lit]; simp]; exact (HRW.out.2 j u hj).1) (by intro u hu; simp at hu; rcases hu with rfl | rfl | rfl | rfl <;> rfl) (by have := hal; unfold maxLen; omega) (by have := hal; omega) (by omega) ?_)
        intro v' w4 hown' hgrow hnew
        obtain ⟨sq', sn', sc', hv'⟩ := own_form hown'
        subst hv'
        have HO := hZz hown'
        have HG := hZz hgrow
        have HNw := hZz hnew
        refine hK.out _ _ trivial (fun hHeld => ?_)
        clear hK K hown' hgrow hnew hbase HRW
        refine tks 6 ?_
        simp only [za, zb, zc, zd]
        refine rd 7 (fun K hK => ?_)
        have hB4 := grow_bx HG.out KK.out.2.2.1 (fun e => by have := (HOb.out _ e).1; omega)
        have c2 := hB4.c 2 rfl
        have z2 := hB4.f 2 rfl
        have h4 := hB4.1
        go_simp
        refine hK.out _ _ trivial (fun hHeld => ?_)
        have KP : Hid (KF g b w B (lowB t.2.1) t.2.2 ea er sq' sn' sc' Z (w4.setCell ⟨B, 2, none⟩ (vL sq' sn' sc'))) := KK.out.more hg hbl hB2 hBZ HG.out HOb.out
        refine gen_anyR (fun V' => KF g b w B (lowB t.2.1) t.2.2 ea er sq' sn' sc' Z V') KP.out ?_
        clear hHeld hK K KP hB4 c2 z2 h4 KK HO HG HNw HOw HOb
        intro v10 kk
        have KK := hZz kk
        clear kk
        have hHeld : True := trivial
        refine dn ?_
        go_wp2_with fail
        exact ⟨Or.inr ⟨ea, er, Z, _, _, _, KK, HP1, HER.out, hBZ⟩, by rw [KK.out.2.2.2.msr HER.out, HPL.out]; omega⟩
       ·
        have hwB := KK.out.2.2.1.1
        go_simp
        refine hK.out _ _ trivial (fun hHeld => ?_)
        obtain ⟨BR, hBR⟩ : ∃ BR, BR = v6.heap.size := ⟨_, rfl⟩
        have BN := bsm1 v6 [vi ki k9, vS u9, vL sq9 sn9 sc9, vi ki a9] 30
        have KN : Hid (KF g b w B (lowB t.2.1) t.2.2 ea er sq sn sc Z (v6.alloc (.cells #[vi ki k9, vS u9, vL sq9 sn9 sc9, vi ki a9] 30)) ∧ Bx (v6.alloc (.cells #[vi ki k9, vS u9, vL sq9 sn9 sc9, vi ki a9] 30)) BR [vi ki k9, vS u9, vL sq9 sn9 sc9, vi ki a9] ∧ (v6.alloc (.cells #[vi ki k9, vS u9, vL sq9 sn9 sc9, vi ki a9] 30)).ownsRow (B + 1) 30 4 (vL sq sn sc) acc.length xs) := ⟨KK.out.below BN.out.1, by rw [hBR]; exact BN.out.first, ownsRow_kp (g := g) HOw.out (Kp.of BN.out.1) (by omega)⟩
        refine gen_anyR (fun V' => KF g b w B (lowB t.2.1) t.2.2 ea er sq sn sc Z V' ∧ Bx V' BR [vi ki k9, vS u9, vL sq9 sn9 sc9, vi ki a9] ∧ V'.ownsRow (B + 1) 30 4 (vL sq sn sc) acc.length xs) KN.out ?_
        rw [← hBR]
        clear hHeld hK K KN BN hBR hwB KK HOw
        rintro v11 ⟨kk1, kk2, kk3⟩
        have KK := hZz kk1
        have HRW := hZz kk2
        have HOw := hZz kk3
        clear kk1 kk2 kk3
        have hHeld : True := trivial
        refine rd 1 (fun K hK => ?_)
        have q0 := KK.out.2.2.1.c 2 rfl
        have q9 := KK.out.2.2.1.1
        go_simp
        refine hK.out _ _ trivial (fun hHeld => ?_)
        clear hK K q0 q9
        refine rd 5 (fun K hK => ?_)
        have hbase := KK.out.2.2.1.1
        refine (if_pos (by kernel_rfl)).mpr (wp_append_new _ _ 28 rfl (B + 1) 30 i0 (.agg #[vi ki 0, vS ByteArray.empty, vL none 0 0, vi ki 0]) 4 56 Tryd.underlying28 hi0 iz0 iz1 iz2 rfl (by decide) (vL sq sn sc) acc.length xs rfl HOw.out ⟨BR, 0, none⟩ 1 [vi ki k9, vS u9, vL sq9 sn9 sc9, vi ki a9] rfl rfl (fun j u hj => by rw [show (⟨BR, 0, none⟩ : Addr).add j = ⟨BR, j, none⟩ from by rw [Addr.add_lit]; simp]; exact (HRW.out.2 j u hj).1) (by intro u hu; simp at hu; rcases hu with rfl | rfl | rfl | rfl <;> rfl) (by have := hal; unfold maxLen; omega) (by have := hal; omega) (by omega) ?_)
        intro v' w4 hown' hgrow hnew
        obtain ⟨sq', sn', sc', hv'⟩ := own_form hown'
        subst hv'
        have HO := hZz hown'
        have HG := hZz hgrow
        have HNw := hZz hnew
        refine hK.out _ _ trivial (fun hHeld => ?_)
        clear hK K hown' hgrow hnew hbase HRW
        refine tks 6 ?_
        simp only [za, zb, zc, zd]
        refine rd 7 (fun K hK => ?_)
        have hB4 := grow_bx HG.out KK.out.2.2.1 (fun e => by have := (HOb.out _ e).1; omega)
        have c2 := hB4.c 2 rfl
        have z2 := hB4.f 2 rfl
        have h4 := hB4.1
        go_simp
        refine hK.out _ _ trivial (fun hHeld => ?_)
        have KP : Hid (KF g b w B (lowB t.2.1) t.2.2 ea er sq' sn' sc' Z (w4.setCell ⟨B, 2, none⟩ (vL sq' sn' sc'))) := KK.out.more hg hbl hB2 hBZ HG.out HOb.out
        refine gen_anyR (fun V' => KF g b w B (lowB t.2.1) t.2.2 ea er sq' sn' sc' Z V') KP.out ?_
        clear hHeld hK K KP hB4 c2 z2 h4 KK HO HG HNw HOw HOb
        intro v14 kk
        have KK := hZz kk
        clear kk
        have hHeld : True := trivial
        refine dn ?_
        go_wp2_with fail
        exact ⟨Or.inr ⟨ea, er, Z, _, _, _, KK, HP1, HER.out, hBZ⟩, by rw [KK.out.2.2.2.msr HER.out, HPL.out]; omega⟩
     | ok n l4 =>
      rw [hr] at HCC
      have HP1 : Hid (ksT f2 (d + 1) (acc ++ [n]) l4 = PK) := by have := HPK2.out; rw [hr] at this; exact this
      have hls := par_less (g := .lv 0) (by simp [okTg]) (show EndL (mT p :: mL l3) from HE1.out) (by have := HF.out; simp only [need, zl, mL_len] at this ⊢; omega) hr
      have hls2 := hls.2
      simp only [most, zl, mL_len] at hls2
      clear hr HPK2 hls
      refine wp_region_held_drew (S := fun _ => True) (by kernel_rfl) trivial (fun hHeld => ?_)
      refine gen_anyR (fun V => KM g b cap T w B (lowB t.2.1) t.2.2 (d + 1) (p :: l3) acc sq sn sc xs V) (by first | exact KK.out.drew | exact KK.out) ?_
      clear hHeld KK
      intro W9 hW6
      have KK := hZz hW6
      clear hW6
      have hHeld : True := trivial
      refine tks 0 ?_
      simp only [za, zb, zc, zd]
      refine tks 2 ?_
      simp only [za, zb, zc, zd]
      refine rd2 1 3 (fun K hK => ?_) (fun K hK => ?_)
      ·
       have q0 := KK.out.2.2.1.c 2 rfl
       have q9 := KK.out.2.2.1.1
       go_simp
       refine hK.out _ _ trivial (fun hHeld => ?_)
       clear hK K q0 q9
       refine rd 3 (fun K hK => ?_)
       go_simp
       refine (HCC.out _ KK.out.2.2.2.1).mono ?_
       have hq9 := KK.out.2.2.1.1
       rintro e v2 ⟨hk2, L1, hl2, hrs, hend, k9, u9, sq9, sn9, sc9, a9, rfl, hnd⟩
       refine hK.out _ _ trivial (fun hHeld => ?_)
       subst hl2
       have NN9 : Hid (NdAt (fun c => B + 1 ≤ c ∧ (Value.slice sq sn sc).ownBlock ≠ some c) v2 n [vi ki k9, vS u9, vL sq9 sn9 sc9, vi ki a9]) := NdAt.keep (Nat.le_refl _) (fun c hc _ => ⟨⟨by omega, fun e => by have := (ob_lt KK.out.2.2.2.2.2.1 e).2; omega⟩, rfl⟩) _ _ hnd
       replace KK : Hid (KM g b cap T w B (lowB t.2.1) t.2.2 (d + 1) L1 acc sq sn sc xs v2) := KK.out.kp hg hB2 hk2 hrs hend
       clear hK K hk2 hrs hend hnd hq9
       refine rd 4 (fun K hK => ?_)
       have hwB := KK.out.2.2.1.1
       go_simp
       refine hK.out _ _ trivial (fun hHeld => ?_)
       obtain ⟨BR, hBR⟩ : ∃ BR, BR = v2.heap.size := ⟨_, rfl⟩
       have BN := bsm1 v2 [vi ki k9, vS u9, vL sq9 sn9 sc9, vi ki a9] 30
       have KN : Hid (KM g b cap T w B (lowB t.2.1) t.2.2 (d + 1) L1 acc sq sn sc xs (v2.alloc (.cells #[vi ki k9, vS u9, vL sq9 sn9 sc9, vi ki a9] 30)) ∧ Bx (v2.alloc (.cells #[vi ki k9, vS u9, vL sq9 sn9 sc9, vi ki a9] 30)) BR [vi ki k9, vS u9, vL sq9 sn9 sc9, vi ki a9] ∧ NdAt (fun c => B + 1 ≤ c ∧ (Value.slice sq sn sc).ownBlock ≠ some c) (v2.alloc (.cells #[vi ki k9, vS u9, vL sq9 sn9 sc9, vi ki a9] 30)) n [vi ki k9, vS u9, vL sq9 sn9 sc9, vi ki a9]) := ⟨KK.out.kp hg hB2 (Kp.of BN.out.1) (KK.out.2.2.2.1.below BN.out.1) KK.out.2.2.2.2.1, by rw [hBR]; exact BN.out.first, NN9.out.below BN.out.1⟩
       refine gen_anyR (fun V' => KM g b cap T w B (lowB t.2.1) t.2.2 (d + 1) L1 acc sq sn sc xs V' ∧ Bx V' BR [vi ki k9, vS u9, vL sq9 sn9 sc9, vi ki a9] ∧ NdAt (fun c => B + 1 ≤ c ∧ (Value.slice sq sn sc).ownBlock ≠ some c) V' n [vi ki k9, vS u9, vL sq9 sn9 sc9, vi ki a9]) KN.out ?_
       rw [← hBR]
       clear hHeld hK K KN BN hBR hwB KK NN9
       rintro v3 ⟨kk1, kk2, kk3⟩
       have KK := hZz kk1
       have HRW := hZz kk2
       have NN9 := hZz kk3
       clear kk1 kk2 kk3
       have hHeld : True := trivial
       refine rd 5 (fun K hK => ?_)
       have hbase := KK.out.2.2.1.1
       refine (if_pos (by kernel_rfl)).mpr (wp_append_new _ _ 28 rfl (B + 1) 30 i0 (.agg #[vi ki 0, vS ByteArray.empty, vL none 0 0, vi ki 0]) 4 56 Tryd.underlying28 hi0 iz0 iz1 iz2 rfl (by decide) (vL sq sn sc) acc.length xs rfl KK.out.2.2.2.2.2.1 ⟨BR, 0, none⟩ 1 [vi ki k9, vS u9, vL sq9 sn9 sc9, vi ki a9] rfl rfl (fun j u hj => by rw [show (⟨BR, 0, none⟩ : Addr).add j = ⟨BR, j, none⟩ from by rw [Addr.add_lit]; simp]; exact (HRW.out.2 j u hj).1) (by intro u hu; simp at hu; rcases hu with rfl | rfl | rfl | rfl <;> rfl) (by have := hal; unfold maxLen; omega) (by have := hal; omega) (by omega) ?_)
       intro v' w4 hown' hgrow hnew
       obtain ⟨sq', sn', sc', hv'⟩ := own_form hown'
       subst hv'
       have HO := hZz hown'
       have HG := hZz hgrow
       have HNw := hZz hnew
       refine hK.out _ _ trivial (fun hHeld => ?_)
       clear hK K hown' hgrow hnew hbase HRW
       refine tks 6 ?_
       simp only [za, zb, zc, zd]
       refine rd 7 (fun K hK => ?_)
       have hB4 := grow_bx HG.out KK.out.2.2.1 (fun e => by have := (ob_lt KK.out.2.2.2.2.2.1 e).1; omega)
       have c2 := hB4.c 2 rfl
       have z2 := hB4.f 2 rfl
       have h4 := hB4.1
       go_simp
       refine hK.out _ _ trivial (fun hHeld => ?_)
       have KP : Hid (KM g b cap T w B (lowB t.2.1) t.2.2 (d + 1) L1 (acc ++ [n]) sq' sn' sc' (xs ++ [vi ki k9, vS u9, vL sq9 sn9 sc9, vi ki a9]) (w4.setCell ⟨B, 2, none⟩ (vL sq' sn' sc'))) := KK.out.more hg hbl hB2 NN9.out HG.out (fun c h1 h2 => (HNw.out c h1).resolve_right (by omega)) (by rw [List.length_append]; exact HO.out)
       refine gen_anyR (fun V' => KM g b cap T w B (lowB t.2.1) t.2.2 (d + 1) L1 (acc ++ [n]) sq' sn' sc' (xs ++ [vi ki k9, vS u9, vL sq9 sn9 sc9, vi ki a9]) V') KP.out ?_
       clear hHeld hK K KP hB4 c2 z2 h4 KK NN9 HO HG HNw
       intro v5 kk
       have KK := hZz kk
       clear kk
       have hHeld : True := trivial
       refine dn ?_
       rw [mL_len] at hls2
       go_wp2_with fail
       exact ⟨Or.inl ⟨L1, _, f2, _, _, _, _, KK, by simp, by simp only [List.length_append, zl, List.length_nil]; omega, (by have := HF.out; simp only [zl] at this; show _ ≤ _; omega), HP1⟩, by rw [KK.out.2.2.2.1.msr, HPL.out]; simp only [zl]; omega⟩
      ·
       go_simp
       refine (HCC.out _ KK.out.2.2.2.1).mono ?_
       have hq9 := KK.out.2.2.1.1
       rintro e v6 ⟨hk6, L1, hl6, hrs, hend, k9, u9, sq9, sn9, sc9, a9, rfl, hnd⟩
       refine hK.out _ _ trivial (fun hHeld => ?_)
       subst hl6
       have NN9 : Hid (NdAt (fun c => B + 1 ≤ c ∧ (Value.slice sq sn sc).ownBlock ≠ some c) v6 n [vi ki k9, vS u9, vL sq9 sn9 sc9, vi ki a9]) := NdAt.keep (Nat.le_refl _) (fun c hc _ => ⟨⟨by omega, fun e => by have := (ob_lt KK.out.2.2.2.2.2.1 e).2; omega⟩, rfl⟩) _ _ hnd
       replace KK : Hid (KM g b cap T w B (lowB t.2.1) t.2.2 (d + 1) L1 acc sq sn sc xs v6) := KK.out.kp hg hB2 hk6 hrs hend
       clear hK K hk6 hrs hend hnd hq9
       refine rd2 1 4 (fun K hK => ?_) (fun K hK => ?_)
       ·
        have q0 := KK.out.2.2.1.c 2 rfl
        have q9 := KK.out.2.2.1.1
        go_simp
        refine hK.out _ _ trivial (fun hHeld => ?_)
        clear hK K q0 q9
        refine rd 4 (fun K hK => ?_)
        have hwB := KK.out.2.2.1.1
        go_simp
        refine hK.out _ _ trivial (fun hHeld => ?_)
        obtain ⟨BR, hBR⟩ : ∃ BR, BR = v6.heap.size := ⟨_, rfl⟩
        have BN := bsm1 v6 [vi ki k9, vS u9, vL sq9 sn9 sc9, vi ki a9] 30
        have KN : Hid (KM g b cap T w B (lowB t.2.1) t.2.2 (d + 1) L1 acc sq sn sc xs (v6.alloc (.cells #[vi ki k9, vS u9, vL sq9 sn9 sc9, vi ki a9] 30)) ∧ Bx (v6.alloc (.cells #[vi ki k9, vS u9, vL sq9 sn9 sc9, vi ki a9] 30)) BR [vi ki k9, vS u9, vL sq9 sn9 sc9, vi ki a9] ∧ NdAt (fun c => B + 1 ≤ c ∧ (Value.slice sq sn sc).ownBlock ≠ some c) (v6.alloc (.cells #[vi ki k9, vS u9, vL sq9 sn9 sc9, vi ki a9] 30)) n [vi ki k9, vS u9, vL sq9 sn9 sc9, vi ki a9]) := ⟨KK.out.kp hg hB2 (Kp.of BN.out.1) (KK.out.2.2.2.1.below BN.out.1) KK.out.2.2.2.2.1, by rw [hBR]; exact BN.out.first, NN9.out.below BN.out.1⟩
        refine gen_anyR (fun V' => KM g b cap T w B (lowB t.2.1) t.2.2 (d + 1) L1 acc sq sn sc xs V' ∧ Bx V' BR [vi ki k9, vS u9, vL sq9 sn9 sc9, vi ki a9] ∧ NdAt (fun c => B + 1 ≤ c ∧ (Value.slice sq sn sc).ownBlock ≠ some c) V' n [vi ki k9, vS u9, vL sq9 sn9 sc9, vi ki a9]) KN.out ?_
        rw [← hBR]
        clear hHeld hK K KN BN hBR hwB KK NN9
        rintro v8 ⟨kk1, kk2, kk3⟩
        have KK := hZz kk1
        have HRW := hZz kk2
        have NN9 := hZz kk3
        clear kk1 kk2 kk3
        have hHeld : True := trivial
        refine rd 5 (fun K hK => ?_)
        have hbase := KK.out.2.2.1.1
        refine (if_pos (by kernel_rfl)).mpr (wp_append_new _ _ 28 rfl (B + 1) 30 i0 (.agg #[vi ki 0, vS ByteArray.empty, vL none 0 0, vi ki 0]) 4 56 Tryd.underlying28 hi0 iz0 iz1 iz2 rfl (by decide) (vL sq sn sc) acc.length xs rfl KK.out.2.2.2.2.2.1 ⟨BR, 0, none⟩ 1 [vi ki k9, vS u9, vL sq9 sn9 sc9, vi ki a9] rfl rfl (fun j u hj => by rw [show (⟨BR, 0, none⟩ : Addr).add j = ⟨BR, j, none⟩ from by rw [Addr.add_lit]; simp]; exact (HRW.out.2 j u hj).1) (by intro u hu; simp at hu; rcases hu with rfl | rfl | rfl | rfl <;> rfl) (by have := hal; unfold maxLen; omega) (by have := hal; omega) (by omega) ?_)
        intro v' w4 hown' hgrow hnew
        obtain ⟨sq', sn', sc', hv'⟩ := own_form hown'
        subst hv'
        have HO := hZz hown'
        have HG := hZz hgrow
        have HNw := hZz hnew
        refine hK.out _ _ trivial (fun hHeld => ?_)
        clear hK K hown' hgrow hnew hbase HRW
        refine tks 6 ?_
        simp only [za, zb, zc, zd]
        refine rd 7 (fun K hK => ?_)
        have hB4 := grow_bx HG.out KK.out.2.2.1 (fun e => by have := (ob_lt KK.out.2.2.2.2.2.1 e).1; omega)
        have c2 := hB4.c 2 rfl
        have z2 := hB4.f 2 rfl
        have h4 := hB4.1
        go_simp
        refine hK.out _ _ trivial (fun hHeld => ?_)
        have KP : Hid (KM g b cap T w B (lowB t.2.1) t.2.2 (d + 1) L1 (acc ++ [n]) sq' sn' sc' (xs ++ [vi ki k9, vS u9, vL sq9 sn9 sc9, vi ki a9]) (w4.setCell ⟨B, 2, none⟩ (vL sq' sn' sc'))) := KK.out.more hg hbl hB2 NN9.out HG.out (fun c h1 h2 => (HNw.out c h1).resolve_right (by omega)) (by rw [List.length_append]; exact HO.out)
        refine gen_anyR (fun V' => KM g b cap T w B (lowB t.2.1) t.2.2 (d + 1) L1 (acc ++ [n]) sq' sn' sc' (xs ++ [vi ki k9, vS u9, vL sq9 sn9 sc9, vi ki a9]) V') KP.out ?_
        clear hHeld hK K KP hB4 c2 z2 h4 KK NN9 HO HG HNw
        intro v10 kk
        have KK := hZz kk
        clear kk
        have hHeld : True := trivial
        refine dn ?_
        rw [mL_len] at hls2
        go_wp2_with fail
        exact ⟨Or.inl ⟨L1, _, f2, _, _, _, _, KK, by simp, by simp only [List.length_append, zl, List.length_nil]; omega, (by have := HF.out; simp only [zl] at this; show _ ≤ _; omega), HP1⟩, by rw [KK.out.2.2.2.1.msr, HPL.out]; simp only [zl]; omega⟩
       ·
        have hwB := KK.out.2.2.1.1
        go_simp
        refine hK.out _ _ trivial (fun hHeld => ?_)
        obtain ⟨BR, hBR⟩ : ∃ BR, BR = v6.heap.size := ⟨_, rfl⟩
        have BN := bsm1 v6 [vi ki k9, vS u9, vL sq9 sn9 sc9, vi ki a9] 30
        have KN : Hid (KM g b cap T w B (lowB t.2.1) t.2.2 (d + 1) L1 acc sq sn sc xs (v6.alloc (.cells #[vi ki k9, vS u9, vL sq9 sn9 sc9, vi ki a9] 30)) ∧ Bx (v6.alloc (.cells #[vi ki k9, vS u9, vL sq9 sn9 sc9, vi ki a9] 30)) BR [vi ki k9, vS u9, vL sq9 sn9 sc9, vi ki a9] ∧ NdAt (fun c => B + 1 ≤ c ∧ (Value.slice sq sn sc).ownBlock ≠ some c) (v6.alloc (.cells #[vi ki k9, vS u9, vL sq9 sn9 sc9, vi ki a9] 30)) n [vi ki k9, vS u9, vL sq9 sn9 sc9, vi ki a9]) := ⟨KK.out.kp hg hB2 (Kp.of BN.out.1) (KK.out.2.2.2.1.below BN.out.1) KK.out.2.2.2.2.1, by rw [hBR]; exact BN.out.first, NN9.out.below BN.out.1⟩
        refine gen_anyR (fun V' => KM g b cap T w B (lowB t.2.1) t.2.2 (d + 1) L1 acc sq sn sc xs V' ∧ Bx V' BR [vi ki k9, vS u9, vL sq9 sn9 sc9, vi ki a9] ∧ NdAt (fun c => B + 1 ≤ c ∧ (Value.slice sq sn sc).ownBlock ≠ some c) V' n [vi ki k9, vS u9, vL sq9 sn9 sc9, vi ki a9]) KN.out ?_
        rw [← hBR]
        clear hHeld hK K KN BN hBR hwB KK NN9
        rintro v11 ⟨kk1, kk2, kk3⟩
        have KK := hZz kk1
        have HRW := hZz kk2
        have NN9 := hZz kk3
        clear kk1 kk2 kk3
        have hHeld : True := trivial
        refine rd 1 (fun K hK => ?_)
        have q0 := KK.out.2.2.1.c 2 rfl
        have q9 := KK.out.2.2.1.1
        go_simp
        refine hK.out _ _ trivial (fun hHeld => ?_)
        clear hK K q0 q9
        refine rd 5 (fun K hK => ?_)
        have hbase := KK.out.2.2.1.1
        refine (if_pos (by kernel_rfl)).mpr (wp_append_new _ _ 28 rfl (B + 1) 30 i0 (.agg #[vi ki 0, vS ByteArray.empty, vL none 0 0, vi ki 0]) 4 56 Tryd.underlying28 hi0 iz0 iz1 iz2 rfl (by decide) (vL sq sn sc) acc.length xs rfl KK.out.2.2.2.2.2.1 ⟨BR, 0, none⟩ 1 [vi ki k9, vS u9, vL sq9 sn9 sc9, vi ki a9] rfl rfl (fun j u hj => by rw [show (⟨BR, 0, none⟩ : Addr).add j = ⟨BR, j, none⟩ from by rw [Addr.add_lit]; simp]; exact (HRW.out.2 j u hj).1) (by intro u hu; simp at hu; rcases hu with rfl | rfl | rfl | rfl <;> rfl) (by have := hal; unfold maxLen; omega) (by have := hal; omega) (by omega) ?_)
        intro v' w4 hown' hgrow hnew
        obtain ⟨sq', sn', sc', hv'⟩ := own_form hown'
        subst hv'
        have HO := hZz hown'
        have HG := hZz hgrow
        have HNw := hZz hnew
        refine hK.out _ _ trivial (fun hHeld => ?_)
        clear hK K hown' hgrow hnew hbase HRW
        refine tks 6 ?_
        simp only [za, zb, zc, zd]
        refine rd 7 (fun K hK => ?_)
        have hB4 := grow_bx HG.out KK.out.2.2.1 (fun e => by have := (ob_lt KK.out.2.2.2.2.2.1 e).1; omega)
        have c2 := hB4.c 2 rfl
        have z2 := hB4.f 2 rfl
        have h4 := hB4.1
        go_simp
        refine hK.out _ _ trivial (fun hHeld => ?_)
        have KP : Hid (KM g b cap T w B (lowB t.2.1) t.2.2 (d + 1) L1 (acc ++ [n]) sq' sn' sc' (xs ++ [vi ki k9, vS u9, vL sq9 sn9 sc9, vi ki a9]) (w4.setCell ⟨B, 2, none⟩ (vL sq' sn' sc'))) := KK.out.more hg hbl hB2 NN9.out HG.out (fun c h1 h2 => (HNw.out c h1).resolve_right (by omega)) (by rw [List.length_append]; exact HO.out)
        refine gen_anyR (fun V' => KM g b cap T w B (lowB t.2.1) t.2.2 (d + 1) L1 (acc ++ [n]) sq' sn' sc' (xs ++ [vi ki k9, vS u9, vL sq9 sn9 sc9, vi ki a9]) V') KP.out ?_
        clear hHeld hK K KP hB4 c2 z2 h4 KK NN9 HO HG HNw
        intro v14 kk
        have KK := hZz kk
        clear kk
        have hHeld : True := trivial
        refine dn ?_
        rw [mL_len] at hls2
        go_wp2_with fail
        exact ⟨Or.inl ⟨L1, _, f2, _, _, _, _, KK, by simp, by simp only [List.length_append, zl, List.length_nil]; omega, (by have := HF.out; simp only [zl] at this; show _ ≤ _; omega), HP1⟩, by rw [KK.out.2.2.2.1.msr, HPL.out]; simp only [zl]; omega⟩
    ·rw [Bool.not_eq_true] at hi2
     rw [hi2] at hs44
     have HS0 := rsign_any g b cap T l1 q1 HGq1.out (b1 44) (fun z => by rw [hs44] at z; cases z) (d + 1) wr KK.out.2.2.2.1
     rw [hs44, if_neg (by simp)] at HS0
     have HSg : Hid _ := HS0
     clear HS0 hs44
     have hs41 := sg_sign HGq1.out (show (b1 41) ∈ sgnL by unfold sgnL; simp)
     go_wp2_with fail
     refine Calls.mono HSg.out ?_
     rintro e W7 ⟨rfl, hk7, hr7⟩
     have KC : Hid (KM g b cap T w B (lowB t.2.1) t.2.2 (d + 1) (q1 :: l1) acc sq sn sc xs W7) := KK.out.kp hg hB2 hk7 hr7 KK.out.2.2.2.2.1
     clear hk7 hr7 HSg KK
     by_cases hi3 : isT (mT q1) [(5, b1 41)] = true
     ·have HPK3 : Hid (PK = .ok (.mk 9 ByteArray.empty acc 0) (mL l1)) := by have e9 := HKs.out; rw [mL_cons, ksT, hi2, if_neg (by simp), if_pos hi3] at e9; exact e9.symm
      have HR9 : Hid (RR = .ok (.mk 9 (lowB t.2.1) acc t.2.2) (mL l1)) := by have := HRR.out; rw [HPK3.out] at this; exact this.symm
      rw [hi3] at hs41
      have HE2 : Hid (EndL (mL l1)) := EndL.tail KC.out.2.2.2.2.1 (isT_kind hi3 (by simp))
      have HW0 := rwant_yes g b cap T l1 q1 HGq1.out (b1 41) hs41 (by obtain ⟨y, l9, rfl⟩ := mL_none HE2.out; simp) (d + 1) W7 KC.out.2.2.2.1
      have HWa : Hid _ := HW0
      clear HW0 hs41 hi2 hi3 HKs HPK3 HRR
      go_wp2_with fail
      refine Calls.mono HWa.out ?_
      rintro e V7 ⟨rfl, hk7, hr7⟩
      have K7 : Hid (Kp g w V7) := KC.out.1.trans hk7
      have H7 : Hid (Bx V7 (w.heap.size + 1) [vi ki 0, vS ⟨#[]⟩, vL none 0 0, vi ki 0]) := hk7.bx KC.out.2.1 (by omega)
      have N7 : Hid (Bx V7 B [vi ki 9, vS (lowB t.2.1), vL sq sn sc, vi ki t.2.2]) := hk7.bx KC.out.2.2.1 (by omega)
      have S7 := hZz hr7
      have D7 : Hid (NdAt (fun c => B + 1 ≤ c) V7 (.mk 9 (lowB t.2.1) acc t.2.2) [vi ki 9, vS (lowB t.2.1), vL sq sn sc, vi ki t.2.2]) := (KC.out.node ha0).kp hk7 (fun c hc => ⟨hc, by omega⟩)
      clear hk7 hr7 HWa KC
      obtain ⟨⟨pre4, pa4, he4, hb4⟩, -⟩ := S7.out
      have cg1 := hb4.c 1 rfl
      have fg1 := hb4.f 1 rfl
      have hgl := hb4.1
      clear hb4 he4
      have hdw : IntKind.i64.wrap ((d : Int) + 1 - 1) = (d : Int) := by rw [IntKind.wrap_i64]; omega
      have hdw2 : IntKind.i64.wrap (d : Int) = (d : Int) := by rw [IntKind.wrap_i64]; omega
      go_upto_region 15 with fail
      refine gen_to (fun V => Kp g w V ∧ Bx V (w.heap.size + 1) [vi ki 0, vS ⟨#[]⟩, vL none 0 0, vi ki 0] ∧ RS g b cap T V l1 d ∧ Bx V B [vi ki 9, vS (lowB t.2.1), vL sq sn sc, vi ki t.2.2] ∧ NdAt (fun c => B + 1 ≤ c) V (.mk 9 (lowB t.2.1) acc t.2.2) [vi ki 9, vS (lowB t.2.1), vL sq sn sc, vi ki t.2.2]) (rdeep_ok hg K7.out H7.out (by omega) S7.out N7.out (by omega) D7.out (fun c hc => by omega)) ?_
      rintro W8 ⟨k8, h8, s8, t8, n8⟩
      have HK5 := hZz k8
      have HH5 := hZz h8
      have HS5 := hZz s8
      have HN5 := hZz n8
      obtain ⟨l0', l1', l2', l3'⟩ := t8.d4
      have hl' := t8.1
      clear k8 h8 s8 t8 n8 cg1 fg1 hgl K7 H7 N7 S7 D7
      obtain ⟨y0', y1', y2', y3', HFK, HFO, HFS, rr0, rr1, rr2, rr3, rf0, rf1, rf2, rf3, hrw'⟩ := fin9 (vi ki 9) (vS (lowB t.2.1)) (vL sq sn sc) (vi ki t.2.2) HK5.out (by omega) (HH5.out)
      go_wp2
      refine bodyPost_ret (v := .agg #[vi ki 9, vS (lowB t.2.1), vL sq sn sc, vi ki t.2.2]) (by simp [results, Tryd.results67, go_sem, y0', y1', y2', y3']) rfl ⟨HFK.out, by rw [HR9.out]; exact ⟨l1, rfl, HS5.out.off HFO.out HFS.out (by omega) (by omega), HE2.out, _, _, _, _, _, _, rfl, HN5.out.off HFO.out HFS.out (fun c hc => ⟨by omega, by omega⟩)⟩⟩
     ·rw [Bool.not_eq_true] at hi3
      have HP1 : Hid (PK = .no q1.2.2 30) := by have e9 := HKs.out; rw [mL_cons, ksT, hi2, if_neg (by simp), hi3, if_neg (by simp)] at e9; exact e9.symm
      rw [hi3] at hs41
      have HW0 := rwant_no g b (B + 1) cap T l1 q1 HGq1.out (b1 41) hs41 (d + 1) (by omega) W7 KC.out.2.2.2.1
      have HWa : Hid _ := HW0
      clear HW0 hs41 hi2 hi3 HKs
      go_wp2_with fail
      refine Calls.mono HWa.out ?_
      rintro e V7 ⟨rfl, hk7, hf7⟩
      have K7 : Hid (Kp g w V7) := KC.out.1.trans hk7
      have H7 : Hid (Bx V7 (w.heap.size + 1) [vi ki 0, vS ⟨#[]⟩, vL none 0 0, vi ki 0]) := hk7.bx KC.out.2.1 (by omega)
      have N7 : Hid (Bx V7 B [vi ki 9, vS (lowB t.2.1), vL sq sn sc, vi ki t.2.2]) := hk7.bx KC.out.2.2.1 (by omega)
      have F7 := hZz hf7
      clear hk7 hf7 HWa KC
      obtain ⟨c9, o9, n9, m9, D9, i9, z9, t9, hc9, hb9, -⟩ := F7.out
      have cg1 := hb9.c 1 rfl
      have fg1 := hb9.f 1 rfl
      have hgl := hb9.1
      clear hb9 hc9
      go_upto_region 15 with fail
      refine gen_to (fun V => Kp g w V ∧ Bx V (w.heap.size + 1) [vi ki 0, vS ⟨#[]⟩, vL none 0 0, vi ki 0] ∧ RF g b (B + 1) V q1.2.2 30 ∧ Bx V B [vi ki 9, vS (lowB t.2.1), vL sq sn sc, vi ki t.2.2]) (rdeep_bad hg K7.out H7.out (by omega) F7.out N7.out (by omega)) ?_
      rintro W8 ⟨k8, h8, f8, t8⟩
      have HK5 := hZz k8
      have HH5 := hZz h8
      have HF5 := hZz f8
      obtain ⟨l0', l1', l2', l3'⟩ := t8.d4
      have hl' := t8.1
      clear k8 h8 f8 t8 cg1 fg1 hgl K7 H7 N7 F7
      have HR9 : Hid (RR = .no q1.2.2 30) := by have := HRR.out; rw [HP1.out] at this; exact this.symm
      clear HRR
      obtain ⟨y0', y1', y2', y3', HFK, HFO, HFS, rr0, rr1, rr2, rr3, rf0, rf1, rf2, rf3, hrw'⟩ := fin9 (vi ki 9) (vS (lowB t.2.1)) (vL sq sn sc) (vi ki t.2.2) HK5.out (by omega) (HH5.out)
      go_wp2
      refine bodyPost_ret (v := .agg #[vi ki 9, vS (lowB t.2.1), vL sq sn sc, vi ki t.2.2]) (by simp [results, Tryd.results67, go_sem, y0', y1', y2', y3']) rfl ⟨HFK.out, by rw [HR9.out]; exact ⟨(by decide), (HF5.out.off HFO.out HFS.out (by omega) (by omega) (by omega)).mono (by omega), _, _, _, _, _, _, rfl⟩⟩
   ·have HER := hZz her
    have HS0 := rsign_bad g b Z (b1 44) ea er her wr KB.out.2.2.2
    have HSg : Hid _ := HS0
    clear HS0 her
    go_wp2_with fail
    refine Calls.mono HSg.out ?_
    rintro e W7 ⟨rfl, hk7, hr7⟩
    have KC : Hid (KF g b w B (lowB t.2.1) t.2.2 ea er sq sn sc Z W7) := ⟨KB.out.1.trans hk7, hk7.bx KB.out.2.1 (by omega), hk7.bx KB.out.2.2.1 (by omega), hr7⟩
    clear hk7 hr7 HSg KB
    have HW0 := rwant_bad g b Z (b1 41) ea er HER.out W7 KC.out.2.2.2
    have HWa : Hid _ := HW0
    clear HW0
    go_wp2_with fail
    refine Calls.mono HWa.out ?_
    rintro e V7 ⟨rfl, hk7, hf7⟩
    have K7 : Hid (Kp g w V7) := KC.out.1.trans hk7
    have H7 : Hid (Bx V7 (w.heap.size + 1) [vi ki 0, vS ⟨#[]⟩, vL none 0 0, vi ki 0]) := hk7.bx KC.out.2.1 (by omega)
    have N7 : Hid (Bx V7 B [vi ki 9, vS (lowB t.2.1), vL sq sn sc, vi ki t.2.2]) := hk7.bx KC.out.2.2.1 (by omega)
    have F7 := hZz hf7
    clear hk7 hf7 HWa KC
    obtain ⟨c9, o9, n9, m9, D9, i9, z9, t9, hc9, hb9, -⟩ := F7.out
    have cg1 := hb9.c 1 rfl
    have fg1 := hb9.f 1 rfl
    have hgl := hb9.1
    clear hb9 hc9
    go_upto_region 15 with fail
    refine gen_to (fun V => Kp g w V ∧ Bx V (w.heap.size + 1) [vi ki 0, vS ⟨#[]⟩, vL none 0 0, vi ki 0] ∧ RF g b Z V ea er ∧ Bx V B [vi ki 9, vS (lowB t.2.1), vL sq sn sc, vi ki t.2.2]) (rdeep_bad hg K7.out H7.out (by omega) F7.out N7.out (by omega)) ?_
    rintro W8 ⟨k8, h8, f8, t8⟩
    have HK5 := hZz k8
    have HH5 := hZz h8
    have HF5 := hZz f8
    obtain ⟨l0', l1', l2', l3'⟩ := t8.d4
    have hl' := t8.1
    clear k8 h8 f8 t8 cg1 fg1 hgl K7 H7 N7 F7
    have HR9 : Hid (RR = .no ea er) := by have := HRR.out; rw [HP1.out] at this; exact this.symm
    clear HRR
    obtain ⟨y0', y1', y2', y3', HFK, HFO, HFS, rr0, rr1, rr2, rr3, rf0, rf1, rf2, rf3, hrw'⟩ := fin9 (vi ki 9) (vS (lowB t.2.1)) (vL sq sn sc) (vi ki t.2.2) HK5.out (by omega) (HH5.out)
    go_wp2
    refine bodyPost_ret (v := .agg #[vi ki 9, vS (lowB t.2.1), vL sq sn sc, vi ki t.2.2]) (by simp [results, Tryd.results67, go_sem, y0', y1', y2', y3']) rfl ⟨HFK.out, by rw [HR9.out]; exact ⟨HER.out, (HF5.out.off HFO.out HFS.out (by omega) (by omega) (by omega)).mono (by omega), _, _, _, _, _, _, rfl⟩⟩
end Go.Proofs.YtaoocecipacnhaaDoor
