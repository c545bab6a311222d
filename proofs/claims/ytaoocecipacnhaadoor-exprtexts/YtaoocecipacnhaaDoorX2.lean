import Derived.Test.YtaoocecipacnhaaDoorX1
import Derived.Deep.RegionHeld3
open Go.Value renaming int → vi, string → vS, slice → vL
open Go.IntKind renaming i64 → ki
open List renaming setIfInBounds_toArray → zb, set_cons_zero → zc, set_cons_succ → zd, length_cons → zl
open Go.Act renaming put → za
open Go.Ending renaming returned → zr
set_option maxRecDepth 100000
set_option maxHeartbeats 16000000
set_option linter.all false
namespace Go.Proofs.YtaoocecipacnhaaDoor
open Go.RowKit
theorem PS.cells {g b cap : Nat} {T : List Tk} {w : World} {L : List Tk} {d : Nat} (h : PS g b cap T w L d) : ∃ q n c a e, Bx w g [vL q n c, vi ki (d : Int), vi ki a, vi ki e] := by
 obtain ⟨_, a, e, _, hb⟩ := h.bx; exact ⟨_, _, _, a, e, hb⟩
theorem PS.deep {g b cap : Nat} {T : List Tk} {w : World} {L : List Tk} {d : Nat} (h : PS g b cap T w L d) (d' : Nat) : PS g b cap T (w.setCell ⟨g, 1, none⟩ (vi ki (d' : Int))) L d' := by
 obtain ⟨⟨pre, a, e, h1, h2⟩, h3, h4, h5, h6⟩ := h
 exact ⟨⟨pre, a, e, h1, h2.set1 1 _ (by simp)⟩, h3.kp ((Kp.refl g w).set (p := ⟨g, 1, none⟩) (.inl rfl) _) h4, h4, h5, h6⟩
theorem PF.deep {g : Nat} {w : World} {d : Nat} {a e : Int} (h : PF g w d a e) (d' : Nat) : PF g (w.setCell ⟨g, 1, none⟩ (vi ki (d' : Int))) d' a e := by
 obtain ⟨l, h1, h2⟩ := h
 exact ⟨l, h1.set1 1 _ (by simp), h2⟩
theorem op_no (g b cap : Nat) (T : List Tk) (K : Nat) (hE : ∀ args w, (callFunc K args).run Tryd.prog w = .ok (.enter K args) w) (L : List Tk) (d : Nat) (k : Int) (t : ByteArray) (sq : Option Addr) (sn sc : Nat) (a : Int) (sk : Int) (st : ByteArray) (sa : Int) (ea er : Int)
  (HM : Hid (∀ w : World, PS g b cap T w (L) (d) → Calls Tryd.prog K #[.pointer (some ⟨g, 0, none⟩)] w fun e w' => Kp g w w' ∧ Out g b cap T (fun c => w.heap.size ≤ c) w' (d) e (.no ea er))) (w : World) (h : PS g b cap T w L d)  :
  Calls Tryd.prog 63 #[.pointer (some ⟨g, 0, none⟩), .agg #[vi ki k, vS t, vL sq sn sc, vi ki a], .agg #[vi ki sk, vS st, vi ki sa], .func (.func K) #[.pointer (some ⟨g, 0, none⟩)] #[]] w fun e w' => Kp g w w' ∧ Out g b cap T (fun c => w.heap.size ≤ c) w' d e (.no ea er) := by
 have HP : Hid _ := h
 have hg := h.lt
 have hbl := h.tr.1
 clear h
 go_enter Tryd.func63, Tryd.ntmps63
 go_wp2_with fail
 have B1 := bsm3 w [vi ki k, vS t, vL sq sn sc, vi ki a] 24 [vi ki sk, vS st, vi ki sa] 81 [vi ki 0, vS ⟨#[]⟩, vL none 0 0, vi ki 0] 24
 refine (HM.out _ (HP.out.below B1.out.1)).mono ?_
 rintro e W ⟨hk, ho⟩
 have hz : w.heap.size + 3 ≤ W.heap.size := by have := hk.size; (try simp at this); omega
 have HK := kpt B1 hk
 have HR : Hid (Bx W (w.heap.size + 1 + 1) _) := hk.bx B1.out.first (by omega)
 have HS : Hid (Bx W (w.heap.size + 1) _) := hk.bx (B1.out.at (w.heap.size + 1) [vi ki sk, vS st, vi ki sa] (by simp)) (by omega)
 have HD : Hid (Bx W w.heap.size _) := hk.bx (B1.out.at w.heap.size [vi ki k, vS t, vL sq sn sc, vi ki a] (by simp)) (by omega)
 have HKK := hZz hk
 obtain ⟨hf, rfl⟩ := ho
 have HF : Hid _ := hf
 clear hf hk HKK
 obtain ⟨y0', y1', y2', y3', HFK, HFO, HFS, r0, r1, r2, r3, s0, s1, s2, s3, hrw'⟩ := fin8 [.cells #[vi ki 0, vS ⟨#[]⟩, vL none 0 0, vi ki 0] 24] (vi ki 0) (vS ⟨#[]⟩) (vL none 0 0) (vi ki 0) HK.out (by omega) (HR.out)
 simp only [List.foldl, World.setCells, Nat.zero_add, Nat.reduceAdd] at y0' y1' y2' y3'
 go_wp2
 refine bodyPost_ret (v := .tuple #[.agg #[vi ki 0, vS ⟨#[]⟩, vL none 0 0, vi ki 0], .bool false]) (by simp [results, Tryd.results63, go_sem, y0', y1', y2', y3']) rfl ⟨HFK.out, PF.off HF.out HFO.out HFS.out (by omega), rfl⟩
theorem op_ok (g b cap : Nat) (T : List Tk) (K : Nat) (hE : ∀ args w, (callFunc K args).run Tryd.prog w = .ok (.enter K args) w) (L : List Tk) (d : Nat) (k : Int) (t : ByteArray) (sq : Option Addr) (sn sc : Nat) (a : Int) (sk : Int) (st : ByteArray) (sa : Int) (n m : Nd) (l1 : List Tk) (X : Nat → Prop) (hX : ∀ c, X c → c ≠ g)
  (HM : Hid (∀ w : World, PS g b cap T w (L) (d) → Calls Tryd.prog K #[.pointer (some ⟨g, 0, none⟩)] w fun e w' => Kp g w w' ∧ Out g b cap T (fun c => w.heap.size ≤ c) w' (d) e (.ok m l1))) (w : World) (h : PS g b cap T w L d) (hn : NdAt X w n [vi ki k, vS t, vL sq sn sc, vi ki a]) :
  Calls Tryd.prog 63 #[.pointer (some ⟨g, 0, none⟩), .agg #[vi ki k, vS t, vL sq sn sc, vi ki a], .agg #[vi ki sk, vS st, vi ki sa], .func (.func K) #[.pointer (some ⟨g, 0, none⟩)] #[]] w fun e w' => Kp g w w' ∧ Out g b cap T (fun c => X c ∨ w.heap.size ≤ c) w' d e (.ok (.mk 8 st [n, m] sa) l1) := by
 have HP : Hid _ := h
 have hg := h.lt
 have hbl := h.tr.1
 have HN := hZz hn
 clear hn
 clear h
 go_enter Tryd.func63, Tryd.ntmps63
 go_wp2_with fail
 have B1 := bsm3 w [vi ki k, vS t, vL sq sn sc, vi ki a] 24 [vi ki sk, vS st, vi ki sa] 81 [vi ki 0, vS ⟨#[]⟩, vL none 0 0, vi ki 0] 24
 refine (HM.out _ (HP.out.below B1.out.1)).mono ?_
 rintro e W ⟨hk, ho⟩
 have hz : w.heap.size + 3 ≤ W.heap.size := by have := hk.size; (try simp at this); omega
 have HK := kpt B1 hk
 have HR : Hid (Bx W (w.heap.size + 1 + 1) _) := hk.bx B1.out.first (by omega)
 have HS : Hid (Bx W (w.heap.size + 1) _) := hk.bx (B1.out.at (w.heap.size + 1) [vi ki sk, vS st, vi ki sa] (by simp)) (by omega)
 have HD : Hid (Bx W w.heap.size _) := hk.bx (B1.out.at w.heap.size [vi ki k, vS t, vL sq sn sc, vi ki a] (by simp)) (by omega)
 have HKK := hZz hk
 obtain ⟨hps, hend, k2, u2, sq2, sn2, sc2, a2, rfl, hnd⟩ := ho
 have HQ : Hid _ := hps
 have HE1 : Hid _ := hend
 have HM2 : Hid _ := hnd
 have HN2 : Hid (NdAt (fun c => X c ∧ c < w.heap.size) W n [vi ki k, vS t, vL sq sn sc, vi ki a]) := NdAt.keep HK.out.size (fun c hc hl => ⟨⟨hc, hl⟩, HK.out.block c hl (hX c hc)⟩) _ _ HN.out
 have hd1 := HD.out.1
 have hd2 := HS.out.1
 clear hps hend hnd hk HKK HM
 obtain ⟨x0, x1, x2, x3⟩ := HD.out.d4
 have u0' := HS.out.c 0 rfl
 have u1' := HS.out.c 1 rfl
 have u2' := HS.out.c 2 rfl
 obtain ⟨y0', y1', y2', y3', HFK, HFO, HFS, r0, r1, r2, r3, s0, s1, s2, s3, hrw'⟩ := fin8 [.cells #[vi ki k2, vS u2, vL sq2 sn2 sc2, vi ki a2] 24, .cells #[vi ki k, vS t, vL sq sn sc, vi ki a, vi ki k2, vS u2, vL sq2 sn2 sc2, vi ki a2] 24] (vi ki 8) (vS st) (vL (some ⟨W.heap.size + 1, 0, none⟩) 2 2) (vi ki sa) HK.out (by omega) (HR.out)
 simp only [List.foldl, World.setCells, Nat.zero_add, Nat.reduceAdd] at y0' y1' y2' y3'
 go_wp2
 refine bodyPost_ret (v := .tuple #[.agg #[vi ki 8, vS st, vL (some ⟨W.heap.size + 1, 0, none⟩) 2 2, vi ki sa], .bool true]) (by simp [results, Tryd.results63, go_sem, y0', y1', y2', y3']) rfl ⟨HFK.out, HQ.out.off HFO.out HFS.out (by omega) (by omega), HE1.out, _, _, _, _, _, _, rfl, ?_⟩
 have HRow : Bx (List.foldl World.alloc (W.setCells (w.heap.size + 1 + 1) 0 [vi ki 8, vS st, vL (some ⟨W.heap.size + 1, 0, none⟩) 2 2, vi ki sa]) [.cells #[vi ki k2, vS u2, vL sq2 sn2 sc2, vi ki a2] 24, .cells #[vi ki k, vS t, vL sq sn sc, vi ki a, vi ki k2, vS u2, vL sq2 sn2 sc2, vi ki a2] 24]) (W.heap.size + 1) [vi ki k, vS t, vL sq sn sc, vi ki a, vi ki k2, vS u2, vL sq2 sn2 sc2, vi ki a2] := by
  have q := Bx.new ((W.setCells (w.heap.size + 1 + 1) 0 [vi ki 8, vS st, vL (some ⟨W.heap.size + 1, 0, none⟩) 2 2, vi ki sa]).alloc (.cells #[vi ki k2, vS u2, vL sq2 sn2 sc2, vi ki a2] 24)) [vi ki k, vS t, vL sq sn sc, vi ki a, vi ki k2, vS u2, vL sq2 sn2 sc2, vi ki a2] 24
  rwa [show ((W.setCells (w.heap.size + 1 + 1) 0 [vi ki 8, vS st, vL (some ⟨W.heap.size + 1, 0, none⟩) 2 2, vi ki sa]).alloc (.cells #[vi ki k2, vS u2, vL sq2 sn2 sc2, vi ki a2] 24)).heap.size = W.heap.size + 1 by simp [setCells_size]] at q
 refine NdAt.row (ks := [n, m]) (by simp) (by simp) (by unfold maxLen; omega) (.inr (by omega)) HRow.1 (RwAt.two HRow ?_ ?_)
 ·exact HN2.out.off HFO.out HFS.out (fun c hc => ⟨.inl hc.1, by have := hc.2; omega⟩)
 ·exact HM2.out.off HFO.out HFS.out (fun c hc => ⟨.inr (by (try simp at hc); omega), by (try simp at hc); omega⟩)
theorem deeper_full (g b cap : Nat) (T : List Tk) (K : Nat) (hE : ∀ args w, (callFunc K args).run Tryd.prog w = .ok (.enter K args) w) (L : List Tk) (sk : Int) (st : ByteArray) (sa : Int) (w : World) (h : PS g b cap T w L 20) :
  Calls Tryd.prog 82 #[.pointer (some ⟨g, 0, none⟩), .agg #[vi ki sk, vS st, vi ki sa], .func (.func K) #[.pointer (some ⟨g, 0, none⟩)] #[]] w fun e w' => Kp g w w' ∧ Out g b cap T (fun c => w.heap.size ≤ c) w' 20 e (.no sa 31) := by
 obtain ⟨lq, ln, lc, a0, e0, hb⟩ := h.cells
 have HB := hZz hb
 have c1 := hb.c 1 rfl
 clear hb
 have HP : Hid _ := h
 have hg := h.lt
 have hbl := h.tr.1
 clear h
 go_enter Tryd.func82, Tryd.ntmps82
 go_wp2_with fail
 have B0 := bsm2 w [vi ki sk, vS st, vi ki sa] 81 [vi ki 0, vS ⟨#[]⟩, vL none 0 0, vi ki 0] 24
 refine (fail_any g _ 20 a0 e0 sa 31 _ (HB.out.below B0.out.1)).mono ?_
 rintro e W1 ⟨rfl, hk, hx⟩
 have hz1 : w.heap.size + 2 ≤ W1.heap.size := hzk hk
 have K1 := kpt B0 hk
 have H1_0 := bxk hk B0 1
 have H1_1 := bxk hk B0 0
 clear B0
 have HF : Hid (PF g W1 20 sa 31) := ⟨_, hx, rfl⟩
 clear hx hk
 have hl1_1 := H1_1.out.1
 obtain ⟨y0', y1', y2', y3', HFK, HFO, HFS, r0, r1, r2, r3, s0, s1, s2, s3, hrw'⟩ := fin9 (vi ki 0) (vS ⟨#[]⟩) (vL none 0 0) (vi ki 0) K1.out (by omega) (H1_1.out)
 go_wp2
 refine bodyPost_ret (v := .tuple #[.agg #[vi ki 0, vS ⟨#[]⟩, vL none 0 0, vi ki 0], .bool false]) (by simp [results, Tryd.results82, go_sem, y0', y1', y2', y3']) rfl ⟨HFK.out, PF.off HF.out HFO.out HFS.out (by omega), rfl⟩
theorem deeper_no (g b cap : Nat) (T : List Tk) (K : Nat) (hE : ∀ args w, (callFunc K args).run Tryd.prog w = .ok (.enter K args) w) (L : List Tk) (sk : Int) (st : ByteArray) (sa : Int) (d : Nat) (hd : d < 20) (ea er : Int) (HM : Hid (∀ w : World, PS g b cap T w (L) (d + 1) → Calls Tryd.prog K #[.pointer (some ⟨g, 0, none⟩)] w fun e w' => Kp g w w' ∧ Out g b cap T (fun c => w.heap.size ≤ c) w' (d + 1) e (.no ea er))) (w : World) (h : PS g b cap T w L d) :
  Calls Tryd.prog 82 #[.pointer (some ⟨g, 0, none⟩), .agg #[vi ki sk, vS st, vi ki sa], .func (.func K) #[.pointer (some ⟨g, 0, none⟩)] #[]] w fun e w' => Kp g w w' ∧ Out g b cap T (fun c => w.heap.size ≤ c) w' d e (.no ea er) := by
 obtain ⟨lq, ln, lc, a0, e0, hb⟩ := h.cells
 have c1 := hb.c 1 rfl
 have z1 := hb.f 1 rfl
 clear hb
 have hd1 : ¬ (d : Int) = 20 := by omega
 have hd2 : (d : Int) < 20 := by omega
 have HP : Hid _ := h
 have hg := h.lt
 have hbl := h.tr.1
 clear h
 go_enter Tryd.func82, Tryd.ntmps82
 go_upto_region 4 with fail
 refine gen_to (fun W => Kp g w W ∧ Bx W w.heap.size [vi ki sk, vS st, vi ki sa] ∧ Bx W (w.heap.size + 1) [vi ki 0, vS ⟨#[]⟩, vL none 0 0, vi ki 0] ∧ PS g b cap T W L (d + 1) ∧ w.heap.size + 2 ≤ W.heap.size) ⟨?_, ?_, ?_, ?_, ?_⟩ ?_
 ·exact (((Kp.refl g w).set (p := ⟨g, 1, none⟩) (.inl rfl) _).alloc _).alloc _
 ·have q := (Bx.new (w.setCell ⟨g, 1, none⟩ (vi ki ((d : Int) + 1))) [vi ki sk, vS st, vi ki sa] 81).alloc (.cells #[vi ki 0, vS ⟨#[]⟩, vL none 0 0, vi ki 0] 24)
  rw [show (w.setCell ⟨g, 1, none⟩ (vi ki ((d : Int) + 1))).heap.size = w.heap.size by simp] at q; exact q
 ·have q := Bx.new ((w.setCell ⟨g, 1, none⟩ (vi ki ((d : Int) + 1))).alloc (.cells #[vi ki sk, vS st, vi ki sa] 81)) [vi ki 0, vS ⟨#[]⟩, vL none 0 0, vi ki 0] 24
  rw [show ((w.setCell ⟨g, 1, none⟩ (vi ki ((d : Int) + 1))).alloc (.cells #[vi ki sk, vS st, vi ki sa] 81)).heap.size = w.heap.size + 1 by simp] at q; exact q
 ·exact ((HP.out.deep (d + 1)).below ((Below.refl _ _).alloc (Nat.le_refl _) _)).below ((Below.refl _ _).alloc (Nat.le_refl _) _)
 ·simp
 rintro W0 ⟨hk0, hb0, hb1, hp0, hz0⟩
 have K0 : Hid _ := hk0
 have H0_0 := hZz hb0
 have H0_1 := hZz hb1
 have Q0 : Hid _ := hp0
 clear hk0 hb0 hb1 hp0 c1 z1 HP
 go_wp2_with fail
 refine (HM.out _ Q0.out).mono ?_
 rintro e W1 ⟨hk, ho⟩
 have hz1 : W0.heap.size + 0 ≤ W1.heap.size := hzk hk
 have K1 := kph K0 hk
 have H1_0 := bxh hk H0_0
 have H1_1 := bxh hk H0_1
 clear H0_0 H0_1 K0
 obtain ⟨hf, rfl⟩ := ho
 have HF := hZz hf
 obtain ⟨left, hx, hone⟩ := hf
 have g1 := hx.c 1 rfl
 have g1' := hx.f 1 rfl
 have hgl := hx.1
 clear hx hk
 have hl1_1 := H1_1.out.1
 obtain ⟨c1_1_0, c1_1_1, c1_1_2, c1_1_3, z1_1_0, z1_1_1, z1_1_2, z1_1_3⟩ := H1_1.out.cf4
 have K1' : Hid (Kp g w (W1.setCell ⟨g, 1, none⟩ (vi ki (d : Int)))) := K1.out.set (p := ⟨g, 1, none⟩) (.inl rfl) _
 have H1' : Hid (Bx (W1.setCell ⟨g, 1, none⟩ (vi ki (d : Int))) (w.heap.size + 1) [vi ki 0, vS ⟨#[]⟩, vL none 0 0, vi ki 0]) := H1_1.out.setOther (by omega) [vi ki (d : Int)] 1
 have HF' : Hid (PF g (W1.setCell ⟨g, 1, none⟩ (vi ki (d : Int))) d ea er) := PF.deep HF.out d
 obtain ⟨y0', y1', y2', y3', HFK, HFO, HFS, r0, r1, r2, r3, s0, s1, s2, s3, hrw'⟩ := fin8 [.cells #[vi ki 0, vS ⟨#[]⟩, vL none 0 0, vi ki 0] 24] (vi ki 0) (vS ⟨#[]⟩) (vL none 0 0) (vi ki 0) K1'.out (by omega) (H1'.out)
 simp only [List.foldl, World.setCells, Nat.zero_add, Nat.reduceAdd] at y0' y1' y2' y3'
 go_wp2
 refine bodyPost_ret (v := .tuple #[.agg #[vi ki 0, vS ⟨#[]⟩, vL none 0 0, vi ki 0], .bool false]) (by simp [results, Tryd.results82, go_sem, y0', y1', y2', y3']) rfl ⟨HFK.out, PF.off HF'.out HFO.out HFS.out (by omega), rfl⟩
theorem deeper_ok (g b cap : Nat) (T : List Tk) (K : Nat) (hE : ∀ args w, (callFunc K args).run Tryd.prog w = .ok (.enter K args) w) (L : List Tk) (sk : Int) (st : ByteArray) (sa : Int) (d : Nat) (hd : d < 20) (m : Nd) (l1 : List Tk) (HM : Hid (∀ w : World, PS g b cap T w (L) (d + 1) → Calls Tryd.prog K #[.pointer (some ⟨g, 0, none⟩)] w fun e w' => Kp g w w' ∧ Out g b cap T (fun c => w.heap.size ≤ c) w' (d + 1) e (.ok m l1))) (w : World) (h : PS g b cap T w L d) :
  Calls Tryd.prog 82 #[.pointer (some ⟨g, 0, none⟩), .agg #[vi ki sk, vS st, vi ki sa], .func (.func K) #[.pointer (some ⟨g, 0, none⟩)] #[]] w fun e w' => Kp g w w' ∧ Out g b cap T (fun c => w.heap.size ≤ c) w' d e (.ok m l1) := by
 obtain ⟨lq, ln, lc, a0, e0, hb⟩ := h.cells
 have c1 := hb.c 1 rfl
 have z1 := hb.f 1 rfl
 clear hb
 have hd1 : ¬ (d : Int) = 20 := by omega
 have hd2 : (d : Int) < 20 := by omega
 have HP : Hid _ := h
 have hg := h.lt
 have hbl := h.tr.1
 clear h
 go_enter Tryd.func82, Tryd.ntmps82
 go_upto_region 4 with fail
 refine gen_to (fun W => Kp g w W ∧ Bx W w.heap.size [vi ki sk, vS st, vi ki sa] ∧ Bx W (w.heap.size + 1) [vi ki 0, vS ⟨#[]⟩, vL none 0 0, vi ki 0] ∧ PS g b cap T W L (d + 1) ∧ w.heap.size + 2 ≤ W.heap.size) ⟨?_, ?_, ?_, ?_, ?_⟩ ?_
 ·exact (((Kp.refl g w).set (p := ⟨g, 1, none⟩) (.inl rfl) _).alloc _).alloc _
 ·have q := (Bx.new (w.setCell ⟨g, 1, none⟩ (vi ki ((d : Int) + 1))) [vi ki sk, vS st, vi ki sa] 81).alloc (.cells #[vi ki 0, vS ⟨#[]⟩, vL none 0 0, vi ki 0] 24)
  rw [show (w.setCell ⟨g, 1, none⟩ (vi ki ((d : Int) + 1))).heap.size = w.heap.size by simp] at q; exact q
 ·have q := Bx.new ((w.setCell ⟨g, 1, none⟩ (vi ki ((d : Int) + 1))).alloc (.cells #[vi ki sk, vS st, vi ki sa] 81)) [vi ki 0, vS ⟨#[]⟩, vL none 0 0, vi ki 0] 24
  rw [show ((w.setCell ⟨g, 1, none⟩ (vi ki ((d : Int) + 1))).alloc (.cells #[vi ki sk, vS st, vi ki sa] 81)).heap.size = w.heap.size + 1 by simp] at q; exact q
 ·exact ((HP.out.deep (d + 1)).below ((Below.refl _ _).alloc (Nat.le_refl _) _)).below ((Below.refl _ _).alloc (Nat.le_refl _) _)
 ·simp
 rintro W0 ⟨hk0, hb0, hb1, hp0, hz0⟩
 have K0 : Hid _ := hk0
 have H0_0 := hZz hb0
 have H0_1 := hZz hb1
 have Q0 : Hid _ := hp0
 clear hk0 hb0 hb1 hp0 c1 z1 HP
 go_wp2_with fail
 refine (HM.out _ Q0.out).mono ?_
 rintro e W1 ⟨hk, ho⟩
 have hz1 : W0.heap.size + 0 ≤ W1.heap.size := hzk hk
 have K1 := kph K0 hk
 have H1_0 := bxh hk H0_0
 have H1_1 := bxh hk H0_1
 clear H0_0 H0_1 K0
 obtain ⟨hps, hend, k2, u2, sq2, sn2, sc2, a2, rfl, hnd⟩ := ho
 have HQ : Hid _ := hps
 have HE1 : Hid _ := hend
 have HM2 : Hid _ := hnd
 obtain ⟨lq1, ln1, lc1, a1, e1, hx⟩ := hps.cells
 have g1 := hx.c 1 rfl
 have g1' := hx.f 1 rfl
 have hgl := hx.1
 clear hx hk hps hend hnd
 have hl1_1 := H1_1.out.1
 obtain ⟨c1_1_0, c1_1_1, c1_1_2, c1_1_3, z1_1_0, z1_1_1, z1_1_2, z1_1_3⟩ := H1_1.out.cf4
 have K1' : Hid (Kp g w (W1.setCell ⟨g, 1, none⟩ (vi ki (d : Int)))) := K1.out.set (p := ⟨g, 1, none⟩) (.inl rfl) _
 have H1' : Hid (Bx (W1.setCell ⟨g, 1, none⟩ (vi ki (d : Int))) (w.heap.size + 1) [vi ki 0, vS ⟨#[]⟩, vL none 0 0, vi ki 0]) := H1_1.out.setOther (by omega) [vi ki (d : Int)] 1
 have HQ' : Hid (PS g b cap T (W1.setCell ⟨g, 1, none⟩ (vi ki (d : Int))) l1 d) := HQ.out.deep d
 have HN' : Hid (NdAt (fun c => W0.heap.size ≤ c) (W1.setCell ⟨g, 1, none⟩ (vi ki (d : Int))) m [vi ki k2, vS u2, vL sq2 sn2 sc2, vi ki a2]) := HM2.out.off (r := g) (fun c _ hc => Below.heap_setCell _ _ _ _ hc) (by simp) (fun c hc => ⟨hc, by (try simp at hc); omega⟩)
 obtain ⟨y0', y1', y2', y3', HFK, HFO, HFS, r0, r1, r2, r3, s0, s1, s2, s3, hrw'⟩ := fin8 [.cells #[vi ki k2, vS u2, vL sq2 sn2 sc2, vi ki a2] 24] (vi ki k2) (vS u2) (vL sq2 sn2 sc2) (vi ki a2) K1'.out (by omega) (H1'.out)
 simp only [List.foldl, World.setCells, Nat.zero_add, Nat.reduceAdd] at y0' y1' y2' y3'
 go_wp2
 refine bodyPost_ret (v := .tuple #[.agg #[vi ki k2, vS u2, vL sq2 sn2 sc2, vi ki a2], .bool true]) (by simp [results, Tryd.results82, go_sem, y0', y1', y2', y3']) rfl ⟨HFK.out, HQ'.out.off HFO.out HFS.out (by omega) (by omega), HE1.out, _, _, _, _, _, _, rfl, HN'.out.off HFO.out HFS.out (fun c hc => ⟨by (try simp at hc ⊢); omega, by (try simp at hc); omega⟩)⟩
theorem ahead_other_ok (g b cap : Nat) (T : List Tk) (K1 K2 : Nat) (hEK1 : ∀ args w, (callFunc K1 args).run Tryd.prog w = .ok (.enter K1 args) w) (hEK2 : ∀ args w, (callFunc K2 args).run Tryd.prog w = .ok (.enter K2 args) w) (p : Tk) (l : List Tk) (d : Nat) (sk : Int) (st : ByteArray) (kd : Int) (n : Nd) (l1 : List Tk) (hi : isT p [(sk, st)] = false) (HM : Hid (∀ w : World, PS g b cap T w (p :: l) (d) → Calls Tryd.prog K2 #[.pointer (some ⟨g, 0, none⟩)] w fun e w' => Kp g w w' ∧ Out g b cap T (fun c => w.heap.size ≤ c) w' (d) e (.ok n l1))) (w : World) (h : PS g b cap T w (p :: l) d) :
  Calls Tryd.prog 74 #[.pointer (some ⟨g, 0, none⟩), .agg #[vi ki sk, vS st], vi ki kd, .func (.func K1) #[.pointer (some ⟨g, 0, none⟩)] #[], .func (.func K2) #[.pointer (some ⟨g, 0, none⟩)] #[]] w fun e w' => Kp g w w' ∧ Out g b cap T (fun c => w.heap.size ≤ c) w' d e (.ok n l1) := by
 have HP : Hid _ := h
 have hg := h.lt
 have hbl := h.tr.1
 clear h
 go_enter Tryd.func74, Tryd.ntmps74
 go_wp2_with fail
 have B0 := bsm3 w [vi ki sk, vS st] 79 [vi ki 0, vS ⟨#[]⟩, vL none 0 0, vi ki 0] 24 [vi ki sk, vS st] 79
 refine (is_any g b cap T p _ d [(sk, st)] (w.heap.size + 1 + 1) 1 _ (HP.out.below B0.out.1) (by simp) (by omega) (by simp) (B0.out.at (w.heap.size + 1 + 1) [vi ki sk, vS st] (by simp))).mono ?_
 rintro e W1 ⟨rfl, hb⟩
 have hk : Kp g _ W1 := Kp.of hb
 have hz1 : w.heap.size + 3 ≤ W1.heap.size := hzk hk
 have K1 := kpt B0 hk
 have H1_0 := bxk hk B0 2
 have H1_1 := bxk hk B0 1
 have H1_2 := bxk hk B0 0
 have Q1 : Hid _ := (HP.out.below B0.out.1).below hb
 clear B0 hb
 clear hk
 rw [hi]
 have hl1_0 := H1_0.out.1
 have c1_0_0 := H1_0.out.c 0 rfl
 have c1_0_1 := H1_0.out.c 1 rfl
 have hl1_1 := H1_1.out.1
 obtain ⟨c1_1_0, c1_1_1, c1_1_2, c1_1_3⟩ := H1_1.out.d4
 go_wp2_with fail
 refine (HM.out _ Q1.out).mono ?_
 rintro e W2 ⟨hk, ho⟩
 have hz2 : W1.heap.size + 0 ≤ W2.heap.size := hzk hk
 have K2 := kph K1 hk
 have H2_0 := bxh hk H1_0
 have H2_1 := bxh hk H1_1
 have H2_2 := bxh hk H1_2
 clear hl1_0 c1_0_0 c1_0_1 hl1_1 c1_1_0 c1_1_1 c1_1_2 c1_1_3 H1_0 H1_1 H1_2 K1
 obtain ⟨hps, hend, k2, u2, sq2, sn2, sc2, a2, rfl, hnd⟩ := ho
 have HQ : Hid _ := hps
 have HE1 : Hid _ := hend
 have HM2 : Hid _ := hnd
 clear hps hend hnd hk
 have hl2_1 := H2_1.out.1
 obtain ⟨y0', y1', y2', y3', HFK, HFO, HFS, r0, r1, r2, r3, s0, s1, s2, s3, hrw'⟩ := fin9 (vi ki k2) (vS u2) (vL sq2 sn2 sc2) (vi ki a2) K2.out (by omega) (H2_1.out)
 go_wp2
 refine bodyPost_ret (v := .tuple #[.agg #[vi ki k2, vS u2, vL sq2 sn2 sc2, vi ki a2], .bool true]) (by simp [results, Tryd.results74, go_sem, y0', y1', y2', y3']) rfl ⟨HFK.out, HQ.out.off HFO.out HFS.out (by omega) (by omega), HE1.out, _, _, _, _, _, _, rfl, HM2.out.off HFO.out HFS.out (fun c hc => ⟨by (try simp at hc ⊢); omega, by (try simp at hc); omega⟩)⟩
theorem ahead_other_no (g b cap : Nat) (T : List Tk) (K1 K2 : Nat) (hEK1 : ∀ args w, (callFunc K1 args).run Tryd.prog w = .ok (.enter K1 args) w) (hEK2 : ∀ args w, (callFunc K2 args).run Tryd.prog w = .ok (.enter K2 args) w) (p : Tk) (l : List Tk) (d : Nat) (sk : Int) (st : ByteArray) (kd : Int) (ea er : Int) (hi : isT p [(sk, st)] = false) (HM : Hid (∀ w : World, PS g b cap T w (p :: l) (d) → Calls Tryd.prog K2 #[.pointer (some ⟨g, 0, none⟩)] w fun e w' => Kp g w w' ∧ Out g b cap T (fun c => w.heap.size ≤ c) w' (d) e (.no ea er))) (w : World) (h : PS g b cap T w (p :: l) d) :
  Calls Tryd.prog 74 #[.pointer (some ⟨g, 0, none⟩), .agg #[vi ki sk, vS st], vi ki kd, .func (.func K1) #[.pointer (some ⟨g, 0, none⟩)] #[], .func (.func K2) #[.pointer (some ⟨g, 0, none⟩)] #[]] w fun e w' => Kp g w w' ∧ Out g b cap T (fun c => w.heap.size ≤ c) w' d e (.no ea er) := by
 have HP : Hid _ := h
 have hg := h.lt
 have hbl := h.tr.1
 clear h
 go_enter Tryd.func74, Tryd.ntmps74
 go_wp2_with fail
 have B0 := bsm3 w [vi ki sk, vS st] 79 [vi ki 0, vS ⟨#[]⟩, vL none 0 0, vi ki 0] 24 [vi ki sk, vS st] 79
 refine (is_any g b cap T p _ d [(sk, st)] (w.heap.size + 1 + 1) 1 _ (HP.out.below B0.out.1) (by simp) (by omega) (by simp) (B0.out.at (w.heap.size + 1 + 1) [vi ki sk, vS st] (by simp))).mono ?_
 rintro e W1 ⟨rfl, hb⟩
 have hk : Kp g _ W1 := Kp.of hb
 have hz1 : w.heap.size + 3 ≤ W1.heap.size := hzk hk
 have K1 := kpt B0 hk
 have H1_0 := bxk hk B0 2
 have H1_1 := bxk hk B0 1
 have H1_2 := bxk hk B0 0
 have Q1 : Hid _ := (HP.out.below B0.out.1).below hb
 clear B0 hb
 clear hk
 rw [hi]
 have hl1_0 := H1_0.out.1
 have c1_0_0 := H1_0.out.c 0 rfl
 have c1_0_1 := H1_0.out.c 1 rfl
 have hl1_1 := H1_1.out.1
 obtain ⟨c1_1_0, c1_1_1, c1_1_2, c1_1_3⟩ := H1_1.out.d4
 go_wp2_with fail
 refine (HM.out _ Q1.out).mono ?_
 rintro e W2 ⟨hk, ho⟩
 have hz2 : W1.heap.size + 0 ≤ W2.heap.size := hzk hk
 have K2 := kph K1 hk
 have H2_0 := bxh hk H1_0
 have H2_1 := bxh hk H1_1
 have H2_2 := bxh hk H1_2
 clear hl1_0 c1_0_0 c1_0_1 hl1_1 c1_1_0 c1_1_1 c1_1_2 c1_1_3 H1_0 H1_1 H1_2 K1
 obtain ⟨hf, rfl⟩ := ho
 have HF := hZz hf
 clear hf hk
 have hl2_1 := H2_1.out.1
 obtain ⟨y0', y1', y2', y3', HFK, HFO, HFS, r0, r1, r2, r3, s0, s1, s2, s3, hrw'⟩ := fin9 (vi ki 0) (vS ⟨#[]⟩) (vL none 0 0) (vi ki 0) K2.out (by omega) (H2_1.out)
 go_wp2
 refine bodyPost_ret (v := .tuple #[.agg #[vi ki 0, vS ⟨#[]⟩, vL none 0 0, vi ki 0], .bool false]) (by simp [results, Tryd.results74, go_sem, y0', y1', y2', y3']) rfl ⟨HFK.out, PF.off HF.out HFO.out HFS.out (by omega), rfl⟩
theorem ahead_full (g b cap : Nat) (T : List Tk) (K1 K2 : Nat) (hEK1 : ∀ args w, (callFunc K1 args).run Tryd.prog w = .ok (.enter K1 args) w) (hEK2 : ∀ args w, (callFunc K2 args).run Tryd.prog w = .ok (.enter K2 args) w) (p : Tk) (l : List Tk) (sk : Int) (st : ByteArray) (kd : Int) (q : Tk) (hi : isT p [(sk, st)] = true) (w : World) (h : PS g b cap T w (p :: q :: l) 20) :
  Calls Tryd.prog 74 #[.pointer (some ⟨g, 0, none⟩), .agg #[vi ki sk, vS st], vi ki kd, .func (.func K1) #[.pointer (some ⟨g, 0, none⟩)] #[], .func (.func K2) #[.pointer (some ⟨g, 0, none⟩)] #[]] w fun e w' => Kp g w w' ∧ Out g b cap T (fun c => w.heap.size ≤ c) w' 20 e (.no p.2.2 31) := by
 have HP : Hid _ := h
 have hg := h.lt
 have hbl := h.tr.1
 clear h
 go_enter Tryd.func74, Tryd.ntmps74
 go_wp2_with fail
 have B0 := bsm3 w [vi ki sk, vS st] 79 [vi ki 0, vS ⟨#[]⟩, vL none 0 0, vi ki 0] 24 [vi ki sk, vS st] 79
 refine (is_any g b cap T p _ 20 [(sk, st)] (w.heap.size + 1 + 1) 1 _ (HP.out.below B0.out.1) (by simp) (by omega) (by simp) (B0.out.at (w.heap.size + 1 + 1) [vi ki sk, vS st] (by simp))).mono ?_
 rintro e W1 ⟨rfl, hb⟩
 have hk : Kp g _ W1 := Kp.of hb
 have hz1 : w.heap.size + 3 ≤ W1.heap.size := hzk hk
 have K1 := kpt B0 hk
 have H1_0 := bxk hk B0 2
 have H1_1 := bxk hk B0 1
 have H1_2 := bxk hk B0 0
 have Q1 : Hid _ := (HP.out.below B0.out.1).below hb
 clear B0 hb
 clear hk
 rw [hi]
 have hl1_0 := H1_0.out.1
 have c1_0_0 := H1_0.out.c 0 rfl
 have c1_0_1 := H1_0.out.c 1 rfl
 have hl1_1 := H1_1.out.1
 obtain ⟨c1_1_0, c1_1_1, c1_1_2, c1_1_3⟩ := H1_1.out.d4
 go_wp2_with fail
 refine (next_any g b cap T p q l 20 _ Q1.out).mono ?_
 rintro e W2 ⟨rfl, hk, hp⟩
 have hz2 : W1.heap.size + 0 ≤ W2.heap.size := hzk hk
 have K2 := kph K1 hk
 have H2_0 := bxh hk H1_0
 have H2_1 := bxh hk H1_1
 have H2_2 := bxh hk H1_2
 clear hl1_0 c1_0_0 c1_0_1 hl1_1 c1_1_0 c1_1_1 c1_1_2 c1_1_3 H1_0 H1_1 H1_2 K1
 have Q2' : Hid _ := hp
 clear hp hk
 have hl2_0 := H2_0.out.1
 have c2_0_0 := H2_0.out.c 0 rfl
 have c2_0_1 := H2_0.out.c 1 rfl
 have hl2_1 := H2_1.out.1
 obtain ⟨c2_1_0, c2_1_1, c2_1_2, c2_1_3⟩ := H2_1.out.d4
 go_wp2_with fail
 have B2 := bsm1 W2 [vi ki p.1, vS p.2.1, vi ki p.2.2] 81
 refine (deeper_full g b cap T K1 hEK1 (q :: l) p.1 p.2.1 p.2.2 _ (Q2'.out.below B2.out.1)).mono ?_
 rintro e W3 ⟨hk, ho⟩
 have hz3 : W2.heap.size + 1 ≤ W3.heap.size := hzk hk
 have K3 : Hid (Kp g w W3) := (K2.out.trans (Kp.of B2.out.1)).trans hk
 have H3_0 := bxb hk H2_0 B2
 have H3_1 := bxb hk H2_1 B2
 have H3_2 := bxb hk H2_2 B2
 have H3_3 := bxk hk B2 0
 clear hl2_0 c2_0_0 c2_0_1 hl2_1 c2_1_0 c2_1_1 c2_1_2 c2_1_3 B2 H2_0 H2_1 H2_2 K2
 obtain ⟨hf, rfl⟩ := ho
 have HF := hZz hf
 clear hf hk
 have hl3_1 := H3_1.out.1
 obtain ⟨y0', y1', y2', y3', HFK, HFO, HFS, r0, r1, r2, r3, s0, s1, s2, s3, hrw'⟩ := fin8 [.cells #[vi ki 0, vS ⟨#[]⟩, vL none 0 0, vi ki 0] 24] (vi ki 0) (vS ⟨#[]⟩) (vL none 0 0) (vi ki 0) K3.out (by omega) (H3_1.out)
 simp only [List.foldl, World.setCells, Nat.zero_add, Nat.reduceAdd] at y0' y1' y2' y3'
 go_wp2
 refine bodyPost_ret (v := .tuple #[.agg #[vi ki 0, vS ⟨#[]⟩, vL none 0 0, vi ki 0], .bool false]) (by simp [results, Tryd.results74, go_sem, y0', y1', y2', y3']) rfl ⟨HFK.out, PF.off HF.out HFO.out HFS.out (by omega), rfl⟩
theorem ahead_no (g b cap : Nat) (T : List Tk) (K1 K2 : Nat) (hEK1 : ∀ args w, (callFunc K1 args).run Tryd.prog w = .ok (.enter K1 args) w) (hEK2 : ∀ args w, (callFunc K2 args).run Tryd.prog w = .ok (.enter K2 args) w) (p : Tk) (l : List Tk) (d : Nat) (sk : Int) (st : ByteArray) (kd : Int) (q : Tk) (hd : d < 20) (ea er : Int) (hi : isT p [(sk, st)] = true) (HM : Hid (∀ w : World, PS g b cap T w (q :: l) (d + 1) → Calls Tryd.prog K1 #[.pointer (some ⟨g, 0, none⟩)] w fun e w' => Kp g w w' ∧ Out g b cap T (fun c => w.heap.size ≤ c) w' (d + 1) e (.no ea er))) (w : World) (h : PS g b cap T w (p :: q :: l) d) :
  Calls Tryd.prog 74 #[.pointer (some ⟨g, 0, none⟩), .agg #[vi ki sk, vS st], vi ki kd, .func (.func K1) #[.pointer (some ⟨g, 0, none⟩)] #[], .func (.func K2) #[.pointer (some ⟨g, 0, none⟩)] #[]] w fun e w' => Kp g w w' ∧ Out g b cap T (fun c => w.heap.size ≤ c) w' d e (.no ea er) := by
 have HP : Hid _ := h
 have hg := h.lt
 have hbl := h.tr.1
 clear h
 go_enter Tryd.func74, Tryd.ntmps74
 go_wp2_with fail
 have B0 := bsm3 w [vi ki sk, vS st] 79 [vi ki 0, vS ⟨#[]⟩, vL none 0 0, vi ki 0] 24 [vi ki sk, vS st] 79
 refine (is_any g b cap T p _ d [(sk, st)] (w.heap.size + 1 + 1) 1 _ (HP.out.below B0.out.1) (by simp) (by omega) (by simp) (B0.out.at (w.heap.size + 1 + 1) [vi ki sk, vS st] (by simp))).mono ?_
 rintro e W1 ⟨rfl, hb⟩
 have hk : Kp g _ W1 := Kp.of hb
 have hz1 : w.heap.size + 3 ≤ W1.heap.size := hzk hk
 have K1 := kpt B0 hk
 have H1_0 := bxk hk B0 2
 have H1_1 := bxk hk B0 1
 have H1_2 := bxk hk B0 0
 have Q1 : Hid _ := (HP.out.below B0.out.1).below hb
 clear B0 hb
 clear hk
 rw [hi]
 have hl1_0 := H1_0.out.1
 have c1_0_0 := H1_0.out.c 0 rfl
 have c1_0_1 := H1_0.out.c 1 rfl
 have hl1_1 := H1_1.out.1
 obtain ⟨c1_1_0, c1_1_1, c1_1_2, c1_1_3⟩ := H1_1.out.d4
 go_wp2_with fail
 refine (next_any g b cap T p q l d _ Q1.out).mono ?_
 rintro e W2 ⟨rfl, hk, hp⟩
 have hz2 : W1.heap.size + 0 ≤ W2.heap.size := hzk hk
 have K2 := kph K1 hk
 have H2_0 := bxh hk H1_0
 have H2_1 := bxh hk H1_1
 have H2_2 := bxh hk H1_2
 clear hl1_0 c1_0_0 c1_0_1 hl1_1 c1_1_0 c1_1_1 c1_1_2 c1_1_3 H1_0 H1_1 H1_2 K1
 have Q2' : Hid _ := hp
 clear hp hk
 have hl2_0 := H2_0.out.1
 have c2_0_0 := H2_0.out.c 0 rfl
 have c2_0_1 := H2_0.out.c 1 rfl
 have hl2_1 := H2_1.out.1
 obtain ⟨c2_1_0, c2_1_1, c2_1_2, c2_1_3⟩ := H2_1.out.d4
 go_wp2_with fail
 have B2 := bsm1 W2 [vi ki p.1, vS p.2.1, vi ki p.2.2] 81
 refine (deeper_no g b cap T K1 hEK1 (q :: l) p.1 p.2.1 p.2.2 d hd ea er HM _ (Q2'.out.below B2.out.1)).mono ?_
 rintro e W3 ⟨hk, ho⟩
 have hz3 : W2.heap.size + 1 ≤ W3.heap.size := hzk hk
 have K3 : Hid (Kp g w W3) := (K2.out.trans (Kp.of B2.out.1)).trans hk
 have H3_0 := bxb hk H2_0 B2
 have H3_1 := bxb hk H2_1 B2
 have H3_2 := bxb hk H2_2 B2
 have H3_3 := bxk hk B2 0
 clear hl2_0 c2_0_0 c2_0_1 hl2_1 c2_1_0 c2_1_1 c2_1_2 c2_1_3 B2 H2_0 H2_1 H2_2 K2
 obtain ⟨hf, rfl⟩ := ho
 have HF := hZz hf
 clear hf hk
 have hl3_1 := H3_1.out.1
 obtain ⟨y0', y1', y2', y3', HFK, HFO, HFS, r0, r1, r2, r3, s0, s1, s2, s3, hrw'⟩ := fin8 [.cells #[vi ki 0, vS ⟨#[]⟩, vL none 0 0, vi ki 0] 24] (vi ki 0) (vS ⟨#[]⟩) (vL none 0 0) (vi ki 0) K3.out (by omega) (H3_1.out)
 simp only [List.foldl, World.setCells, Nat.zero_add, Nat.reduceAdd] at y0' y1' y2' y3'
 go_wp2
 refine bodyPost_ret (v := .tuple #[.agg #[vi ki 0, vS ⟨#[]⟩, vL none 0 0, vi ki 0], .bool false]) (by simp [results, Tryd.results74, go_sem, y0', y1', y2', y3']) rfl ⟨HFK.out, PF.off HF.out HFO.out HFS.out (by omega), rfl⟩
theorem ahead_ok (g b cap : Nat) (T : List Tk) (K1 K2 : Nat) (hEK1 : ∀ args w, (callFunc K1 args).run Tryd.prog w = .ok (.enter K1 args) w) (hEK2 : ∀ args w, (callFunc K2 args).run Tryd.prog w = .ok (.enter K2 args) w) (p : Tk) (l : List Tk) (d : Nat) (sk : Int) (st : ByteArray) (kd : Int) (q : Tk) (hd : d < 20) (m : Nd) (l1 : List Tk) (hi : isT p [(sk, st)] = true) (HM : Hid (∀ w : World, PS g b cap T w (q :: l) (d + 1) → Calls Tryd.prog K1 #[.pointer (some ⟨g, 0, none⟩)] w fun e w' => Kp g w w' ∧ Out g b cap T (fun c => w.heap.size ≤ c) w' (d + 1) e (.ok m l1))) (w : World) (h : PS g b cap T w (p :: q :: l) d) :
  Calls Tryd.prog 74 #[.pointer (some ⟨g, 0, none⟩), .agg #[vi ki sk, vS st], vi ki kd, .func (.func K1) #[.pointer (some ⟨g, 0, none⟩)] #[], .func (.func K2) #[.pointer (some ⟨g, 0, none⟩)] #[]] w fun e w' => Kp g w w' ∧ Out g b cap T (fun c => w.heap.size ≤ c) w' d e (.ok (.mk kd ⟨#[]⟩ [m] p.2.2) l1) := by
 have HP : Hid _ := h
 have hg := h.lt
 have hbl := h.tr.1
 clear h
 go_enter Tryd.func74, Tryd.ntmps74
 go_wp2_with fail
 have B0 := bsm3 w [vi ki sk, vS st] 79 [vi ki 0, vS ⟨#[]⟩, vL none 0 0, vi ki 0] 24 [vi ki sk, vS st] 79
 refine (is_any g b cap T p _ d [(sk, st)] (w.heap.size + 1 + 1) 1 _ (HP.out.below B0.out.1) (by simp) (by omega) (by simp) (B0.out.at (w.heap.size + 1 + 1) [vi ki sk, vS st] (by simp))).mono ?_
 rintro e W1 ⟨rfl, hb⟩
 have hk : Kp g _ W1 := Kp.of hb
 have hz1 : w.heap.size + 3 ≤ W1.heap.size := hzk hk
 have K1 := kpt B0 hk
 have H1_0 := bxk hk B0 2
 have H1_1 := bxk hk B0 1
 have H1_2 := bxk hk B0 0
 have Q1 : Hid _ := (HP.out.below B0.out.1).below hb
 clear B0 hb
 clear hk
 rw [hi]
 have hl1_0 := H1_0.out.1
 have c1_0_0 := H1_0.out.c 0 rfl
 have c1_0_1 := H1_0.out.c 1 rfl
 have hl1_1 := H1_1.out.1
 obtain ⟨c1_1_0, c1_1_1, c1_1_2, c1_1_3⟩ := H1_1.out.d4
 go_wp2_with fail
 refine (next_any g b cap T p q l d _ Q1.out).mono ?_
 rintro e W2 ⟨rfl, hk, hp⟩
 have hz2 : W1.heap.size + 0 ≤ W2.heap.size := hzk hk
 have K2 := kph K1 hk
 have H2_0 := bxh hk H1_0
 have H2_1 := bxh hk H1_1
 have H2_2 := bxh hk H1_2
 clear hl1_0 c1_0_0 c1_0_1 hl1_1 c1_1_0 c1_1_1 c1_1_2 c1_1_3 H1_0 H1_1 H1_2 K1
 have Q2' : Hid _ := hp
 clear hp hk
 have hl2_0 := H2_0.out.1
 have c2_0_0 := H2_0.out.c 0 rfl
 have c2_0_1 := H2_0.out.c 1 rfl
 have hl2_1 := H2_1.out.1
 obtain ⟨c2_1_0, c2_1_1, c2_1_2, c2_1_3⟩ := H2_1.out.d4
 go_wp2_with fail
 have B2 := bsm1 W2 [vi ki p.1, vS p.2.1, vi ki p.2.2] 81
 refine (deeper_ok g b cap T K1 hEK1 (q :: l) p.1 p.2.1 p.2.2 d hd m l1 HM _ (Q2'.out.below B2.out.1)).mono ?_
 rintro e W3 ⟨hk, ho⟩
 have hz3 : W2.heap.size + 1 ≤ W3.heap.size := hzk hk
 have K3 : Hid (Kp g w W3) := (K2.out.trans (Kp.of B2.out.1)).trans hk
 have H3_0 := bxb hk H2_0 B2
 have H3_1 := bxb hk H2_1 B2
 have H3_2 := bxb hk H2_2 B2
 have H3_3 := bxk hk B2 0
 clear hl2_0 c2_0_0 c2_0_1 hl2_1 c2_1_0 c2_1_1 c2_1_2 c2_1_3 B2 H2_0 H2_1 H2_2 K2
 obtain ⟨hps, hend, k2, u2, sq2, sn2, sc2, a2, rfl, hnd⟩ := ho
 have HQ : Hid _ := hps
 have HE1 : Hid _ := hend
 have HM2 : Hid _ := hnd
 clear hps hend hnd hk
 have HM3 : Hid (NdAt (fun c => W2.heap.size ≤ c) W3 m [vi ki k2, vS u2, vL sq2 sn2 sc2, vi ki a2]) := NdAt.keep (Nat.le_refl _) (fun c hc _ => ⟨by (try simp at hc ⊢); omega, rfl⟩) _ _ HM2.out
 have B3 := bsm1 W3 [vi ki k2, vS u2, vL sq2 sn2 sc2, vi ki a2] 24
 go_upto_region 7 with fail
 refine gen_to (BS W3 _) B3.out ?_
 intro W4 hB
 have hz4 : W3.heap.size + 1 ≤ W4.heap.size := by have := (hB.at (W3.heap.size) [vi ki k2, vS u2, vL sq2 sn2 sc2, vi ki a2] (by simp)).1; (try simp at this); omega
 have K4 : Hid (Kp g w W4) := K3.out.trans (Kp.of hB.1)
 have H4_0 : Hid (Bx W4 (w.heap.size) [vi ki sk, vS st]) := H3_0.out.below hB.1
 have H4_1 : Hid (Bx W4 (w.heap.size + 1) [vi ki 0, vS ⟨#[]⟩, vL none 0 0, vi ki 0]) := H3_1.out.below hB.1
 have H4_2 : Hid (Bx W4 (w.heap.size + 1 + 1) [vi ki sk, vS st]) := H3_2.out.below hB.1
 have H4_3 : Hid (Bx W4 (W2.heap.size) [vi ki p.1, vS p.2.1, vi ki p.2.2]) := H3_3.out.below hB.1
 have H4_4 := bxi hB 0
 have HM3_4 : Hid (NdAt (fun c => W2.heap.size ≤ c) W4 m [vi ki k2, vS u2, vL sq2 sn2 sc2, vi ki a2]) := HM3.out.kp (g := g) (Kp.of hB.1) (fun c hc => ⟨hc, by (try simp at hc); omega⟩)
 have Q4 : Hid _ := HQ.out.below hB.1
 clear B3 H3_0 H3_1 H3_2 H3_3 HM3 K3 HQ hB
 have hl4_1 := H4_1.out.1
 obtain ⟨c4_1_0, c4_1_1, c4_1_2, c4_1_3, z4_1_0, z4_1_1, z4_1_2, z4_1_3⟩ := H4_1.out.cf4
 have hl4_3 := H4_3.out.1
 have c4_3_0 := H4_3.out.c 0 rfl
 have c4_3_1 := H4_3.out.c 1 rfl
 have c4_3_2 := H4_3.out.c 2 rfl
 have hl4_4 := H4_4.out.1
 obtain ⟨c4_4_0, c4_4_1, c4_4_2, c4_4_3⟩ := H4_4.out.d4
 obtain ⟨y0', y1', y2', y3', HFK, HFO, HFS, r0, r1, r2, r3, s0, s1, s2, s3, hrw'⟩ := fin8 [.cells #[vi ki k2, vS u2, vL sq2 sn2 sc2, vi ki a2] 24] (vi ki kd) (vS ⟨#[]⟩) (vL (some ⟨W4.heap.size, 0, none⟩) 1 1) (vi ki p.2.2) K4.out (by omega) (H4_1.out)
 simp only [List.foldl, World.setCells, Nat.zero_add, Nat.reduceAdd] at y0' y1' y2' y3'
 go_wp2
 refine bodyPost_ret (v := .tuple #[.agg #[vi ki kd, vS ⟨#[]⟩, vL (some ⟨W4.heap.size, 0, none⟩) 1 1, vi ki p.2.2], .bool true]) (by simp [results, Tryd.results74, go_sem, y0', y1', y2', y3']) rfl ⟨HFK.out, Q4.out.off HFO.out HFS.out (by omega) (by omega), HE1.out, _, _, _, _, _, _, rfl, ?_⟩
 have HRow : Bx (List.foldl World.alloc (W4.setCells (w.heap.size + 1) 0 [vi ki kd, vS ⟨#[]⟩, vL (some ⟨W4.heap.size, 0, none⟩) 1 1, vi ki p.2.2]) [.cells #[vi ki k2, vS u2, vL sq2 sn2 sc2, vi ki a2] 24]) (W4.heap.size) [vi ki k2, vS u2, vL sq2 sn2 sc2, vi ki a2] := by
  have q := Bx.new (W4.setCells (w.heap.size + 1) 0 [vi ki kd, vS ⟨#[]⟩, vL (some ⟨W4.heap.size, 0, none⟩) 1 1, vi ki p.2.2]) [vi ki k2, vS u2, vL sq2 sn2 sc2, vi ki a2] 24
  rw [show (W4.setCells (w.heap.size + 1) 0 [vi ki kd, vS ⟨#[]⟩, vL (some ⟨W4.heap.size, 0, none⟩) 1 1, vi ki p.2.2]).heap.size = W4.heap.size by simp [setCells_size]] at q
  exact q
 refine NdAt.row (ks := [m]) (by simp) (by simp) (by unfold maxLen; omega) (by (try simp); omega) HRow.1 (RwAt.one HRow ?_)
 exact HM3_4.out.off HFO.out HFS.out (fun c hc => ⟨by (try simp at hc ⊢); omega, by (try simp at hc); omega⟩)
end Go.Proofs.YtaoocecipacnhaaDoor
namespace Go.Proofs.YtaoocecipacnhaaDoor
def AlT (p q : Tk) : Prop := p.1 = q.1 ∧ p.2.1 = q.2.1
inductive F2 {α β : Type} (R : α → β → Prop) : List α → List β → Prop where
 | nil : F2 R [] []
 | cons {a : α} {b : β} {l : List α} {m : List β} (h : R a b) (hl : F2 R l m) : F2 R (a :: l) (b :: m)
inductive AlN : Nd → Nd → Prop where
 | mk (k : Int) (t : ByteArray) (ks ls : List Nd) (a b : Int) (h : F2 AlN ks ls) : AlN (.mk k t ks a) (.mk k t ls b)
theorem AlN.leaf {k : Int} {t : ByteArray} {a b : Int} : AlN (.mk k t [] a) (.mk k t [] b) := .mk _ _ _ _ _ _ .nil
inductive RL (c : Tk) (R : List Tk) : List Tk → List Tk → Prop where
 | last (e : Tk) (h : e.1 = 0) : RL c R [e] (c :: R)
 | cons (p q : Tk) (l m : List Tk) (hp : p.1 ≠ 0) (h : AlT p q) (hl : RL c R l m) : RL c R (p :: l) (q :: m)
def InR (c : Tk) (R : List Tk) (n : Nd) (l : List Tk) : PR → Prop
 | .ok n' l' => AlN n n' ∧ RL c R l l'
 | .no _ e => e = 31
theorem InR.case {c : Tk} {R : List Tk} {n : Nd} {l : List Tk} {r : PR} (h : InR c R n l r) : (∃ n' l', r = .ok n' l' ∧ AlN n n' ∧ RL c R l l') ∨ ∃ a, r = .no a 31 := by
 cases r with
 | ok n' l' => exact .inl ⟨n', l', rfl, h⟩
 | no a e => exact .inr ⟨a, by rw [show e = 31 from h]⟩
theorem tkOk_of {l : List Tk} (h : EndL l) : TkOk (fun _ => True) (fun _ => True) l := ⟨h, fun _ _ _ => trivial, fun _ _ => trivial⟩
theorem plT_any (g : Tg) : PlT (fun _ => True) g := by
 have A : ∀ n : Nd, PlN (fun _ => True) n := by
  intro n
  induction n using Nd.rec (motive_2 := fun l => ∀ n ∈ l, PlN (fun _ => True) n) with
  | mk k t ks a ih => exact .mk _ _ _ _ trivial ih
  | nil => contradiction
  | cons x l hx hl => rename_i n h; rcases List.mem_cons.1 h with rfl | h; exact hx; exact hl _ h
 cases g with
 | lv l => trivial
 | lp l n => exact A n
 | zs n => exact A n
 | cs n => exact A n
 | ks l => exact fun n _ => A n
theorem par_less {f : Nat} {g : Tg} {d : Nat} {l : List Tk} {n : Nd} {l1 : List Tk} (hg : okTg g) (hl : EndL l) (hf : need g l ≤ f) (h : par f g d l = .ok n l1) : EndL l1 ∧ l1.length ≤ most g l := by
 have q := par_good (fun _ => True) (fun _ => True) f g d l hg (tkOk_of hl) (plT_any g) hf
 rw [h] at q
 exact ⟨q.1, q.2.1⟩
end Go.Proofs.YtaoocecipacnhaaDoor
namespace Go.Proofs.YtaoocecipacnhaaDoor
open Go.RowKit
theorem gen_anyH {P : Program} {md : Region.Mode} {ops : Array Oper} {Q : Exit → Act → World → Prop} {S : World → Prop} {fuel : Nat} {listed : Array Bool} {a : Act} {w1 : World} (T : World → Prop) (h : T w1)
  (k : ∀ w2, T w2 → wpAnyH P md ops Q S fuel listed a w2) : wpAnyH P md ops Q S fuel listed a w1 := k _ h
def LvOk (g b cap : Nat) (T : List Tk) (K lev N : Nat) : Prop :=
 ∀ (w : World) (L : List Tk) (d f : Nat), PS g b cap T w L d → EndL L → d ≤ 20 → L.length ≤ N → need (.lv lev) L ≤ f →
  Calls Tryd.prog K #[.pointer (some ⟨g, 0, none⟩)] w fun e w' => Kp g w w' ∧ Out g b cap T (fun c => w.heap.size ≤ c) w' d e (par f (.lv lev) d L)
def CS (g b cap : Nat) (T : List Tk) (w : World) (B d : Nat) (L : List Tk) (n : Nd) (c0 c1 c2 c3 : Value) (V : World) : Prop :=
 Kp g w V ∧ Bx V w.heap.size [vi ki 0, vS ⟨#[]⟩, vL none 0 0, vi ki 0] ∧ Bx V B [c0, c1, c2, c3] ∧ PS g b cap T V L d ∧ NdAt (fun c => w.heap.size + 1 ≤ c ∧ c ≠ B) V n [c0, c1, c2, c3] ∧ w.heap.size + 1 ≤ B ∧ EndL L
theorem PS.drew {g b cap : Nat} {T : List Tk} {w : World} {L : List Tk} {d : Nat} (h : PS g b cap T w L d) : PS g b cap T w.drew L d := h.keep (Nat.le_refl _) (fun _ _ => rfl)
theorem NdAt.drew {X : Nat → Prop} {w : World} {n : Nd} {cs : List Value} (h : NdAt X w n cs) : NdAt X w.drew n cs := NdAt.keep (w := w) (W := w.drew) (Nat.le_refl _) (fun b hb _ => ⟨hb, rfl⟩) _ _ h
theorem CS.drew {g b cap : Nat} {T : List Tk} {w : World} {B d : Nat} {L : List Tk} {n : Nd} {c0 c1 c2 c3 : Value} {V : World} (h : CS g b cap T w B d L n c0 c1 c2 c3 V) : CS g b cap T w B d L n c0 c1 c2 c3 V.drew :=
 ⟨h.1.drew, h.2.1, h.2.2.1, h.2.2.2.1.drew, h.2.2.2.2.1.drew, h.2.2.2.2.2⟩
theorem CS.kp {g b cap : Nat} {T : List Tk} {w : World} {B d : Nat} {L L' : List Tk} {n : Nd} {c0 c1 c2 c3 : Value} {V V' : World} (h : CS g b cap T w B d L n c0 c1 c2 c3 V) (hg : g < w.heap.size) (hk : Kp g V V') (hp : PS g b cap T V' L' d) (he : EndL L') : CS g b cap T w B d L' n c0 c1 c2 c3 V' :=
 ⟨h.1.trans hk, hk.bx h.2.1 (by omega), hk.bx h.2.2.1 (by have := h.2.2.2.2.2.1; omega), hp, h.2.2.2.2.1.kp hk (fun c hc => ⟨hc, by omega⟩), h.2.2.2.2.2.1, he⟩
theorem CS.put {g b cap : Nat} {T : List Tk} {w : World} {B d : Nat} {L L' : List Tk} {n n' : Nd} {c0 c1 c2 c3 d0 d1 d2 d3 : Value} {V V' : World} (h : CS g b cap T w B d L n c0 c1 c2 c3 V) (hg : g < w.heap.size) (hbl : b < w.heap.size) (hk : Kp g V V') (hp : PS g b cap T V' L' d) (he : EndL L')
  (hn : NdAt (fun c => (w.heap.size + 1 ≤ c ∧ c ≠ B) ∨ V.heap.size ≤ c) V' n' [d0, d1, d2, d3]) : CS g b cap T w B d L' n' d0 d1 d2 d3 (V'.setCells B 0 [d0, d1, d2, d3]) := by
 have hB := h.2.2.1.1
 have hB2 := h.2.2.2.2.2.1
 have hB' := hk.bx h.2.2.1 (by omega)
 obtain ⟨q1, q2, q3, q4⟩ := fin4 [] d0 d1 d2 d3 (h.1.trans hk) (by omega) hB'
 have hz := h.1.size
 have hz2 := h.2.1.1
 exact ⟨q1, (hk.bx h.2.1 (by omega)).setOther (by omega) _, q2, hp.off q3 q4 (by omega) (by omega), hn.off q3 q4 (fun c hc => ⟨by omega, by omega⟩), hB2, he⟩
def lenAt (g : Nat) (W : World) : Nat := match W.cell? ⟨g, 0, none⟩ with | some (vL _ n _) => n | _ => 0
theorem PS.len {g b cap : Nat} {T : List Tk} {w : World} {L : List Tk} {d : Nat} (h : PS g b cap T w L d) : lenAt g w = L.length := by
 obtain ⟨_, _, _, _, hb⟩ := h.bx
 unfold lenAt; rw [hb.c 0 rfl]
def msr (g : Nat) (v : Value) (W : World) : Nat := match v with | .bool true => lenAt g W + 1 | _ => 0
theorem msr_true (g : Nat) (W : World) : msr g (.bool true) W = lenAt g W + 1 := rfl
theorem msr_false (g : Nat) (W : World) : msr g (.bool false) W = 0 := rfl
def CF (g : Nat) (w : World) (B d : Nat) (ea er : Int) (W : World) : Prop := Kp g w W ∧ Bx W w.heap.size [vi ki 0, vS ⟨#[]⟩, vL none 0 0, vi ki 0] ∧ Bx W B [vi ki 0, vS ⟨#[]⟩, vL none 0 0, vi ki 0] ∧ PF g W d ea er
theorem CS.fail {g b cap : Nat} {T : List Tk} {w : World} {B d : Nat} {L : List Tk} {n : Nd} {c0 c1 c2 c3 : Value} {V V' : World} {ea er : Int} (h : CS g b cap T w B d L n c0 c1 c2 c3 V) (hg : g < w.heap.size) (hk : Kp g V V') (hf : PF g V' d ea er) : CF g w B d ea er (V'.setCells B 0 [vi ki 0, vS ⟨#[]⟩, vL none 0 0, vi ki 0]) := by
 have hB := h.2.2.1.1
 have hB2 := h.2.2.2.2.2.1
 have hB' := hk.bx h.2.2.1 (by omega)
 obtain ⟨q1, q2, q3, q4⟩ := fin4 [] (vi ki 0) (vS ⟨#[]⟩) (vL none 0 0) (vi ki 0) (h.1.trans hk) (by omega) hB'
 exact ⟨q1, (hk.bx h.2.1 (by omega)).setOther (by omega) _, q2, hf.off q3 q4 (by omega)⟩
theorem chain_any (g b cap : Nat) (T : List Tk) (KF : Nat) (hEKF : ∀ args w, (callFunc KF args).run Tryd.prog w = .ok (.enter KF args) w) (lev N : Nat) (hlev : lev = 0 ∨ lev = 1 ∨ lev = 4 ∨ lev = 5) (Z : List (Int × ByteArray)) (hZ : Hid (Z = sgs lev)) (hzl : Z.length ≤ 100) (bs cp : Nat) (hcp : cp ≤ 9223372036854775807) (hzc : Z.length ≤ cp) (HM : Hid (LvOk g b cap T KF (lev + 1) N)) (w : World) (L : List Tk) (d f : Nat) (h : PS g b cap T w L d) (hL : EndL L) (hd : d ≤ 20) (hN : L.length ≤ N) (hf : need (.lv lev) L ≤ f) (hbs : Bx w bs (fl2 Z)) (hbg : bs ≠ g) :
  Calls Tryd.prog 50 #[.pointer (some ⟨g, 0, none⟩), .func (.func KF) #[.pointer (some ⟨g, 0, none⟩)] #[], vL (some ⟨bs, 0, none⟩) Z.length cp] w fun e w' => Kp g w w' ∧ Out g b cap T (fun c => w.heap.size ≤ c) w' d e (par f (.lv lev) d L) := by
 obtain ⟨f, rfl⟩ : ∃ f', f = f' + 1 := ⟨f - 1, by obtain ⟨p, l, rfl⟩ := hL.cons; simp only [need, zl] at hf; omega⟩
 obtain ⟨p, l, rfl⟩ := hL.cons
 have eP : par (f + 1) (.lv lev) d (p :: l) = match par f (.lv (lev + 1)) d (p :: l) with | .ok n l1 => par f (.lp lev n) d l1 | .no a e => .no a e := by
  rw [par_succ]; unfold pst; dsimp only
  rw [if_neg (by omega), if_neg (by omega), if_neg (by omega), if_neg (by omega), if_neg (by omega), if_neg (by omega)]
  cases par f (.lv (lev + 1)) d (p :: l) <;> rfl
 simp only [need, zl] at hf
 have hok : okTg (.lv (lev + 1)) := by simp only [okTg]; omega
 have hf1 : need (.lv (lev + 1)) (p :: l) ≤ f := by simp only [need, zl]; omega
 have HC : Hid (∀ V : World, PS g b cap T V (p :: l) d → Calls Tryd.prog KF #[.pointer (some ⟨g, 0, none⟩)] V fun e w' => Kp g V w' ∧ Out g b cap T (fun c => V.heap.size ≤ c) w' d e (par f (.lv (lev + 1)) d (p :: l))) := fun V hV => HM.out V _ d f hV hL hd hN hf1
 obtain ⟨R, hR⟩ : ∃ R, R = par (f + 1) (.lv lev) d (p :: l) := ⟨_, rfl⟩
 rw [← hR]
 rw [eP] at hR
 have HZ : Hid (Bx w bs (fl2 Z)) := hbs
 have hbs' := hbs.1
 clear eP hbs
 cases hr : par f (.lv (lev + 1)) d (p :: l) with
 | no ea er =>
  rw [hr] at HC hR
  have HR0 : Hid (R = .no ea er) := hR
  clear hR hr
  have HP : Hid _ := h
  have hg := h.lt
  have hbl := h.tr.1
  clear h
  go_enter Tryd.func50, Tryd.ntmps50
  go_wp2_with fail
  have B0 := bsm1 w [vi ki 0, vS ⟨#[]⟩, vL none 0 0, vi ki 0] 24
  refine (HC.out _ (HP.out.below B0.out.1)).mono ?_
  rintro e W1 ⟨hk, ho⟩
  have hz1 : w.heap.size + 1 ≤ W1.heap.size := hzk hk
  have K1 := kpt B0 hk
  have H1_0 := bxk hk B0 0
  clear B0
  obtain ⟨hf, rfl⟩ := ho
  have HF : Hid (PF g W1 d ea er) := hf
  clear hf hk
  have HS0 : Hid ((fun W => Kp g w W ∧ Bx W w.heap.size [vi ki 0, vS ⟨#[]⟩, vL none 0 0, vi ki 0] ∧ Bx W W1.heap.size [vi ki 0, vS ⟨#[]⟩, vL none 0 0, vi ki 0] ∧ PF g W d ea er) (W1.alloc (.cells #[vi ki 0, vS ⟨#[]⟩, vL none 0 0, vi ki 0] 24))) := ⟨K1.out.alloc _, H1_0.out.alloc _, Bx.new W1 [vi ki 0, vS ⟨#[]⟩, vL none 0 0, vi ki 0] _, HF.out.keep (by simp) (Below.heap_alloc _ _ _ (by obtain ⟨_, h, _⟩ := HF.out; exact h.1))⟩
  obtain ⟨B, hB⟩ : ∃ B, B = W1.heap.size := ⟨_, rfl⟩
  have hB1 : w.heap.size + 1 ≤ B := by omega
  clear K1 H1_0 hz1 HF HC HP
  go_wp2_with fail
  rw [← hB] at HS0
  rw [← hB]
  clear hB
  go_loopw [9] (fun v W => v = .bool false ∧ Hid (CF g w B d ea er W)) (fun _ _ => 0)
  case atStart => exact ⟨rfl, HS0.out⟩
  case round =>
   obtain ⟨rfl, HW⟩ := hrel
   have K9 : Hid (Kp g w wr) := HW.out.1
   have H9 : Hid (Bx wr w.heap.size _) := HW.out.2.1
   have H8 : Hid (Bx wr B _) := HW.out.2.2.1
   have HF : Hid (PF g wr d ea er) := HW.out.2.2.2
   clear HW HS0
   obtain ⟨x0, x1, x2, x3⟩ := H8.out.d4
   obtain ⟨y0', y1', y2', y3', HFK, HFO, HFS, r0, r1, r2, r3, s0, s1, s2, s3, hrw'⟩ := fin9 (vi ki 0) (vS ⟨#[]⟩) (vL none 0 0) (vi ki 0) K9.out (by omega) (H9.out)
   go_wp2
   refine bodyPost_ret (v := .tuple #[.agg #[vi ki 0, vS ⟨#[]⟩, vL none 0 0, vi ki 0], .bool false]) (by simp [results, Tryd.results50, go_sem, y0', y1', y2', y3']) rfl ⟨HFK.out, by rw [HR0.out]; exact ⟨PF.off HF.out HFO.out HFS.out (by omega), rfl⟩⟩
 | ok n0 l0 =>
  rw [hr] at HC hR
  have hls := par_less hok hL hf1 hr
  have hls2 := hls.2
  simp only [most, zl] at hls2
  have HE0 : Hid (EndL l0) := hls.1
  have HR0 : Hid (par f (.lp lev n0) d l0 = R) := hR.symm
  clear hR hr hls
  have HP : Hid _ := h
  have hg := h.lt
  have hbl := h.tr.1
  clear h
  go_enter Tryd.func50, Tryd.ntmps50
  go_wp2_with fail
  have B0 := bsm1 w [vi ki 0, vS ⟨#[]⟩, vL none 0 0, vi ki 0] 24
  refine (HC.out _ (HP.out.below B0.out.1)).mono ?_
  rintro e W1 ⟨hk, ho⟩
  have hz1 : w.heap.size + 1 ≤ W1.heap.size := hzk hk
  have K1 := kpt B0 hk
  have H1_0 := bxk hk B0 0
  clear B0
  obtain ⟨hps, hend, k0, u0, sq0, sn0, sc0, a0, rfl, hnd⟩ := ho
  have HS0 : Hid (CS g b cap T w W1.heap.size d l0 n0 (vi ki k0) (vS u0) (vL sq0 sn0 sc0) (vi ki a0) (W1.alloc (.cells #[vi ki k0, vS u0, vL sq0 sn0 sc0, vi ki a0] 24))) := by
   refine ⟨K1.out.alloc _, H1_0.out.alloc _, Bx.new W1 [vi ki k0, vS u0, vL sq0 sn0 sc0, vi ki a0] _, hps.below ((Below.refl _ _).alloc (Nat.le_refl _) _), ?_, by omega, hend⟩
   exact NdAt.keep (by simp) (fun c hc hl => ⟨⟨by (try simp at hc); omega, by omega⟩, Below.heap_alloc _ _ _ hl⟩) _ _ hnd
  have hBw : bs < w.heap.size := hbs'
  obtain ⟨B, hB⟩ : ∃ B, B = W1.heap.size := ⟨_, rfl⟩
  have hB1 : w.heap.size + 1 ≤ B := by omega
  clear hps hend hnd hk K1 H1_0 hz1 HC HP
  go_wp2_with fail
  rw [← hB] at HS0
  rw [← hB]
  clear hB
  go_loopw [9] (fun v W => (∃ (n : Nd) (l1 : List Tk) (f1 : Nat) (k : Int) (t : ByteArray) (sq : Option Addr) (sn sc : Nat) (a : Int), Hid (CS g b cap T w B d l1 n (vi ki k) (vS t) (vL sq sn sc) (vi ki a) W) ∧ v = .bool true ∧ l1.length ≤ N ∧ Hid (10 * l1.length + 1 ≤ f1) ∧ Hid (par f1 (.lp lev n) d l1 = R)) ∨ (v = .bool false ∧ ∃ ea er, Hid (CF g w B d ea er W) ∧ Hid (R = .no ea er))) (fun v W => msr g v W)
  case atStart => exact .inl ⟨n0, l0, f, _, _, _, _, _, _, HS0, rfl, by simp only [zl] at hN; omega, by show _ ≤ _; omega, HR0⟩
  case round =>
   clear HS0 HR0 HE0
   rcases hrel with ⟨n, l1, f1, k, t, sq, sn, sc, a, KK, rfl, hN1, HF0, HR0⟩ | ⟨rfl, ea, er, KK, HR0⟩
   ·obtain ⟨q, l, rfl⟩ := KK.out.2.2.2.2.2.2.cons
    obtain ⟨f1, rfl⟩ : ∃ f', f1 = f' + 1 := ⟨f1 - 1, by have := HF0.out; omega⟩
    have HPL : Hid (lenAt g wr = (q :: l).length) := KK.out.2.2.2.1.len
    have hwr : B < wr.heap.size := KK.out.2.2.1.1
    have hwr2 : w.heap.size < wr.heap.size := KK.out.2.1.1
    have HF2 : Hid (10 * l.length + 10 ≤ f1) := by have := HF0.out; simp only [zl] at this; show _ ≤ _; omega
    clear HF0
    go_wp2_with fail
    refine (is_any g b cap T q l d Z bs cp _ KK.out.2.2.2.1 hzl hcp hzc (KK.out.1.bx HZ.out hbg)).mono ?_
    rintro e W2 ⟨rfl, hb⟩
    have KB2 : Hid (CS g b cap T w B d (q :: l) n (vi ki k) (vS t) (vL sq sn sc) (vi ki a) W2) := KK.out.kp hg (Kp.of hb) (KK.out.2.2.2.1.below hb) KK.out.2.2.2.2.2.2
    have hwr3 : B < W2.heap.size := KB2.out.2.2.1.1
    have hwr4 : w.heap.size < W2.heap.size := KB2.out.2.1.1
    have HPL2 : Hid (lenAt g W2 = lenAt g wr) := by show _ = _; rw [KB2.out.2.2.2.1.len, HPL.out]
    clear hb KK
    by_cases hi : isT q Z = true
    ·rw [hi]
     have hk0 : q.1 ≠ 0 := isT_kind hi (by rw [hZ.out]; exact sgs_kind lev)
     have hEl : EndL l := EndL.tail KB2.out.2.2.2.2.2.2 hk0
     obtain ⟨r, l2, rfl⟩ := hEl.cons
     have HE2 : Hid (EndL (r :: l2)) := hEl
     simp only [zl] at hN1
     have hf2 : need (.lv (lev + 1)) (r :: l2) ≤ f1 := by have := HF2.out; simp only [need, zl] at this ⊢; omega
     have HMr0 : Hid (∀ V : World, PS g b cap T V (r :: l2) d → Calls Tryd.prog KF #[.pointer (some ⟨g, 0, none⟩)] V fun e w' => Kp g V w' ∧ Out g b cap T (fun c => V.heap.size ≤ c) w' d e (par f1 (.lv (lev + 1)) d (r :: l2))) := fun V hV => HM.out V _ d f1 hV HE2.out hd (by simp only [zl]; omega) hf2
     have eL : par (f1 + 1) (.lp lev n) d (q :: r :: l2) = match par f1 (.lv (lev + 1)) d (r :: l2) with | .ok m l1 => par f1 (.lp lev (.mk 8 q.2.1 [n, m] q.2.2)) d l1 | .no a e => .no a e := by
      rw [par_succ]; unfold pst; dsimp only; rw [← hZ.out, if_pos hi]; cases par f1 (.lv (lev + 1)) d (r :: l2) <;> rfl
     have hR1 := HR0.out
     rw [eL] at hR1
     clear eL hEl HR0
     cases hr : par f1 (.lv (lev + 1)) d (r :: l2) with
     | ok m l3 =>
      rw [hr] at HMr0 hR1
      have HMr : Hid _ := HMr0
      have hls := (par_less hok HE2.out hf2 hr).2
      simp only [most, zl] at hls
      have HR1 : Hid (par f1 (.lp lev (.mk 8 q.2.1 [n, m] q.2.2)) d l3 = R) := hR1
      have HF1 : Hid (10 * l3.length + 1 ≤ f1) := by have := HF2.out; simp only [zl] at this; show _ ≤ _; omega
      have KK : Hid (CS g b cap T w B d (q :: r :: l2) n (vi ki k) (vS t) (vL sq sn sc) (vi ki a) W2) := KB2
      simp only [zl] at HPL
      clear hR1 hr HMr0 KB2
      go_wp2_with fail
      refine wp_region_held_drew (S := fun _ => True) (by kernel_rfl) trivial (fun hHeld => ?_)
      refine tks 0 (oi := ⟨some 22, _, _, _, _, none⟩) ?_
      simp only [za, zb, zc, zd]
      refine tks 2 (oi := ⟨some 24, _, _, _, _, none⟩) ?_
      simp only [za, zb, zc, zd]
      refine tks 4 (oi := ⟨some 26, _, _, _, _, none⟩) ?_
      simp only [za, zb, zc, zd]
      refine rd2 1 3 (fun K hK => ?_) (fun K hK => ?_)
      ·
       obtain ⟨l0, l1', l2, l3⟩ := KK.out.2.2.1.d4
       go_simp
       refine hK.out _ _ trivial (fun hHeld => ?_)
       clear hK K l0 l1' l2 l3
       refine rd 3 (fun K hK => ?_)
       go_simp
       refine (next_any g b cap T q r l2 d _ (by first | exact KK.out.2.2.2.1 | exact KK.out.drew.2.2.2.1)).mono ?_
       rintro e v2 ⟨rfl, hk2, hp2⟩
       refine hK.out _ _ trivial (fun hHeld => ?_)
       replace KK : Hid (CS g b cap T w B d (r :: l2) n (vi ki k) (vS t) (vL sq sn sc) (vi ki a) v2) := by first | exact KK.out.kp hg hk2 hp2 HE2.out | exact KK.out.drew.kp hg hk2 hp2 HE2.out
       clear hK K hk2 hp2
       refine rd 5 (fun K hK => ?_)
       go_simp
       refine (op_ok g b cap T KF hEKF (r :: l2) d k t sq sn sc a q.1 q.2.1 q.2.2 n m l3 (fun c => w.heap.size + 1 ≤ c ∧ c ≠ B) (fun c hc => by omega) HMr _ (by first | exact KK.out.2.2.2.1 | exact KK.out.drew.2.2.2.1) (by first | exact KK.out.2.2.2.2.1 | exact KK.out.drew.2.2.2.2.1)).mono ?_
       rintro e v3 ⟨hk3, hps, hend, k2, u2, sq2, sn2, sc2, a2, rfl, hnd⟩
       refine hK.out _ _ trivial (fun hHeld => ?_)
       have KP : Hid (CS g b cap T w B d l3 (.mk 8 q.2.1 [n, m] q.2.2) (vi ki k2) (vS u2) (vL sq2 sn2 sc2) (vi ki a2) (v3.setCells B 0 [vi ki k2, vS u2, vL sq2 sn2 sc2, vi ki a2])) := by first | exact KK.out.put hg hbl hk3 hps hend hnd | exact KK.out.drew.put hg hbl hk3 hps hend hnd
       have hB8 : Bx v3 B [vi ki k, vS t, vL sq sn sc, vi ki a] := by first | exact hk3.bx KK.out.2.2.1 (by omega) | exact hk3.bx KK.out.drew.2.2.1 (by omega)
       have HB8 : Hid (Bx v3 B _) := hB8
       simp only [World.setCells, Nat.zero_add, Nat.reduceAdd] at KP
       clear hK K hk3 hps hend hnd KK hB8
       refine tks 6 (oi := ⟨some 21, _, _, _, _, none⟩) ?_
       simp only [za, zb, zc, zd]
       refine tks 7 (oi := ⟨some 28, _, _, _, _, none⟩) ?_
       simp only [za, zb, zc, zd]
       refine tks 8 (oi := ⟨some 29, _, _, _, _, none⟩) ?_
       simp only [za, zb, zc, zd]
       refine rd 9 (fun K hK => ?_)
       obtain ⟨l0, l1', l2', l3', z0, z1, z2, z3⟩ := HB8.out.cf4
       have hB9 := HB8.out.1
       go_simp
       refine hK.out _ _ trivial (fun hHeld => ?_)
       refine gen_anyH (CS g b cap T w B d l3 (.mk 8 q.2.1 [n, m] q.2.2) (vi ki k2) (vS u2) (vL sq2 sn2 sc2) (vi ki a2)) (by first | exact KP.out | exact KP.out.drew) ?_
       clear hHeld hK K KP l0 l1' l2' l3' z0 z1 z2 z3 HB8 hB9
       intro v4 KK'
       have KK : Hid (CS g b cap T w B d l3 (.mk 8 q.2.1 [n, m] q.2.2) (vi ki k2) (vS u2) (vL sq2 sn2 sc2) (vi ki a2) v4) := KK'
       clear KK'
       have hHeld : True := trivial
       refine tks 10 (oi := ⟨some 9, _, _, _, _, none⟩) ?_
       simp only [za, zb, zc, zd]
       refine dn ?_
       go_wp2_with fail
       exact ⟨.inl ⟨_, l3, f1, _, _, _, _, _, _, KK, rfl, by omega, HF1.out, HR1.out⟩, by rw [msr_true, msr_true, KK.out.2.2.2.1.len, HPL.out]; omega⟩
      ·
       go_simp
       refine (next_any g b cap T q r l2 d _ (by first | exact KK.out.2.2.2.1 | exact KK.out.drew.2.2.2.1)).mono ?_
       rintro e v5 ⟨rfl, hk5, hp5⟩
       refine hK.out _ _ trivial (fun hHeld => ?_)
       replace KK : Hid (CS g b cap T w B d (r :: l2) n (vi ki k) (vS t) (vL sq sn sc) (vi ki a) v5) := by first | exact KK.out.kp hg hk5 hp5 HE2.out | exact KK.out.drew.kp hg hk5 hp5 HE2.out
       clear hK K hk5 hp5
       refine rd 1 (fun K hK => ?_)
       obtain ⟨l0, l1', l2, l3⟩ := KK.out.2.2.1.d4
       go_simp
       refine hK.out _ _ trivial (fun hHeld => ?_)
       clear hK K l0 l1' l2 l3
       refine rd 5 (fun K hK => ?_)
       go_simp
       refine (op_ok g b cap T KF hEKF (r :: l2) d k t sq sn sc a q.1 q.2.1 q.2.2 n m l3 (fun c => w.heap.size + 1 ≤ c ∧ c ≠ B) (fun c hc => by omega) HMr _ (by first | exact KK.out.2.2.2.1 | exact KK.out.drew.2.2.2.1) (by first | exact KK.out.2.2.2.2.1 | exact KK.out.drew.2.2.2.2.1)).mono ?_
       rintro e v7 ⟨hk7, hps, hend, k2, u2, sq2, sn2, sc2, a2, rfl, hnd⟩
       refine hK.out _ _ trivial (fun hHeld => ?_)
       have KP : Hid (CS g b cap T w B d l3 (.mk 8 q.2.1 [n, m] q.2.2) (vi ki k2) (vS u2) (vL sq2 sn2 sc2) (vi ki a2) (v7.setCells B 0 [vi ki k2, vS u2, vL sq2 sn2 sc2, vi ki a2])) := by first | exact KK.out.put hg hbl hk7 hps hend hnd | exact KK.out.drew.put hg hbl hk7 hps hend hnd
       have hB8 : Bx v7 B [vi ki k, vS t, vL sq sn sc, vi ki a] := by first | exact hk7.bx KK.out.2.2.1 (by omega) | exact hk7.bx KK.out.drew.2.2.1 (by omega)
       have HB8 : Hid (Bx v7 B _) := hB8
       simp only [World.setCells, Nat.zero_add, Nat.reduceAdd] at KP
       clear hK K hk7 hps hend hnd KK hB8
       refine tks 6 (oi := ⟨some 21, _, _, _, _, none⟩) ?_
       simp only [za, zb, zc, zd]
       refine tks 7 (oi := ⟨some 28, _, _, _, _, none⟩) ?_
       simp only [za, zb, zc, zd]
       refine tks 8 (oi := ⟨some 29, _, _, _, _, none⟩) ?_
       simp only [za, zb, zc, zd]
       refine rd 9 (fun K hK => ?_)
       obtain ⟨l0, l1', l2', l3', z0, z1, z2, z3⟩ := HB8.out.cf4
       have hB9 := HB8.out.1
       go_simp
       refine hK.out _ _ trivial (fun hHeld => ?_)
       refine gen_anyH (CS g b cap T w B d l3 (.mk 8 q.2.1 [n, m] q.2.2) (vi ki k2) (vS u2) (vL sq2 sn2 sc2) (vi ki a2)) (by first | exact KP.out | exact KP.out.drew) ?_
       clear hHeld hK K KP l0 l1' l2' l3' z0 z1 z2 z3 HB8 hB9
       intro v8 KK'
       have KK : Hid (CS g b cap T w B d l3 (.mk 8 q.2.1 [n, m] q.2.2) (vi ki k2) (vS u2) (vL sq2 sn2 sc2) (vi ki a2) v8) := KK'
       clear KK'
       have hHeld : True := trivial
       refine tks 10 (oi := ⟨some 9, _, _, _, _, none⟩) ?_
       simp only [za, zb, zc, zd]
       refine dn ?_
       go_wp2_with fail
       exact ⟨.inl ⟨_, l3, f1, _, _, _, _, _, _, KK, rfl, by omega, HF1.out, HR1.out⟩, by rw [msr_true, msr_true, KK.out.2.2.2.1.len, HPL.out]; omega⟩
     | no ea er =>
      rw [hr] at HMr0 hR1
      have HMr : Hid _ := HMr0
      have HR1 : Hid (R = .no ea er) := hR1.symm
      have KK : Hid (CS g b cap T w B d (q :: r :: l2) n (vi ki k) (vS t) (vL sq sn sc) (vi ki a) W2) := KB2
      simp only [zl] at HPL
      clear hR1 hr HMr0 KB2
      go_wp2_with fail
      refine wp_region_held_drew (S := fun _ => True) (by kernel_rfl) trivial (fun hHeld => ?_)
      refine tks 0 (oi := ⟨some 22, _, _, _, _, none⟩) ?_
      simp only [za, zb, zc, zd]
      refine tks 2 (oi := ⟨some 24, _, _, _, _, none⟩) ?_
      simp only [za, zb, zc, zd]
      refine tks 4 (oi := ⟨some 26, _, _, _, _, none⟩) ?_
      simp only [za, zb, zc, zd]
      refine rd2 1 3 (fun K hK => ?_) (fun K hK => ?_)
      ·
       obtain ⟨l0, l1', l2, l3⟩ := KK.out.2.2.1.d4
       go_simp
       refine hK.out _ _ trivial (fun hHeld => ?_)
       clear hK K l0 l1' l2 l3
       refine rd 3 (fun K hK => ?_)
       go_simp
       refine (next_any g b cap T q r l2 d _ (by first | exact KK.out.2.2.2.1 | exact KK.out.drew.2.2.2.1)).mono ?_
       rintro e v2 ⟨rfl, hk2, hp2⟩
       refine hK.out _ _ trivial (fun hHeld => ?_)
       replace KK : Hid (CS g b cap T w B d (r :: l2) n (vi ki k) (vS t) (vL sq sn sc) (vi ki a) v2) := by first | exact KK.out.kp hg hk2 hp2 HE2.out | exact KK.out.drew.kp hg hk2 hp2 HE2.out
       clear hK K hk2 hp2
       refine rd 5 (fun K hK => ?_)
       go_simp
       refine (op_no g b cap T KF hEKF (r :: l2) d k t sq sn sc a q.1 q.2.1 q.2.2 ea er HMr _ (by first | exact KK.out.2.2.2.1 | exact KK.out.drew.2.2.2.1)).mono ?_
       rintro e v3 ⟨hk3, hf, rfl⟩
       refine hK.out _ _ trivial (fun hHeld => ?_)
       have KP : Hid (CF g w B d ea er (v3.setCells B 0 [vi ki 0, vS ⟨#[]⟩, vL none 0 0, vi ki 0])) := by first | exact KK.out.fail hg hk3 hf | exact KK.out.drew.fail hg hk3 hf
       have hB8 : Bx v3 B [vi ki k, vS t, vL sq sn sc, vi ki a] := by first | exact hk3.bx KK.out.2.2.1 (by omega) | exact hk3.bx KK.out.drew.2.2.1 (by omega)
       have HB8 : Hid (Bx v3 B _) := hB8
       simp only [World.setCells, Nat.zero_add, Nat.reduceAdd] at KP
       clear hK K hk3 hf KK hB8
       refine tks 6 (oi := ⟨some 21, _, _, _, _, none⟩) ?_
       simp only [za, zb, zc, zd]
       refine tks 7 (oi := ⟨some 28, _, _, _, _, none⟩) ?_
       simp only [za, zb, zc, zd]
       refine tks 8 (oi := ⟨some 29, _, _, _, _, none⟩) ?_
       simp only [za, zb, zc, zd]
       refine rd 9 (fun K hK => ?_)
       obtain ⟨l0, l1', l2', l3', z0, z1, z2, z3⟩ := HB8.out.cf4
       have hB9 := HB8.out.1
       go_simp
       refine hK.out _ _ trivial (fun hHeld => ?_)
       refine gen_anyH (CF g w B d ea er) (by first | exact KP.out | exact KP.out.drew) ?_
       clear hHeld hK K KP l0 l1' l2' l3' z0 z1 z2 z3 HB8 hB9
       intro v4 KK'
       have KK : Hid (CF g w B d ea er v4) := KK'
       clear KK'
       have hHeld : True := trivial
       refine tks 10 (oi := ⟨some 9, _, _, _, _, none⟩) ?_
       simp only [za, zb, zc, zd]
       refine dn ?_
       go_wp2_with fail
       exact ⟨.inr ⟨rfl, ea, er, KK, HR1⟩, by rw [msr_false, msr_true]; omega⟩
      ·
       go_simp
       refine (next_any g b cap T q r l2 d _ (by first | exact KK.out.2.2.2.1 | exact KK.out.drew.2.2.2.1)).mono ?_
       rintro e v5 ⟨rfl, hk5, hp5⟩
       refine hK.out _ _ trivial (fun hHeld => ?_)
       replace KK : Hid (CS g b cap T w B d (r :: l2) n (vi ki k) (vS t) (vL sq sn sc) (vi ki a) v5) := by first | exact KK.out.kp hg hk5 hp5 HE2.out | exact KK.out.drew.kp hg hk5 hp5 HE2.out
       clear hK K hk5 hp5
       refine rd 1 (fun K hK => ?_)
       obtain ⟨l0, l1', l2, l3⟩ := KK.out.2.2.1.d4
       go_simp
       refine hK.out _ _ trivial (fun hHeld => ?_)
       clear hK K l0 l1' l2 l3
       refine rd 5 (fun K hK => ?_)
       go_simp
       refine (op_no g b cap T KF hEKF (r :: l2) d k t sq sn sc a q.1 q.2.1 q.2.2 ea er HMr _ (by first | exact KK.out.2.2.2.1 | exact KK.out.drew.2.2.2.1)).mono ?_
       rintro e v7 ⟨hk7, hf, rfl⟩
       refine hK.out _ _ trivial (fun hHeld => ?_)
       have KP : Hid (CF g w B d ea er (v7.setCells B 0 [vi ki 0, vS ⟨#[]⟩, vL none 0 0, vi ki 0])) := by first | exact KK.out.fail hg hk7 hf | exact KK.out.drew.fail hg hk7 hf
       have hB8 : Bx v7 B [vi ki k, vS t, vL sq sn sc, vi ki a] := by first | exact hk7.bx KK.out.2.2.1 (by omega) | exact hk7.bx KK.out.drew.2.2.1 (by omega)
       have HB8 : Hid (Bx v7 B _) := hB8
       simp only [World.setCells, Nat.zero_add, Nat.reduceAdd] at KP
       clear hK K hk7 hf KK hB8
       refine tks 6 (oi := ⟨some 21, _, _, _, _, none⟩) ?_
       simp only [za, zb, zc, zd]
       refine tks 7 (oi := ⟨some 28, _, _, _, _, none⟩) ?_
       simp only [za, zb, zc, zd]
       refine tks 8 (oi := ⟨some 29, _, _, _, _, none⟩) ?_
       simp only [za, zb, zc, zd]
       refine rd 9 (fun K hK => ?_)
       obtain ⟨l0, l1', l2', l3', z0, z1, z2, z3⟩ := HB8.out.cf4
       have hB9 := HB8.out.1
       go_simp
       refine hK.out _ _ trivial (fun hHeld => ?_)
       refine gen_anyH (CF g w B d ea er) (by first | exact KP.out | exact KP.out.drew) ?_
       clear hHeld hK K KP l0 l1' l2' l3' z0 z1 z2 z3 HB8 hB9
       intro v8 KK'
       have KK : Hid (CF g w B d ea er v8) := KK'
       clear KK'
       have hHeld : True := trivial
       refine tks 10 (oi := ⟨some 9, _, _, _, _, none⟩) ?_
       simp only [za, zb, zc, zd]
       refine dn ?_
       go_wp2_with fail
       exact ⟨.inr ⟨rfl, ea, er, KK, HR1⟩, by rw [msr_false, msr_true]; omega⟩
    ·rw [Bool.not_eq_true] at hi
     rw [hi]
     have eL : par (f1 + 1) (.lp lev n) d (q :: l) = .ok n (q :: l) := by rw [par_succ]; unfold pst; dsimp only; rw [← hZ.out, hi]; rfl
     have hR1 := HR0.out
     rw [eL] at hR1
     have HR1 : Hid (R = .ok n (q :: l)) := hR1.symm
     have K9 : Hid (Kp g w W2) := KB2.out.1
     have H9 : Hid (Bx W2 w.heap.size _) := KB2.out.2.1
     have H8 : Hid (Bx W2 B _) := KB2.out.2.2.1
     clear eL hR1 HR0
     obtain ⟨x0, x1, x2, x3⟩ := H8.out.d4
     obtain ⟨y0', y1', y2', y3', HFK, HFO, HFS, r0, r1, r2, r3, s0, s1, s2, s3, hrw'⟩ := fin9 (vi ki k) (vS t) (vL sq sn sc) (vi ki a) K9.out (by omega) (H9.out)
     go_wp2
     refine bodyPost_ret (v := .tuple #[.agg #[vi ki k, vS t, vL sq sn sc, vi ki a], .bool true]) (by simp [results, Tryd.results50, go_sem, y0', y1', y2', y3']) rfl ⟨HFK.out, by rw [HR1.out]; exact ⟨KB2.out.2.2.2.1.off HFO.out HFS.out (by omega) (by omega), KB2.out.2.2.2.2.2.2, _, _, _, _, _, _, rfl, KB2.out.2.2.2.2.1.off HFO.out HFS.out (fun c hc => ⟨by omega, by omega⟩)⟩⟩
   ·have K9 : Hid (Kp g w wr) := KK.out.1
    have H9 : Hid (Bx wr w.heap.size _) := KK.out.2.1
    have H8 : Hid (Bx wr B _) := KK.out.2.2.1
    have HF : Hid (PF g wr d ea er) := KK.out.2.2.2
    clear KK
    obtain ⟨x0, x1, x2, x3⟩ := H8.out.d4
    obtain ⟨y0', y1', y2', y3', HFK, HFO, HFS, r0, r1, r2, r3, s0, s1, s2, s3, hrw'⟩ := fin9 (vi ki 0) (vS ⟨#[]⟩) (vL none 0 0) (vi ki 0) K9.out (by omega) (H9.out)
    go_wp2
    refine bodyPost_ret (v := .tuple #[.agg #[vi ki 0, vS ⟨#[]⟩, vL none 0 0, vi ki 0], .bool false]) (by simp [results, Tryd.results50, go_sem, y0', y1', y2', y3']) rfl ⟨HFK.out, by rw [HR0.out]; exact ⟨PF.off HF.out HFO.out HFS.out (by omega), rfl⟩⟩
end Go.Proofs.YtaoocecipacnhaaDoor
