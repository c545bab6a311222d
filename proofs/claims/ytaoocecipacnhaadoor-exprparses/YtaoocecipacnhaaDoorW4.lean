import Derived.Test.YtaoocecipacnhaaDoorWz
import Derived.Test.YtaoocecipacnhaaDoorW3
open Go.Value renaming int → vi
open Go.IntKind renaming i64 → ki
open List renaming setIfInBounds_toArray → zb, set_cons_zero → zc, set_cons_succ → zd
open Go.Act renaming put → za
open Go.Ending renaming returned → zr
set_option maxRecDepth 100000
set_option maxHeartbeats 16000000
set_option linter.unusedVariables false
namespace Go.Proofs.YtaoocecipacnhaaDoor
open Go.RowKit
theorem PS.cells {g b cap : Nat} {T : List Tk} {w : World} {L : List Tk} {d : Nat} (h : PS g b cap T w L d) : ∃ q n c a e, Bx w g [.slice q n c, vi ki (d : Int), vi ki a, vi ki e] := by
 obtain ⟨_, a, e, _, hb⟩ := h.bx; exact ⟨_, _, _, a, e, hb⟩
theorem PS.deep {g b cap : Nat} {T : List Tk} {w : World} {L : List Tk} {d : Nat} (h : PS g b cap T w L d) (d' : Nat) : PS g b cap T (w.setCell ⟨g, 1, none⟩ (vi ki (d' : Int))) L d' := by
 obtain ⟨⟨pre, a, e, h1, h2⟩, h3, h4, h5, h6⟩ := h
 exact ⟨⟨pre, a, e, h1, h2.set1 1 _ (by simp)⟩, h3.kp ((Kp.refl g w).set (p := ⟨g, 1, none⟩) (.inl rfl) _) h4, h4, h5, h6⟩
theorem PF.deep {g : Nat} {w : World} {d : Nat} {a e : Int} (h : PF g w d a e) (d' : Nat) : PF g (w.setCell ⟨g, 1, none⟩ (vi ki (d' : Int))) d' a e := by
 obtain ⟨l, h1, h2⟩ := h
 exact ⟨l, h1.set1 1 _ (by simp), h2⟩
theorem op_no (g b cap : Nat) (T : List Tk) (K : Nat) (hE : ∀ args w, (callFunc K args).run Tryd.prog w = .ok (.enter K args) w) (L : List Tk) (d : Nat) (k : Int) (t : ByteArray) (sq : Option Addr) (sn sc : Nat) (a : Int) (sk : Int) (st : ByteArray) (sa : Int) (ea er : Int)
  (HM : Hid (∀ w : World, PS g b cap T w (L) (d) → Calls Tryd.prog K #[.pointer (some ⟨g, 0, none⟩)] w fun e w' => Kp g w w' ∧ Out g b cap T (fun c => w.heap.size ≤ c) w' (d) e (.no ea er))) (w : World) (h : PS g b cap T w L d)  :
  Calls Tryd.prog 63 #[.pointer (some ⟨g, 0, none⟩), .agg #[vi ki k, .string t, .slice sq sn sc, vi ki a], .agg #[vi ki sk, .string st, vi ki sa], .func (.func K) #[.pointer (some ⟨g, 0, none⟩)] #[]] w fun e w' => Kp g w w' ∧ Out g b cap T (fun c => w.heap.size ≤ c) w' d e (.no ea er) := by
 have HP : Hid _ := h
 have hg := h.lt
 have hbl := h.tr.1
 clear h
 go_enter Tryd.func63, Tryd.ntmps63
 go_wp2_with fail
 have B1 : Hid (BS w [(w.heap.size + 1 + 1, [vi ki 0, .string ⟨#[]⟩, .slice none 0 0, vi ki 0]), (w.heap.size + 1, [vi ki sk, .string st, vi ki sa]), (w.heap.size, [vi ki k, .string t, .slice sq sn sc, vi ki a])] _) := (((BS.start w).new [vi ki k, .string t, .slice sq sn sc, vi ki a] 24 rfl).new [vi ki sk, .string st, vi ki sa] 81 (by simp)).new [vi ki 0, .string ⟨#[]⟩, .slice none 0 0, vi ki 0] 24 (by simp)
 refine (HM.out _ (HP.out.below B1.out.1)).mono ?_
 rintro e W ⟨hk, ho⟩
 have hz : w.heap.size + 3 ≤ W.heap.size := by have := hk.size; (try simp at this); omega
 have HK : Hid (Kp g w W) := (Kp.of B1.out.1).trans hk
 have HR : Hid (Bx W (w.heap.size + 1 + 1) _) := hk.bx B1.out.first (by omega)
 have HS : Hid (Bx W (w.heap.size + 1) _) := hk.bx (B1.out.at (w.heap.size + 1) [vi ki sk, .string st, vi ki sa] (by simp)) (by omega)
 have HD : Hid (Bx W w.heap.size _) := hk.bx (B1.out.at w.heap.size [vi ki k, .string t, .slice sq sn sc, vi ki a] (by simp)) (by omega)
 have HKK : Hid (Kp g _ W) := hk
 obtain ⟨hf, rfl⟩ := ho
 have HF : Hid _ := hf
 clear hf hk HKK
 obtain ⟨y0', y1', y2', y3', HFK, HFO, HFS, r0, r1, r2, r3, s0, s1, s2, s3, hrw'⟩ := fin8 [.cells #[vi ki 0, .string ⟨#[]⟩, .slice none 0 0, vi ki 0] 24] (vi ki 0) (.string ⟨#[]⟩) (.slice none 0 0) (vi ki 0) HK.out (by omega) (HR.out)
 simp only [List.foldl, World.setCells, Nat.zero_add, Nat.reduceAdd] at y0' y1' y2' y3'
 go_wp2
 refine bodyPost_ret (v := .tuple #[.agg #[vi ki 0, .string ⟨#[]⟩, .slice none 0 0, vi ki 0], .bool false]) (by simp [results, Tryd.results63, go_sem, y0', y1', y2', y3']) rfl ⟨HFK.out, PF.off HF.out HFO.out HFS.out (by omega), rfl⟩
theorem op_ok (g b cap : Nat) (T : List Tk) (K : Nat) (hE : ∀ args w, (callFunc K args).run Tryd.prog w = .ok (.enter K args) w) (L : List Tk) (d : Nat) (k : Int) (t : ByteArray) (sq : Option Addr) (sn sc : Nat) (a : Int) (sk : Int) (st : ByteArray) (sa : Int) (n m : Nd) (l1 : List Tk) (X : Nat → Prop) (hX : ∀ c, X c → c ≠ g)
  (HM : Hid (∀ w : World, PS g b cap T w (L) (d) → Calls Tryd.prog K #[.pointer (some ⟨g, 0, none⟩)] w fun e w' => Kp g w w' ∧ Out g b cap T (fun c => w.heap.size ≤ c) w' (d) e (.ok m l1))) (w : World) (h : PS g b cap T w L d) (hn : NdAt X w n [vi ki k, .string t, .slice sq sn sc, vi ki a]) :
  Calls Tryd.prog 63 #[.pointer (some ⟨g, 0, none⟩), .agg #[vi ki k, .string t, .slice sq sn sc, vi ki a], .agg #[vi ki sk, .string st, vi ki sa], .func (.func K) #[.pointer (some ⟨g, 0, none⟩)] #[]] w fun e w' => Kp g w w' ∧ Out g b cap T (fun c => X c ∨ w.heap.size ≤ c) w' d e (.ok (.mk 8 st [n, m] sa) l1) := by
 have HP : Hid _ := h
 have hg := h.lt
 have hbl := h.tr.1
 have HN : Hid (NdAt X w n _) := hn
 clear hn
 clear h
 go_enter Tryd.func63, Tryd.ntmps63
 go_wp2_with fail
 have B1 : Hid (BS w [(w.heap.size + 1 + 1, [vi ki 0, .string ⟨#[]⟩, .slice none 0 0, vi ki 0]), (w.heap.size + 1, [vi ki sk, .string st, vi ki sa]), (w.heap.size, [vi ki k, .string t, .slice sq sn sc, vi ki a])] _) := (((BS.start w).new [vi ki k, .string t, .slice sq sn sc, vi ki a] 24 rfl).new [vi ki sk, .string st, vi ki sa] 81 (by simp)).new [vi ki 0, .string ⟨#[]⟩, .slice none 0 0, vi ki 0] 24 (by simp)
 refine (HM.out _ (HP.out.below B1.out.1)).mono ?_
 rintro e W ⟨hk, ho⟩
 have hz : w.heap.size + 3 ≤ W.heap.size := by have := hk.size; (try simp at this); omega
 have HK : Hid (Kp g w W) := (Kp.of B1.out.1).trans hk
 have HR : Hid (Bx W (w.heap.size + 1 + 1) _) := hk.bx B1.out.first (by omega)
 have HS : Hid (Bx W (w.heap.size + 1) _) := hk.bx (B1.out.at (w.heap.size + 1) [vi ki sk, .string st, vi ki sa] (by simp)) (by omega)
 have HD : Hid (Bx W w.heap.size _) := hk.bx (B1.out.at w.heap.size [vi ki k, .string t, .slice sq sn sc, vi ki a] (by simp)) (by omega)
 have HKK : Hid (Kp g _ W) := hk
 obtain ⟨hps, hend, k2, u2, sq2, sn2, sc2, a2, rfl, hnd⟩ := ho
 have HQ : Hid _ := hps
 have HE1 : Hid _ := hend
 have HM2 : Hid _ := hnd
 have HN2 : Hid (NdAt (fun c => X c ∧ c < w.heap.size) W n [vi ki k, .string t, .slice sq sn sc, vi ki a]) := NdAt.keep HK.out.size (fun c hc hl => ⟨⟨hc, hl⟩, HK.out.block c hl (hX c hc)⟩) _ _ HN.out
 have hd1 := HD.out.1
 have hd2 := HS.out.1
 clear hps hend hnd hk HKK HM
 obtain ⟨x0, x1, x2, x3⟩ := HD.out.d4
 have u0' := HS.out.c 0 rfl
 have u1' := HS.out.c 1 rfl
 have u2' := HS.out.c 2 rfl
 obtain ⟨y0', y1', y2', y3', HFK, HFO, HFS, r0, r1, r2, r3, s0, s1, s2, s3, hrw'⟩ := fin8 [.cells #[vi ki k2, .string u2, .slice sq2 sn2 sc2, vi ki a2] 24, .cells #[vi ki k, .string t, .slice sq sn sc, vi ki a, vi ki k2, .string u2, .slice sq2 sn2 sc2, vi ki a2] 24] (vi ki 8) (.string st) (.slice (some ⟨W.heap.size + 1, 0, none⟩) 2 2) (vi ki sa) HK.out (by omega) (HR.out)
 simp only [List.foldl, World.setCells, Nat.zero_add, Nat.reduceAdd] at y0' y1' y2' y3'
 go_wp2
 refine bodyPost_ret (v := .tuple #[.agg #[vi ki 8, .string st, .slice (some ⟨W.heap.size + 1, 0, none⟩) 2 2, vi ki sa], .bool true]) (by simp [results, Tryd.results63, go_sem, y0', y1', y2', y3']) rfl ⟨HFK.out, HQ.out.off HFO.out HFS.out (by omega) (by omega), HE1.out, _, _, _, _, _, _, rfl, ?_⟩
 have HRow : Bx (List.foldl World.alloc (W.setCells (w.heap.size + 1 + 1) 0 [vi ki 8, .string st, .slice (some ⟨W.heap.size + 1, 0, none⟩) 2 2, vi ki sa]) [.cells #[vi ki k2, .string u2, .slice sq2 sn2 sc2, vi ki a2] 24, .cells #[vi ki k, .string t, .slice sq sn sc, vi ki a, vi ki k2, .string u2, .slice sq2 sn2 sc2, vi ki a2] 24]) (W.heap.size + 1) [vi ki k, .string t, .slice sq sn sc, vi ki a, vi ki k2, .string u2, .slice sq2 sn2 sc2, vi ki a2] := by
  have q := Bx.new ((W.setCells (w.heap.size + 1 + 1) 0 [vi ki 8, .string st, .slice (some ⟨W.heap.size + 1, 0, none⟩) 2 2, vi ki sa]).alloc (.cells #[vi ki k2, .string u2, .slice sq2 sn2 sc2, vi ki a2] 24)) [vi ki k, .string t, .slice sq sn sc, vi ki a, vi ki k2, .string u2, .slice sq2 sn2 sc2, vi ki a2] 24
  rwa [show ((W.setCells (w.heap.size + 1 + 1) 0 [vi ki 8, .string st, .slice (some ⟨W.heap.size + 1, 0, none⟩) 2 2, vi ki sa]).alloc (.cells #[vi ki k2, .string u2, .slice sq2 sn2 sc2, vi ki a2] 24)).heap.size = W.heap.size + 1 by simp [setCells_size]] at q
 refine NdAt.row (ks := [n, m]) (by simp) (by simp) (by unfold maxLen; omega) (.inr (by omega)) HRow.1 (RwAt.two HRow ?_ ?_)
 ·exact HN2.out.off HFO.out HFS.out (fun c hc => ⟨.inl hc.1, by have := hc.2; omega⟩)
 ·exact HM2.out.off HFO.out HFS.out (fun c hc => ⟨.inr (by (try simp at hc); omega), by (try simp at hc); omega⟩)
theorem deeper_full (g b cap : Nat) (T : List Tk) (K : Nat) (hE : ∀ args w, (callFunc K args).run Tryd.prog w = .ok (.enter K args) w) (L : List Tk) (sk : Int) (st : ByteArray) (sa : Int) (w : World) (h : PS g b cap T w L 20) :
  Calls Tryd.prog 82 #[.pointer (some ⟨g, 0, none⟩), .agg #[vi ki sk, .string st, vi ki sa], .func (.func K) #[.pointer (some ⟨g, 0, none⟩)] #[]] w fun e w' => Kp g w w' ∧ Out g b cap T (fun c => w.heap.size ≤ c) w' 20 e (.no sa 31) := by
 obtain ⟨lq, ln, lc, a0, e0, hb⟩ := h.cells
 have HB : Hid (Bx w g _) := hb
 have c1 := hb.c 1 rfl
 clear hb
 have HP : Hid _ := h
 have hg := h.lt
 have hbl := h.tr.1
 clear h
 go_enter Tryd.func82, Tryd.ntmps82
 go_wp2_with fail
 have B0 : Hid (BS w [(w.heap.size + 1, [vi ki 0, .string ⟨#[]⟩, .slice none 0 0, vi ki 0]), (w.heap.size, [vi ki sk, .string st, vi ki sa])] _) := (((BS.start w).new [vi ki sk, .string st, vi ki sa] 81 rfl).new [vi ki 0, .string ⟨#[]⟩, .slice none 0 0, vi ki 0] 24 (by simp))
 refine (fail_any g _ 20 a0 e0 sa 31 _ (HB.out.below B0.out.1)).mono ?_
 rintro e W1 ⟨rfl, hk, hx⟩
 have hz1 : w.heap.size + 2 ≤ W1.heap.size := by have := hk.size; (try simp at this); omega
 have K1 : Hid (Kp g w W1) := (Kp.of B0.out.1).trans hk
 have H1_0 : Hid (Bx W1 (w.heap.size) [vi ki sk, .string st, vi ki sa]) := hk.bx (B0.out.at (w.heap.size) [vi ki sk, .string st, vi ki sa] (by simp)) (by omega)
 have H1_1 : Hid (Bx W1 (w.heap.size + 1) [vi ki 0, .string ⟨#[]⟩, .slice none 0 0, vi ki 0]) := hk.bx (B0.out.at (w.heap.size + 1) [vi ki 0, .string ⟨#[]⟩, .slice none 0 0, vi ki 0] (by simp)) (by omega)
 clear B0
 have HF : Hid (PF g W1 20 sa 31) := ⟨_, hx, rfl⟩
 clear hx hk
 have hl1_1 := H1_1.out.1
 obtain ⟨y0', y1', y2', y3', HFK, HFO, HFS, r0, r1, r2, r3, s0, s1, s2, s3, hrw'⟩ := fin9 (vi ki 0) (.string ⟨#[]⟩) (.slice none 0 0) (vi ki 0) K1.out (by omega) (H1_1.out)
 go_wp2
 refine bodyPost_ret (v := .tuple #[.agg #[vi ki 0, .string ⟨#[]⟩, .slice none 0 0, vi ki 0], .bool false]) (by simp [results, Tryd.results82, go_sem, y0', y1', y2', y3']) rfl ⟨HFK.out, PF.off HF.out HFO.out HFS.out (by omega), rfl⟩
theorem deeper_no (g b cap : Nat) (T : List Tk) (K : Nat) (hE : ∀ args w, (callFunc K args).run Tryd.prog w = .ok (.enter K args) w) (L : List Tk) (sk : Int) (st : ByteArray) (sa : Int) (d : Nat) (hd : d < 20) (ea er : Int) (HM : Hid (∀ w : World, PS g b cap T w (L) (d + 1) → Calls Tryd.prog K #[.pointer (some ⟨g, 0, none⟩)] w fun e w' => Kp g w w' ∧ Out g b cap T (fun c => w.heap.size ≤ c) w' (d + 1) e (.no ea er))) (w : World) (h : PS g b cap T w L d) :
  Calls Tryd.prog 82 #[.pointer (some ⟨g, 0, none⟩), .agg #[vi ki sk, .string st, vi ki sa], .func (.func K) #[.pointer (some ⟨g, 0, none⟩)] #[]] w fun e w' => Kp g w w' ∧ Out g b cap T (fun c => w.heap.size ≤ c) w' d e (.no ea er) := by
 obtain ⟨lq, ln, lc, a0, e0, hb⟩ := h.cells
 have c1 := hb.c 1 rfl
 have z1 := hb.f 1 rfl
 clear hb
 have hd1 : ¬ (d : Int) = 20 := by omega
 have hd2 : (d : Int) < 20 := by omega
 have HP : Hid _ := h
 have hg := h.lt
 have hbl := h.tr.1
 clear h
 go_enter Tryd.func82, Tryd.ntmps82
 go_upto_region 4 with fail
 refine gen_to (fun W => Kp g w W ∧ Bx W w.heap.size [vi ki sk, .string st, vi ki sa] ∧ Bx W (w.heap.size + 1) [vi ki 0, .string ⟨#[]⟩, .slice none 0 0, vi ki 0] ∧ PS g b cap T W L (d + 1) ∧ w.heap.size + 2 ≤ W.heap.size) ⟨?_, ?_, ?_, ?_, ?_⟩ ?_
 ·exact (((Kp.refl g w).set (p := ⟨g, 1, none⟩) (.inl rfl) _).alloc _).alloc _
 ·have q := (Bx.new (w.setCell ⟨g, 1, none⟩ (vi ki ((d : Int) + 1))) [vi ki sk, .string st, vi ki sa] 81).alloc (.cells #[vi ki 0, .string ⟨#[]⟩, .slice none 0 0, vi ki 0] 24)
  rw [show (w.setCell ⟨g, 1, none⟩ (vi ki ((d : Int) + 1))).heap.size = w.heap.size by simp] at q; exact q
 ·have q := Bx.new ((w.setCell ⟨g, 1, none⟩ (vi ki ((d : Int) + 1))).alloc (.cells #[vi ki sk, .string st, vi ki sa] 81)) [vi ki 0, .string ⟨#[]⟩, .slice none 0 0, vi ki 0] 24
  rw [show ((w.setCell ⟨g, 1, none⟩ (vi ki ((d : Int) + 1))).alloc (.cells #[vi ki sk, .string st, vi ki sa] 81)).heap.size = w.heap.size + 1 by simp] at q; exact q
 ·exact ((HP.out.deep (d + 1)).below ((Below.refl _ _).alloc (Nat.le_refl _) _)).below ((Below.refl _ _).alloc (Nat.le_refl _) _)
 ·simp
 rintro W0 ⟨hk0, hb0, hb1, hp0, hz0⟩
 have K0 : Hid _ := hk0
 have H0_0 : Hid (Bx W0 w.heap.size _) := hb0
 have H0_1 : Hid (Bx W0 (w.heap.size + 1) _) := hb1
 have Q0 : Hid _ := hp0
 clear hk0 hb0 hb1 hp0 c1 z1 HP
 go_wp2_with fail
 refine (HM.out _ Q0.out).mono ?_
 rintro e W1 ⟨hk, ho⟩
 have hz1 : W0.heap.size + 0 ≤ W1.heap.size := by have := hk.size; (try simp at this); omega
 have K1 : Hid (Kp g w W1) := K0.out.trans hk
 have H1_0 : Hid (Bx W1 (w.heap.size) [vi ki sk, .string st, vi ki sa]) := hk.bx H0_0.out (by omega)
 have H1_1 : Hid (Bx W1 (w.heap.size + 1) [vi ki 0, .string ⟨#[]⟩, .slice none 0 0, vi ki 0]) := hk.bx H0_1.out (by omega)
 clear H0_0 H0_1 K0
 obtain ⟨hf, rfl⟩ := ho
 have HF : Hid (PF g W1 (d + 1) ea er) := hf
 obtain ⟨left, hx, hone⟩ := hf
 have g1 := hx.c 1 rfl
 have g1' := hx.f 1 rfl
 have hgl := hx.1
 clear hx hk
 have hl1_1 := H1_1.out.1
 obtain ⟨c1_1_0, c1_1_1, c1_1_2, c1_1_3, z1_1_0, z1_1_1, z1_1_2, z1_1_3⟩ := H1_1.out.cf4
 have K1' : Hid (Kp g w (W1.setCell ⟨g, 1, none⟩ (vi ki (d : Int)))) := K1.out.set (p := ⟨g, 1, none⟩) (.inl rfl) _
 have H1' : Hid (Bx (W1.setCell ⟨g, 1, none⟩ (vi ki (d : Int))) (w.heap.size + 1) [vi ki 0, .string ⟨#[]⟩, .slice none 0 0, vi ki 0]) := H1_1.out.setOther (by omega) [vi ki (d : Int)] 1
 have HF' : Hid (PF g (W1.setCell ⟨g, 1, none⟩ (vi ki (d : Int))) d ea er) := PF.deep HF.out d
 obtain ⟨y0', y1', y2', y3', HFK, HFO, HFS, r0, r1, r2, r3, s0, s1, s2, s3, hrw'⟩ := fin8 [.cells #[vi ki 0, .string ⟨#[]⟩, .slice none 0 0, vi ki 0] 24] (vi ki 0) (.string ⟨#[]⟩) (.slice none 0 0) (vi ki 0) K1'.out (by omega) (H1'.out)
 simp only [List.foldl, World.setCells, Nat.zero_add, Nat.reduceAdd] at y0' y1' y2' y3'
 go_wp2
 refine bodyPost_ret (v := .tuple #[.agg #[vi ki 0, .string ⟨#[]⟩, .slice none 0 0, vi ki 0], .bool false]) (by simp [results, Tryd.results82, go_sem, y0', y1', y2', y3']) rfl ⟨HFK.out, PF.off HF'.out HFO.out HFS.out (by omega), rfl⟩
theorem deeper_ok (g b cap : Nat) (T : List Tk) (K : Nat) (hE : ∀ args w, (callFunc K args).run Tryd.prog w = .ok (.enter K args) w) (L : List Tk) (sk : Int) (st : ByteArray) (sa : Int) (d : Nat) (hd : d < 20) (m : Nd) (l1 : List Tk) (HM : Hid (∀ w : World, PS g b cap T w (L) (d + 1) → Calls Tryd.prog K #[.pointer (some ⟨g, 0, none⟩)] w fun e w' => Kp g w w' ∧ Out g b cap T (fun c => w.heap.size ≤ c) w' (d + 1) e (.ok m l1))) (w : World) (h : PS g b cap T w L d) :
  Calls Tryd.prog 82 #[.pointer (some ⟨g, 0, none⟩), .agg #[vi ki sk, .string st, vi ki sa], .func (.func K) #[.pointer (some ⟨g, 0, none⟩)] #[]] w fun e w' => Kp g w w' ∧ Out g b cap T (fun c => w.heap.size ≤ c) w' d e (.ok m l1) := by
 obtain ⟨lq, ln, lc, a0, e0, hb⟩ := h.cells
 have c1 := hb.c 1 rfl
 have z1 := hb.f 1 rfl
 clear hb
 have hd1 : ¬ (d : Int) = 20 := by omega
 have hd2 : (d : Int) < 20 := by omega
 have HP : Hid _ := h
 have hg := h.lt
 have hbl := h.tr.1
 clear h
 go_enter Tryd.func82, Tryd.ntmps82
 go_upto_region 4 with fail
 refine gen_to (fun W => Kp g w W ∧ Bx W w.heap.size [vi ki sk, .string st, vi ki sa] ∧ Bx W (w.heap.size + 1) [vi ki 0, .string ⟨#[]⟩, .slice none 0 0, vi ki 0] ∧ PS g b cap T W L (d + 1) ∧ w.heap.size + 2 ≤ W.heap.size) ⟨?_, ?_, ?_, ?_, ?_⟩ ?_
 ·exact (((Kp.refl g w).set (p := ⟨g, 1, none⟩) (.inl rfl) _).alloc _).alloc _
 ·have q := (Bx.new (w.setCell ⟨g, 1, none⟩ (vi ki ((d : Int) + 1))) [vi ki sk, .string st, vi ki sa] 81).alloc (.cells #[vi ki 0, .string ⟨#[]⟩, .slice none 0 0, vi ki 0] 24)
  rw [show (w.setCell ⟨g, 1, none⟩ (vi ki ((d : Int) + 1))).heap.size = w.heap.size by simp] at q; exact q
 ·have q := Bx.new ((w.setCell ⟨g, 1, none⟩ (vi ki ((d : Int) + 1))).alloc (.cells #[vi ki sk, .string st, vi ki sa] 81)) [vi ki 0, .string ⟨#[]⟩, .slice none 0 0, vi ki 0] 24
  rw [show ((w.setCell ⟨g, 1, none⟩ (vi ki ((d : Int) + 1))).alloc (.cells #[vi ki sk, .string st, vi ki sa] 81)).heap.size = w.heap.size + 1 by simp] at q; exact q
 ·exact ((HP.out.deep (d + 1)).below ((Below.refl _ _).alloc (Nat.le_refl _) _)).below ((Below.refl _ _).alloc (Nat.le_refl _) _)
 ·simp
 rintro W0 ⟨hk0, hb0, hb1, hp0, hz0⟩
 have K0 : Hid _ := hk0
 have H0_0 : Hid (Bx W0 w.heap.size _) := hb0
 have H0_1 : Hid (Bx W0 (w.heap.size + 1) _) := hb1
 have Q0 : Hid _ := hp0
 clear hk0 hb0 hb1 hp0 c1 z1 HP
 go_wp2_with fail
 refine (HM.out _ Q0.out).mono ?_
 rintro e W1 ⟨hk, ho⟩
 have hz1 : W0.heap.size + 0 ≤ W1.heap.size := by have := hk.size; (try simp at this); omega
 have K1 : Hid (Kp g w W1) := K0.out.trans hk
 have H1_0 : Hid (Bx W1 (w.heap.size) [vi ki sk, .string st, vi ki sa]) := hk.bx H0_0.out (by omega)
 have H1_1 : Hid (Bx W1 (w.heap.size + 1) [vi ki 0, .string ⟨#[]⟩, .slice none 0 0, vi ki 0]) := hk.bx H0_1.out (by omega)
 clear H0_0 H0_1 K0
 obtain ⟨hps, hend, k2, u2, sq2, sn2, sc2, a2, rfl, hnd⟩ := ho
 have HQ : Hid _ := hps
 have HE1 : Hid _ := hend
 have HM2 : Hid _ := hnd
 obtain ⟨lq1, ln1, lc1, a1, e1, hx⟩ := hps.cells
 have g1 := hx.c 1 rfl
 have g1' := hx.f 1 rfl
 have hgl := hx.1
 clear hx hk hps hend hnd
 have hl1_1 := H1_1.out.1
 obtain ⟨c1_1_0, c1_1_1, c1_1_2, c1_1_3, z1_1_0, z1_1_1, z1_1_2, z1_1_3⟩ := H1_1.out.cf4
 have K1' : Hid (Kp g w (W1.setCell ⟨g, 1, none⟩ (vi ki (d : Int)))) := K1.out.set (p := ⟨g, 1, none⟩) (.inl rfl) _
 have H1' : Hid (Bx (W1.setCell ⟨g, 1, none⟩ (vi ki (d : Int))) (w.heap.size + 1) [vi ki 0, .string ⟨#[]⟩, .slice none 0 0, vi ki 0]) := H1_1.out.setOther (by omega) [vi ki (d : Int)] 1
 have HQ' : Hid (PS g b cap T (W1.setCell ⟨g, 1, none⟩ (vi ki (d : Int))) l1 d) := HQ.out.deep d
 have HN' : Hid (NdAt (fun c => W0.heap.size ≤ c) (W1.setCell ⟨g, 1, none⟩ (vi ki (d : Int))) m [vi ki k2, .string u2, .slice sq2 sn2 sc2, vi ki a2]) := HM2.out.off (r := g) (fun c _ hc => Below.heap_setCell _ _ _ _ hc) (by simp) (fun c hc => ⟨hc, by (try simp at hc); omega⟩)
 obtain ⟨y0', y1', y2', y3', HFK, HFO, HFS, r0, r1, r2, r3, s0, s1, s2, s3, hrw'⟩ := fin8 [.cells #[vi ki k2, .string u2, .slice sq2 sn2 sc2, vi ki a2] 24] (vi ki k2) (.string u2) (.slice sq2 sn2 sc2) (vi ki a2) K1'.out (by omega) (H1'.out)
 simp only [List.foldl, World.setCells, Nat.zero_add, Nat.reduceAdd] at y0' y1' y2' y3'
 go_wp2
 refine bodyPost_ret (v := .tuple #[.agg #[vi ki k2, .string u2, .slice sq2 sn2 sc2, vi ki a2], .bool true]) (by simp [results, Tryd.results82, go_sem, y0', y1', y2', y3']) rfl ⟨HFK.out, HQ'.out.off HFO.out HFS.out (by omega) (by omega), HE1.out, _, _, _, _, _, _, rfl, HN'.out.off HFO.out HFS.out (fun c hc => ⟨by (try simp at hc ⊢); omega, by (try simp at hc); omega⟩)⟩
end Go.Proofs.YtaoocecipacnhaaDoor
