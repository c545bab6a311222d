import Derived.Test.YtaoocecipacnhaaDoorWz
import Derived.Test.YtaoocecipacnhaaDoorW4
import Derived.Test.YtaoocecipacnhaaDoorW0
open Go.Value renaming int → vi
open Go.IntKind renaming i64 → ki
open List renaming setIfInBounds_toArray → zb, set_cons_zero → zc, set_cons_succ → zd
open Go.Act renaming put → za
open Go.Ending renaming returned → zr
set_option maxRecDepth 100000
set_option maxHeartbeats 16000000
set_option linter.unusedVariables false
namespace Go.Proofs.YtaoocecipacnhaaDoor
open Go.RowKit
theorem ahead_other_ok (g b cap : Nat) (T : List Tk) (K1 K2 : Nat) (hEK1 : ∀ args w, (callFunc K1 args).run Tryd.prog w = .ok (.enter K1 args) w) (hEK2 : ∀ args w, (callFunc K2 args).run Tryd.prog w = .ok (.enter K2 args) w) (p : Tk) (l : List Tk) (d : Nat) (sk : Int) (st : ByteArray) (kd : Int) (n : Nd) (l1 : List Tk) (hi : isT p [(sk, st)] = false) (HM : Hid (∀ w : World, PS g b cap T w (p :: l) (d) → Calls Tryd.prog K2 #[.pointer (some ⟨g, 0, none⟩)] w fun e w' => Kp g w w' ∧ Out g b cap T (fun c => w.heap.size ≤ c) w' (d) e (.ok n l1))) (w : World) (h : PS g b cap T w (p :: l) d) :
  Calls Tryd.prog 74 #[.pointer (some ⟨g, 0, none⟩), .agg #[vi ki sk, .string st], vi ki kd, .func (.func K1) #[.pointer (some ⟨g, 0, none⟩)] #[], .func (.func K2) #[.pointer (some ⟨g, 0, none⟩)] #[]] w fun e w' => Kp g w w' ∧ Out g b cap T (fun c => w.heap.size ≤ c) w' d e (.ok n l1) := by
 have HP : Hid _ := h
 have hg := h.lt
 have hbl := h.tr.1
 clear h
 go_enter Tryd.func74, Tryd.ntmps74
 go_wp2_with fail
 have B0 : Hid (BS w [(w.heap.size + 1 + 1, [vi ki sk, .string st]), (w.heap.size + 1, [vi ki 0, .string ⟨#[]⟩, .slice none 0 0, vi ki 0]), (w.heap.size, [vi ki sk, .string st])] _) := ((((BS.start w).new [vi ki sk, .string st] 79 rfl).new [vi ki 0, .string ⟨#[]⟩, .slice none 0 0, vi ki 0] 24 (by simp)).new [vi ki sk, .string st] 79 (by simp))
 refine (is_any g b cap T p _ d [(sk, st)] (w.heap.size + 1 + 1) 1 _ (HP.out.below B0.out.1) (by simp) (by omega) (by simp) (B0.out.at (w.heap.size + 1 + 1) [vi ki sk, .string st] (by simp))).mono ?_
 rintro e W1 ⟨rfl, hb⟩
 have hk : Kp g _ W1 := Kp.of hb
 have hz1 : w.heap.size + 3 ≤ W1.heap.size := by have := hk.size; (try simp at this); omega
 have K1 : Hid (Kp g w W1) := (Kp.of B0.out.1).trans hk
 have H1_0 : Hid (Bx W1 (w.heap.size) [vi ki sk, .string st]) := hk.bx (B0.out.at (w.heap.size) [vi ki sk, .string st] (by simp)) (by omega)
 have H1_1 : Hid (Bx W1 (w.heap.size + 1) [vi ki 0, .string ⟨#[]⟩, .slice none 0 0, vi ki 0]) := hk.bx (B0.out.at (w.heap.size + 1) [vi ki 0, .string ⟨#[]⟩, .slice none 0 0, vi ki 0] (by simp)) (by omega)
 have H1_2 : Hid (Bx W1 (w.heap.size + 1 + 1) [vi ki sk, .string st]) := hk.bx (B0.out.at (w.heap.size + 1 + 1) [vi ki sk, .string st] (by simp)) (by omega)
 have Q1 : Hid _ := (HP.out.below B0.out.1).below hb
 clear B0 hb
 clear hk
 rw [hi]
 have hl1_0 := H1_0.out.1
 have c1_0_0 := H1_0.out.c 0 rfl
 have c1_0_1 := H1_0.out.c 1 rfl
 have hl1_1 := H1_1.out.1
 obtain ⟨c1_1_0, c1_1_1, c1_1_2, c1_1_3⟩ := H1_1.out.d4
 go_wp2_with fail
 refine (HM.out _ Q1.out).mono ?_
 rintro e W2 ⟨hk, ho⟩
 have hz2 : W1.heap.size + 0 ≤ W2.heap.size := by have := hk.size; (try simp at this); omega
 have K2 : Hid (Kp g w W2) := K1.out.trans hk
 have H2_0 : Hid (Bx W2 (w.heap.size) [vi ki sk, .string st]) := hk.bx H1_0.out (by omega)
 have H2_1 : Hid (Bx W2 (w.heap.size + 1) [vi ki 0, .string ⟨#[]⟩, .slice none 0 0, vi ki 0]) := hk.bx H1_1.out (by omega)
 have H2_2 : Hid (Bx W2 (w.heap.size + 1 + 1) [vi ki sk, .string st]) := hk.bx H1_2.out (by omega)
 clear hl1_0 c1_0_0 c1_0_1 hl1_1 c1_1_0 c1_1_1 c1_1_2 c1_1_3 H1_0 H1_1 H1_2 K1
 obtain ⟨hps, hend, k2, u2, sq2, sn2, sc2, a2, rfl, hnd⟩ := ho
 have HQ : Hid _ := hps
 have HE1 : Hid _ := hend
 have HM2 : Hid _ := hnd
 clear hps hend hnd hk
 have hl2_1 := H2_1.out.1
 obtain ⟨y0', y1', y2', y3', HFK, HFO, HFS, r0, r1, r2, r3, s0, s1, s2, s3, hrw'⟩ := fin9 (vi ki k2) (.string u2) (.slice sq2 sn2 sc2) (vi ki a2) K2.out (by omega) (H2_1.out)
 go_wp2
 refine bodyPost_ret (v := .tuple #[.agg #[vi ki k2, .string u2, .slice sq2 sn2 sc2, vi ki a2], .bool true]) (by simp [results, Tryd.results74, go_sem, y0', y1', y2', y3']) rfl ⟨HFK.out, HQ.out.off HFO.out HFS.out (by omega) (by omega), HE1.out, _, _, _, _, _, _, rfl, HM2.out.off HFO.out HFS.out (fun c hc => ⟨by (try simp at hc ⊢); omega, by (try simp at hc); omega⟩)⟩
theorem ahead_other_no (g b cap : Nat) (T : List Tk) (K1 K2 : Nat) (hEK1 : ∀ args w, (callFunc K1 args).run Tryd.prog w = .ok (.enter K1 args) w) (hEK2 : ∀ args w, (callFunc K2 args).run Tryd.prog w = .ok (.enter K2 args) w) (p : Tk) (l : List Tk) (d : Nat) (sk : Int) (st : ByteArray) (kd : Int) (ea er : Int) (hi : isT p [(sk, st)] = false) (HM : Hid (∀ w : World, PS g b cap T w (p :: l) (d) → Calls Tryd.prog K2 #[.pointer (some ⟨g, 0, none⟩)] w fun e w' => Kp g w w' ∧ Out g b cap T (fun c => w.heap.size ≤ c) w' (d) e (.no ea er))) (w : World) (h : PS g b cap T w (p :: l) d) :
  Calls Tryd.prog 74 #[.pointer (some ⟨g, 0, none⟩), .agg #[vi ki sk, .string st], vi ki kd, .func (.func K1) #[.pointer (some ⟨g, 0, none⟩)] #[], .func (.func K2) #[.pointer (some ⟨g, 0, none⟩)] #[]] w fun e w' => Kp g w w' ∧ Out g b cap T (fun c => w.heap.size ≤ c) w' d e (.no ea er) := by
 have HP : Hid _ := h
 have hg := h.lt
 have hbl := h.tr.1
 clear h
 go_enter Tryd.func74, Tryd.ntmps74
 go_wp2_with fail
 have B0 : Hid (BS w [(w.heap.size + 1 + 1, [vi ki sk, .string st]), (w.heap.size + 1, [vi ki 0, .string ⟨#[]⟩, .slice none 0 0, vi ki 0]), (w.heap.size, [vi ki sk, .string st])] _) := ((((BS.start w).new [vi ki sk, .string st] 79 rfl).new [vi ki 0, .string ⟨#[]⟩, .slice none 0 0, vi ki 0] 24 (by simp)).new [vi ki sk, .string st] 79 (by simp))
 refine (is_any g b cap T p _ d [(sk, st)] (w.heap.size + 1 + 1) 1 _ (HP.out.below B0.out.1) (by simp) (by omega) (by simp) (B0.out.at (w.heap.size + 1 + 1) [vi ki sk, .string st] (by simp))).mono ?_
 rintro e W1 ⟨rfl, hb⟩
 have hk : Kp g _ W1 := Kp.of hb
 have hz1 : w.heap.size + 3 ≤ W1.heap.size := by have := hk.size; (try simp at this); omega
 have K1 : Hid (Kp g w W1) := (Kp.of B0.out.1).trans hk
 have H1_0 : Hid (Bx W1 (w.heap.size) [vi ki sk, .string st]) := hk.bx (B0.out.at (w.heap.size) [vi ki sk, .string st] (by simp)) (by omega)
 have H1_1 : Hid (Bx W1 (w.heap.size + 1) [vi ki 0, .string ⟨#[]⟩, .slice none 0 0, vi ki 0]) := hk.bx (B0.out.at (w.heap.size + 1) [vi ki 0, .string ⟨#[]⟩, .slice none 0 0, vi ki 0] (by simp)) (by omega)
 have H1_2 : Hid (Bx W1 (w.heap.size + 1 + 1) [vi ki sk, .string st]) := hk.bx (B0.out.at (w.heap.size + 1 + 1) [vi ki sk, .string st] (by simp)) (by omega)
 have Q1 : Hid _ := (HP.out.below B0.out.1).below hb
 clear B0 hb
 clear hk
 rw [hi]
 have hl1_0 := H1_0.out.1
 have c1_0_0 := H1_0.out.c 0 rfl
 have c1_0_1 := H1_0.out.c 1 rfl
 have hl1_1 := H1_1.out.1
 obtain ⟨c1_1_0, c1_1_1, c1_1_2, c1_1_3⟩ := H1_1.out.d4
 go_wp2_with fail
 refine (HM.out _ Q1.out).mono ?_
 rintro e W2 ⟨hk, ho⟩
 have hz2 : W1.heap.size + 0 ≤ W2.heap.size := by have := hk.size; (try simp at this); omega
 have K2 : Hid (Kp g w W2) := K1.out.trans hk
 have H2_0 : Hid (Bx W2 (w.heap.size) [vi ki sk, .string st]) := hk.bx H1_0.out (by omega)
 have H2_1 : Hid (Bx W2 (w.heap.size + 1) [vi ki 0, .string ⟨#[]⟩, .slice none 0 0, vi ki 0]) := hk.bx H1_1.out (by omega)
 have H2_2 : Hid (Bx W2 (w.heap.size + 1 + 1) [vi ki sk, .string st]) := hk.bx H1_2.out (by omega)
 clear hl1_0 c1_0_0 c1_0_1 hl1_1 c1_1_0 c1_1_1 c1_1_2 c1_1_3 H1_0 H1_1 H1_2 K1
 obtain ⟨hf, rfl⟩ := ho
 have HF : Hid (PF g W2 d ea er) := hf
 clear hf hk
 have hl2_1 := H2_1.out.1
 obtain ⟨y0', y1', y2', y3', HFK, HFO, HFS, r0, r1, r2, r3, s0, s1, s2, s3, hrw'⟩ := fin9 (vi ki 0) (.string ⟨#[]⟩) (.slice none 0 0) (vi ki 0) K2.out (by omega) (H2_1.out)
 go_wp2
 refine bodyPost_ret (v := .tuple #[.agg #[vi ki 0, .string ⟨#[]⟩, .slice none 0 0, vi ki 0], .bool false]) (by simp [results, Tryd.results74, go_sem, y0', y1', y2', y3']) rfl ⟨HFK.out, PF.off HF.out HFO.out HFS.out (by omega), rfl⟩
theorem ahead_full (g b cap : Nat) (T : List Tk) (K1 K2 : Nat) (hEK1 : ∀ args w, (callFunc K1 args).run Tryd.prog w = .ok (.enter K1 args) w) (hEK2 : ∀ args w, (callFunc K2 args).run Tryd.prog w = .ok (.enter K2 args) w) (p : Tk) (l : List Tk) (sk : Int) (st : ByteArray) (kd : Int) (q : Tk) (hi : isT p [(sk, st)] = true) (w : World) (h : PS g b cap T w (p :: q :: l) 20) :
  Calls Tryd.prog 74 #[.pointer (some ⟨g, 0, none⟩), .agg #[vi ki sk, .string st], vi ki kd, .func (.func K1) #[.pointer (some ⟨g, 0, none⟩)] #[], .func (.func K2) #[.pointer (some ⟨g, 0, none⟩)] #[]] w fun e w' => Kp g w w' ∧ Out g b cap T (fun c => w.heap.size ≤ c) w' 20 e (.no p.2.2 31) := by
 have HP : Hid _ := h
 have hg := h.lt
 have hbl := h.tr.1
 clear h
 go_enter Tryd.func74, Tryd.ntmps74
 go_wp2_with fail
 have B0 : Hid (BS w [(w.heap.size + 1 + 1, [vi ki sk, .string st]), (w.heap.size + 1, [vi ki 0, .string ⟨#[]⟩, .slice none 0 0, vi ki 0]), (w.heap.size, [vi ki sk, .string st])] _) := ((((BS.start w).new [vi ki sk, .string st] 79 rfl).new [vi ki 0, .string ⟨#[]⟩, .slice none 0 0, vi ki 0] 24 (by simp)).new [vi ki sk, .string st] 79 (by simp))
 refine (is_any g b cap T p _ 20 [(sk, st)] (w.heap.size + 1 + 1) 1 _ (HP.out.below B0.out.1) (by simp) (by omega) (by simp) (B0.out.at (w.heap.size + 1 + 1) [vi ki sk, .string st] (by simp))).mono ?_
 rintro e W1 ⟨rfl, hb⟩
 have hk : Kp g _ W1 := Kp.of hb
 have hz1 : w.heap.size + 3 ≤ W1.heap.size := by have := hk.size; (try simp at this); omega
 have K1 : Hid (Kp g w W1) := (Kp.of B0.out.1).trans hk
 have H1_0 : Hid (Bx W1 (w.heap.size) [vi ki sk, .string st]) := hk.bx (B0.out.at (w.heap.size) [vi ki sk, .string st] (by simp)) (by omega)
 have H1_1 : Hid (Bx W1 (w.heap.size + 1) [vi ki 0, .string ⟨#[]⟩, .slice none 0 0, vi ki 0]) := hk.bx (B0.out.at (w.heap.size + 1) [vi ki 0, .string ⟨#[]⟩, .slice none 0 0, vi ki 0] (by simp)) (by omega)
 have H1_2 : Hid (Bx W1 (w.heap.size + 1 + 1) [vi ki sk, .string st]) := hk.bx (B0.out.at (w.heap.size + 1 + 1) [vi ki sk, .string st] (by simp)) (by omega)
 have Q1 : Hid _ := (HP.out.below B0.out.1).below hb
 clear B0 hb
 clear hk
 rw [hi]
 have hl1_0 := H1_0.out.1
 have c1_0_0 := H1_0.out.c 0 rfl
 have c1_0_1 := H1_0.out.c 1 rfl
 have hl1_1 := H1_1.out.1
 obtain ⟨c1_1_0, c1_1_1, c1_1_2, c1_1_3⟩ := H1_1.out.d4
 go_wp2_with fail
 refine (next_any g b cap T p q l 20 _ Q1.out).mono ?_
 rintro e W2 ⟨rfl, hk, hp⟩
 have hz2 : W1.heap.size + 0 ≤ W2.heap.size := by have := hk.size; (try simp at this); omega
 have K2 : Hid (Kp g w W2) := K1.out.trans hk
 have H2_0 : Hid (Bx W2 (w.heap.size) [vi ki sk, .string st]) := hk.bx H1_0.out (by omega)
 have H2_1 : Hid (Bx W2 (w.heap.size + 1) [vi ki 0, .string ⟨#[]⟩, .slice none 0 0, vi ki 0]) := hk.bx H1_1.out (by omega)
 have H2_2 : Hid (Bx W2 (w.heap.size + 1 + 1) [vi ki sk, .string st]) := hk.bx H1_2.out (by omega)
 clear hl1_0 c1_0_0 c1_0_1 hl1_1 c1_1_0 c1_1_1 c1_1_2 c1_1_3 H1_0 H1_1 H1_2 K1
 have Q2' : Hid _ := hp
 clear hp hk
 have hl2_0 := H2_0.out.1
 have c2_0_0 := H2_0.out.c 0 rfl
 have c2_0_1 := H2_0.out.c 1 rfl
 have hl2_1 := H2_1.out.1
 obtain ⟨c2_1_0, c2_1_1, c2_1_2, c2_1_3⟩ := H2_1.out.d4
 go_wp2_with fail
 have B2 : Hid (BS W2 [(W2.heap.size, [vi ki p.1, .string p.2.1, vi ki p.2.2])] _) := ((BS.start W2).new [vi ki p.1, .string p.2.1, vi ki p.2.2] 81 rfl)
 refine (deeper_full g b cap T K1 hEK1 (q :: l) p.1 p.2.1 p.2.2 _ (Q2'.out.below B2.out.1)).mono ?_
 rintro e W3 ⟨hk, ho⟩
 have hz3 : W2.heap.size + 1 ≤ W3.heap.size := by have := hk.size; (try simp at this); omega
 have K3 : Hid (Kp g w W3) := (K2.out.trans (Kp.of B2.out.1)).trans hk
 have H3_0 : Hid (Bx W3 (w.heap.size) [vi ki sk, .string st]) := hk.bx (H2_0.out.below B2.out.1) (by omega)
 have H3_1 : Hid (Bx W3 (w.heap.size + 1) [vi ki 0, .string ⟨#[]⟩, .slice none 0 0, vi ki 0]) := hk.bx (H2_1.out.below B2.out.1) (by omega)
 have H3_2 : Hid (Bx W3 (w.heap.size + 1 + 1) [vi ki sk, .string st]) := hk.bx (H2_2.out.below B2.out.1) (by omega)
 have H3_3 : Hid (Bx W3 (W2.heap.size) [vi ki p.1, .string p.2.1, vi ki p.2.2]) := hk.bx (B2.out.at (W2.heap.size) [vi ki p.1, .string p.2.1, vi ki p.2.2] (by simp)) (by omega)
 clear hl2_0 c2_0_0 c2_0_1 hl2_1 c2_1_0 c2_1_1 c2_1_2 c2_1_3 B2 H2_0 H2_1 H2_2 K2
 obtain ⟨hf, rfl⟩ := ho
 have HF : Hid (PF g W3 20 p.2.2 31) := hf
 clear hf hk
 have hl3_1 := H3_1.out.1
 obtain ⟨y0', y1', y2', y3', HFK, HFO, HFS, r0, r1, r2, r3, s0, s1, s2, s3, hrw'⟩ := fin8 [.cells #[vi ki 0, .string ⟨#[]⟩, .slice none 0 0, vi ki 0] 24] (vi ki 0) (.string ⟨#[]⟩) (.slice none 0 0) (vi ki 0) K3.out (by omega) (H3_1.out)
 simp only [List.foldl, World.setCells, Nat.zero_add, Nat.reduceAdd] at y0' y1' y2' y3'
 go_wp2
 refine bodyPost_ret (v := .tuple #[.agg #[vi ki 0, .string ⟨#[]⟩, .slice none 0 0, vi ki 0], .bool false]) (by simp [results, Tryd.results74, go_sem, y0', y1', y2', y3']) rfl ⟨HFK.out, PF.off HF.out HFO.out HFS.out (by omega), rfl⟩
theorem ahead_no (g b cap : Nat) (T : List Tk) (K1 K2 : Nat) (hEK1 : ∀ args w, (callFunc K1 args).run Tryd.prog w = .ok (.enter K1 args) w) (hEK2 : ∀ args w, (callFunc K2 args).run Tryd.prog w = .ok (.enter K2 args) w) (p : Tk) (l : List Tk) (d : Nat) (sk : Int) (st : ByteArray) (kd : Int) (q : Tk) (hd : d < 20) (ea er : Int) (hi : isT p [(sk, st)] = true) (HM : Hid (∀ w : World, PS g b cap T w (q :: l) (d + 1) → Calls Tryd.prog K1 #[.pointer (some ⟨g, 0, none⟩)] w fun e w' => Kp g w w' ∧ Out g b cap T (fun c => w.heap.size ≤ c) w' (d + 1) e (.no ea er))) (w : World) (h : PS g b cap T w (p :: q :: l) d) :
  Calls Tryd.prog 74 #[.pointer (some ⟨g, 0, none⟩), .agg #[vi ki sk, .string st], vi ki kd, .func (.func K1) #[.pointer (some ⟨g, 0, none⟩)] #[], .func (.func K2) #[.pointer (some ⟨g, 0, none⟩)] #[]] w fun e w' => Kp g w w' ∧ Out g b cap T (fun c => w.heap.size ≤ c) w' d e (.no ea er) := by
 have HP : Hid _ := h
 have hg := h.lt
 have hbl := h.tr.1
 clear h
 go_enter Tryd.func74, Tryd.ntmps74
 go_wp2_with fail
 have B0 : Hid (BS w [(w.heap.size + 1 + 1, [vi ki sk, .string st]), (w.heap.size + 1, [vi ki 0, .string ⟨#[]⟩, .slice none 0 0, vi ki 0]), (w.heap.size, [vi ki sk, .string st])] _) := ((((BS.start w).new [vi ki sk, .string st] 79 rfl).new [vi ki 0, .string ⟨#[]⟩, .slice none 0 0, vi ki 0] 24 (by simp)).new [vi ki sk, .string st] 79 (by simp))
 refine (is_any g b cap T p _ d [(sk, st)] (w.heap.size + 1 + 1) 1 _ (HP.out.below B0.out.1) (by simp) (by omega) (by simp) (B0.out.at (w.heap.size + 1 + 1) [vi ki sk, .string st] (by simp))).mono ?_
 rintro e W1 ⟨rfl, hb⟩
 have hk : Kp g _ W1 := Kp.of hb
 have hz1 : w.heap.size + 3 ≤ W1.heap.size := by have := hk.size; (try simp at this); omega
 have K1 : Hid (Kp g w W1) := (Kp.of B0.out.1).trans hk
 have H1_0 : Hid (Bx W1 (w.heap.size) [vi ki sk, .string st]) := hk.bx (B0.out.at (w.heap.size) [vi ki sk, .string st] (by simp)) (by omega)
 have H1_1 : Hid (Bx W1 (w.heap.size + 1) [vi ki 0, .string ⟨#[]⟩, .slice none 0 0, vi ki 0]) := hk.bx (B0.out.at (w.heap.size + 1) [vi ki 0, .string ⟨#[]⟩, .slice none 0 0, vi ki 0] (by simp)) (by omega)
 have H1_2 : Hid (Bx W1 (w.heap.size + 1 + 1) [vi ki sk, .string st]) := hk.bx (B0.out.at (w.heap.size + 1 + 1) [vi ki sk, .string st] (by simp)) (by omega)
 have Q1 : Hid _ := (HP.out.below B0.out.1).below hb
 clear B0 hb
 clear hk
 rw [hi]
 have hl1_0 := H1_0.out.1
 have c1_0_0 := H1_0.out.c 0 rfl
 have c1_0_1 := H1_0.out.c 1 rfl
 have hl1_1 := H1_1.out.1
 obtain ⟨c1_1_0, c1_1_1, c1_1_2, c1_1_3⟩ := H1_1.out.d4
 go_wp2_with fail
 refine (next_any g b cap T p q l d _ Q1.out).mono ?_
 rintro e W2 ⟨rfl, hk, hp⟩
 have hz2 : W1.heap.size + 0 ≤ W2.heap.size := by have := hk.size; (try simp at this); omega
 have K2 : Hid (Kp g w W2) := K1.out.trans hk
 have H2_0 : Hid (Bx W2 (w.heap.size) [vi ki sk, .string st]) := hk.bx H1_0.out (by omega)
 have H2_1 : Hid (Bx W2 (w.heap.size + 1) [vi ki 0, .string ⟨#[]⟩, .slice none 0 0, vi ki 0]) := hk.bx H1_1.out (by omega)
 have H2_2 : Hid (Bx W2 (w.heap.size + 1 + 1) [vi ki sk, .string st]) := hk.bx H1_2.out (by omega)
 clear hl1_0 c1_0_0 c1_0_1 hl1_1 c1_1_0 c1_1_1 c1_1_2 c1_1_3 H1_0 H1_1 H1_2 K1
 have Q2' : Hid _ := hp
 clear hp hk
 have hl2_0 := H2_0.out.1
 have c2_0_0 := H2_0.out.c 0 rfl
 have c2_0_1 := H2_0.out.c 1 rfl
 have hl2_1 := H2_1.out.1
 obtain ⟨c2_1_0, c2_1_1, c2_1_2, c2_1_3⟩ := H2_1.out.d4
 go_wp2_with fail
 have B2 : Hid (BS W2 [(W2.heap.size, [vi ki p.1, .string p.2.1, vi ki p.2.2])] _) := ((BS.start W2).new [vi ki p.1, .string p.2.1, vi ki p.2.2] 81 rfl)
 refine (deeper_no g b cap T K1 hEK1 (q :: l) p.1 p.2.1 p.2.2 d hd ea er HM _ (Q2'.out.below B2.out.1)).mono ?_
 rintro e W3 ⟨hk, ho⟩
 have hz3 : W2.heap.size + 1 ≤ W3.heap.size := by have := hk.size; (try simp at this); omega
 have K3 : Hid (Kp g w W3) := (K2.out.trans (Kp.of B2.out.1)).trans hk
 have H3_0 : Hid (Bx W3 (w.heap.size) [vi ki sk, .string st]) := hk.bx (H2_0.out.below B2.out.1) (by omega)
 have H3_1 : Hid (Bx W3 (w.heap.size + 1) [vi ki 0, .string ⟨#[]⟩, .slice none 0 0, vi ki 0]) := hk.bx (H2_1.out.below B2.out.1) (by omega)
 have H3_2 : Hid (Bx W3 (w.heap.size + 1 + 1) [vi ki sk, .string st]) := hk.bx (H2_2.out.below B2.out.1) (by omega)
 have H3_3 : Hid (Bx W3 (W2.heap.size) [vi ki p.1, .string p.2.1, vi ki p.2.2]) := hk.bx (B2.out.at (W2.heap.size) [vi ki p.1, .string p.2.1, vi ki p.2.2] (by simp)) (by omega)
 clear hl2_0 c2_0_0 c2_0_1 hl2_1 c2_1_0 c2_1_1 c2_1_2 c2_1_3 B2 H2_0 H2_1 H2_2 K2
 obtain ⟨hf, rfl⟩ := ho
 have HF : Hid (PF g W3 d ea er) := hf
 clear hf hk
 have hl3_1 := H3_1.out.1
 obtain ⟨y0', y1', y2', y3', HFK, HFO, HFS, r0, r1, r2, r3, s0, s1, s2, s3, hrw'⟩ := fin8 [.cells #[vi ki 0, .string ⟨#[]⟩, .slice none 0 0, vi ki 0] 24] (vi ki 0) (.string ⟨#[]⟩) (.slice none 0 0) (vi ki 0) K3.out (by omega) (H3_1.out)
 simp only [List.foldl, World.setCells, Nat.zero_add, Nat.reduceAdd] at y0' y1' y2' y3'
 go_wp2
 refine bodyPost_ret (v := .tuple #[.agg #[vi ki 0, .string ⟨#[]⟩, .slice none 0 0, vi ki 0], .bool false]) (by simp [results, Tryd.results74, go_sem, y0', y1', y2', y3']) rfl ⟨HFK.out, PF.off HF.out HFO.out HFS.out (by omega), rfl⟩
theorem ahead_ok (g b cap : Nat) (T : List Tk) (K1 K2 : Nat) (hEK1 : ∀ args w, (callFunc K1 args).run Tryd.prog w = .ok (.enter K1 args) w) (hEK2 : ∀ args w, (callFunc K2 args).run Tryd.prog w = .ok (.enter K2 args) w) (p : Tk) (l : List Tk) (d : Nat) (sk : Int) (st : ByteArray) (kd : Int) (q : Tk) (hd : d < 20) (m : Nd) (l1 : List Tk) (hi : isT p [(sk, st)] = true) (HM : Hid (∀ w : World, PS g b cap T w (q :: l) (d + 1) → Calls Tryd.prog K1 #[.pointer (some ⟨g, 0, none⟩)] w fun e w' => Kp g w w' ∧ Out g b cap T (fun c => w.heap.size ≤ c) w' (d + 1) e (.ok m l1))) (w : World) (h : PS g b cap T w (p :: q :: l) d) :
  Calls Tryd.prog 74 #[.pointer (some ⟨g, 0, none⟩), .agg #[vi ki sk, .string st], vi ki kd, .func (.func K1) #[.pointer (some ⟨g, 0, none⟩)] #[], .func (.func K2) #[.pointer (some ⟨g, 0, none⟩)] #[]] w fun e w' => Kp g w w' ∧ Out g b cap T (fun c => w.heap.size ≤ c) w' d e (.ok (.mk kd ⟨#[]⟩ [m] p.2.2) l1) := by
 have HP : Hid _ := h
 have hg := h.lt
 have hbl := h.tr.1
 clear h
 go_enter Tryd.func74, Tryd.ntmps74
 go_wp2_with fail
 have B0 : Hid (BS w [(w.heap.size + 1 + 1, [vi ki sk, .string st]), (w.heap.size + 1, [vi ki 0, .string ⟨#[]⟩, .slice none 0 0, vi ki 0]), (w.heap.size, [vi ki sk, .string st])] _) := ((((BS.start w).new [vi ki sk, .string st] 79 rfl).new [vi ki 0, .string ⟨#[]⟩, .slice none 0 0, vi ki 0] 24 (by simp)).new [vi ki sk, .string st] 79 (by simp))
 refine (is_any g b cap T p _ d [(sk, st)] (w.heap.size + 1 + 1) 1 _ (HP.out.below B0.out.1) (by simp) (by omega) (by simp) (B0.out.at (w.heap.size + 1 + 1) [vi ki sk, .string st] (by simp))).mono ?_
 rintro e W1 ⟨rfl, hb⟩
 have hk : Kp g _ W1 := Kp.of hb
 have hz1 : w.heap.size + 3 ≤ W1.heap.size := by have := hk.size; (try simp at this); omega
 have K1 : Hid (Kp g w W1) := (Kp.of B0.out.1).trans hk
 have H1_0 : Hid (Bx W1 (w.heap.size) [vi ki sk, .string st]) := hk.bx (B0.out.at (w.heap.size) [vi ki sk, .string st] (by simp)) (by omega)
 have H1_1 : Hid (Bx W1 (w.heap.size + 1) [vi ki 0, .string ⟨#[]⟩, .slice none 0 0, vi ki 0]) := hk.bx (B0.out.at (w.heap.size + 1) [vi ki 0, .string ⟨#[]⟩, .slice none 0 0, vi ki 0] (by simp)) (by omega)
 have H1_2 : Hid (Bx W1 (w.heap.size + 1 + 1) [vi ki sk, .string st]) := hk.bx (B0.out.at (w.heap.size + 1 + 1) [vi ki sk, .string st] (by simp)) (by omega)
 have Q1 : Hid _ := (HP.out.below B0.out.1).below hb
 clear B0 hb
 clear hk
 rw [hi]
 have hl1_0 := H1_0.out.1
 have c1_0_0 := H1_0.out.c 0 rfl
 have c1_0_1 := H1_0.out.c 1 rfl
 have hl1_1 := H1_1.out.1
 obtain ⟨c1_1_0, c1_1_1, c1_1_2, c1_1_3⟩ := H1_1.out.d4
 go_wp2_with fail
 refine (next_any g b cap T p q l d _ Q1.out).mono ?_
 rintro e W2 ⟨rfl, hk, hp⟩
 have hz2 : W1.heap.size + 0 ≤ W2.heap.size := by have := hk.size; (try simp at this); omega
 have K2 : Hid (Kp g w W2) := K1.out.trans hk
 have H2_0 : Hid (Bx W2 (w.heap.size) [vi ki sk, .string st]) := hk.bx H1_0.out (by omega)
 have H2_1 : Hid (Bx W2 (w.heap.size + 1) [vi ki 0, .string ⟨#[]⟩, .slice none 0 0, vi ki 0]) := hk.bx H1_1.out (by omega)
 have H2_2 : Hid (Bx W2 (w.heap.size + 1 + 1) [vi ki sk, .string st]) := hk.bx H1_2.out (by omega)
 clear hl1_0 c1_0_0 c1_0_1 hl1_1 c1_1_0 c1_1_1 c1_1_2 c1_1_3 H1_0 H1_1 H1_2 K1
 have Q2' : Hid _ := hp
 clear hp hk
 have hl2_0 := H2_0.out.1
 have c2_0_0 := H2_0.out.c 0 rfl
 have c2_0_1 := H2_0.out.c 1 rfl
 have hl2_1 := H2_1.out.1
 obtain ⟨c2_1_0, c2_1_1, c2_1_2, c2_1_3⟩ := H2_1.out.d4
 go_wp2_with fail
 have B2 : Hid (BS W2 [(W2.heap.size, [vi ki p.1, .string p.2.1, vi ki p.2.2])] _) := ((BS.start W2).new [vi ki p.1, .string p.2.1, vi ki p.2.2] 81 rfl)
 refine (deeper_ok g b cap T K1 hEK1 (q :: l) p.1 p.2.1 p.2.2 d hd m l1 HM _ (Q2'.out.below B2.out.1)).mono ?_
 rintro e W3 ⟨hk, ho⟩
 have hz3 : W2.heap.size + 1 ≤ W3.heap.size := by have := hk.size; (try simp at this); omega
 have K3 : Hid (Kp g w W3) := (K2.out.trans (Kp.of B2.out.1)).trans hk
 have H3_0 : Hid (Bx W3 (w.heap.size) [vi ki sk, .string st]) := hk.bx (H2_0.out.below B2.out.1) (by omega)
 have H3_1 : Hid (Bx W3 (w.heap.size + 1) [vi ki 0, .string ⟨#[]⟩, .slice none 0 0, vi ki 0]) := hk.bx (H2_1.out.below B2.out.1) (by omega)
 have H3_2 : Hid (Bx W3 (w.heap.size + 1 + 1) [vi ki sk, .string st]) := hk.bx (H2_2.out.below B2.out.1) (by omega)
 have H3_3 : Hid (Bx W3 (W2.heap.size) [vi ki p.1, .string p.2.1, vi ki p.2.2]) := hk.bx (B2.out.at (W2.heap.size) [vi ki p.1, .string p.2.1, vi ki p.2.2] (by simp)) (by omega)
 clear hl2_0 c2_0_0 c2_0_1 hl2_1 c2_1_0 c2_1_1 c2_1_2 c2_1_3 B2 H2_0 H2_1 H2_2 K2
 obtain ⟨hps, hend, k2, u2, sq2, sn2, sc2, a2, rfl, hnd⟩ := ho
 have HQ : Hid _ := hps
 have HE1 : Hid _ := hend
 have HM2 : Hid _ := hnd
 clear hps hend hnd hk
 have HM3 : Hid (NdAt (fun c => W2.heap.size ≤ c) W3 m [vi ki k2, .string u2, .slice sq2 sn2 sc2, vi ki a2]) := NdAt.keep (Nat.le_refl _) (fun c hc _ => ⟨by (try simp at hc ⊢); omega, rfl⟩) _ _ HM2.out
 have B3 : Hid (BS W3 [(W3.heap.size, [vi ki k2, .string u2, .slice sq2 sn2 sc2, vi ki a2])] _) := ((BS.start W3).new [vi ki k2, .string u2, .slice sq2 sn2 sc2, vi ki a2] 24 rfl)
 go_upto_region 7 with fail
 refine gen_to (BS W3 [(W3.heap.size, [vi ki k2, .string u2, .slice sq2 sn2 sc2, vi ki a2])]) B3.out ?_
 intro W4 hB
 have hz4 : W3.heap.size + 1 ≤ W4.heap.size := by have := (hB.at (W3.heap.size) [vi ki k2, .string u2, .slice sq2 sn2 sc2, vi ki a2] (by simp)).1; (try simp at this); omega
 have K4 : Hid (Kp g w W4) := K3.out.trans (Kp.of hB.1)
 have H4_0 : Hid (Bx W4 (w.heap.size) [vi ki sk, .string st]) := H3_0.out.below hB.1
 have H4_1 : Hid (Bx W4 (w.heap.size + 1) [vi ki 0, .string ⟨#[]⟩, .slice none 0 0, vi ki 0]) := H3_1.out.below hB.1
 have H4_2 : Hid (Bx W4 (w.heap.size + 1 + 1) [vi ki sk, .string st]) := H3_2.out.below hB.1
 have H4_3 : Hid (Bx W4 (W2.heap.size) [vi ki p.1, .string p.2.1, vi ki p.2.2]) := H3_3.out.below hB.1
 have H4_4 : Hid (Bx W4 (W3.heap.size) [vi ki k2, .string u2, .slice sq2 sn2 sc2, vi ki a2]) := hB.at (W3.heap.size) [vi ki k2, .string u2, .slice sq2 sn2 sc2, vi ki a2] (by simp)
 have HM3_4 : Hid (NdAt (fun c => W2.heap.size ≤ c) W4 m [vi ki k2, .string u2, .slice sq2 sn2 sc2, vi ki a2]) := HM3.out.kp (g := g) (Kp.of hB.1) (fun c hc => ⟨hc, by (try simp at hc); omega⟩)
 have Q4 : Hid _ := HQ.out.below hB.1
 clear B3 H3_0 H3_1 H3_2 H3_3 HM3 K3 HQ hB
 have hl4_1 := H4_1.out.1
 obtain ⟨c4_1_0, c4_1_1, c4_1_2, c4_1_3, z4_1_0, z4_1_1, z4_1_2, z4_1_3⟩ := H4_1.out.cf4
 have hl4_3 := H4_3.out.1
 have c4_3_0 := H4_3.out.c 0 rfl
 have c4_3_1 := H4_3.out.c 1 rfl
 have c4_3_2 := H4_3.out.c 2 rfl
 have hl4_4 := H4_4.out.1
 obtain ⟨c4_4_0, c4_4_1, c4_4_2, c4_4_3⟩ := H4_4.out.d4
 obtain ⟨y0', y1', y2', y3', HFK, HFO, HFS, r0, r1, r2, r3, s0, s1, s2, s3, hrw'⟩ := fin8 [.cells #[vi ki k2, .string u2, .slice sq2 sn2 sc2, vi ki a2] 24] (vi ki kd) (.string ⟨#[]⟩) (.slice (some ⟨W4.heap.size, 0, none⟩) 1 1) (vi ki p.2.2) K4.out (by omega) (H4_1.out)
 simp only [List.foldl, World.setCells, Nat.zero_add, Nat.reduceAdd] at y0' y1' y2' y3'
 go_wp2
 refine bodyPost_ret (v := .tuple #[.agg #[vi ki kd, .string ⟨#[]⟩, .slice (some ⟨W4.heap.size, 0, none⟩) 1 1, vi ki p.2.2], .bool true]) (by simp [results, Tryd.results74, go_sem, y0', y1', y2', y3']) rfl ⟨HFK.out, Q4.out.off HFO.out HFS.out (by omega) (by omega), HE1.out, _, _, _, _, _, _, rfl, ?_⟩
 have HRow : Bx (List.foldl World.alloc (W4.setCells (w.heap.size + 1) 0 [vi ki kd, .string ⟨#[]⟩, .slice (some ⟨W4.heap.size, 0, none⟩) 1 1, vi ki p.2.2]) [.cells #[vi ki k2, .string u2, .slice sq2 sn2 sc2, vi ki a2] 24]) (W4.heap.size) [vi ki k2, .string u2, .slice sq2 sn2 sc2, vi ki a2] := by
  have q := Bx.new (W4.setCells (w.heap.size + 1) 0 [vi ki kd, .string ⟨#[]⟩, .slice (some ⟨W4.heap.size, 0, none⟩) 1 1, vi ki p.2.2]) [vi ki k2, .string u2, .slice sq2 sn2 sc2, vi ki a2] 24
  rw [show (W4.setCells (w.heap.size + 1) 0 [vi ki kd, .string ⟨#[]⟩, .slice (some ⟨W4.heap.size, 0, none⟩) 1 1, vi ki p.2.2]).heap.size = W4.heap.size by simp [setCells_size]] at q
  exact q
 refine NdAt.row (ks := [m]) (by simp) (by simp) (by unfold maxLen; omega) (by (try simp); omega) HRow.1 (RwAt.one HRow ?_)
 exact HM3_4.out.off HFO.out HFS.out (fun c hc => ⟨by (try simp at hc ⊢); omega, by (try simp at hc); omega⟩)
end Go.Proofs.YtaoocecipacnhaaDoor
namespace Go.Proofs.YtaoocecipacnhaaDoor
def AlT (p q : Tk) : Prop := p.1 = q.1 ∧ p.2.1 = q.2.1
inductive F2 {α β : Type} (R : α → β → Prop) : List α → List β → Prop where
 | nil : F2 R [] []
 | cons {a : α} {b : β} {l : List α} {m : List β} (h : R a b) (hl : F2 R l m) : F2 R (a :: l) (b :: m)
theorem F2.snoc {α β : Type} {R : α → β → Prop} {l : List α} {m : List β} (h : F2 R l m) {x : α} {y : β} (hx : R x y) : F2 R (l ++ [x]) (m ++ [y]) := by
 induction h with
 | nil => exact .cons hx .nil
 | cons h1 h2 i => exact .cons h1 i
inductive AlN : Nd → Nd → Prop where
 | mk (k : Int) (t : ByteArray) (ks ls : List Nd) (a b : Int) (h : F2 AlN ks ls) : AlN (.mk k t ks a) (.mk k t ls b)
theorem AlN.leaf {k : Int} {t : ByteArray} {a b : Int} : AlN (.mk k t [] a) (.mk k t [] b) := .mk _ _ _ _ _ _ .nil
theorem AlN.one {k : Int} {t : ByteArray} {a b : Int} {n m : Nd} (h : AlN n m) : AlN (.mk k t [n] a) (.mk k t [m] b) := .mk _ _ _ _ _ _ (.cons h .nil)
theorem AlN.two {k : Int} {t : ByteArray} {a b : Int} {n m x y : Nd} (h : AlN n m) (h2 : AlN x y) : AlN (.mk k t [n, x] a) (.mk k t [m, y] b) := .mk _ _ _ _ _ _ (.cons h (.cons h2 .nil))
theorem AlN.ks {n m : Nd} (h : AlN n m) : F2 AlN n.ks m.ks := by cases h; assumption
inductive RL (c : Tk) (R : List Tk) : List Tk → List Tk → Prop where
 | last (e : Tk) (h : e.1 = 0) : RL c R [e] (c :: R)
 | cons (p q : Tk) (l m : List Tk) (hp : p.1 ≠ 0) (h : AlT p q) (hl : RL c R l m) : RL c R (p :: l) (q :: m)
def InR (c : Tk) (R : List Tk) (n : Nd) (l : List Tk) : PR → Prop
 | .ok n' l' => AlN n n' ∧ RL c R l l'
 | .no _ e => e = 31
theorem InR.case {c : Tk} {R : List Tk} {n : Nd} {l : List Tk} {r : PR} (h : InR c R n l r) : (∃ n' l', r = .ok n' l' ∧ AlN n n' ∧ RL c R l l') ∨ ∃ a, r = .no a 31 := by
 cases r with
 | ok n' l' => exact .inl ⟨n', l', rfl, h⟩
 | no a e => exact .inr ⟨a, by rw [show e = 31 from h]⟩
theorem tkOk_of {l : List Tk} (h : EndL l) : TkOk (fun _ => True) (fun _ => True) l := ⟨h, fun _ _ _ => trivial, fun _ _ => trivial⟩
theorem plT_any (g : Tg) : PlT (fun _ => True) g := by
 have A : ∀ n : Nd, PlN (fun _ => True) n := by
  intro n
  induction n using Nd.rec (motive_2 := fun l => ∀ n ∈ l, PlN (fun _ => True) n) with
  | mk k t ks a ih => exact .mk _ _ _ _ trivial ih
  | nil => contradiction
  | cons x l hx hl => rename_i n h; rcases List.mem_cons.1 h with rfl | h; exact hx; exact hl _ h
 cases g with
 | lv l => trivial
 | lp l n => exact A n
 | zs n => exact A n
 | cs n => exact A n
 | ks l => exact fun n _ => A n
theorem par_less {f : Nat} {g : Tg} {d : Nat} {l : List Tk} {n : Nd} {l1 : List Tk} (hg : okTg g) (hl : EndL l) (hf : need g l ≤ f) (h : par f g d l = .ok n l1) : EndL l1 ∧ l1.length ≤ most g l := by
 have q := par_good (fun _ => True) (fun _ => True) f g d l hg (tkOk_of hl) (plT_any g) hf
 rw [h] at q
 exact ⟨q.1, q.2.1⟩
end Go.Proofs.YtaoocecipacnhaaDoor
