import Derived.Test.YtaoocecipacnhaaDoorWz
import Derived.Test.YtaoocecipacnhaaDoorW9
open Go.Value renaming int → vi
open Go.IntKind renaming i64 → ki
open List renaming setIfInBounds_toArray → zb, set_cons_zero → zc, set_cons_succ → zd
open Go.Act renaming put → za
open Go.Ending renaming returned → zr
set_option maxRecDepth 100000
set_option maxHeartbeats 16000000
set_option linter.unusedVariables false
namespace Go.Proofs.YtaoocecipacnhaaDoor
open Go.RowKit
def innR : PR → PR
 | .no a e => .no a e
 | .ok n [] => .no 0 0
 | .ok n (q :: l1) => if isT q [(5, b1 41)] then .ok n l1 else .no q.2.2 30
theorem inner_no (g b cap : Nat) (T : List Tk) (L : List Tk) (d : Nat) (ea er : Int) (HC : Hid (∀ V : World, PS g b cap T V L d → Calls Tryd.prog 27 #[.pointer (some ⟨g, 0, none⟩)] V fun e w' => Kp g V w' ∧ Out g b cap T (fun c => V.heap.size ≤ c) w' d e (.no ea er))) (w : World) (h : PS g b cap T w L d) :
  Calls Tryd.prog 98 #[.pointer (some ⟨g, 0, none⟩)] w fun e w' => Kp g w w' ∧ Out g b cap T (fun c => w.heap.size ≤ c) w' d e (.no ea er) := by
 have HP : Hid _ := h
 have hg := h.lt
 have hbl := h.tr.1
 clear h
 go_enter Tryd.func98, Tryd.ntmps98
 go_wp2_with fail
 have B0 : Hid (BS w [(w.heap.size, [vi ki 0, .string ⟨#[]⟩, .slice none 0 0, vi ki 0])] _) := ((BS.start w).new [vi ki 0, .string ⟨#[]⟩, .slice none 0 0, vi ki 0] 24 rfl)
 refine (HC.out _ (HP.out.below B0.out.1)).mono ?_
 rintro e W1 ⟨hk, ho⟩
 have hz1 : w.heap.size + 1 ≤ W1.heap.size := by have := hk.size; (try simp at this); omega
 have K1 : Hid (Kp g w W1) := (Kp.of B0.out.1).trans hk
 have H1_0 : Hid (Bx W1 (w.heap.size) [vi ki 0, .string ⟨#[]⟩, .slice none 0 0, vi ki 0]) := hk.bx (B0.out.at (w.heap.size) [vi ki 0, .string ⟨#[]⟩, .slice none 0 0, vi ki 0] (by simp)) (by omega)
 clear B0
 obtain ⟨hf, rfl⟩ := ho
 have HF : Hid (PF g W1 d ea er) := hf
 clear hf hk
 have hl1_0 := H1_0.out.1
 obtain ⟨y0', y1', y2', y3', HFK, HFO, HFS, r0, r1, r2, r3, s0, s1, s2, s3, hrw'⟩ := fin8 [.cells #[vi ki 0, .string ⟨#[]⟩, .slice none 0 0, vi ki 0] 24] (vi ki 0) (.string ⟨#[]⟩) (.slice none 0 0) (vi ki 0) K1.out (by omega) (H1_0.out)
 simp only [List.foldl, World.setCells, Nat.zero_add, Nat.reduceAdd] at y0' y1' y2' y3'
 go_wp2
 refine bodyPost_ret (v := .tuple #[.agg #[vi ki 0, .string ⟨#[]⟩, .slice none 0 0, vi ki 0], .bool false]) (by simp [results, Tryd.results98, go_sem, y0', y1', y2', y3']) rfl ⟨HFK.out, PF.off HF.out HFO.out HFS.out (by omega), rfl⟩
theorem inner_bad (g b cap : Nat) (T : List Tk) (L : List Tk) (d : Nat) (n : Nd) (q : Tk) (l1 : List Tk) (hi : isT q [(5, b1 41)] = false) (HC : Hid (∀ V : World, PS g b cap T V L d → Calls Tryd.prog 27 #[.pointer (some ⟨g, 0, none⟩)] V fun e w' => Kp g V w' ∧ Out g b cap T (fun c => V.heap.size ≤ c) w' d e (.ok n (q :: l1)))) (w : World) (h : PS g b cap T w L d) :
  Calls Tryd.prog 98 #[.pointer (some ⟨g, 0, none⟩)] w fun e w' => Kp g w w' ∧ Out g b cap T (fun c => w.heap.size ≤ c) w' d e (.no q.2.2 30) := by
 have HP : Hid _ := h
 have hg := h.lt
 have hbl := h.tr.1
 clear h
 go_enter Tryd.func98, Tryd.ntmps98
 go_wp2_with fail
 have B0 : Hid (BS w [(w.heap.size, [vi ki 0, .string ⟨#[]⟩, .slice none 0 0, vi ki 0])] _) := ((BS.start w).new [vi ki 0, .string ⟨#[]⟩, .slice none 0 0, vi ki 0] 24 rfl)
 refine (HC.out _ (HP.out.below B0.out.1)).mono ?_
 rintro e W1 ⟨hk, ho⟩
 have hz1 : w.heap.size + 1 ≤ W1.heap.size := by have := hk.size; (try simp at this); omega
 have K1 : Hid (Kp g w W1) := (Kp.of B0.out.1).trans hk
 have H1_0 : Hid (Bx W1 (w.heap.size) [vi ki 0, .string ⟨#[]⟩, .slice none 0 0, vi ki 0]) := hk.bx (B0.out.at (w.heap.size) [vi ki 0, .string ⟨#[]⟩, .slice none 0 0, vi ki 0] (by simp)) (by omega)
 clear B0
 obtain ⟨hps, hend, k2, u2, sq2, sn2, sc2, a2, rfl, hnd⟩ := ho
 have HQ : Hid _ := hps
 have HE1 : Hid _ := hend
 have HM2 : Hid _ := hnd
 clear hps hend hnd hk
 have HM3 : Hid (NdAt (fun c => w.heap.size + 1 ≤ c) W1 n [vi ki k2, .string u2, .slice sq2 sn2 sc2, vi ki a2]) := NdAt.keep (Nat.le_refl _) (fun c hc _ => ⟨by (try simp at hc ⊢); omega, rfl⟩) _ _ HM2.out
 clear HM2
 have hl1_0 := H1_0.out.1
 obtain ⟨c1_0_0, c1_0_1, c1_0_2, c1_0_3⟩ := H1_0.out.d4
 go_wp2_with fail
 have B1 : Hid (BS W1 [(W1.heap.size, [vi ki k2, .string u2, .slice sq2 sn2 sc2, vi ki a2])] _) := ((BS.start W1).new [vi ki k2, .string u2, .slice sq2 sn2 sc2, vi ki a2] 24 rfl)
 refine (take_no g b cap T q l1 d 5 (b1 41) _ (HQ.out.below B1.out.1) hi).mono ?_
 rintro e W2 ⟨rfl, hk, hf⟩
 have hz2 : W1.heap.size + 1 ≤ W2.heap.size := by have := hk.size; (try simp at this); omega
 have K2 : Hid (Kp g w W2) := (K1.out.trans (Kp.of B1.out.1)).trans hk
 have H2_0 : Hid (Bx W2 (w.heap.size) [vi ki 0, .string ⟨#[]⟩, .slice none 0 0, vi ki 0]) := hk.bx (H1_0.out.below B1.out.1) (by omega)
 have H2_1 : Hid (Bx W2 (W1.heap.size) [vi ki k2, .string u2, .slice sq2 sn2 sc2, vi ki a2]) := hk.bx (B1.out.at (W1.heap.size) [vi ki k2, .string u2, .slice sq2 sn2 sc2, vi ki a2] (by simp)) (by omega)
 have HM3_2 : Hid (NdAt (fun c => w.heap.size + 1 ≤ c) W2 n [vi ki k2, .string u2, .slice sq2 sn2 sc2, vi ki a2]) := (HM3.out.kp (g := g) (Kp.of B1.out.1) (fun c hc => ⟨hc, by (try simp at hc); omega⟩)).kp hk (fun c hc => ⟨hc, by (try simp at hc); omega⟩)
 clear hl1_0 c1_0_0 c1_0_1 c1_0_2 c1_0_3 B1 H1_0 HM3 K1
 have HF : Hid (PF g W2 d q.2.2 30) := hf
 clear hf hk
 have hl2_0 := H2_0.out.1
 obtain ⟨y0', y1', y2', y3', HFK, HFO, HFS, r0, r1, r2, r3, s0, s1, s2, s3, hrw'⟩ := fin9 (vi ki 0) (.string ⟨#[]⟩) (.slice none 0 0) (vi ki 0) K2.out (by omega) (H2_0.out)
 go_wp2
 refine bodyPost_ret (v := .tuple #[.agg #[vi ki 0, .string ⟨#[]⟩, .slice none 0 0, vi ki 0], .bool false]) (by simp [results, Tryd.results98, go_sem, y0', y1', y2', y3']) rfl ⟨HFK.out, PF.off HF.out HFO.out HFS.out (by omega), rfl⟩
theorem inner_good (g b cap : Nat) (T : List Tk) (L : List Tk) (d : Nat) (n : Nd) (q y : Tk) (l1 : List Tk) (hi : isT q [(5, b1 41)] = true) (HEy : Hid (EndL (y :: l1))) (HC : Hid (∀ V : World, PS g b cap T V L d → Calls Tryd.prog 27 #[.pointer (some ⟨g, 0, none⟩)] V fun e w' => Kp g V w' ∧ Out g b cap T (fun c => V.heap.size ≤ c) w' d e (.ok n (q :: y :: l1)))) (w : World) (h : PS g b cap T w L d) :
  Calls Tryd.prog 98 #[.pointer (some ⟨g, 0, none⟩)] w fun e w' => Kp g w w' ∧ Out g b cap T (fun c => w.heap.size ≤ c) w' d e (.ok n (y :: l1)) := by
 have HP : Hid _ := h
 have hg := h.lt
 have hbl := h.tr.1
 clear h
 go_enter Tryd.func98, Tryd.ntmps98
 go_wp2_with fail
 have B0 : Hid (BS w [(w.heap.size, [vi ki 0, .string ⟨#[]⟩, .slice none 0 0, vi ki 0])] _) := ((BS.start w).new [vi ki 0, .string ⟨#[]⟩, .slice none 0 0, vi ki 0] 24 rfl)
 refine (HC.out _ (HP.out.below B0.out.1)).mono ?_
 rintro e W1 ⟨hk, ho⟩
 have hz1 : w.heap.size + 1 ≤ W1.heap.size := by have := hk.size; (try simp at this); omega
 have K1 : Hid (Kp g w W1) := (Kp.of B0.out.1).trans hk
 have H1_0 : Hid (Bx W1 (w.heap.size) [vi ki 0, .string ⟨#[]⟩, .slice none 0 0, vi ki 0]) := hk.bx (B0.out.at (w.heap.size) [vi ki 0, .string ⟨#[]⟩, .slice none 0 0, vi ki 0] (by simp)) (by omega)
 clear B0
 obtain ⟨hps, hend, k2, u2, sq2, sn2, sc2, a2, rfl, hnd⟩ := ho
 have HQ : Hid _ := hps
 have HE1 : Hid _ := hend
 have HM2 : Hid _ := hnd
 clear hps hend hnd hk
 have HM3 : Hid (NdAt (fun c => w.heap.size + 1 ≤ c) W1 n [vi ki k2, .string u2, .slice sq2 sn2 sc2, vi ki a2]) := NdAt.keep (Nat.le_refl _) (fun c hc _ => ⟨by (try simp at hc ⊢); omega, rfl⟩) _ _ HM2.out
 clear HM2
 have hl1_0 := H1_0.out.1
 obtain ⟨c1_0_0, c1_0_1, c1_0_2, c1_0_3⟩ := H1_0.out.d4
 go_wp2_with fail
 have B1 : Hid (BS W1 [(W1.heap.size, [vi ki k2, .string u2, .slice sq2 sn2 sc2, vi ki a2])] _) := ((BS.start W1).new [vi ki k2, .string u2, .slice sq2 sn2 sc2, vi ki a2] 24 rfl)
 refine (take_yes g b cap T q l1 d 5 (b1 41) _ y (HQ.out.below B1.out.1) hi).mono ?_
 rintro e W2 ⟨rfl, hk, hp⟩
 have hz2 : W1.heap.size + 1 ≤ W2.heap.size := by have := hk.size; (try simp at this); omega
 have K2 : Hid (Kp g w W2) := (K1.out.trans (Kp.of B1.out.1)).trans hk
 have H2_0 : Hid (Bx W2 (w.heap.size) [vi ki 0, .string ⟨#[]⟩, .slice none 0 0, vi ki 0]) := hk.bx (H1_0.out.below B1.out.1) (by omega)
 have H2_1 : Hid (Bx W2 (W1.heap.size) [vi ki k2, .string u2, .slice sq2 sn2 sc2, vi ki a2]) := hk.bx (B1.out.at (W1.heap.size) [vi ki k2, .string u2, .slice sq2 sn2 sc2, vi ki a2] (by simp)) (by omega)
 have HM3_2 : Hid (NdAt (fun c => w.heap.size + 1 ≤ c) W2 n [vi ki k2, .string u2, .slice sq2 sn2 sc2, vi ki a2]) := (HM3.out.kp (g := g) (Kp.of B1.out.1) (fun c hc => ⟨hc, by (try simp at hc); omega⟩)).kp hk (fun c hc => ⟨hc, by (try simp at hc); omega⟩)
 clear hl1_0 c1_0_0 c1_0_1 c1_0_2 c1_0_3 B1 H1_0 HM3 K1
 have Q2' : Hid _ := hp
 clear hp hk
 have hl2_0 := H2_0.out.1
 obtain ⟨c2_0_0, c2_0_1, c2_0_2, c2_0_3, z2_0_0, z2_0_1, z2_0_2, z2_0_3⟩ := H2_0.out.cf4
 have hl2_1 := H2_1.out.1
 obtain ⟨c2_1_0, c2_1_1, c2_1_2, c2_1_3⟩ := H2_1.out.d4
 obtain ⟨y0', y1', y2', y3', HFK, HFO, HFS, r0, r1, r2, r3, s0, s1, s2, s3, hrw'⟩ := fin9 (vi ki k2) (.string u2) (.slice sq2 sn2 sc2) (vi ki a2) K2.out (by omega) (H2_0.out)
 go_wp2
 refine bodyPost_ret (v := .tuple #[.agg #[vi ki k2, .string u2, .slice sq2 sn2 sc2, vi ki a2], .bool true]) (by simp [results, Tryd.results98, go_sem, y0', y1', y2', y3']) rfl ⟨HFK.out, Q2'.out.off HFO.out HFS.out (by omega) (by omega), HEy.out, _, _, _, _, _, _, rfl, HM3_2.out.off HFO.out HFS.out (fun c hc => ⟨by (try simp at hc ⊢); omega, by (try simp at hc); omega⟩)⟩
theorem whole_no (g b cap : Nat) (T : List Tk) (L : List Tk) (d : Nat) (ea er : Int) (HC : Hid (∀ V : World, PS g b cap T V L d → Calls Tryd.prog 27 #[.pointer (some ⟨g, 0, none⟩)] V fun e w' => Kp g V w' ∧ Out g b cap T (fun c => V.heap.size ≤ c) w' d e (.no ea er))) (w : World) (h : PS g b cap T w L d) :
  Calls Tryd.prog 15 #[.pointer (some ⟨g, 0, none⟩)] w fun e w' => Kp g w w' ∧ Out g b cap T (fun c => w.heap.size ≤ c) w' d e (.no ea er) := by
 have HP : Hid _ := h
 have hg := h.lt
 have hbl := h.tr.1
 clear h
 go_enter Tryd.func15, Tryd.ntmps15
 go_wp2_with fail
 have B0 : Hid (BS w [(w.heap.size, [vi ki 0, .string ⟨#[]⟩, .slice none 0 0, vi ki 0])] _) := ((BS.start w).new [vi ki 0, .string ⟨#[]⟩, .slice none 0 0, vi ki 0] 24 rfl)
 refine (HC.out _ (HP.out.below B0.out.1)).mono ?_
 rintro e W1 ⟨hk, ho⟩
 have hz1 : w.heap.size + 1 ≤ W1.heap.size := by have := hk.size; (try simp at this); omega
 have K1 : Hid (Kp g w W1) := (Kp.of B0.out.1).trans hk
 have H1_0 : Hid (Bx W1 (w.heap.size) [vi ki 0, .string ⟨#[]⟩, .slice none 0 0, vi ki 0]) := hk.bx (B0.out.at (w.heap.size) [vi ki 0, .string ⟨#[]⟩, .slice none 0 0, vi ki 0] (by simp)) (by omega)
 clear B0
 obtain ⟨hf, rfl⟩ := ho
 have HF : Hid (PF g W1 d ea er) := hf
 clear hf hk
 have hl1_0 := H1_0.out.1
 obtain ⟨y0', y1', y2', y3', HFK, HFO, HFS, r0, r1, r2, r3, s0, s1, s2, s3, hrw'⟩ := fin8 [.cells #[vi ki 0, .string ⟨#[]⟩, .slice none 0 0, vi ki 0] 24] (vi ki 0) (.string ⟨#[]⟩) (.slice none 0 0) (vi ki 0) K1.out (by omega) (H1_0.out)
 simp only [List.foldl, World.setCells, Nat.zero_add, Nat.reduceAdd] at y0' y1' y2' y3'
 go_wp2
 refine bodyPost_ret (v := .tuple #[.agg #[vi ki 0, .string ⟨#[]⟩, .slice none 0 0, vi ki 0], .bool false]) (by simp [results, Tryd.results15, go_sem, y0', y1', y2', y3']) rfl ⟨HFK.out, PF.off HF.out HFO.out HFS.out (by omega), rfl⟩
theorem whole_bad (g b cap : Nat) (T : List Tk) (L : List Tk) (d : Nat) (n : Nd) (q : Tk) (l1 : List Tk) (hi : isT q [(0, ⟨#[]⟩)] = false) (HC : Hid (∀ V : World, PS g b cap T V L d → Calls Tryd.prog 27 #[.pointer (some ⟨g, 0, none⟩)] V fun e w' => Kp g V w' ∧ Out g b cap T (fun c => V.heap.size ≤ c) w' d e (.ok n (q :: l1)))) (w : World) (h : PS g b cap T w L d) :
  Calls Tryd.prog 15 #[.pointer (some ⟨g, 0, none⟩)] w fun e w' => Kp g w w' ∧ Out g b cap T (fun c => w.heap.size ≤ c) w' d e (.no q.2.2 30) := by
 have HP : Hid _ := h
 have hg := h.lt
 have hbl := h.tr.1
 clear h
 go_enter Tryd.func15, Tryd.ntmps15
 go_wp2_with fail
 have B0 : Hid (BS w [(w.heap.size, [vi ki 0, .string ⟨#[]⟩, .slice none 0 0, vi ki 0])] _) := ((BS.start w).new [vi ki 0, .string ⟨#[]⟩, .slice none 0 0, vi ki 0] 24 rfl)
 refine (HC.out _ (HP.out.below B0.out.1)).mono ?_
 rintro e W1 ⟨hk, ho⟩
 have hz1 : w.heap.size + 1 ≤ W1.heap.size := by have := hk.size; (try simp at this); omega
 have K1 : Hid (Kp g w W1) := (Kp.of B0.out.1).trans hk
 have H1_0 : Hid (Bx W1 (w.heap.size) [vi ki 0, .string ⟨#[]⟩, .slice none 0 0, vi ki 0]) := hk.bx (B0.out.at (w.heap.size) [vi ki 0, .string ⟨#[]⟩, .slice none 0 0, vi ki 0] (by simp)) (by omega)
 clear B0
 obtain ⟨hps, hend, k2, u2, sq2, sn2, sc2, a2, rfl, hnd⟩ := ho
 have HQ : Hid _ := hps
 have HE1 : Hid _ := hend
 have HM2 : Hid _ := hnd
 clear hps hend hnd hk
 have HM3 : Hid (NdAt (fun c => w.heap.size + 1 ≤ c) W1 n [vi ki k2, .string u2, .slice sq2 sn2 sc2, vi ki a2]) := NdAt.keep (Nat.le_refl _) (fun c hc _ => ⟨by (try simp at hc ⊢); omega, rfl⟩) _ _ HM2.out
 clear HM2
 have hl1_0 := H1_0.out.1
 obtain ⟨c1_0_0, c1_0_1, c1_0_2, c1_0_3⟩ := H1_0.out.d4
 go_wp2_with fail
 have B1 : Hid (BS W1 [(W1.heap.size, [vi ki k2, .string u2, .slice sq2 sn2 sc2, vi ki a2])] _) := ((BS.start W1).new [vi ki k2, .string u2, .slice sq2 sn2 sc2, vi ki a2] 24 rfl)
 refine (take_no g b cap T q l1 d 0 ⟨#[]⟩ _ (HQ.out.below B1.out.1) hi).mono ?_
 rintro e W2 ⟨rfl, hk, hf⟩
 have hz2 : W1.heap.size + 1 ≤ W2.heap.size := by have := hk.size; (try simp at this); omega
 have K2 : Hid (Kp g w W2) := (K1.out.trans (Kp.of B1.out.1)).trans hk
 have H2_0 : Hid (Bx W2 (w.heap.size) [vi ki 0, .string ⟨#[]⟩, .slice none 0 0, vi ki 0]) := hk.bx (H1_0.out.below B1.out.1) (by omega)
 have H2_1 : Hid (Bx W2 (W1.heap.size) [vi ki k2, .string u2, .slice sq2 sn2 sc2, vi ki a2]) := hk.bx (B1.out.at (W1.heap.size) [vi ki k2, .string u2, .slice sq2 sn2 sc2, vi ki a2] (by simp)) (by omega)
 have HM3_2 : Hid (NdAt (fun c => w.heap.size + 1 ≤ c) W2 n [vi ki k2, .string u2, .slice sq2 sn2 sc2, vi ki a2]) := (HM3.out.kp (g := g) (Kp.of B1.out.1) (fun c hc => ⟨hc, by (try simp at hc); omega⟩)).kp hk (fun c hc => ⟨hc, by (try simp at hc); omega⟩)
 clear hl1_0 c1_0_0 c1_0_1 c1_0_2 c1_0_3 B1 H1_0 HM3 K1
 have HF : Hid (PF g W2 d q.2.2 30) := hf
 clear hf hk
 have hl2_0 := H2_0.out.1
 obtain ⟨y0', y1', y2', y3', HFK, HFO, HFS, r0, r1, r2, r3, s0, s1, s2, s3, hrw'⟩ := fin9 (vi ki 0) (.string ⟨#[]⟩) (.slice none 0 0) (vi ki 0) K2.out (by omega) (H2_0.out)
 go_wp2
 refine bodyPost_ret (v := .tuple #[.agg #[vi ki 0, .string ⟨#[]⟩, .slice none 0 0, vi ki 0], .bool false]) (by simp [results, Tryd.results15, go_sem, y0', y1', y2', y3']) rfl ⟨HFK.out, PF.off HF.out HFO.out HFS.out (by omega), rfl⟩
theorem whole_good (g b cap : Nat) (T : List Tk) (L : List Tk) (d : Nat) (n : Nd) (q : Tk) (hi : isT q [(0, ⟨#[]⟩)] = true) (HC : Hid (∀ V : World, PS g b cap T V L d → Calls Tryd.prog 27 #[.pointer (some ⟨g, 0, none⟩)] V fun e w' => Kp g V w' ∧ Out g b cap T (fun c => V.heap.size ≤ c) w' d e (.ok n [q]))) (w : World) (h : PS g b cap T w L d) :
  Calls Tryd.prog 15 #[.pointer (some ⟨g, 0, none⟩)] w fun e w' => Kp g w w' ∧ ∃ k t sq sn sc a, e = zr (.tuple #[.agg #[vi ki k, .string t, .slice sq sn sc, vi ki a], .bool true]) ∧ NdAt (fun c => w.heap.size ≤ c) w' n [vi ki k, .string t, .slice sq sn sc, vi ki a] := by
 have HP : Hid _ := h
 have hg := h.lt
 have hbl := h.tr.1
 clear h
 go_enter Tryd.func15, Tryd.ntmps15
 go_wp2_with fail
 have B0 : Hid (BS w [(w.heap.size, [vi ki 0, .string ⟨#[]⟩, .slice none 0 0, vi ki 0])] _) := ((BS.start w).new [vi ki 0, .string ⟨#[]⟩, .slice none 0 0, vi ki 0] 24 rfl)
 refine (HC.out _ (HP.out.below B0.out.1)).mono ?_
 rintro e W1 ⟨hk, ho⟩
 have hz1 : w.heap.size + 1 ≤ W1.heap.size := by have := hk.size; (try simp at this); omega
 have K1 : Hid (Kp g w W1) := (Kp.of B0.out.1).trans hk
 have H1_0 : Hid (Bx W1 (w.heap.size) [vi ki 0, .string ⟨#[]⟩, .slice none 0 0, vi ki 0]) := hk.bx (B0.out.at (w.heap.size) [vi ki 0, .string ⟨#[]⟩, .slice none 0 0, vi ki 0] (by simp)) (by omega)
 clear B0
 obtain ⟨hps, hend, k2, u2, sq2, sn2, sc2, a2, rfl, hnd⟩ := ho
 have HQ : Hid _ := hps
 have HE1 : Hid _ := hend
 have HM2 : Hid _ := hnd
 clear hps hend hnd hk
 have HM3 : Hid (NdAt (fun c => w.heap.size + 1 ≤ c) W1 n [vi ki k2, .string u2, .slice sq2 sn2 sc2, vi ki a2]) := NdAt.keep (Nat.le_refl _) (fun c hc _ => ⟨by (try simp at hc ⊢); omega, rfl⟩) _ _ HM2.out
 clear HM2
 have hl1_0 := H1_0.out.1
 obtain ⟨c1_0_0, c1_0_1, c1_0_2, c1_0_3⟩ := H1_0.out.d4
 go_wp2_with fail
 have B1 : Hid (BS W1 [(W1.heap.size, [vi ki k2, .string u2, .slice sq2 sn2 sc2, vi ki a2])] _) := ((BS.start W1).new [vi ki k2, .string u2, .slice sq2 sn2 sc2, vi ki a2] 24 rfl)
 refine (take_end g b cap T q [] d 0 ⟨#[]⟩ _ (HQ.out.below B1.out.1) hi).mono ?_
 rintro e W2 ⟨rfl, hk⟩
 have hz2 : W1.heap.size + 1 ≤ W2.heap.size := by have := hk.size; (try simp at this); omega
 have K2 : Hid (Kp g w W2) := (K1.out.trans (Kp.of B1.out.1)).trans hk
 have H2_0 : Hid (Bx W2 (w.heap.size) [vi ki 0, .string ⟨#[]⟩, .slice none 0 0, vi ki 0]) := hk.bx (H1_0.out.below B1.out.1) (by omega)
 have H2_1 : Hid (Bx W2 (W1.heap.size) [vi ki k2, .string u2, .slice sq2 sn2 sc2, vi ki a2]) := hk.bx (B1.out.at (W1.heap.size) [vi ki k2, .string u2, .slice sq2 sn2 sc2, vi ki a2] (by simp)) (by omega)
 have HM3_2 : Hid (NdAt (fun c => w.heap.size + 1 ≤ c) W2 n [vi ki k2, .string u2, .slice sq2 sn2 sc2, vi ki a2]) := (HM3.out.kp (g := g) (Kp.of B1.out.1) (fun c hc => ⟨hc, by (try simp at hc); omega⟩)).kp hk (fun c hc => ⟨hc, by (try simp at hc); omega⟩)
 clear hl1_0 c1_0_0 c1_0_1 c1_0_2 c1_0_3 B1 H1_0 HM3 K1
 clear hk
 have hl2_0 := H2_0.out.1
 obtain ⟨c2_0_0, c2_0_1, c2_0_2, c2_0_3, z2_0_0, z2_0_1, z2_0_2, z2_0_3⟩ := H2_0.out.cf4
 have hl2_1 := H2_1.out.1
 obtain ⟨c2_1_0, c2_1_1, c2_1_2, c2_1_3⟩ := H2_1.out.d4
 obtain ⟨y0', y1', y2', y3', HFK, HFO, HFS, r0, r1, r2, r3, s0, s1, s2, s3, hrw'⟩ := fin9 (vi ki k2) (.string u2) (.slice sq2 sn2 sc2) (vi ki a2) K2.out (by omega) (H2_0.out)
 go_wp2
 refine bodyPost_ret (v := .tuple #[.agg #[vi ki k2, .string u2, .slice sq2 sn2 sc2, vi ki a2], .bool true]) (by simp [results, Tryd.results15, go_sem, y0', y1', y2', y3']) rfl ⟨HFK.out, _, _, _, _, _, _, rfl, HM3_2.out.off HFO.out HFS.out (fun c hc => ⟨by (try simp at hc ⊢); omega, by (try simp at hc); omega⟩)⟩
theorem inner_any (g b cap : Nat) (T : List Tk) (N : Nat) (HM : LvOk g b cap T 27 0 N) (L : List Tk) (d f : Nat) (hL : EndL L) (hd : d ≤ 20) (hN : L.length ≤ N) (hf : need (.lv 0) L ≤ f) (w : World) (h : PS g b cap T w L d) :
  Calls Tryd.prog 98 #[.pointer (some ⟨g, 0, none⟩)] w fun e w' => Kp g w w' ∧ Out g b cap T (fun c => w.heap.size ≤ c) w' d e (innR (par f (.lv 0) d L)) := by
 have HC : ∀ V : World, PS g b cap T V L d → Calls Tryd.prog 27 #[.pointer (some ⟨g, 0, none⟩)] V fun e w' => Kp g V w' ∧ Out g b cap T (fun c => V.heap.size ≤ c) w' d e (par f (.lv 0) d L) := fun V hV => HM V L d f hV hL hd hN hf
 cases hr : par f (.lv 0) d L with
 | no ea er => rw [hr] at HC; exact inner_no g b cap T L d ea er HC w h
 | ok n l1 =>
  rw [hr] at HC
  have hl := (par_less (g := .lv 0) (by simp [okTg]) hL hf hr).1
  obtain ⟨q, l2, rfl⟩ := hl.cons
  unfold innR; dsimp only
  by_cases hi : isT q [(5, b1 41)] = true
  ·rw [if_pos hi]
   have hl2 := hl.tail (isT_kind hi (by simp))
   obtain ⟨y, l3, rfl⟩ := hl2.cons
   exact inner_good g b cap T L d n q y l3 hi hl2 HC w h
  ·rw [if_neg hi]
   exact inner_bad g b cap T L d n q l2 (by simpa using hi) HC w h
end Go.Proofs.YtaoocecipacnhaaDoor
