import Derived.Test.YtaoocecipacnhaaDoorWz
import Derived.Test.YtaoocecipacnhaaDoorW6
open Go.Value renaming int → vi
open Go.IntKind renaming i64 → ki
open List renaming setIfInBounds_toArray → zb, set_cons_zero → zc, set_cons_succ → zd
open Go.Act renaming put → za
open Go.Ending renaming returned → zr
set_option maxRecDepth 100000
set_option maxHeartbeats 16000000
set_option linter.unusedVariables false
namespace Go.Proofs.YtaoocecipacnhaaDoor
open Go.RowKit
theorem expr_lv (g b cap : Nat) (T : List Tk) (N : Nat) (HM : Hid (LvOk g b cap T 51 1 N)) : LvOk g b cap T 27 0 N := by
 intro w L d f h hL hd hN hf
 have HX : Hid (∀ (V : World) (bs : Nat), PS g b cap T V L d → Bx V bs [vi ki 4, .string ⟨#[111, 114]⟩] → bs ≠ g → Calls Tryd.prog 50 #[.pointer (some ⟨g, 0, none⟩), .func (.func 51) #[.pointer (some ⟨g, 0, none⟩)] #[], .slice (some ⟨bs, 0, none⟩) 1 1] V fun e w' => Kp g V w' ∧ Out g b cap T (fun c => V.heap.size ≤ c) w' d e (par f (.lv 0) d L)) := fun V bs h1 h2 h3 =>
  chain_any g b cap T 51 (enters_of Tryd.func51 (by kernel_rfl) rfl) 0 N (by omega) (sgs 0) (rfl : sgs 0 = sgs 0) (by decide) bs 1 (by omega) (by decide) HM V L d f h1 hL hd hN hf h2 h3
 clear HM
 cases hr : par f (.lv 0) d L with
 | ok n l1 =>
  rw [hr] at HX
  clear hr
  have HP : Hid _ := h
  have hg := h.lt
  have hbl := h.tr.1
  clear h
  go_enter Tryd.func27, Tryd.ntmps27
  go_wp2_with fail
  have B0 : Hid (BS w [(w.heap.size + 1, [vi ki 4, .string ⟨#[111, 114]⟩]), (w.heap.size, [vi ki 0, .string ⟨#[]⟩, .slice none 0 0, vi ki 0])] _) := (((BS.start w).new [vi ki 0, .string ⟨#[]⟩, .slice none 0 0, vi ki 0] 24 rfl).new [vi ki 4, .string ⟨#[111, 114]⟩] 79 (by simp))
  refine (HX.out _ (w.heap.size + 1) (HP.out.below B0.out.1) (B0.out.at (w.heap.size + 1) [vi ki 4, .string ⟨#[111, 114]⟩] (by simp)) (by omega)).mono ?_
  rintro e W1 ⟨hk, ho⟩
  have hz1 : w.heap.size + 2 ≤ W1.heap.size := by have := hk.size; (try simp at this); omega
  have K1 : Hid (Kp g w W1) := (Kp.of B0.out.1).trans hk
  have H1_0 : Hid (Bx W1 (w.heap.size) [vi ki 0, .string ⟨#[]⟩, .slice none 0 0, vi ki 0]) := hk.bx (B0.out.at (w.heap.size) [vi ki 0, .string ⟨#[]⟩, .slice none 0 0, vi ki 0] (by simp)) (by omega)
  have H1_1 : Hid (Bx W1 (w.heap.size + 1) [vi ki 4, .string ⟨#[111, 114]⟩]) := hk.bx (B0.out.at (w.heap.size + 1) [vi ki 4, .string ⟨#[111, 114]⟩] (by simp)) (by omega)
  clear B0
  obtain ⟨hps, hend, k2, u2, sq2, sn2, sc2, a2, rfl, hnd⟩ := ho
  have HQ : Hid _ := hps
  have HE1 : Hid _ := hend
  have HM2 : Hid _ := hnd
  clear hps hend hnd hk
  have hl1_0 := H1_0.out.1
  obtain ⟨y0', y1', y2', y3', HFK, HFO, HFS, r0, r1, r2, r3, s0, s1, s2, s3, hrw'⟩ := fin9 (vi ki k2) (.string u2) (.slice sq2 sn2 sc2) (vi ki a2) K1.out (by omega) (H1_0.out)
  go_wp2
  refine bodyPost_ret (v := .tuple #[.agg #[vi ki k2, .string u2, .slice sq2 sn2 sc2, vi ki a2], .bool true]) (by simp [results, Tryd.results27, go_sem, y0', y1', y2', y3']) rfl ⟨HFK.out, HQ.out.off HFO.out HFS.out (by omega) (by omega), HE1.out, _, _, _, _, _, _, rfl, HM2.out.off HFO.out HFS.out (fun c hc => ⟨by (try simp at hc ⊢); omega, by (try simp at hc); omega⟩)⟩
 | no ea er =>
  rw [hr] at HX
  clear hr
  have HP : Hid _ := h
  have hg := h.lt
  have hbl := h.tr.1
  clear h
  go_enter Tryd.func27, Tryd.ntmps27
  go_wp2_with fail
  have B0 : Hid (BS w [(w.heap.size + 1, [vi ki 4, .string ⟨#[111, 114]⟩]), (w.heap.size, [vi ki 0, .string ⟨#[]⟩, .slice none 0 0, vi ki 0])] _) := (((BS.start w).new [vi ki 0, .string ⟨#[]⟩, .slice none 0 0, vi ki 0] 24 rfl).new [vi ki 4, .string ⟨#[111, 114]⟩] 79 (by simp))
  refine (HX.out _ (w.heap.size + 1) (HP.out.below B0.out.1) (B0.out.at (w.heap.size + 1) [vi ki 4, .string ⟨#[111, 114]⟩] (by simp)) (by omega)).mono ?_
  rintro e W1 ⟨hk, ho⟩
  have hz1 : w.heap.size + 2 ≤ W1.heap.size := by have := hk.size; (try simp at this); omega
  have K1 : Hid (Kp g w W1) := (Kp.of B0.out.1).trans hk
  have H1_0 : Hid (Bx W1 (w.heap.size) [vi ki 0, .string ⟨#[]⟩, .slice none 0 0, vi ki 0]) := hk.bx (B0.out.at (w.heap.size) [vi ki 0, .string ⟨#[]⟩, .slice none 0 0, vi ki 0] (by simp)) (by omega)
  have H1_1 : Hid (Bx W1 (w.heap.size + 1) [vi ki 4, .string ⟨#[111, 114]⟩]) := hk.bx (B0.out.at (w.heap.size + 1) [vi ki 4, .string ⟨#[111, 114]⟩] (by simp)) (by omega)
  clear B0
  obtain ⟨hf, rfl⟩ := ho
  have HF : Hid (PF g W1 d ea er) := hf
  clear hf hk
  have hl1_0 := H1_0.out.1
  obtain ⟨y0', y1', y2', y3', HFK, HFO, HFS, r0, r1, r2, r3, s0, s1, s2, s3, hrw'⟩ := fin9 (vi ki 0) (.string ⟨#[]⟩) (.slice none 0 0) (vi ki 0) K1.out (by omega) (H1_0.out)
  go_wp2
  refine bodyPost_ret (v := .tuple #[.agg #[vi ki 0, .string ⟨#[]⟩, .slice none 0 0, vi ki 0], .bool false]) (by simp [results, Tryd.results27, go_sem, y0', y1', y2', y3']) rfl ⟨HFK.out, PF.off HF.out HFO.out HFS.out (by omega), rfl⟩
theorem and_lv (g b cap : Nat) (T : List Tk) (N : Nat) (HM : Hid (LvOk g b cap T 64 2 N)) : LvOk g b cap T 51 1 N := by
 intro w L d f h hL hd hN hf
 have HX : Hid (∀ (V : World) (bs : Nat), PS g b cap T V L d → Bx V bs [vi ki 4, .string ⟨#[97, 110, 100]⟩] → bs ≠ g → Calls Tryd.prog 50 #[.pointer (some ⟨g, 0, none⟩), .func (.func 64) #[.pointer (some ⟨g, 0, none⟩)] #[], .slice (some ⟨bs, 0, none⟩) 1 1] V fun e w' => Kp g V w' ∧ Out g b cap T (fun c => V.heap.size ≤ c) w' d e (par f (.lv 1) d L)) := fun V bs h1 h2 h3 =>
  chain_any g b cap T 64 (enters_of Tryd.func64 (by kernel_rfl) rfl) 1 N (by omega) (sgs 1) (rfl : sgs 1 = sgs 1) (by decide) bs 1 (by omega) (by decide) HM V L d f h1 hL hd hN hf h2 h3
 clear HM
 cases hr : par f (.lv 1) d L with
 | ok n l1 =>
  rw [hr] at HX
  clear hr
  have HP : Hid _ := h
  have hg := h.lt
  have hbl := h.tr.1
  clear h
  go_enter Tryd.func51, Tryd.ntmps51
  go_wp2_with fail
  have B0 : Hid (BS w [(w.heap.size + 1, [vi ki 4, .string ⟨#[97, 110, 100]⟩]), (w.heap.size, [vi ki 0, .string ⟨#[]⟩, .slice none 0 0, vi ki 0])] _) := (((BS.start w).new [vi ki 0, .string ⟨#[]⟩, .slice none 0 0, vi ki 0] 24 rfl).new [vi ki 4, .string ⟨#[97, 110, 100]⟩] 79 (by simp))
  refine (HX.out _ (w.heap.size + 1) (HP.out.below B0.out.1) (B0.out.at (w.heap.size + 1) [vi ki 4, .string ⟨#[97, 110, 100]⟩] (by simp)) (by omega)).mono ?_
  rintro e W1 ⟨hk, ho⟩
  have hz1 : w.heap.size + 2 ≤ W1.heap.size := by have := hk.size; (try simp at this); omega
  have K1 : Hid (Kp g w W1) := (Kp.of B0.out.1).trans hk
  have H1_0 : Hid (Bx W1 (w.heap.size) [vi ki 0, .string ⟨#[]⟩, .slice none 0 0, vi ki 0]) := hk.bx (B0.out.at (w.heap.size) [vi ki 0, .string ⟨#[]⟩, .slice none 0 0, vi ki 0] (by simp)) (by omega)
  have H1_1 : Hid (Bx W1 (w.heap.size + 1) [vi ki 4, .string ⟨#[97, 110, 100]⟩]) := hk.bx (B0.out.at (w.heap.size + 1) [vi ki 4, .string ⟨#[97, 110, 100]⟩] (by simp)) (by omega)
  clear B0
  obtain ⟨hps, hend, k2, u2, sq2, sn2, sc2, a2, rfl, hnd⟩ := ho
  have HQ : Hid _ := hps
  have HE1 : Hid _ := hend
  have HM2 : Hid _ := hnd
  clear hps hend hnd hk
  have hl1_0 := H1_0.out.1
  obtain ⟨y0', y1', y2', y3', HFK, HFO, HFS, r0, r1, r2, r3, s0, s1, s2, s3, hrw'⟩ := fin9 (vi ki k2) (.string u2) (.slice sq2 sn2 sc2) (vi ki a2) K1.out (by omega) (H1_0.out)
  go_wp2
  refine bodyPost_ret (v := .tuple #[.agg #[vi ki k2, .string u2, .slice sq2 sn2 sc2, vi ki a2], .bool true]) (by simp [results, Tryd.results51, go_sem, y0', y1', y2', y3']) rfl ⟨HFK.out, HQ.out.off HFO.out HFS.out (by omega) (by omega), HE1.out, _, _, _, _, _, _, rfl, HM2.out.off HFO.out HFS.out (fun c hc => ⟨by (try simp at hc ⊢); omega, by (try simp at hc); omega⟩)⟩
 | no ea er =>
  rw [hr] at HX
  clear hr
  have HP : Hid _ := h
  have hg := h.lt
  have hbl := h.tr.1
  clear h
  go_enter Tryd.func51, Tryd.ntmps51
  go_wp2_with fail
  have B0 : Hid (BS w [(w.heap.size + 1, [vi ki 4, .string ⟨#[97, 110, 100]⟩]), (w.heap.size, [vi ki 0, .string ⟨#[]⟩, .slice none 0 0, vi ki 0])] _) := (((BS.start w).new [vi ki 0, .string ⟨#[]⟩, .slice none 0 0, vi ki 0] 24 rfl).new [vi ki 4, .string ⟨#[97, 110, 100]⟩] 79 (by simp))
  refine (HX.out _ (w.heap.size + 1) (HP.out.below B0.out.1) (B0.out.at (w.heap.size + 1) [vi ki 4, .string ⟨#[97, 110, 100]⟩] (by simp)) (by omega)).mono ?_
  rintro e W1 ⟨hk, ho⟩
  have hz1 : w.heap.size + 2 ≤ W1.heap.size := by have := hk.size; (try simp at this); omega
  have K1 : Hid (Kp g w W1) := (Kp.of B0.out.1).trans hk
  have H1_0 : Hid (Bx W1 (w.heap.size) [vi ki 0, .string ⟨#[]⟩, .slice none 0 0, vi ki 0]) := hk.bx (B0.out.at (w.heap.size) [vi ki 0, .string ⟨#[]⟩, .slice none 0 0, vi ki 0] (by simp)) (by omega)
  have H1_1 : Hid (Bx W1 (w.heap.size + 1) [vi ki 4, .string ⟨#[97, 110, 100]⟩]) := hk.bx (B0.out.at (w.heap.size + 1) [vi ki 4, .string ⟨#[97, 110, 100]⟩] (by simp)) (by omega)
  clear B0
  obtain ⟨hf, rfl⟩ := ho
  have HF : Hid (PF g W1 d ea er) := hf
  clear hf hk
  have hl1_0 := H1_0.out.1
  obtain ⟨y0', y1', y2', y3', HFK, HFO, HFS, r0, r1, r2, r3, s0, s1, s2, s3, hrw'⟩ := fin9 (vi ki 0) (.string ⟨#[]⟩) (.slice none 0 0) (vi ki 0) K1.out (by omega) (H1_0.out)
  go_wp2
  refine bodyPost_ret (v := .tuple #[.agg #[vi ki 0, .string ⟨#[]⟩, .slice none 0 0, vi ki 0], .bool false]) (by simp [results, Tryd.results51, go_sem, y0', y1', y2', y3']) rfl ⟨HFK.out, PF.off HF.out HFO.out HFS.out (by omega), rfl⟩
theorem sum_lv (g b cap : Nat) (T : List Tk) (N : Nat) (HM : Hid (LvOk g b cap T 89 5 N)) : LvOk g b cap T 83 4 N := by
 intro w L d f h hL hd hN hf
 have HX : Hid (∀ (V : World) (bs : Nat), PS g b cap T V L d → Bx V bs [vi ki 5, .string ⟨#[43]⟩, vi ki 5, .string ⟨#[45]⟩] → bs ≠ g → Calls Tryd.prog 50 #[.pointer (some ⟨g, 0, none⟩), .func (.func 89) #[.pointer (some ⟨g, 0, none⟩)] #[], .slice (some ⟨bs, 0, none⟩) 2 2] V fun e w' => Kp g V w' ∧ Out g b cap T (fun c => V.heap.size ≤ c) w' d e (par f (.lv 4) d L)) := fun V bs h1 h2 h3 =>
  chain_any g b cap T 89 (enters_of Tryd.func89 (by kernel_rfl) rfl) 4 N (by omega) (sgs 4) (rfl : sgs 4 = sgs 4) (by decide) bs 2 (by omega) (by decide) HM V L d f h1 hL hd hN hf h2 h3
 clear HM
 cases hr : par f (.lv 4) d L with
 | ok n l1 =>
  rw [hr] at HX
  clear hr
  have HP : Hid _ := h
  have hg := h.lt
  have hbl := h.tr.1
  clear h
  go_enter Tryd.func83, Tryd.ntmps83
  go_wp2_with fail
  have B0 : Hid (BS w [(w.heap.size + 1, [vi ki 5, .string ⟨#[43]⟩, vi ki 5, .string ⟨#[45]⟩]), (w.heap.size, [vi ki 0, .string ⟨#[]⟩, .slice none 0 0, vi ki 0])] _) := (((BS.start w).new [vi ki 0, .string ⟨#[]⟩, .slice none 0 0, vi ki 0] 24 rfl).new [vi ki 5, .string ⟨#[43]⟩, vi ki 5, .string ⟨#[45]⟩] 79 (by simp))
  refine (HX.out _ (w.heap.size + 1) (HP.out.below B0.out.1) (B0.out.at (w.heap.size + 1) [vi ki 5, .string ⟨#[43]⟩, vi ki 5, .string ⟨#[45]⟩] (by simp)) (by omega)).mono ?_
  rintro e W1 ⟨hk, ho⟩
  have hz1 : w.heap.size + 2 ≤ W1.heap.size := by have := hk.size; (try simp at this); omega
  have K1 : Hid (Kp g w W1) := (Kp.of B0.out.1).trans hk
  have H1_0 : Hid (Bx W1 (w.heap.size) [vi ki 0, .string ⟨#[]⟩, .slice none 0 0, vi ki 0]) := hk.bx (B0.out.at (w.heap.size) [vi ki 0, .string ⟨#[]⟩, .slice none 0 0, vi ki 0] (by simp)) (by omega)
  have H1_1 : Hid (Bx W1 (w.heap.size + 1) [vi ki 5, .string ⟨#[43]⟩, vi ki 5, .string ⟨#[45]⟩]) := hk.bx (B0.out.at (w.heap.size + 1) [vi ki 5, .string ⟨#[43]⟩, vi ki 5, .string ⟨#[45]⟩] (by simp)) (by omega)
  clear B0
  obtain ⟨hps, hend, k2, u2, sq2, sn2, sc2, a2, rfl, hnd⟩ := ho
  have HQ : Hid _ := hps
  have HE1 : Hid _ := hend
  have HM2 : Hid _ := hnd
  clear hps hend hnd hk
  have hl1_0 := H1_0.out.1
  obtain ⟨y0', y1', y2', y3', HFK, HFO, HFS, r0, r1, r2, r3, s0, s1, s2, s3, hrw'⟩ := fin9 (vi ki k2) (.string u2) (.slice sq2 sn2 sc2) (vi ki a2) K1.out (by omega) (H1_0.out)
  go_wp2
  refine bodyPost_ret (v := .tuple #[.agg #[vi ki k2, .string u2, .slice sq2 sn2 sc2, vi ki a2], .bool true]) (by simp [results, Tryd.results83, go_sem, y0', y1', y2', y3']) rfl ⟨HFK.out, HQ.out.off HFO.out HFS.out (by omega) (by omega), HE1.out, _, _, _, _, _, _, rfl, HM2.out.off HFO.out HFS.out (fun c hc => ⟨by (try simp at hc ⊢); omega, by (try simp at hc); omega⟩)⟩
 | no ea er =>
  rw [hr] at HX
  clear hr
  have HP : Hid _ := h
  have hg := h.lt
  have hbl := h.tr.1
  clear h
  go_enter Tryd.func83, Tryd.ntmps83
  go_wp2_with fail
  have B0 : Hid (BS w [(w.heap.size + 1, [vi ki 5, .string ⟨#[43]⟩, vi ki 5, .string ⟨#[45]⟩]), (w.heap.size, [vi ki 0, .string ⟨#[]⟩, .slice none 0 0, vi ki 0])] _) := (((BS.start w).new [vi ki 0, .string ⟨#[]⟩, .slice none 0 0, vi ki 0] 24 rfl).new [vi ki 5, .string ⟨#[43]⟩, vi ki 5, .string ⟨#[45]⟩] 79 (by simp))
  refine (HX.out _ (w.heap.size + 1) (HP.out.below B0.out.1) (B0.out.at (w.heap.size + 1) [vi ki 5, .string ⟨#[43]⟩, vi ki 5, .string ⟨#[45]⟩] (by simp)) (by omega)).mono ?_
  rintro e W1 ⟨hk, ho⟩
  have hz1 : w.heap.size + 2 ≤ W1.heap.size := by have := hk.size; (try simp at this); omega
  have K1 : Hid (Kp g w W1) := (Kp.of B0.out.1).trans hk
  have H1_0 : Hid (Bx W1 (w.heap.size) [vi ki 0, .string ⟨#[]⟩, .slice none 0 0, vi ki 0]) := hk.bx (B0.out.at (w.heap.size) [vi ki 0, .string ⟨#[]⟩, .slice none 0 0, vi ki 0] (by simp)) (by omega)
  have H1_1 : Hid (Bx W1 (w.heap.size + 1) [vi ki 5, .string ⟨#[43]⟩, vi ki 5, .string ⟨#[45]⟩]) := hk.bx (B0.out.at (w.heap.size + 1) [vi ki 5, .string ⟨#[43]⟩, vi ki 5, .string ⟨#[45]⟩] (by simp)) (by omega)
  clear B0
  obtain ⟨hf, rfl⟩ := ho
  have HF : Hid (PF g W1 d ea er) := hf
  clear hf hk
  have hl1_0 := H1_0.out.1
  obtain ⟨y0', y1', y2', y3', HFK, HFO, HFS, r0, r1, r2, r3, s0, s1, s2, s3, hrw'⟩ := fin9 (vi ki 0) (.string ⟨#[]⟩) (.slice none 0 0) (vi ki 0) K1.out (by omega) (H1_0.out)
  go_wp2
  refine bodyPost_ret (v := .tuple #[.agg #[vi ki 0, .string ⟨#[]⟩, .slice none 0 0, vi ki 0], .bool false]) (by simp [results, Tryd.results83, go_sem, y0', y1', y2', y3']) rfl ⟨HFK.out, PF.off HF.out HFO.out HFS.out (by omega), rfl⟩
theorem term_lv (g b cap : Nat) (T : List Tk) (N : Nat) (HM : Hid (LvOk g b cap T 92 6 N)) : LvOk g b cap T 89 5 N := by
 intro w L d f h hL hd hN hf
 have HX : Hid (∀ (V : World) (bs : Nat), PS g b cap T V L d → Bx V bs [vi ki 5, .string ⟨#[42]⟩, vi ki 5, .string ⟨#[47]⟩, vi ki 5, .string ⟨#[37]⟩] → bs ≠ g → Calls Tryd.prog 50 #[.pointer (some ⟨g, 0, none⟩), .func (.func 92) #[.pointer (some ⟨g, 0, none⟩)] #[], .slice (some ⟨bs, 0, none⟩) 3 3] V fun e w' => Kp g V w' ∧ Out g b cap T (fun c => V.heap.size ≤ c) w' d e (par f (.lv 5) d L)) := fun V bs h1 h2 h3 =>
  chain_any g b cap T 92 (enters_of Tryd.func92 (by kernel_rfl) rfl) 5 N (by omega) (sgs 5) (rfl : sgs 5 = sgs 5) (by decide) bs 3 (by omega) (by decide) HM V L d f h1 hL hd hN hf h2 h3
 clear HM
 cases hr : par f (.lv 5) d L with
 | ok n l1 =>
  rw [hr] at HX
  clear hr
  have HP : Hid _ := h
  have hg := h.lt
  have hbl := h.tr.1
  clear h
  go_enter Tryd.func89, Tryd.ntmps89
  go_wp2_with fail
  have B0 : Hid (BS w [(w.heap.size + 1, [vi ki 5, .string ⟨#[42]⟩, vi ki 5, .string ⟨#[47]⟩, vi ki 5, .string ⟨#[37]⟩]), (w.heap.size, [vi ki 0, .string ⟨#[]⟩, .slice none 0 0, vi ki 0])] _) := (((BS.start w).new [vi ki 0, .string ⟨#[]⟩, .slice none 0 0, vi ki 0] 24 rfl).new [vi ki 5, .string ⟨#[42]⟩, vi ki 5, .string ⟨#[47]⟩, vi ki 5, .string ⟨#[37]⟩] 79 (by simp))
  refine (HX.out _ (w.heap.size + 1) (HP.out.below B0.out.1) (B0.out.at (w.heap.size + 1) [vi ki 5, .string ⟨#[42]⟩, vi ki 5, .string ⟨#[47]⟩, vi ki 5, .string ⟨#[37]⟩] (by simp)) (by omega)).mono ?_
  rintro e W1 ⟨hk, ho⟩
  have hz1 : w.heap.size + 2 ≤ W1.heap.size := by have := hk.size; (try simp at this); omega
  have K1 : Hid (Kp g w W1) := (Kp.of B0.out.1).trans hk
  have H1_0 : Hid (Bx W1 (w.heap.size) [vi ki 0, .string ⟨#[]⟩, .slice none 0 0, vi ki 0]) := hk.bx (B0.out.at (w.heap.size) [vi ki 0, .string ⟨#[]⟩, .slice none 0 0, vi ki 0] (by simp)) (by omega)
  have H1_1 : Hid (Bx W1 (w.heap.size + 1) [vi ki 5, .string ⟨#[42]⟩, vi ki 5, .string ⟨#[47]⟩, vi ki 5, .string ⟨#[37]⟩]) := hk.bx (B0.out.at (w.heap.size + 1) [vi ki 5, .string ⟨#[42]⟩, vi ki 5, .string ⟨#[47]⟩, vi ki 5, .string ⟨#[37]⟩] (by simp)) (by omega)
  clear B0
  obtain ⟨hps, hend, k2, u2, sq2, sn2, sc2, a2, rfl, hnd⟩ := ho
  have HQ : Hid _ := hps
  have HE1 : Hid _ := hend
  have HM2 : Hid _ := hnd
  clear hps hend hnd hk
  have hl1_0 := H1_0.out.1
  obtain ⟨y0', y1', y2', y3', HFK, HFO, HFS, r0, r1, r2, r3, s0, s1, s2, s3, hrw'⟩ := fin9 (vi ki k2) (.string u2) (.slice sq2 sn2 sc2) (vi ki a2) K1.out (by omega) (H1_0.out)
  go_wp2
  refine bodyPost_ret (v := .tuple #[.agg #[vi ki k2, .string u2, .slice sq2 sn2 sc2, vi ki a2], .bool true]) (by simp [results, Tryd.results89, go_sem, y0', y1', y2', y3']) rfl ⟨HFK.out, HQ.out.off HFO.out HFS.out (by omega) (by omega), HE1.out, _, _, _, _, _, _, rfl, HM2.out.off HFO.out HFS.out (fun c hc => ⟨by (try simp at hc ⊢); omega, by (try simp at hc); omega⟩)⟩
 | no ea er =>
  rw [hr] at HX
  clear hr
  have HP : Hid _ := h
  have hg := h.lt
  have hbl := h.tr.1
  clear h
  go_enter Tryd.func89, Tryd.ntmps89
  go_wp2_with fail
  have B0 : Hid (BS w [(w.heap.size + 1, [vi ki 5, .string ⟨#[42]⟩, vi ki 5, .string ⟨#[47]⟩, vi ki 5, .string ⟨#[37]⟩]), (w.heap.size, [vi ki 0, .string ⟨#[]⟩, .slice none 0 0, vi ki 0])] _) := (((BS.start w).new [vi ki 0, .string ⟨#[]⟩, .slice none 0 0, vi ki 0] 24 rfl).new [vi ki 5, .string ⟨#[42]⟩, vi ki 5, .string ⟨#[47]⟩, vi ki 5, .string ⟨#[37]⟩] 79 (by simp))
  refine (HX.out _ (w.heap.size + 1) (HP.out.below B0.out.1) (B0.out.at (w.heap.size + 1) [vi ki 5, .string ⟨#[42]⟩, vi ki 5, .string ⟨#[47]⟩, vi ki 5, .string ⟨#[37]⟩] (by simp)) (by omega)).mono ?_
  rintro e W1 ⟨hk, ho⟩
  have hz1 : w.heap.size + 2 ≤ W1.heap.size := by have := hk.size; (try simp at this); omega
  have K1 : Hid (Kp g w W1) := (Kp.of B0.out.1).trans hk
  have H1_0 : Hid (Bx W1 (w.heap.size) [vi ki 0, .string ⟨#[]⟩, .slice none 0 0, vi ki 0]) := hk.bx (B0.out.at (w.heap.size) [vi ki 0, .string ⟨#[]⟩, .slice none 0 0, vi ki 0] (by simp)) (by omega)
  have H1_1 : Hid (Bx W1 (w.heap.size + 1) [vi ki 5, .string ⟨#[42]⟩, vi ki 5, .string ⟨#[47]⟩, vi ki 5, .string ⟨#[37]⟩]) := hk.bx (B0.out.at (w.heap.size + 1) [vi ki 5, .string ⟨#[42]⟩, vi ki 5, .string ⟨#[47]⟩, vi ki 5, .string ⟨#[37]⟩] (by simp)) (by omega)
  clear B0
  obtain ⟨hf, rfl⟩ := ho
  have HF : Hid (PF g W1 d ea er) := hf
  clear hf hk
  have hl1_0 := H1_0.out.1
  obtain ⟨y0', y1', y2', y3', HFK, HFO, HFS, r0, r1, r2, r3, s0, s1, s2, s3, hrw'⟩ := fin9 (vi ki 0) (.string ⟨#[]⟩) (.slice none 0 0) (vi ki 0) K1.out (by omega) (H1_0.out)
  go_wp2
  refine bodyPost_ret (v := .tuple #[.agg #[vi ki 0, .string ⟨#[]⟩, .slice none 0 0, vi ki 0], .bool false]) (by simp [results, Tryd.results89, go_sem, y0', y1', y2', y3']) rfl ⟨HFK.out, PF.off HF.out HFO.out HFS.out (by omega), rfl⟩
theorem not_lv (g b cap : Nat) (T : List Tk) (N : Nat) (HM : Hid (LvOk g b cap T 75 3 (N + 1))) (HS : Hid (LvOk g b cap T 64 2 N)) : LvOk g b cap T 64 2 (N + 1) := by
 intro w L d f h hL hd hN hf
 obtain ⟨p, l, rfl⟩ := hL.cons
 obtain ⟨f, rfl⟩ : ∃ f', f = f' + 1 := ⟨f - 1, by simp only [need, List.length_cons] at hf; omega⟩
 simp only [need, List.length_cons] at hf hN
 have HX : Hid (∀ (V : World), PS g b cap T V (p :: l) d → Calls Tryd.prog 74 #[.pointer (some ⟨g, 0, none⟩), .agg #[vi ki 4, .string ⟨#[110, 111, 116]⟩], vi ki 7, .func (.func 64) #[.pointer (some ⟨g, 0, none⟩)] #[], .func (.func 75) #[.pointer (some ⟨g, 0, none⟩)] #[]] V fun e w' => Kp g V w' ∧ Out g b cap T (fun c => V.heap.size ≤ c) w' d e (par (f + 1) (.lv 2) d (p :: l))) := by
  intro V hV
  have eP : par (f + 1) (.lv 2) d (p :: l) = if isT p [(4, notB)] then (if d = 20 then PR.no p.2.2 31 else match par f (.lv 2) (d + 1) l with | .ok n l1 => .ok (.mk 7 ByteArray.empty [n] p.2.2) l1 | .no a e => .no a e) else par f (.lv 3) d (p :: l) := by
   rw [par_succ]; unfold pst; dsimp only
   rw [if_pos rfl]
   by_cases hi : isT p [(4, notB)] = true
   ·rw [if_pos hi, if_pos hi]; cases par f (.lv 2) (d + 1) l <;> rfl
   ·rw [if_neg hi, if_neg hi]
  rw [eP]
  by_cases hi : isT p [(4, notB)] = true
  ·rw [if_pos hi]
   have hk0 := isT_kind hi (by simp)
   have hE := hL.tail hk0
   obtain ⟨q, l2, rfl⟩ := hE.cons
   by_cases h20 : d = 20
   ·subst h20
    rw [if_pos rfl]
    exact ahead_full g b cap T _ _ (enters_of Tryd.func64 (by kernel_rfl) rfl) (enters_of Tryd.func75 (by kernel_rfl) rfl) p l2 4 _ 7 q hi V hV
   ·rw [if_neg h20]
    simp only [List.length_cons] at hf hN
    have HC : ∀ V : World, PS g b cap T V (q :: l2) (d + 1) → Calls Tryd.prog 64 #[.pointer (some ⟨g, 0, none⟩)] V fun e w' => Kp g V w' ∧ Out g b cap T (fun c => V.heap.size ≤ c) w' (d + 1) e (par f (.lv 2) (d + 1) (q :: l2)) := fun V hV => HS.out V _ (d + 1) f hV hE (by omega) (by simp only [List.length_cons]; omega) (by simp only [need, List.length_cons]; omega)
    cases hr : par f (.lv 2) (d + 1) (q :: l2) with
    | ok m l1 => rw [hr] at HC; exact ahead_ok g b cap T _ _ (enters_of Tryd.func64 (by kernel_rfl) rfl) (enters_of Tryd.func75 (by kernel_rfl) rfl) p l2 d 4 _ 7 q (by omega) m l1 hi HC V hV
    | no ea er => rw [hr] at HC; exact ahead_no g b cap T _ _ (enters_of Tryd.func64 (by kernel_rfl) rfl) (enters_of Tryd.func75 (by kernel_rfl) rfl) p l2 d 4 _ 7 q (by omega) ea er hi HC V hV
  ·rw [if_neg hi]
   rw [Bool.not_eq_true] at hi
   have HC : ∀ V : World, PS g b cap T V (p :: l) d → Calls Tryd.prog 75 #[.pointer (some ⟨g, 0, none⟩)] V fun e w' => Kp g V w' ∧ Out g b cap T (fun c => V.heap.size ≤ c) w' d e (par f (.lv 3) d (p :: l)) := fun V hV => HM.out V _ d f hV hL hd (by simp only [List.length_cons]; omega) (by simp only [need, List.length_cons]; omega)
   cases hr : par f (.lv 3) d (p :: l) with
   | ok m l1 => rw [hr] at HC; exact ahead_other_ok g b cap T _ _ (enters_of Tryd.func64 (by kernel_rfl) rfl) (enters_of Tryd.func75 (by kernel_rfl) rfl) p l d 4 _ 7 m l1 hi HC V hV
   | no ea er => rw [hr] at HC; exact ahead_other_no g b cap T _ _ (enters_of Tryd.func64 (by kernel_rfl) rfl) (enters_of Tryd.func75 (by kernel_rfl) rfl) p l d 4 _ 7 ea er hi HC V hV
 clear HM HS
 cases hr : par (f + 1) (.lv 2) d (p :: l) with
 | ok n l1 =>
  rw [hr] at HX
  clear hr
  have HP : Hid _ := h
  have hg := h.lt
  have hbl := h.tr.1
  clear h
  go_enter Tryd.func64, Tryd.ntmps64
  go_wp2_with fail
  have B0 : Hid (BS w [(w.heap.size, [vi ki 0, .string ⟨#[]⟩, .slice none 0 0, vi ki 0])] _) := ((BS.start w).new [vi ki 0, .string ⟨#[]⟩, .slice none 0 0, vi ki 0] 24 rfl)
  refine (HX.out _ (HP.out.below B0.out.1)).mono ?_
  rintro e W1 ⟨hk, ho⟩
  have hz1 : w.heap.size + 1 ≤ W1.heap.size := by have := hk.size; (try simp at this); omega
  have K1 : Hid (Kp g w W1) := (Kp.of B0.out.1).trans hk
  have H1_0 : Hid (Bx W1 (w.heap.size) [vi ki 0, .string ⟨#[]⟩, .slice none 0 0, vi ki 0]) := hk.bx (B0.out.at (w.heap.size) [vi ki 0, .string ⟨#[]⟩, .slice none 0 0, vi ki 0] (by simp)) (by omega)
  clear B0
  obtain ⟨hps, hend, k2, u2, sq2, sn2, sc2, a2, rfl, hnd⟩ := ho
  have HQ : Hid _ := hps
  have HE1 : Hid _ := hend
  have HM2 : Hid _ := hnd
  clear hps hend hnd hk
  have hl1_0 := H1_0.out.1
  obtain ⟨y0', y1', y2', y3', HFK, HFO, HFS, r0, r1, r2, r3, s0, s1, s2, s3, hrw'⟩ := fin9 (vi ki k2) (.string u2) (.slice sq2 sn2 sc2) (vi ki a2) K1.out (by omega) (H1_0.out)
  go_wp2
  refine bodyPost_ret (v := .tuple #[.agg #[vi ki k2, .string u2, .slice sq2 sn2 sc2, vi ki a2], .bool true]) (by simp [results, Tryd.results64, go_sem, y0', y1', y2', y3']) rfl ⟨HFK.out, HQ.out.off HFO.out HFS.out (by omega) (by omega), HE1.out, _, _, _, _, _, _, rfl, HM2.out.off HFO.out HFS.out (fun c hc => ⟨by (try simp at hc ⊢); omega, by (try simp at hc); omega⟩)⟩
 | no ea er =>
  rw [hr] at HX
  clear hr
  have HP : Hid _ := h
  have hg := h.lt
  have hbl := h.tr.1
  clear h
  go_enter Tryd.func64, Tryd.ntmps64
  go_wp2_with fail
  have B0 : Hid (BS w [(w.heap.size, [vi ki 0, .string ⟨#[]⟩, .slice none 0 0, vi ki 0])] _) := ((BS.start w).new [vi ki 0, .string ⟨#[]⟩, .slice none 0 0, vi ki 0] 24 rfl)
  refine (HX.out _ (HP.out.below B0.out.1)).mono ?_
  rintro e W1 ⟨hk, ho⟩
  have hz1 : w.heap.size + 1 ≤ W1.heap.size := by have := hk.size; (try simp at this); omega
  have K1 : Hid (Kp g w W1) := (Kp.of B0.out.1).trans hk
  have H1_0 : Hid (Bx W1 (w.heap.size) [vi ki 0, .string ⟨#[]⟩, .slice none 0 0, vi ki 0]) := hk.bx (B0.out.at (w.heap.size) [vi ki 0, .string ⟨#[]⟩, .slice none 0 0, vi ki 0] (by simp)) (by omega)
  clear B0
  obtain ⟨hf, rfl⟩ := ho
  have HF : Hid (PF g W1 d ea er) := hf
  clear hf hk
  have hl1_0 := H1_0.out.1
  obtain ⟨y0', y1', y2', y3', HFK, HFO, HFS, r0, r1, r2, r3, s0, s1, s2, s3, hrw'⟩ := fin9 (vi ki 0) (.string ⟨#[]⟩) (.slice none 0 0) (vi ki 0) K1.out (by omega) (H1_0.out)
  go_wp2
  refine bodyPost_ret (v := .tuple #[.agg #[vi ki 0, .string ⟨#[]⟩, .slice none 0 0, vi ki 0], .bool false]) (by simp [results, Tryd.results64, go_sem, y0', y1', y2', y3']) rfl ⟨HFK.out, PF.off HF.out HFO.out HFS.out (by omega), rfl⟩
theorem unary_lv (g b cap : Nat) (T : List Tk) (N : Nat) (HM : Hid (LvOk g b cap T 93 7 (N + 1))) (HS : Hid (LvOk g b cap T 92 6 N)) : LvOk g b cap T 92 6 (N + 1) := by
 intro w L d f h hL hd hN hf
 obtain ⟨p, l, rfl⟩ := hL.cons
 obtain ⟨f, rfl⟩ : ∃ f', f = f' + 1 := ⟨f - 1, by simp only [need, List.length_cons] at hf; omega⟩
 simp only [need, List.length_cons] at hf hN
 have HX : Hid (∀ (V : World), PS g b cap T V (p :: l) d → Calls Tryd.prog 74 #[.pointer (some ⟨g, 0, none⟩), .agg #[vi ki 5, .string ⟨#[45]⟩], vi ki 6, .func (.func 92) #[.pointer (some ⟨g, 0, none⟩)] #[], .func (.func 93) #[.pointer (some ⟨g, 0, none⟩)] #[]] V fun e w' => Kp g V w' ∧ Out g b cap T (fun c => V.heap.size ≤ c) w' d e (par (f + 1) (.lv 6) d (p :: l))) := by
  intro V hV
  have eP : par (f + 1) (.lv 6) d (p :: l) = if isT p [(5, b1 45)] then (if d = 20 then PR.no p.2.2 31 else match par f (.lv 6) (d + 1) l with | .ok n l1 => .ok (.mk 6 ByteArray.empty [n] p.2.2) l1 | .no a e => .no a e) else par f (.lv 7) d (p :: l) := by
   rw [par_succ]; unfold pst; dsimp only
   rw [if_neg (by omega), if_pos rfl]
   by_cases hi : isT p [(5, b1 45)] = true
   ·rw [if_pos hi, if_pos hi]; cases par f (.lv 6) (d + 1) l <;> rfl
   ·rw [if_neg hi, if_neg hi]
  rw [eP]
  by_cases hi : isT p [(5, b1 45)] = true
  ·rw [if_pos hi]
   have hk0 := isT_kind hi (by simp)
   have hE := hL.tail hk0
   obtain ⟨q, l2, rfl⟩ := hE.cons
   by_cases h20 : d = 20
   ·subst h20
    rw [if_pos rfl]
    exact ahead_full g b cap T _ _ (enters_of Tryd.func92 (by kernel_rfl) rfl) (enters_of Tryd.func93 (by kernel_rfl) rfl) p l2 5 _ 6 q hi V hV
   ·rw [if_neg h20]
    simp only [List.length_cons] at hf hN
    have HC : ∀ V : World, PS g b cap T V (q :: l2) (d + 1) → Calls Tryd.prog 92 #[.pointer (some ⟨g, 0, none⟩)] V fun e w' => Kp g V w' ∧ Out g b cap T (fun c => V.heap.size ≤ c) w' (d + 1) e (par f (.lv 6) (d + 1) (q :: l2)) := fun V hV => HS.out V _ (d + 1) f hV hE (by omega) (by simp only [List.length_cons]; omega) (by simp only [need, List.length_cons]; omega)
    cases hr : par f (.lv 6) (d + 1) (q :: l2) with
    | ok m l1 => rw [hr] at HC; exact ahead_ok g b cap T _ _ (enters_of Tryd.func92 (by kernel_rfl) rfl) (enters_of Tryd.func93 (by kernel_rfl) rfl) p l2 d 5 _ 6 q (by omega) m l1 hi HC V hV
    | no ea er => rw [hr] at HC; exact ahead_no g b cap T _ _ (enters_of Tryd.func92 (by kernel_rfl) rfl) (enters_of Tryd.func93 (by kernel_rfl) rfl) p l2 d 5 _ 6 q (by omega) ea er hi HC V hV
  ·rw [if_neg hi]
   rw [Bool.not_eq_true] at hi
   have HC : ∀ V : World, PS g b cap T V (p :: l) d → Calls Tryd.prog 93 #[.pointer (some ⟨g, 0, none⟩)] V fun e w' => Kp g V w' ∧ Out g b cap T (fun c => V.heap.size ≤ c) w' d e (par f (.lv 7) d (p :: l)) := fun V hV => HM.out V _ d f hV hL hd (by simp only [List.length_cons]; omega) (by simp only [need, List.length_cons]; omega)
   cases hr : par f (.lv 7) d (p :: l) with
   | ok m l1 => rw [hr] at HC; exact ahead_other_ok g b cap T _ _ (enters_of Tryd.func92 (by kernel_rfl) rfl) (enters_of Tryd.func93 (by kernel_rfl) rfl) p l d 5 _ 6 m l1 hi HC V hV
   | no ea er => rw [hr] at HC; exact ahead_other_no g b cap T _ _ (enters_of Tryd.func92 (by kernel_rfl) rfl) (enters_of Tryd.func93 (by kernel_rfl) rfl) p l d 5 _ 6 ea er hi HC V hV
 clear HM HS
 cases hr : par (f + 1) (.lv 6) d (p :: l) with
 | ok n l1 =>
  rw [hr] at HX
  clear hr
  have HP : Hid _ := h
  have hg := h.lt
  have hbl := h.tr.1
  clear h
  go_enter Tryd.func92, Tryd.ntmps92
  go_wp2_with fail
  have B0 : Hid (BS w [(w.heap.size, [vi ki 0, .string ⟨#[]⟩, .slice none 0 0, vi ki 0])] _) := ((BS.start w).new [vi ki 0, .string ⟨#[]⟩, .slice none 0 0, vi ki 0] 24 rfl)
  refine (HX.out _ (HP.out.below B0.out.1)).mono ?_
  rintro e W1 ⟨hk, ho⟩
  have hz1 : w.heap.size + 1 ≤ W1.heap.size := by have := hk.size; (try simp at this); omega
  have K1 : Hid (Kp g w W1) := (Kp.of B0.out.1).trans hk
  have H1_0 : Hid (Bx W1 (w.heap.size) [vi ki 0, .string ⟨#[]⟩, .slice none 0 0, vi ki 0]) := hk.bx (B0.out.at (w.heap.size) [vi ki 0, .string ⟨#[]⟩, .slice none 0 0, vi ki 0] (by simp)) (by omega)
  clear B0
  obtain ⟨hps, hend, k2, u2, sq2, sn2, sc2, a2, rfl, hnd⟩ := ho
  have HQ : Hid _ := hps
  have HE1 : Hid _ := hend
  have HM2 : Hid _ := hnd
  clear hps hend hnd hk
  have hl1_0 := H1_0.out.1
  obtain ⟨y0', y1', y2', y3', HFK, HFO, HFS, r0, r1, r2, r3, s0, s1, s2, s3, hrw'⟩ := fin9 (vi ki k2) (.string u2) (.slice sq2 sn2 sc2) (vi ki a2) K1.out (by omega) (H1_0.out)
  go_wp2
  refine bodyPost_ret (v := .tuple #[.agg #[vi ki k2, .string u2, .slice sq2 sn2 sc2, vi ki a2], .bool true]) (by simp [results, Tryd.results92, go_sem, y0', y1', y2', y3']) rfl ⟨HFK.out, HQ.out.off HFO.out HFS.out (by omega) (by omega), HE1.out, _, _, _, _, _, _, rfl, HM2.out.off HFO.out HFS.out (fun c hc => ⟨by (try simp at hc ⊢); omega, by (try simp at hc); omega⟩)⟩
 | no ea er =>
  rw [hr] at HX
  clear hr
  have HP : Hid _ := h
  have hg := h.lt
  have hbl := h.tr.1
  clear h
  go_enter Tryd.func92, Tryd.ntmps92
  go_wp2_with fail
  have B0 : Hid (BS w [(w.heap.size, [vi ki 0, .string ⟨#[]⟩, .slice none 0 0, vi ki 0])] _) := ((BS.start w).new [vi ki 0, .string ⟨#[]⟩, .slice none 0 0, vi ki 0] 24 rfl)
  refine (HX.out _ (HP.out.below B0.out.1)).mono ?_
  rintro e W1 ⟨hk, ho⟩
  have hz1 : w.heap.size + 1 ≤ W1.heap.size := by have := hk.size; (try simp at this); omega
  have K1 : Hid (Kp g w W1) := (Kp.of B0.out.1).trans hk
  have H1_0 : Hid (Bx W1 (w.heap.size) [vi ki 0, .string ⟨#[]⟩, .slice none 0 0, vi ki 0]) := hk.bx (B0.out.at (w.heap.size) [vi ki 0, .string ⟨#[]⟩, .slice none 0 0, vi ki 0] (by simp)) (by omega)
  clear B0
  obtain ⟨hf, rfl⟩ := ho
  have HF : Hid (PF g W1 d ea er) := hf
  clear hf hk
  have hl1_0 := H1_0.out.1
  obtain ⟨y0', y1', y2', y3', HFK, HFO, HFS, r0, r1, r2, r3, s0, s1, s2, s3, hrw'⟩ := fin9 (vi ki 0) (.string ⟨#[]⟩) (.slice none 0 0) (vi ki 0) K1.out (by omega) (H1_0.out)
  go_wp2
  refine bodyPost_ret (v := .tuple #[.agg #[vi ki 0, .string ⟨#[]⟩, .slice none 0 0, vi ki 0], .bool false]) (by simp [results, Tryd.results92, go_sem, y0', y1', y2', y3']) rfl ⟨HFK.out, PF.off HF.out HFO.out HFS.out (by omega), rfl⟩
end Go.Proofs.YtaoocecipacnhaaDoor
