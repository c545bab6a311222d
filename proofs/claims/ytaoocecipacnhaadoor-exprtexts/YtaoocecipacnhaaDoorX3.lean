import Derived.Test.YtaoocecipacnhaaDoorX2
open Go.Value renaming int → vi, string → vS, slice → vL
open Go.IntKind renaming i64 → ki
open List renaming setIfInBounds_toArray → zb, set_cons_zero → zc, set_cons_succ → zd, length_cons → zl
open Go.Act renaming put → za
open Go.Ending renaming returned → zr
set_option maxRecDepth 100000
set_option maxHeartbeats 16000000
set_option linter.all false
namespace Go.Proofs.YtaoocecipacnhaaDoor
open Go.RowKit
theorem expr_lv (g b cap : Nat) (T : List Tk) (N : Nat) (HM : Hid (LvOk g b cap T 51 1 N)) : LvOk g b cap T 27 0 N := by
 intro w L d f h hL hd hN hf
 have HX : Hid (∀ (V : World) (bs : Nat), PS g b cap T V L d → Bx V bs [vi ki 4, vS ⟨#[111, 114]⟩] → bs ≠ g → Calls Tryd.prog 50 #[.pointer (some ⟨g, 0, none⟩), .func (.func 51) #[.pointer (some ⟨g, 0, none⟩)] #[], vL (some ⟨bs, 0, none⟩) 1 1] V fun e w' => Kp g V w' ∧ Out g b cap T (fun c => V.heap.size ≤ c) w' d e (par f (.lv 0) d L)) := fun V bs h1 h2 h3 =>
  chain_any g b cap T 51 (enters_of Tryd.func51 (by kernel_rfl) rfl) 0 N (by omega) (sgs 0) (rfl : sgs 0 = sgs 0) (by decide) bs 1 (by omega) (by decide) HM V L d f h1 hL hd hN hf h2 h3
 clear HM
 cases hr : par f (.lv 0) d L with
 | ok n l1 =>
  rw [hr] at HX
  clear hr
  have HP : Hid _ := h
  have hg := h.lt
  have hbl := h.tr.1
  clear h
  go_enter Tryd.func27, Tryd.ntmps27
  go_wp2_with fail
  have B0 := bsm2 w [vi ki 0, vS ⟨#[]⟩, vL none 0 0, vi ki 0] 24 [vi ki 4, vS ⟨#[111, 114]⟩] 79
  refine (HX.out _ (w.heap.size + 1) (HP.out.below B0.out.1) (B0.out.at (w.heap.size + 1) [vi ki 4, vS ⟨#[111, 114]⟩] (by simp)) (by omega)).mono ?_
  rintro e W1 ⟨hk, ho⟩
  have hz1 : w.heap.size + 2 ≤ W1.heap.size := hzk hk
  have K1 := kpt B0 hk
  have H1_0 := bxk hk B0 1
  have H1_1 := bxk hk B0 0
  clear B0
  obtain ⟨hps, hend, k2, u2, sq2, sn2, sc2, a2, rfl, hnd⟩ := ho
  have HQ : Hid _ := hps
  have HE1 : Hid _ := hend
  have HM2 : Hid _ := hnd
  clear hps hend hnd hk
  have hl1_0 := H1_0.out.1
  obtain ⟨y0', y1', y2', y3', HFK, HFO, HFS, r0, r1, r2, r3, s0, s1, s2, s3, hrw'⟩ := fin9 (vi ki k2) (vS u2) (vL sq2 sn2 sc2) (vi ki a2) K1.out (by omega) (H1_0.out)
  go_wp2
  refine bodyPost_ret (v := .tuple #[.agg #[vi ki k2, vS u2, vL sq2 sn2 sc2, vi ki a2], .bool true]) (by simp [results, Tryd.results27, go_sem, y0', y1', y2', y3']) rfl ⟨HFK.out, HQ.out.off HFO.out HFS.out (by omega) (by omega), HE1.out, _, _, _, _, _, _, rfl, HM2.out.off HFO.out HFS.out (fun c hc => ⟨by (try simp at hc ⊢); omega, by (try simp at hc); omega⟩)⟩
 | no ea er =>
  rw [hr] at HX
  clear hr
  have HP : Hid _ := h
  have hg := h.lt
  have hbl := h.tr.1
  clear h
  go_enter Tryd.func27, Tryd.ntmps27
  go_wp2_with fail
  have B0 := bsm2 w [vi ki 0, vS ⟨#[]⟩, vL none 0 0, vi ki 0] 24 [vi ki 4, vS ⟨#[111, 114]⟩] 79
  refine (HX.out _ (w.heap.size + 1) (HP.out.below B0.out.1) (B0.out.at (w.heap.size + 1) [vi ki 4, vS ⟨#[111, 114]⟩] (by simp)) (by omega)).mono ?_
  rintro e W1 ⟨hk, ho⟩
  have hz1 : w.heap.size + 2 ≤ W1.heap.size := hzk hk
  have K1 := kpt B0 hk
  have H1_0 := bxk hk B0 1
  have H1_1 := bxk hk B0 0
  clear B0
  obtain ⟨hf, rfl⟩ := ho
  have HF := hZz hf
  clear hf hk
  have hl1_0 := H1_0.out.1
  obtain ⟨y0', y1', y2', y3', HFK, HFO, HFS, r0, r1, r2, r3, s0, s1, s2, s3, hrw'⟩ := fin9 (vi ki 0) (vS ⟨#[]⟩) (vL none 0 0) (vi ki 0) K1.out (by omega) (H1_0.out)
  go_wp2
  refine bodyPost_ret (v := .tuple #[.agg #[vi ki 0, vS ⟨#[]⟩, vL none 0 0, vi ki 0], .bool false]) (by simp [results, Tryd.results27, go_sem, y0', y1', y2', y3']) rfl ⟨HFK.out, PF.off HF.out HFO.out HFS.out (by omega), rfl⟩
theorem and_lv (g b cap : Nat) (T : List Tk) (N : Nat) (HM : Hid (LvOk g b cap T 64 2 N)) : LvOk g b cap T 51 1 N := by
 intro w L d f h hL hd hN hf
 have HX : Hid (∀ (V : World) (bs : Nat), PS g b cap T V L d → Bx V bs [vi ki 4, vS ⟨#[97, 110, 100]⟩] → bs ≠ g → Calls Tryd.prog 50 #[.pointer (some ⟨g, 0, none⟩), .func (.func 64) #[.pointer (some ⟨g, 0, none⟩)] #[], vL (some ⟨bs, 0, none⟩) 1 1] V fun e w' => Kp g V w' ∧ Out g b cap T (fun c => V.heap.size ≤ c) w' d e (par f (.lv 1) d L)) := fun V bs h1 h2 h3 =>
  chain_any g b cap T 64 (enters_of Tryd.func64 (by kernel_rfl) rfl) 1 N (by omega) (sgs 1) (rfl : sgs 1 = sgs 1) (by decide) bs 1 (by omega) (by decide) HM V L d f h1 hL hd hN hf h2 h3
 clear HM
 cases hr : par f (.lv 1) d L with
 | ok n l1 =>
  rw [hr] at HX
  clear hr
  have HP : Hid _ := h
  have hg := h.lt
  have hbl := h.tr.1
  clear h
  go_enter Tryd.func51, Tryd.ntmps51
  go_wp2_with fail
  have B0 := bsm2 w [vi ki 0, vS ⟨#[]⟩, vL none 0 0, vi ki 0] 24 [vi ki 4, vS ⟨#[97, 110, 100]⟩] 79
  refine (HX.out _ (w.heap.size + 1) (HP.out.below B0.out.1) (B0.out.at (w.heap.size + 1) [vi ki 4, vS ⟨#[97, 110, 100]⟩] (by simp)) (by omega)).mono ?_
  rintro e W1 ⟨hk, ho⟩
  have hz1 : w.heap.size + 2 ≤ W1.heap.size := hzk hk
  have K1 := kpt B0 hk
  have H1_0 := bxk hk B0 1
  have H1_1 := bxk hk B0 0
  clear B0
  obtain ⟨hps, hend, k2, u2, sq2, sn2, sc2, a2, rfl, hnd⟩ := ho
  have HQ : Hid _ := hps
  have HE1 : Hid _ := hend
  have HM2 : Hid _ := hnd
  clear hps hend hnd hk
  have hl1_0 := H1_0.out.1
  obtain ⟨y0', y1', y2', y3', HFK, HFO, HFS, r0, r1, r2, r3, s0, s1, s2, s3, hrw'⟩ := fin9 (vi ki k2) (vS u2) (vL sq2 sn2 sc2) (vi ki a2) K1.out (by omega) (H1_0.out)
  go_wp2
  refine bodyPost_ret (v := .tuple #[.agg #[vi ki k2, vS u2, vL sq2 sn2 sc2, vi ki a2], .bool true]) (by simp [results, Tryd.results51, go_sem, y0', y1', y2', y3']) rfl ⟨HFK.out, HQ.out.off HFO.out HFS.out (by omega) (by omega), HE1.out, _, _, _, _, _, _, rfl, HM2.out.off HFO.out HFS.out (fun c hc => ⟨by (try simp at hc ⊢); omega, by (try simp at hc); omega⟩)⟩
 | no ea er =>
  rw [hr] at HX
  clear hr
  have HP : Hid _ := h
  have hg := h.lt
  have hbl := h.tr.1
  clear h
  go_enter Tryd.func51, Tryd.ntmps51
  go_wp2_with fail
  have B0 := bsm2 w [vi ki 0, vS ⟨#[]⟩, vL none 0 0, vi ki 0] 24 [vi ki 4, vS ⟨#[97, 110, 100]⟩] 79
  refine (HX.out _ (w.heap.size + 1) (HP.out.below B0.out.1) (B0.out.at (w.heap.size + 1) [vi ki 4, vS ⟨#[97, 110, 100]⟩] (by simp)) (by omega)).mono ?_
  rintro e W1 ⟨hk, ho⟩
  have hz1 : w.heap.size + 2 ≤ W1.heap.size := hzk hk
  have K1 := kpt B0 hk
  have H1_0 := bxk hk B0 1
  have H1_1 := bxk hk B0 0
  clear B0
  obtain ⟨hf, rfl⟩ := ho
  have HF := hZz hf
  clear hf hk
  have hl1_0 := H1_0.out.1
  obtain ⟨y0', y1', y2', y3', HFK, HFO, HFS, r0, r1, r2, r3, s0, s1, s2, s3, hrw'⟩ := fin9 (vi ki 0) (vS ⟨#[]⟩) (vL none 0 0) (vi ki 0) K1.out (by omega) (H1_0.out)
  go_wp2
  refine bodyPost_ret (v := .tuple #[.agg #[vi ki 0, vS ⟨#[]⟩, vL none 0 0, vi ki 0], .bool false]) (by simp [results, Tryd.results51, go_sem, y0', y1', y2', y3']) rfl ⟨HFK.out, PF.off HF.out HFO.out HFS.out (by omega), rfl⟩
theorem sum_lv (g b cap : Nat) (T : List Tk) (N : Nat) (HM : Hid (LvOk g b cap T 89 5 N)) : LvOk g b cap T 83 4 N := by
 intro w L d f h hL hd hN hf
 have HX : Hid (∀ (V : World) (bs : Nat), PS g b cap T V L d → Bx V bs [vi ki 5, vS ⟨#[43]⟩, vi ki 5, vS ⟨#[45]⟩] → bs ≠ g → Calls Tryd.prog 50 #[.pointer (some ⟨g, 0, none⟩), .func (.func 89) #[.pointer (some ⟨g, 0, none⟩)] #[], vL (some ⟨bs, 0, none⟩) 2 2] V fun e w' => Kp g V w' ∧ Out g b cap T (fun c => V.heap.size ≤ c) w' d e (par f (.lv 4) d L)) := fun V bs h1 h2 h3 =>
  chain_any g b cap T 89 (enters_of Tryd.func89 (by kernel_rfl) rfl) 4 N (by omega) (sgs 4) (rfl : sgs 4 = sgs 4) (by decide) bs 2 (by omega) (by decide) HM V L d f h1 hL hd hN hf h2 h3
 clear HM
 cases hr : par f (.lv 4) d L with
 | ok n l1 =>
  rw [hr] at HX
  clear hr
  have HP : Hid _ := h
  have hg := h.lt
  have hbl := h.tr.1
  clear h
  go_enter Tryd.func83, Tryd.ntmps83
  go_wp2_with fail
  have B0 := bsm2 w [vi ki 0, vS ⟨#[]⟩, vL none 0 0, vi ki 0] 24 [vi ki 5, vS ⟨#[43]⟩, vi ki 5, vS ⟨#[45]⟩] 79
  refine (HX.out _ (w.heap.size + 1) (HP.out.below B0.out.1) (B0.out.at (w.heap.size + 1) [vi ki 5, vS ⟨#[43]⟩, vi ki 5, vS ⟨#[45]⟩] (by simp)) (by omega)).mono ?_
  rintro e W1 ⟨hk, ho⟩
  have hz1 : w.heap.size + 2 ≤ W1.heap.size := hzk hk
  have K1 := kpt B0 hk
  have H1_0 := bxk hk B0 1
  have H1_1 := bxk hk B0 0
  clear B0
  obtain ⟨hps, hend, k2, u2, sq2, sn2, sc2, a2, rfl, hnd⟩ := ho
  have HQ : Hid _ := hps
  have HE1 : Hid _ := hend
  have HM2 : Hid _ := hnd
  clear hps hend hnd hk
  have hl1_0 := H1_0.out.1
  obtain ⟨y0', y1', y2', y3', HFK, HFO, HFS, r0, r1, r2, r3, s0, s1, s2, s3, hrw'⟩ := fin9 (vi ki k2) (vS u2) (vL sq2 sn2 sc2) (vi ki a2) K1.out (by omega) (H1_0.out)
  go_wp2
  refine bodyPost_ret (v := .tuple #[.agg #[vi ki k2, vS u2, vL sq2 sn2 sc2, vi ki a2], .bool true]) (by simp [results, Tryd.results83, go_sem, y0', y1', y2', y3']) rfl ⟨HFK.out, HQ.out.off HFO.out HFS.out (by omega) (by omega), HE1.out, _, _, _, _, _, _, rfl, HM2.out.off HFO.out HFS.out (fun c hc => ⟨by (try simp at hc ⊢); omega, by (try simp at hc); omega⟩)⟩
 | no ea er =>
  rw [hr] at HX
  clear hr
  have HP : Hid _ := h
  have hg := h.lt
  have hbl := h.tr.1
  clear h
  go_enter Tryd.func83, Tryd.ntmps83
  go_wp2_with fail
  have B0 := bsm2 w [vi ki 0, vS ⟨#[]⟩, vL none 0 0, vi ki 0] 24 [vi ki 5, vS ⟨#[43]⟩, vi ki 5, vS ⟨#[45]⟩] 79
  refine (HX.out _ (w.heap.size + 1) (HP.out.below B0.out.1) (B0.out.at (w.heap.size + 1) [vi ki 5, vS ⟨#[43]⟩, vi ki 5, vS ⟨#[45]⟩] (by simp)) (by omega)).mono ?_
  rintro e W1 ⟨hk, ho⟩
  have hz1 : w.heap.size + 2 ≤ W1.heap.size := hzk hk
  have K1 := kpt B0 hk
  have H1_0 := bxk hk B0 1
  have H1_1 := bxk hk B0 0
  clear B0
  obtain ⟨hf, rfl⟩ := ho
  have HF := hZz hf
  clear hf hk
  have hl1_0 := H1_0.out.1
  obtain ⟨y0', y1', y2', y3', HFK, HFO, HFS, r0, r1, r2, r3, s0, s1, s2, s3, hrw'⟩ := fin9 (vi ki 0) (vS ⟨#[]⟩) (vL none 0 0) (vi ki 0) K1.out (by omega) (H1_0.out)
  go_wp2
  refine bodyPost_ret (v := .tuple #[.agg #[vi ki 0, vS ⟨#[]⟩, vL none 0 0, vi ki 0], .bool false]) (by simp [results, Tryd.results83, go_sem, y0', y1', y2', y3']) rfl ⟨HFK.out, PF.off HF.out HFO.out HFS.out (by omega), rfl⟩
theorem term_lv (g b cap : Nat) (T : List Tk) (N : Nat) (HM : Hid (LvOk g b cap T 92 6 N)) : LvOk g b cap T 89 5 N := by
 intro w L d f h hL hd hN hf
 have HX : Hid (∀ (V : World) (bs : Nat), PS g b cap T V L d → Bx V bs [vi ki 5, vS ⟨#[42]⟩, vi ki 5, vS ⟨#[47]⟩, vi ki 5, vS ⟨#[37]⟩] → bs ≠ g → Calls Tryd.prog 50 #[.pointer (some ⟨g, 0, none⟩), .func (.func 92) #[.pointer (some ⟨g, 0, none⟩)] #[], vL (some ⟨bs, 0, none⟩) 3 3] V fun e w' => Kp g V w' ∧ Out g b cap T (fun c => V.heap.size ≤ c) w' d e (par f (.lv 5) d L)) := fun V bs h1 h2 h3 =>
  chain_any g b cap T 92 (enters_of Tryd.func92 (by kernel_rfl) rfl) 5 N (by omega) (sgs 5) (rfl : sgs 5 = sgs 5) (by decide) bs 3 (by omega) (by decide) HM V L d f h1 hL hd hN hf h2 h3
 clear HM
 cases hr : par f (.lv 5) d L with
 | ok n l1 =>
  rw [hr] at HX
  clear hr
  have HP : Hid _ := h
  have hg := h.lt
  have hbl := h.tr.1
  clear h
  go_enter Tryd.func89, Tryd.ntmps89
  go_wp2_with fail
  have B0 := bsm2 w [vi ki 0, vS ⟨#[]⟩, vL none 0 0, vi ki 0] 24 [vi ki 5, vS ⟨#[42]⟩, vi ki 5, vS ⟨#[47]⟩, vi ki 5, vS ⟨#[37]⟩] 79
  refine (HX.out _ (w.heap.size + 1) (HP.out.below B0.out.1) (B0.out.at (w.heap.size + 1) [vi ki 5, vS ⟨#[42]⟩, vi ki 5, vS ⟨#[47]⟩, vi ki 5, vS ⟨#[37]⟩] (by simp)) (by omega)).mono ?_
  rintro e W1 ⟨hk, ho⟩
  have hz1 : w.heap.size + 2 ≤ W1.heap.size := hzk hk
  have K1 := kpt B0 hk
  have H1_0 := bxk hk B0 1
  have H1_1 := bxk hk B0 0
  clear B0
  obtain ⟨hps, hend, k2, u2, sq2, sn2, sc2, a2, rfl, hnd⟩ := ho
  have HQ : Hid _ := hps
  have HE1 : Hid _ := hend
  have HM2 : Hid _ := hnd
  clear hps hend hnd hk
  have hl1_0 := H1_0.out.1
  obtain ⟨y0', y1', y2', y3', HFK, HFO, HFS, r0, r1, r2, r3, s0, s1, s2, s3, hrw'⟩ := fin9 (vi ki k2) (vS u2) (vL sq2 sn2 sc2) (vi ki a2) K1.out (by omega) (H1_0.out)
  go_wp2
  refine bodyPost_ret (v := .tuple #[.agg #[vi ki k2, vS u2, vL sq2 sn2 sc2, vi ki a2], .bool true]) (by simp [results, Tryd.results89, go_sem, y0', y1', y2', y3']) rfl ⟨HFK.out, HQ.out.off HFO.out HFS.out (by omega) (by omega), HE1.out, _, _, _, _, _, _, rfl, HM2.out.off HFO.out HFS.out (fun c hc => ⟨by (try simp at hc ⊢); omega, by (try simp at hc); omega⟩)⟩
 | no ea er =>
  rw [hr] at HX
  clear hr
  have HP : Hid _ := h
  have hg := h.lt
  have hbl := h.tr.1
  clear h
  go_enter Tryd.func89, Tryd.ntmps89
  go_wp2_with fail
  have B0 := bsm2 w [vi ki 0, vS ⟨#[]⟩, vL none 0 0, vi ki 0] 24 [vi ki 5, vS ⟨#[42]⟩, vi ki 5, vS ⟨#[47]⟩, vi ki 5, vS ⟨#[37]⟩] 79
  refine (HX.out _ (w.heap.size + 1) (HP.out.below B0.out.1) (B0.out.at (w.heap.size + 1) [vi ki 5, vS ⟨#[42]⟩, vi ki 5, vS ⟨#[47]⟩, vi ki 5, vS ⟨#[37]⟩] (by simp)) (by omega)).mono ?_
  rintro e W1 ⟨hk, ho⟩
  have hz1 : w.heap.size + 2 ≤ W1.heap.size := hzk hk
  have K1 := kpt B0 hk
  have H1_0 := bxk hk B0 1
  have H1_1 := bxk hk B0 0
  clear B0
  obtain ⟨hf, rfl⟩ := ho
  have HF := hZz hf
  clear hf hk
  have hl1_0 := H1_0.out.1
  obtain ⟨y0', y1', y2', y3', HFK, HFO, HFS, r0, r1, r2, r3, s0, s1, s2, s3, hrw'⟩ := fin9 (vi ki 0) (vS ⟨#[]⟩) (vL none 0 0) (vi ki 0) K1.out (by omega) (H1_0.out)
  go_wp2
  refine bodyPost_ret (v := .tuple #[.agg #[vi ki 0, vS ⟨#[]⟩, vL none 0 0, vi ki 0], .bool false]) (by simp [results, Tryd.results89, go_sem, y0', y1', y2', y3']) rfl ⟨HFK.out, PF.off HF.out HFO.out HFS.out (by omega), rfl⟩
theorem not_lv (g b cap : Nat) (T : List Tk) (N : Nat) (HM : Hid (LvOk g b cap T 75 3 (N + 1))) (HS : Hid (LvOk g b cap T 64 2 N)) : LvOk g b cap T 64 2 (N + 1) := by
 intro w L d f h hL hd hN hf
 obtain ⟨p, l, rfl⟩ := hL.cons
 obtain ⟨f, rfl⟩ : ∃ f', f = f' + 1 := ⟨f - 1, by simp only [need, zl] at hf; omega⟩
 simp only [need, zl] at hf hN
 have HX : Hid (∀ (V : World), PS g b cap T V (p :: l) d → Calls Tryd.prog 74 #[.pointer (some ⟨g, 0, none⟩), .agg #[vi ki 4, vS ⟨#[110, 111, 116]⟩], vi ki 7, .func (.func 64) #[.pointer (some ⟨g, 0, none⟩)] #[], .func (.func 75) #[.pointer (some ⟨g, 0, none⟩)] #[]] V fun e w' => Kp g V w' ∧ Out g b cap T (fun c => V.heap.size ≤ c) w' d e (par (f + 1) (.lv 2) d (p :: l))) := by
  intro V hV
  have eP : par (f + 1) (.lv 2) d (p :: l) = if isT p [(4, notB)] then (if d = 20 then PR.no p.2.2 31 else match par f (.lv 2) (d + 1) l with | .ok n l1 => .ok (.mk 7 ByteArray.empty [n] p.2.2) l1 | .no a e => .no a e) else par f (.lv 3) d (p :: l) := by
   rw [par_succ]; unfold pst; dsimp only
   rw [if_pos rfl]
   by_cases hi : isT p [(4, notB)] = true
   ·rw [if_pos hi, if_pos hi]; cases par f (.lv 2) (d + 1) l <;> rfl
   ·rw [if_neg hi, if_neg hi]
  rw [eP]
  by_cases hi : isT p [(4, notB)] = true
  ·rw [if_pos hi]
   have hk0 := isT_kind hi (by simp)
   have hE := hL.tail hk0
   obtain ⟨q, l2, rfl⟩ := hE.cons
   by_cases h20 : d = 20
   ·subst h20
    rw [if_pos rfl]
    exact ahead_full g b cap T _ _ (enters_of Tryd.func64 (by kernel_rfl) rfl) (enters_of Tryd.func75 (by kernel_rfl) rfl) p l2 4 _ 7 q hi V hV
   ·rw [if_neg h20]
    simp only [zl] at hf hN
    have HC : ∀ V : World, PS g b cap T V (q :: l2) (d + 1) → Calls Tryd.prog 64 #[.pointer (some ⟨g, 0, none⟩)] V fun e w' => Kp g V w' ∧ Out g b cap T (fun c => V.heap.size ≤ c) w' (d + 1) e (par f (.lv 2) (d + 1) (q :: l2)) := fun V hV => HS.out V _ (d + 1) f hV hE (by omega) (by simp only [zl]; omega) (by simp only [need, zl]; omega)
    cases hr : par f (.lv 2) (d + 1) (q :: l2) with
    | ok m l1 => rw [hr] at HC; exact ahead_ok g b cap T _ _ (enters_of Tryd.func64 (by kernel_rfl) rfl) (enters_of Tryd.func75 (by kernel_rfl) rfl) p l2 d 4 _ 7 q (by omega) m l1 hi HC V hV
    | no ea er => rw [hr] at HC; exact ahead_no g b cap T _ _ (enters_of Tryd.func64 (by kernel_rfl) rfl) (enters_of Tryd.func75 (by kernel_rfl) rfl) p l2 d 4 _ 7 q (by omega) ea er hi HC V hV
  ·rw [if_neg hi]
   rw [Bool.not_eq_true] at hi
   have HC : ∀ V : World, PS g b cap T V (p :: l) d → Calls Tryd.prog 75 #[.pointer (some ⟨g, 0, none⟩)] V fun e w' => Kp g V w' ∧ Out g b cap T (fun c => V.heap.size ≤ c) w' d e (par f (.lv 3) d (p :: l)) := fun V hV => HM.out V _ d f hV hL hd (by simp only [zl]; omega) (by simp only [need, zl]; omega)
   cases hr : par f (.lv 3) d (p :: l) with
   | ok m l1 => rw [hr] at HC; exact ahead_other_ok g b cap T _ _ (enters_of Tryd.func64 (by kernel_rfl) rfl) (enters_of Tryd.func75 (by kernel_rfl) rfl) p l d 4 _ 7 m l1 hi HC V hV
   | no ea er => rw [hr] at HC; exact ahead_other_no g b cap T _ _ (enters_of Tryd.func64 (by kernel_rfl) rfl) (enters_of Tryd.func75 (by kernel_rfl) rfl) p l d 4 _ 7 ea er hi HC V hV
 clear HM HS
 cases hr : par (f + 1) (.lv 2) d (p :: l) with
 | ok n l1 =>
  rw [hr] at HX
  clear hr
  have HP : Hid _ := h
  have hg := h.lt
  have hbl := h.tr.1
  clear h
  go_enter Tryd.func64, Tryd.ntmps64
  go_wp2_with fail
  have B0 := bsm1 w [vi ki 0, vS ⟨#[]⟩, vL none 0 0, vi ki 0] 24
  refine (HX.out _ (HP.out.below B0.out.1)).mono ?_
  rintro e W1 ⟨hk, ho⟩
  have hz1 : w.heap.size + 1 ≤ W1.heap.size := hzk hk
  have K1 := kpt B0 hk
  have H1_0 := bxk hk B0 0
  clear B0
  obtain ⟨hps, hend, k2, u2, sq2, sn2, sc2, a2, rfl, hnd⟩ := ho
  have HQ : Hid _ := hps
  have HE1 : Hid _ := hend
  have HM2 : Hid _ := hnd
  clear hps hend hnd hk
  have hl1_0 := H1_0.out.1
  obtain ⟨y0', y1', y2', y3', HFK, HFO, HFS, r0, r1, r2, r3, s0, s1, s2, s3, hrw'⟩ := fin9 (vi ki k2) (vS u2) (vL sq2 sn2 sc2) (vi ki a2) K1.out (by omega) (H1_0.out)
  go_wp2
  refine bodyPost_ret (v := .tuple #[.agg #[vi ki k2, vS u2, vL sq2 sn2 sc2, vi ki a2], .bool true]) (by simp [results, Tryd.results64, go_sem, y0', y1', y2', y3']) rfl ⟨HFK.out, HQ.out.off HFO.out HFS.out (by omega) (by omega), HE1.out, _, _, _, _, _, _, rfl, HM2.out.off HFO.out HFS.out (fun c hc => ⟨by (try simp at hc ⊢); omega, by (try simp at hc); omega⟩)⟩
 | no ea er =>
  rw [hr] at HX
  clear hr
  have HP : Hid _ := h
  have hg := h.lt
  have hbl := h.tr.1
  clear h
  go_enter Tryd.func64, Tryd.ntmps64
  go_wp2_with fail
  have B0 := bsm1 w [vi ki 0, vS ⟨#[]⟩, vL none 0 0, vi ki 0] 24
  refine (HX.out _ (HP.out.below B0.out.1)).mono ?_
  rintro e W1 ⟨hk, ho⟩
  have hz1 : w.heap.size + 1 ≤ W1.heap.size := hzk hk
  have K1 := kpt B0 hk
  have H1_0 := bxk hk B0 0
  clear B0
  obtain ⟨hf, rfl⟩ := ho
  have HF := hZz hf
  clear hf hk
  have hl1_0 := H1_0.out.1
  obtain ⟨y0', y1', y2', y3', HFK, HFO, HFS, r0, r1, r2, r3, s0, s1, s2, s3, hrw'⟩ := fin9 (vi ki 0) (vS ⟨#[]⟩) (vL none 0 0) (vi ki 0) K1.out (by omega) (H1_0.out)
  go_wp2
  refine bodyPost_ret (v := .tuple #[.agg #[vi ki 0, vS ⟨#[]⟩, vL none 0 0, vi ki 0], .bool false]) (by simp [results, Tryd.results64, go_sem, y0', y1', y2', y3']) rfl ⟨HFK.out, PF.off HF.out HFO.out HFS.out (by omega), rfl⟩
theorem unary_lv (g b cap : Nat) (T : List Tk) (N : Nat) (HM : Hid (LvOk g b cap T 93 7 (N + 1))) (HS : Hid (LvOk g b cap T 92 6 N)) : LvOk g b cap T 92 6 (N + 1) := by
 intro w L d f h hL hd hN hf
 obtain ⟨p, l, rfl⟩ := hL.cons
 obtain ⟨f, rfl⟩ : ∃ f', f = f' + 1 := ⟨f - 1, by simp only [need, zl] at hf; omega⟩
 simp only [need, zl] at hf hN
 have HX : Hid (∀ (V : World), PS g b cap T V (p :: l) d → Calls Tryd.prog 74 #[.pointer (some ⟨g, 0, none⟩), .agg #[vi ki 5, vS ⟨#[45]⟩], vi ki 6, .func (.func 92) #[.pointer (some ⟨g, 0, none⟩)] #[], .func (.func 93) #[.pointer (some ⟨g, 0, none⟩)] #[]] V fun e w' => Kp g V w' ∧ Out g b cap T (fun c => V.heap.size ≤ c) w' d e (par (f + 1) (.lv 6) d (p :: l))) := by
  intro V hV
  have eP : par (f + 1) (.lv 6) d (p :: l) = if isT p [(5, b1 45)] then (if d = 20 then PR.no p.2.2 31 else match par f (.lv 6) (d + 1) l with | .ok n l1 => .ok (.mk 6 ByteArray.empty [n] p.2.2) l1 | .no a e => .no a e) else par f (.lv 7) d (p :: l) := by
   rw [par_succ]; unfold pst; dsimp only
   rw [if_neg (by omega), if_pos rfl]
   by_cases hi : isT p [(5, b1 45)] = true
   ·rw [if_pos hi, if_pos hi]; cases par f (.lv 6) (d + 1) l <;> rfl
   ·rw [if_neg hi, if_neg hi]
  rw [eP]
  by_cases hi : isT p [(5, b1 45)] = true
  ·rw [if_pos hi]
   have hk0 := isT_kind hi (by simp)
   have hE := hL.tail hk0
   obtain ⟨q, l2, rfl⟩ := hE.cons
   by_cases h20 : d = 20
   ·subst h20
    rw [if_pos rfl]
    exact ahead_full g b cap T _ _ (enters_of Tryd.func92 (by kernel_rfl) rfl) (enters_of Tryd.func93 (by kernel_rfl) rfl) p l2 5 _ 6 q hi V hV
   ·rw [if_neg h20]
    simp only [zl] at hf hN
    have HC : ∀ V : World, PS g b cap T V (q :: l2) (d + 1) → Calls Tryd.prog 92 #[.pointer (some ⟨g, 0, none⟩)] V fun e w' => Kp g V w' ∧ Out g b cap T (fun c => V.heap.size ≤ c) w' (d + 1) e (par f (.lv 6) (d + 1) (q :: l2)) := fun V hV => HS.out V _ (d + 1) f hV hE (by omega) (by simp only [zl]; omega) (by simp only [need, zl]; omega)
    cases hr : par f (.lv 6) (d + 1) (q :: l2) with
    | ok m l1 => rw [hr] at HC; exact ahead_ok g b cap T _ _ (enters_of Tryd.func92 (by kernel_rfl) rfl) (enters_of Tryd.func93 (by kernel_rfl) rfl) p l2 d 5 _ 6 q (by omega) m l1 hi HC V hV
    | no ea er => rw [hr] at HC; exact ahead_no g b cap T _ _ (enters_of Tryd.func92 (by kernel_rfl) rfl) (enters_of Tryd.func93 (by kernel_rfl) rfl) p l2 d 5 _ 6 q (by omega) ea er hi HC V hV
  ·rw [if_neg hi]
   rw [Bool.not_eq_true] at hi
   have HC : ∀ V : World, PS g b cap T V (p :: l) d → Calls Tryd.prog 93 #[.pointer (some ⟨g, 0, none⟩)] V fun e w' => Kp g V w' ∧ Out g b cap T (fun c => V.heap.size ≤ c) w' d e (par f (.lv 7) d (p :: l)) := fun V hV => HM.out V _ d f hV hL hd (by simp only [zl]; omega) (by simp only [need, zl]; omega)
   cases hr : par f (.lv 7) d (p :: l) with
   | ok m l1 => rw [hr] at HC; exact ahead_other_ok g b cap T _ _ (enters_of Tryd.func92 (by kernel_rfl) rfl) (enters_of Tryd.func93 (by kernel_rfl) rfl) p l d 5 _ 6 m l1 hi HC V hV
   | no ea er => rw [hr] at HC; exact ahead_other_no g b cap T _ _ (enters_of Tryd.func92 (by kernel_rfl) rfl) (enters_of Tryd.func93 (by kernel_rfl) rfl) p l d 5 _ 6 ea er hi HC V hV
 clear HM HS
 cases hr : par (f + 1) (.lv 6) d (p :: l) with
 | ok n l1 =>
  rw [hr] at HX
  clear hr
  have HP : Hid _ := h
  have hg := h.lt
  have hbl := h.tr.1
  clear h
  go_enter Tryd.func92, Tryd.ntmps92
  go_wp2_with fail
  have B0 := bsm1 w [vi ki 0, vS ⟨#[]⟩, vL none 0 0, vi ki 0] 24
  refine (HX.out _ (HP.out.below B0.out.1)).mono ?_
  rintro e W1 ⟨hk, ho⟩
  have hz1 : w.heap.size + 1 ≤ W1.heap.size := hzk hk
  have K1 := kpt B0 hk
  have H1_0 := bxk hk B0 0
  clear B0
  obtain ⟨hps, hend, k2, u2, sq2, sn2, sc2, a2, rfl, hnd⟩ := ho
  have HQ : Hid _ := hps
  have HE1 : Hid _ := hend
  have HM2 : Hid _ := hnd
  clear hps hend hnd hk
  have hl1_0 := H1_0.out.1
  obtain ⟨y0', y1', y2', y3', HFK, HFO, HFS, r0, r1, r2, r3, s0, s1, s2, s3, hrw'⟩ := fin9 (vi ki k2) (vS u2) (vL sq2 sn2 sc2) (vi ki a2) K1.out (by omega) (H1_0.out)
  go_wp2
  refine bodyPost_ret (v := .tuple #[.agg #[vi ki k2, vS u2, vL sq2 sn2 sc2, vi ki a2], .bool true]) (by simp [results, Tryd.results92, go_sem, y0', y1', y2', y3']) rfl ⟨HFK.out, HQ.out.off HFO.out HFS.out (by omega) (by omega), HE1.out, _, _, _, _, _, _, rfl, HM2.out.off HFO.out HFS.out (fun c hc => ⟨by (try simp at hc ⊢); omega, by (try simp at hc); omega⟩)⟩
 | no ea er =>
  rw [hr] at HX
  clear hr
  have HP : Hid _ := h
  have hg := h.lt
  have hbl := h.tr.1
  clear h
  go_enter Tryd.func92, Tryd.ntmps92
  go_wp2_with fail
  have B0 := bsm1 w [vi ki 0, vS ⟨#[]⟩, vL none 0 0, vi ki 0] 24
  refine (HX.out _ (HP.out.below B0.out.1)).mono ?_
  rintro e W1 ⟨hk, ho⟩
  have hz1 : w.heap.size + 1 ≤ W1.heap.size := hzk hk
  have K1 := kpt B0 hk
  have H1_0 := bxk hk B0 0
  clear B0
  obtain ⟨hf, rfl⟩ := ho
  have HF := hZz hf
  clear hf hk
  have hl1_0 := H1_0.out.1
  obtain ⟨y0', y1', y2', y3', HFK, HFO, HFS, r0, r1, r2, r3, s0, s1, s2, s3, hrw'⟩ := fin9 (vi ki 0) (vS ⟨#[]⟩) (vL none 0 0) (vi ki 0) K1.out (by omega) (H1_0.out)
  go_wp2
  refine bodyPost_ret (v := .tuple #[.agg #[vi ki 0, vS ⟨#[]⟩, vL none 0 0, vi ki 0], .bool false]) (by simp [results, Tryd.results92, go_sem, y0', y1', y2', y3']) rfl ⟨HFK.out, PF.off HF.out HFO.out HFS.out (by omega), rfl⟩
def DN (g b cap : Nat) (T : List Tk) (w : World) (d : Nat) (L : List Tk) (n : Nd) (c0 c1 c2 c3 : Value) (V : World) : Prop :=
 Kp g w V ∧ Bx V w.heap.size [c0, c1, c2, c3] ∧ PS g b cap T V L d ∧ EndL L ∧ NdAt (fun c => w.heap.size ≤ c) V n [c0, c1, c2, c3]
def DF (g : Nat) (w : World) (d : Nat) (ea er : Int) (V : World) : Prop := Kp g w V ∧ Bx V w.heap.size [vi ki 0, vS ⟨#[]⟩, vL none 0 0, vi ki 0] ∧ PF g V d ea er
theorem CS.done {g b cap : Nat} {T : List Tk} {w : World} {B d : Nat} {L L' : List Tk} {n n' : Nd} {c0 c1 c2 c3 d0 d1 d2 d3 : Value} {V V' : World} (h : CS g b cap T w B d L n c0 c1 c2 c3 V) (hg : g < w.heap.size) (hbl : b < w.heap.size) (hk : Kp g V V') (hp : PS g b cap T V' L' d) (he : EndL L')
  (hn : NdAt (fun c => (w.heap.size + 1 ≤ c ∧ c ≠ B) ∨ V.heap.size ≤ c) V' n' [d0, d1, d2, d3]) : DN g b cap T w d L' n' d0 d1 d2 d3 (V'.setCells w.heap.size 0 [d0, d1, d2, d3]) := by
 have hz := h.1.size
 have hz2 := h.2.1.1
 obtain ⟨q1, q2, q3, q4⟩ := fin4 [] d0 d1 d2 d3 (h.1.trans hk) (Nat.le_refl _) (hk.bx h.2.1 (by omega))
 exact ⟨q1, q2, hp.off q3 q4 (by omega) (by omega), he, hn.off q3 q4 (fun c hc => ⟨by omega, by omega⟩)⟩
theorem CS.failed {g b cap : Nat} {T : List Tk} {w : World} {B d : Nat} {L : List Tk} {n : Nd} {c0 c1 c2 c3 : Value} {V V' : World} {ea er : Int} (h : CS g b cap T w B d L n c0 c1 c2 c3 V) (hg : g < w.heap.size) (hk : Kp g V V') (hf : PF g V' d ea er) : DF g w d ea er (V'.setCells w.heap.size 0 [vi ki 0, vS ⟨#[]⟩, vL none 0 0, vi ki 0]) := by
 obtain ⟨q1, q2, q3, q4⟩ := fin4 [] (vi ki 0) (vS ⟨#[]⟩) (vL none 0 0) (vi ki 0) (h.1.trans hk) (Nat.le_refl _) (hk.bx h.2.1 (by omega))
 exact ⟨q1, q2, hf.off q3 q4 (by omega)⟩
theorem cmp_lv (g b cap : Nat) (T : List Tk) (N : Nat) (HM : Hid (LvOk g b cap T 83 4 N)) : LvOk g b cap T 75 3 N := by
 intro w L d f h hL hd hN hf
 obtain ⟨p, l, rfl⟩ := hL.cons
 obtain ⟨f, rfl⟩ : ∃ f', f = f' + 1 := ⟨f - 1, by simp only [need, zl] at hf; omega⟩
 have hf1 : need (.lv 4) (p :: l) ≤ f := by simp only [need, zl] at hf ⊢; omega
 simp only [need, zl] at hf
 have HC : Hid (∀ V : World, PS g b cap T V (p :: l) d → Calls Tryd.prog 83 #[.pointer (some ⟨g, 0, none⟩)] V fun e w' => Kp g V w' ∧ Out g b cap T (fun c => V.heap.size ≤ c) w' d e (par f (.lv 4) d (p :: l))) := fun V hV => HM.out V _ d f hV hL hd hN hf1
 have eP : par (f + 1) (.lv 3) d (p :: l) = match par f (.lv 4) d (p :: l) with | .ok n l1 => cmpK (par f) d n l1 | .no a e => .no a e := by
  rw [par_succ]; unfold pst; dsimp only
  rw [if_neg (by omega), if_neg (by omega), if_pos rfl]
  cases par f (.lv 4) d (p :: l) <;> rfl
 obtain ⟨R, hR⟩ : ∃ R, R = par (f + 1) (.lv 3) d (p :: l) := ⟨_, rfl⟩
 rw [← hR]
 rw [eP] at hR
 clear eP
 cases hr : par f (.lv 4) d (p :: l) with
 | no ea er =>
  rw [hr] at HC hR
  have HR0 : Hid (R = .no ea er) := hR
  clear hR hr
  have HP : Hid _ := h
  have hg := h.lt
  have hbl := h.tr.1
  clear h
  go_enter Tryd.func75, Tryd.ntmps75
  go_wp2_with fail
  have B0 := bsm1 w [vi ki 0, vS ⟨#[]⟩, vL none 0 0, vi ki 0] 24
  refine (HC.out _ (HP.out.below B0.out.1)).mono ?_
  rintro e W1 ⟨hk, ho⟩
  have hz1 : w.heap.size + 1 ≤ W1.heap.size := hzk hk
  have K1 := kpt B0 hk
  have H1_0 := bxk hk B0 0
  clear B0
  obtain ⟨hf, rfl⟩ := ho
  have HF : Hid (PF g W1 d ea er) := hf
  clear hf hk
  have hl1_0 := H1_0.out.1
  obtain ⟨y0', y1', y2', y3', HFK, HFO, HFS, r0, r1, r2, r3, s0, s1, s2, s3, hrw'⟩ := fin8 [.cells #[vi ki 0, vS ⟨#[]⟩, vL none 0 0, vi ki 0] 24] (vi ki 0) (vS ⟨#[]⟩) (vL none 0 0) (vi ki 0) K1.out (by omega) (H1_0.out)
  simp only [List.foldl, World.setCells, Nat.zero_add, Nat.reduceAdd] at y0' y1' y2' y3'
  go_wp2
  refine bodyPost_ret (v := .tuple #[.agg #[vi ki 0, vS ⟨#[]⟩, vL none 0 0, vi ki 0], .bool false]) (by simp [results, Tryd.results75, go_sem, y0', y1', y2', y3']) rfl ⟨HFK.out, by rw [HR0.out]; exact ⟨PF.off HF.out HFO.out HFS.out (by omega), rfl⟩⟩
 | ok n l1 =>
  rw [hr] at HC hR
  have hls := par_less (g := .lv 4) (by simp [okTg]) hL hf1 hr
  have hls2 := hls.2
  simp only [most, zl] at hls2
  obtain ⟨q, l, rfl⟩ := hls.1.cons
  have HE0 : Hid (EndL (q :: l)) := hls.1
  simp only [zl] at hls2 hN
  clear hr hls
  have HP : Hid _ := h
  have hg := h.lt
  have hbl := h.tr.1
  clear h
  go_enter Tryd.func75, Tryd.ntmps75
  go_wp2_with fail
  have B0 := bsm1 w [vi ki 0, vS ⟨#[]⟩, vL none 0 0, vi ki 0] 24
  refine (HC.out _ (HP.out.below B0.out.1)).mono ?_
  rintro e W1 ⟨hk, ho⟩
  have hz1 : w.heap.size + 1 ≤ W1.heap.size := hzk hk
  have K1 := kpt B0 hk
  have H1_0 := bxk hk B0 0
  clear B0
  obtain ⟨hps, hend, k, t, sq, sn, sc, a, rfl, hnd⟩ := ho
  have HS0 : Hid (CS g b cap T w W1.heap.size d (q :: l) n (vi ki k) (vS t) (vL sq sn sc) (vi ki a) (W1.alloc (.cells #[vi ki k, vS t, vL sq sn sc, vi ki a] 24))) := by
   refine ⟨K1.out.alloc _, H1_0.out.alloc _, Bx.new W1 [vi ki k, vS t, vL sq sn sc, vi ki a] _, hps.below ((Below.refl _ _).alloc (Nat.le_refl _) _), ?_, by omega, hend⟩
   exact NdAt.keep (by simp) (fun c hc hl => ⟨⟨by (try simp at hc); omega, by omega⟩, Below.heap_alloc _ _ _ hl⟩) _ _ hnd
  clear hps hend hnd hk K1 H1_0 HC HP
  go_upto_region 2 with fail
  refine gen_to (CS g b cap T w W1.heap.size d (q :: l) n (vi ki k) (vS t) (vL sq sn sc) (vi ki a)) HS0.out ?_
  obtain ⟨B, hB⟩ : ∃ B, B = W1.heap.size := ⟨_, rfl⟩
  have hB1 : w.heap.size + 1 ≤ B := by omega
  rw [← hB]
  clear HS0 hz1 hB
  intro W2 KK0
  have KK : Hid (CS g b cap T w B d (q :: l) n (vi ki k) (vS t) (vL sq sn sc) (vi ki a) W2) := KK0
  clear KK0
  have hwr : B < W2.heap.size := KK.out.2.2.1.1
  have hwr2 : w.heap.size < W2.heap.size := KK.out.2.1.1
  have B2 := bsm1 W2 [vi ki 5, vS ⟨#[61]⟩, vi ki 5, vS ⟨#[60, 62]⟩, vi ki 5, vS ⟨#[60]⟩, vi ki 5, vS ⟨#[60, 61]⟩, vi ki 5, vS ⟨#[62]⟩, vi ki 5, vS ⟨#[62, 61]⟩] 79
  go_wp2_with fail
  refine (is_any g b cap T q l d (sgs 3) W2.heap.size 6 _ (KK.out.2.2.2.1.below B2.out.1) (by decide) (by omega) (by decide) B2.out.first).mono ?_
  rintro e W3 ⟨rfl, hb⟩
  have KB2 : Hid (CS g b cap T w B d (q :: l) n (vi ki k) (vS t) (vL sq sn sc) (vi ki a) W3) := KK.out.kp hg ((Kp.of B2.out.1).trans (Kp.of hb)) ((KK.out.2.2.2.1.below B2.out.1).below hb) HE0.out
  have hwr3 : B < W3.heap.size := KB2.out.2.2.1.1
  have hwr4 : w.heap.size < W3.heap.size := KB2.out.2.1.1
  clear hb KK B2
  by_cases hi : isT q (sgs 3) = true
  ·rw [hi]
   have hk0 : q.1 ≠ 0 := isT_kind hi (sgs_kind 3)
   have hEl : EndL l := EndL.tail HE0.out hk0
   obtain ⟨r, l2, rfl⟩ := hEl.cons
   have HE2 : Hid (EndL (r :: l2)) := hEl
   simp only [zl] at hls2
   have hf2 : need (.lv 4) (r :: l2) ≤ f := by simp only [need, zl]; omega
   have HMr0 : Hid (∀ V : World, PS g b cap T V (r :: l2) d → Calls Tryd.prog 83 #[.pointer (some ⟨g, 0, none⟩)] V fun e w' => Kp g V w' ∧ Out g b cap T (fun c => V.heap.size ≤ c) w' d e (par f (.lv 4) d (r :: l2))) := fun V hV => HM.out V _ d f hV HE2.out hd (by simp only [zl]; omega) hf2
   dsimp only [cmpK] at hR
   rw [if_pos hi] at hR
   have KK : Hid (CS g b cap T w B d (q :: r :: l2) n (vi ki k) (vS t) (vL sq sn sc) (vi ki a) W3) := KB2
   clear hEl KB2
   cases hr : par f (.lv 4) d (r :: l2) with
   | ok m l3 =>
    rw [hr] at HMr0 hR
    have HMr : Hid _ := HMr0
    have HR0 : Hid (R = .ok (.mk 8 q.2.1 [n, m] q.2.2) l3) := hR
    clear hR hr HMr0
    go_wp2_with fail
    refine wp_region_held_drew (S := fun _ => True) (by kernel_rfl) trivial (fun hHeld => ?_)
    refine tks 0 (oi := ⟨some 27, _, _, _, _, none⟩) ?_
    simp only [za, zb, zc, zd]
    refine tks 2 (oi := ⟨some 29, _, _, _, _, none⟩) ?_
    simp only [za, zb, zc, zd]
    refine tks 4 (oi := ⟨some 31, _, _, _, _, none⟩) ?_
    simp only [za, zb, zc, zd]
    refine tks 5 (oi := ⟨some 32, _, _, _, _, none⟩) ?_
    simp only [za, zb, zc, zd]
    refine rd2 1 3 (fun K hK => ?_) (fun K hK => ?_)
    ·
     obtain ⟨q0, q1, q2, q3⟩ := KK.out.2.2.1.d4
     go_simp
     refine hK.out _ _ trivial (fun hHeld => ?_)
     clear hK K q0 q1 q2 q3
     refine rd 3 (fun K hK => ?_)
     go_simp
     refine (next_any g b cap T q r l2 d _ (by first | exact KK.out.2.2.2.1 | exact KK.out.drew.2.2.2.1)).mono ?_
     rintro e v2 ⟨rfl, hk2, hp2⟩
     refine hK.out _ _ trivial (fun hHeld => ?_)
     replace KK : Hid (CS g b cap T w B d (r :: l2) n (vi ki k) (vS t) (vL sq sn sc) (vi ki a) v2) := by first | exact KK.out.kp hg hk2 hp2 HE2.out | exact KK.out.drew.kp hg hk2 hp2 HE2.out
     clear hK K hk2 hp2
     refine rd 6 (fun K hK => ?_)
     go_simp
     refine (op_ok g b cap T _ (enters_of Tryd.func83 (by kernel_rfl) rfl) (r :: l2) d k t sq sn sc a q.1 q.2.1 q.2.2 n m l3 (fun c => w.heap.size + 1 ≤ c ∧ c ≠ B) (fun c hc => by omega) HMr _ (by first | exact KK.out.2.2.2.1 | exact KK.out.drew.2.2.2.1) (by first | exact KK.out.2.2.2.2.1 | exact KK.out.drew.2.2.2.2.1)).mono ?_
     rintro e v3 ⟨hk3, hps, hend, k2, u2, sq2, sn2, sc2, a2, rfl, hnd⟩
     refine hK.out _ _ trivial (fun hHeld => ?_)
     have KP : Hid (DN g b cap T w d l3 (.mk 8 q.2.1 [n, m] q.2.2) (vi ki k2) (vS u2) (vL sq2 sn2 sc2) (vi ki a2) (v3.setCells w.heap.size 0 [vi ki k2, vS u2, vL sq2 sn2 sc2, vi ki a2])) := by first | exact KK.out.done hg hbl hk3 hps hend hnd | exact KK.out.drew.done hg hbl hk3 hps hend hnd
     have hB8 : Bx v3 w.heap.size [vi ki 0, vS ⟨#[]⟩, vL none 0 0, vi ki 0] := by first | exact hk3.bx KK.out.2.1 (by omega) | exact hk3.bx KK.out.drew.2.1 (by omega)
     have HB8 : Hid (Bx v3 w.heap.size _) := hB8
     simp only [World.setCells, Nat.zero_add, Nat.reduceAdd] at KP
     clear hK K hk3 hps hend hnd KK hB8
     refine tks 7 (oi := ⟨some 34, _, _, _, _, none⟩) ?_
     simp only [za, zb, zc, zd]
     refine tks 8 (oi := ⟨some 35, _, _, _, _, none⟩) ?_
     simp only [za, zb, zc, zd]
     refine rd 9 (fun K hK => ?_)
     obtain ⟨q0, q1, q2, q3, z0, z1, z2, z3⟩ := HB8.out.cf4
     have hB9 := HB8.out.1
     go_simp
     refine hK.out _ _ trivial (fun hHeld => ?_)
     refine gen_anyH (DN g b cap T w d l3 (.mk 8 q.2.1 [n, m] q.2.2) (vi ki k2) (vS u2) (vL sq2 sn2 sc2) (vi ki a2)) (by first | exact KP.out | exact KP.out.drew) ?_
     clear hHeld hK K KP q0 q1 q2 q3 z0 z1 z2 z3 HB8 hB9
     intro v4 KK'
     have KK : Hid ((DN g b cap T w d l3 (.mk 8 q.2.1 [n, m] q.2.2) (vi ki k2) (vS u2) (vL sq2 sn2 sc2) (vi ki a2)) v4) := KK'
     clear KK'
     have hHeld : True := trivial
     refine tks 10 (oi := ⟨some 3, _, _, _, _, none⟩) ?_
     simp only [za, zb, zc, zd]
     refine dn ?_
     obtain ⟨y0, y1, y2, y3⟩ := KK.out.2.1.d4
     go_wp2
     exact bodyPost_ret (v := .tuple #[.agg #[vi ki k2, vS u2, vL sq2 sn2 sc2, vi ki a2], .bool true]) (by simp [results, Tryd.results75, go_sem, y0, y1, y2, y3]) rfl (by rw [HR0.out]; exact ⟨KK.out.1, KK.out.2.2.1, KK.out.2.2.2.1, _, _, _, _, _, _, rfl, KK.out.2.2.2.2⟩)
    ·
     go_simp
     refine (next_any g b cap T q r l2 d _ (by first | exact KK.out.2.2.2.1 | exact KK.out.drew.2.2.2.1)).mono ?_
     rintro e v5 ⟨rfl, hk5, hp5⟩
     refine hK.out _ _ trivial (fun hHeld => ?_)
     replace KK : Hid (CS g b cap T w B d (r :: l2) n (vi ki k) (vS t) (vL sq sn sc) (vi ki a) v5) := by first | exact KK.out.kp hg hk5 hp5 HE2.out | exact KK.out.drew.kp hg hk5 hp5 HE2.out
     clear hK K hk5 hp5
     refine rd 1 (fun K hK => ?_)
     obtain ⟨q0, q1, q2, q3⟩ := KK.out.2.2.1.d4
     go_simp
     refine hK.out _ _ trivial (fun hHeld => ?_)
     clear hK K q0 q1 q2 q3
     refine rd 6 (fun K hK => ?_)
     go_simp
     refine (op_ok g b cap T _ (enters_of Tryd.func83 (by kernel_rfl) rfl) (r :: l2) d k t sq sn sc a q.1 q.2.1 q.2.2 n m l3 (fun c => w.heap.size + 1 ≤ c ∧ c ≠ B) (fun c hc => by omega) HMr _ (by first | exact KK.out.2.2.2.1 | exact KK.out.drew.2.2.2.1) (by first | exact KK.out.2.2.2.2.1 | exact KK.out.drew.2.2.2.2.1)).mono ?_
     rintro e v7 ⟨hk7, hps, hend, k2, u2, sq2, sn2, sc2, a2, rfl, hnd⟩
     refine hK.out _ _ trivial (fun hHeld => ?_)
     have KP : Hid (DN g b cap T w d l3 (.mk 8 q.2.1 [n, m] q.2.2) (vi ki k2) (vS u2) (vL sq2 sn2 sc2) (vi ki a2) (v7.setCells w.heap.size 0 [vi ki k2, vS u2, vL sq2 sn2 sc2, vi ki a2])) := by first | exact KK.out.done hg hbl hk7 hps hend hnd | exact KK.out.drew.done hg hbl hk7 hps hend hnd
     have hB8 : Bx v7 w.heap.size [vi ki 0, vS ⟨#[]⟩, vL none 0 0, vi ki 0] := by first | exact hk7.bx KK.out.2.1 (by omega) | exact hk7.bx KK.out.drew.2.1 (by omega)
     have HB8 : Hid (Bx v7 w.heap.size _) := hB8
     simp only [World.setCells, Nat.zero_add, Nat.reduceAdd] at KP
     clear hK K hk7 hps hend hnd KK hB8
     refine tks 7 (oi := ⟨some 34, _, _, _, _, none⟩) ?_
     simp only [za, zb, zc, zd]
     refine tks 8 (oi := ⟨some 35, _, _, _, _, none⟩) ?_
     simp only [za, zb, zc, zd]
     refine rd 9 (fun K hK => ?_)
     obtain ⟨q0, q1, q2, q3, z0, z1, z2, z3⟩ := HB8.out.cf4
     have hB9 := HB8.out.1
     go_simp
     refine hK.out _ _ trivial (fun hHeld => ?_)
     refine gen_anyH (DN g b cap T w d l3 (.mk 8 q.2.1 [n, m] q.2.2) (vi ki k2) (vS u2) (vL sq2 sn2 sc2) (vi ki a2)) (by first | exact KP.out | exact KP.out.drew) ?_
     clear hHeld hK K KP q0 q1 q2 q3 z0 z1 z2 z3 HB8 hB9
     intro v8 KK'
     have KK : Hid ((DN g b cap T w d l3 (.mk 8 q.2.1 [n, m] q.2.2) (vi ki k2) (vS u2) (vL sq2 sn2 sc2) (vi ki a2)) v8) := KK'
     clear KK'
     have hHeld : True := trivial
     refine tks 10 (oi := ⟨some 3, _, _, _, _, none⟩) ?_
     simp only [za, zb, zc, zd]
     refine dn ?_
     obtain ⟨y0, y1, y2, y3⟩ := KK.out.2.1.d4
     go_wp2
     exact bodyPost_ret (v := .tuple #[.agg #[vi ki k2, vS u2, vL sq2 sn2 sc2, vi ki a2], .bool true]) (by simp [results, Tryd.results75, go_sem, y0, y1, y2, y3]) rfl (by rw [HR0.out]; exact ⟨KK.out.1, KK.out.2.2.1, KK.out.2.2.2.1, _, _, _, _, _, _, rfl, KK.out.2.2.2.2⟩)
   | no ea er =>
    rw [hr] at HMr0 hR
    have HMr : Hid _ := HMr0
    have HR0 : Hid (R = .no ea er) := hR
    clear hR hr HMr0
    go_wp2_with fail
    refine wp_region_held_drew (S := fun _ => True) (by kernel_rfl) trivial (fun hHeld => ?_)
    refine tks 0 (oi := ⟨some 27, _, _, _, _, none⟩) ?_
    simp only [za, zb, zc, zd]
    refine tks 2 (oi := ⟨some 29, _, _, _, _, none⟩) ?_
    simp only [za, zb, zc, zd]
    refine tks 4 (oi := ⟨some 31, _, _, _, _, none⟩) ?_
    simp only [za, zb, zc, zd]
    refine tks 5 (oi := ⟨some 32, _, _, _, _, none⟩) ?_
    simp only [za, zb, zc, zd]
    refine rd2 1 3 (fun K hK => ?_) (fun K hK => ?_)
    ·
     obtain ⟨q0, q1, q2, q3⟩ := KK.out.2.2.1.d4
     go_simp
     refine hK.out _ _ trivial (fun hHeld => ?_)
     clear hK K q0 q1 q2 q3
     refine rd 3 (fun K hK => ?_)
     go_simp
     refine (next_any g b cap T q r l2 d _ (by first | exact KK.out.2.2.2.1 | exact KK.out.drew.2.2.2.1)).mono ?_
     rintro e v2 ⟨rfl, hk2, hp2⟩
     refine hK.out _ _ trivial (fun hHeld => ?_)
     replace KK : Hid (CS g b cap T w B d (r :: l2) n (vi ki k) (vS t) (vL sq sn sc) (vi ki a) v2) := by first | exact KK.out.kp hg hk2 hp2 HE2.out | exact KK.out.drew.kp hg hk2 hp2 HE2.out
     clear hK K hk2 hp2
     refine rd 6 (fun K hK => ?_)
     go_simp
     refine (op_no g b cap T _ (enters_of Tryd.func83 (by kernel_rfl) rfl) (r :: l2) d k t sq sn sc a q.1 q.2.1 q.2.2 ea er HMr _ (by first | exact KK.out.2.2.2.1 | exact KK.out.drew.2.2.2.1)).mono ?_
     rintro e v3 ⟨hk3, hf, rfl⟩
     refine hK.out _ _ trivial (fun hHeld => ?_)
     have KP : Hid (DF g w d ea er (v3.setCells w.heap.size 0 [vi ki 0, vS ⟨#[]⟩, vL none 0 0, vi ki 0])) := by first | exact KK.out.failed hg hk3 hf | exact KK.out.drew.failed hg hk3 hf
     have hB8 : Bx v3 w.heap.size [vi ki 0, vS ⟨#[]⟩, vL none 0 0, vi ki 0] := by first | exact hk3.bx KK.out.2.1 (by omega) | exact hk3.bx KK.out.drew.2.1 (by omega)
     have HB8 : Hid (Bx v3 w.heap.size _) := hB8
     simp only [World.setCells, Nat.zero_add, Nat.reduceAdd] at KP
     clear hK K hk3 hf KK hB8
     refine tks 7 (oi := ⟨some 34, _, _, _, _, none⟩) ?_
     simp only [za, zb, zc, zd]
     refine tks 8 (oi := ⟨some 35, _, _, _, _, none⟩) ?_
     simp only [za, zb, zc, zd]
     refine rd 9 (fun K hK => ?_)
     obtain ⟨q0, q1, q2, q3, z0, z1, z2, z3⟩ := HB8.out.cf4
     have hB9 := HB8.out.1
     go_simp
     refine hK.out _ _ trivial (fun hHeld => ?_)
     refine gen_anyH (DF g w d ea er) (by first | exact KP.out | exact KP.out.drew) ?_
     clear hHeld hK K KP q0 q1 q2 q3 z0 z1 z2 z3 HB8 hB9
     intro v4 KK'
     have KK : Hid ((DF g w d ea er) v4) := KK'
     clear KK'
     have hHeld : True := trivial
     refine tks 10 (oi := ⟨some 3, _, _, _, _, none⟩) ?_
     simp only [za, zb, zc, zd]
     refine dn ?_
     obtain ⟨y0, y1, y2, y3⟩ := KK.out.2.1.d4
     go_wp2
     exact bodyPost_ret (v := .tuple #[.agg #[vi ki 0, vS ⟨#[]⟩, vL none 0 0, vi ki 0], .bool false]) (by simp [results, Tryd.results75, go_sem, y0, y1, y2, y3]) rfl (by rw [HR0.out]; exact ⟨KK.out.1, KK.out.2.2, rfl⟩)
    ·
     go_simp
     refine (next_any g b cap T q r l2 d _ (by first | exact KK.out.2.2.2.1 | exact KK.out.drew.2.2.2.1)).mono ?_
     rintro e v5 ⟨rfl, hk5, hp5⟩
     refine hK.out _ _ trivial (fun hHeld => ?_)
     replace KK : Hid (CS g b cap T w B d (r :: l2) n (vi ki k) (vS t) (vL sq sn sc) (vi ki a) v5) := by first | exact KK.out.kp hg hk5 hp5 HE2.out | exact KK.out.drew.kp hg hk5 hp5 HE2.out
     clear hK K hk5 hp5
     refine rd 1 (fun K hK => ?_)
     obtain ⟨q0, q1, q2, q3⟩ := KK.out.2.2.1.d4
     go_simp
     refine hK.out _ _ trivial (fun hHeld => ?_)
     clear hK K q0 q1 q2 q3
     refine rd 6 (fun K hK => ?_)
     go_simp
     refine (op_no g b cap T _ (enters_of Tryd.func83 (by kernel_rfl) rfl) (r :: l2) d k t sq sn sc a q.1 q.2.1 q.2.2 ea er HMr _ (by first | exact KK.out.2.2.2.1 | exact KK.out.drew.2.2.2.1)).mono ?_
     rintro e v7 ⟨hk7, hf, rfl⟩
     refine hK.out _ _ trivial (fun hHeld => ?_)
     have KP : Hid (DF g w d ea er (v7.setCells w.heap.size 0 [vi ki 0, vS ⟨#[]⟩, vL none 0 0, vi ki 0])) := by first | exact KK.out.failed hg hk7 hf | exact KK.out.drew.failed hg hk7 hf
     have hB8 : Bx v7 w.heap.size [vi ki 0, vS ⟨#[]⟩, vL none 0 0, vi ki 0] := by first | exact hk7.bx KK.out.2.1 (by omega) | exact hk7.bx KK.out.drew.2.1 (by omega)
     have HB8 : Hid (Bx v7 w.heap.size _) := hB8
     simp only [World.setCells, Nat.zero_add, Nat.reduceAdd] at KP
     clear hK K hk7 hf KK hB8
     refine tks 7 (oi := ⟨some 34, _, _, _, _, none⟩) ?_
     simp only [za, zb, zc, zd]
     refine tks 8 (oi := ⟨some 35, _, _, _, _, none⟩) ?_
     simp only [za, zb, zc, zd]
     refine rd 9 (fun K hK => ?_)
     obtain ⟨q0, q1, q2, q3, z0, z1, z2, z3⟩ := HB8.out.cf4
     have hB9 := HB8.out.1
     go_simp
     refine hK.out _ _ trivial (fun hHeld => ?_)
     refine gen_anyH (DF g w d ea er) (by first | exact KP.out | exact KP.out.drew) ?_
     clear hHeld hK K KP q0 q1 q2 q3 z0 z1 z2 z3 HB8 hB9
     intro v8 KK'
     have KK : Hid ((DF g w d ea er) v8) := KK'
     clear KK'
     have hHeld : True := trivial
     refine tks 10 (oi := ⟨some 3, _, _, _, _, none⟩) ?_
     simp only [za, zb, zc, zd]
     refine dn ?_
     obtain ⟨y0, y1, y2, y3⟩ := KK.out.2.1.d4
     go_wp2
     exact bodyPost_ret (v := .tuple #[.agg #[vi ki 0, vS ⟨#[]⟩, vL none 0 0, vi ki 0], .bool false]) (by simp [results, Tryd.results75, go_sem, y0, y1, y2, y3]) rfl (by rw [HR0.out]; exact ⟨KK.out.1, KK.out.2.2, rfl⟩)
  ·rw [Bool.not_eq_true] at hi
   rw [hi]
   dsimp only [cmpK] at hR
   rw [hi] at hR
   have HR1 : Hid (R = .ok n (q :: l)) := hR
   have K9 : Hid (Kp g w W3) := KB2.out.1
   have H9 : Hid (Bx W3 w.heap.size _) := KB2.out.2.1
   have H8 : Hid (Bx W3 B _) := KB2.out.2.2.1
   clear hR
   obtain ⟨x0, x1, x2, x3⟩ := H8.out.d4
   obtain ⟨y0', y1', y2', y3', HFK, HFO, HFS, r0, r1, r2, r3, s0, s1, s2, s3, hrw'⟩ := fin9 (vi ki k) (vS t) (vL sq sn sc) (vi ki a) K9.out (by omega) (H9.out)
   go_wp2
   refine bodyPost_ret (v := .tuple #[.agg #[vi ki k, vS t, vL sq sn sc, vi ki a], .bool true]) (by simp [results, Tryd.results75, go_sem, y0', y1', y2', y3']) rfl ⟨HFK.out, by rw [HR1.out]; exact ⟨KB2.out.2.2.2.1.off HFO.out HFS.out (by omega) (by omega), HE0.out, _, _, _, _, _, _, rfl, KB2.out.2.2.2.2.1.off HFO.out HFS.out (fun c hc => ⟨by omega, by omega⟩)⟩⟩
theorem CS.other {g b cap : Nat} {T : List Tk} {w : World} {B d : Nat} {L : List Tk} {n : Nd} {c0 c1 c2 c3 : Value} {V : World} (h : CS g b cap T w B d L n c0 c1 c2 c3 V) {B6 i : Nat} (hg : g < w.heap.size) (hbl : b < w.heap.size) (h6 : w.heap.size < B6) (h7 : B6 ≠ B) (hn : NdAt (fun c => (w.heap.size + 1 ≤ c ∧ c ≠ B) ∧ c ≠ B6) V n [c0, c1, c2, c3]) (v : Value) : CS g b cap T w B d L n c0 c1 c2 c3 (V.setCell ⟨B6, i, none⟩ v) := by
 have k : ∀ c, c < V.heap.size → c ≠ B6 → (V.setCell ⟨B6, i, none⟩ v).heap[c]? = V.heap[c]? := fun c _ hc => Below.heap_setCell _ _ _ _ hc
 exact ⟨h.1.set (p := ⟨B6, i, none⟩) (.inr (by show _ ≤ B6; omega)) v, h.2.1.setOther (by omega) [v] i, h.2.2.1.setOther (by omega) [v] i, h.2.2.2.1.off k (by simp) (by omega) (by omega), hn.off k (by simp) (fun c hc => ⟨hc.1, hc.2⟩), h.2.2.2.2.2⟩
theorem zone_lv (g b cap : Nat) (T : List Tk) (N : Nat) (HM : Hid (LvOk g b cap T 94 8 N)) : LvOk g b cap T 93 7 N := by
 intro w L d f h hL hd hN hf
 obtain ⟨f, rfl⟩ : ∃ f', f = f' + 1 := ⟨f - 1, by obtain ⟨p, l, rfl⟩ := hL.cons; simp only [need, zl] at hf; omega⟩
 obtain ⟨p, l, rfl⟩ := hL.cons
 have eP : par (f + 1) (.lv 7) d (p :: l) = match par f (.lv 8) d (p :: l) with | .ok n l1 => par f (.zs n) d l1 | .no a e => .no a e := by
  rw [par_succ]; unfold pst; dsimp only
  rw [if_neg (by omega), if_neg (by omega), if_neg (by omega), if_pos rfl]
  cases par f (.lv 8) d (p :: l) <;> rfl
 simp only [need, zl] at hf
 have hok : okTg (.lv 8) := by simp [okTg]
 have hf1 : need (.lv 8) (p :: l) ≤ f := by simp only [need, zl]; omega
 have HC : Hid (∀ V : World, PS g b cap T V (p :: l) d → Calls Tryd.prog 94 #[.pointer (some ⟨g, 0, none⟩)] V fun e w' => Kp g V w' ∧ Out g b cap T (fun c => V.heap.size ≤ c) w' d e (par f (.lv 8) d (p :: l))) := fun V hV => HM.out V _ d f hV hL hd hN hf1
 obtain ⟨R, hR⟩ : ∃ R, R = par (f + 1) (.lv 7) d (p :: l) := ⟨_, rfl⟩
 rw [← hR]
 rw [eP] at hR
 clear eP
 cases hr : par f (.lv 8) d (p :: l) with
 | no ea er =>
  rw [hr] at HC hR
  have HR0 := hZz hR
  clear hR hr
  have HP : Hid _ := h
  have hg := h.lt
  have hbl := h.tr.1
  clear h
  go_enter Tryd.func93, Tryd.ntmps93
  go_wp2_with fail
  have B0 := bsm1 w [vi ki 0, vS ⟨#[]⟩, vL none 0 0, vi ki 0] 24
  refine (HC.out _ (HP.out.below B0.out.1)).mono ?_
  rintro e W1 ⟨hk, ho⟩
  have hz1 : w.heap.size + 1 ≤ W1.heap.size := hzk hk
  have K1 := kpt B0 hk
  have H1_0 := bxk hk B0 0
  clear B0
  obtain ⟨hf, rfl⟩ := ho
  have HF := hZz hf
  clear hf hk
  have HS0 : Hid (CF g w W1.heap.size d ea er (W1.alloc (.cells #[vi ki 0, vS ⟨#[]⟩, vL none 0 0, vi ki 0] 24))) := ⟨K1.out.alloc _, H1_0.out.alloc _, Bx.new W1 [vi ki 0, vS ⟨#[]⟩, vL none 0 0, vi ki 0] _, HF.out.keep (by simp) (Below.heap_alloc _ _ _ (by obtain ⟨_, h, _⟩ := HF.out; exact h.1))⟩
  obtain ⟨B, hB⟩ : ∃ B, B = W1.heap.size := ⟨_, rfl⟩
  have hB1 : w.heap.size + 1 ≤ B := by omega
  clear K1 H1_0 hz1 HF HC HP
  go_wp2_with fail
  rw [← hB] at HS0
  rw [← hB]
  clear hB
  go_loopw [5] (fun v W => v = .bool false ∧ Hid (CF g w B d ea er W)) (fun _ _ => 0)
  case atStart => exact ⟨rfl, HS0.out⟩
  case round =>
   obtain ⟨rfl, HW⟩ := hrel
   clear HS0
   have K9 := hZz HW.out.1
   have H9 := hZz HW.out.2.1
   have H8 := hZz HW.out.2.2.1
   have HF := hZz HW.out.2.2.2
   clear HW
   obtain ⟨x0, x1, x2, x3⟩ := H8.out.d4
   obtain ⟨y0', y1', y2', y3', HFK, HFO, HFS, r0, r1, r2, r3, s0, s1, s2, s3, hrw'⟩ := fin9 (vi ki 0) (vS ⟨#[]⟩) (vL none 0 0) (vi ki 0) K9.out (by omega) (H9.out)
   go_wp2
   refine bodyPost_ret (v := .tuple #[.agg #[vi ki 0, vS ⟨#[]⟩, vL none 0 0, vi ki 0], .bool false]) (by simp [results, Tryd.results93, go_sem, y0', y1', y2', y3']) rfl ⟨HFK.out, by rw [HR0.out]; exact ⟨PF.off HF.out HFO.out HFS.out (by omega), rfl⟩⟩
 | ok n0 l0 =>
  rw [hr] at HC hR
  have hls := par_less hok hL hf1 hr
  have hls2 := hls.2
  simp only [most, zl] at hls2
  have HE0 := hZz hls.1
  have HR0 := hZz hR.symm
  clear hR hr hls
  have HP : Hid _ := h
  have hg := h.lt
  have hbl := h.tr.1
  clear h
  go_enter Tryd.func93, Tryd.ntmps93
  go_wp2_with fail
  have B0 := bsm1 w [vi ki 0, vS ⟨#[]⟩, vL none 0 0, vi ki 0] 24
  refine (HC.out _ (HP.out.below B0.out.1)).mono ?_
  rintro e W1 ⟨hk, ho⟩
  have hz1 : w.heap.size + 1 ≤ W1.heap.size := hzk hk
  have K1 := kpt B0 hk
  have H1_0 := bxk hk B0 0
  clear B0
  obtain ⟨hps, hend, k0, u0, sq0, sn0, sc0, a0, rfl, hnd⟩ := ho
  have HS0 : Hid (CS g b cap T w W1.heap.size d l0 n0 (vi ki k0) (vS u0) (vL sq0 sn0 sc0) (vi ki a0) (W1.alloc (.cells #[vi ki k0, vS u0, vL sq0 sn0 sc0, vi ki a0] 24))) := by
   refine ⟨K1.out.alloc _, H1_0.out.alloc _, Bx.new W1 [vi ki k0, vS u0, vL sq0 sn0 sc0, vi ki a0] _, hps.below ((Below.refl _ _).alloc (Nat.le_refl _) _), ?_, by omega, hend⟩
   exact NdAt.keep (by simp) (fun c hc hl => ⟨⟨by (try simp at hc); omega, by omega⟩, Below.heap_alloc _ _ _ hl⟩) _ _ hnd
  obtain ⟨B, hB⟩ : ∃ B, B = W1.heap.size := ⟨_, rfl⟩
  have hB1 : w.heap.size + 1 ≤ B := by omega
  clear hps hend hnd hk K1 H1_0 hz1 HC HP
  go_wp2_with fail
  rw [← hB] at HS0
  rw [← hB]
  clear hB
  go_loopw [5] (fun v W => (∃ (n : Nd) (l1 : List Tk) (f1 : Nat) (k : Int) (t : ByteArray) (sq : Option Addr) (sn sc : Nat) (a : Int), Hid (CS g b cap T w B d l1 n (vi ki k) (vS t) (vL sq sn sc) (vi ki a) W) ∧ v = .bool true ∧ l1.length ≤ N ∧ Hid (10 * l1.length + 1 ≤ f1) ∧ Hid (par f1 (.zs n) d l1 = R)) ∨ (v = .bool false ∧ ∃ ea er, Hid (CF g w B d ea er W) ∧ Hid (R = .no ea er))) (fun v W => msr g v W)
  case atStart => exact .inl ⟨n0, l0, f, _, _, _, _, _, _, HS0, rfl, by simp only [zl] at hN; omega, by show _ ≤ _; omega, HR0⟩
  case round =>
   clear HS0 HR0 HE0
   rcases hrel with ⟨n, l1, f1, k, t, sq, sn, sc, a, KK, rfl, hN1, HF0, HR0⟩ | ⟨rfl, ea, er, KK, HR0⟩
   ·obtain ⟨q, l, rfl⟩ := KK.out.2.2.2.2.2.2.cons
    obtain ⟨f1, rfl⟩ : ∃ f', f1 = f' + 1 := ⟨f1 - 1, by have := HF0.out; omega⟩
    have HPL := hZz KK.out.2.2.2.1.len
    have hwr : B < wr.heap.size := KK.out.2.2.1.1
    have hwr2 : w.heap.size < wr.heap.size := KK.out.2.1.1
    have HF2 : Hid (10 * l.length + 10 ≤ f1) := by have := HF0.out; simp only [zl] at this; show _ ≤ _; omega
    clear HF0
    have B2 := bsm1 wr [vi ki 4, vS ⟨#[97, 116]⟩] 79
    go_wp2_with fail
    refine (is_any g b cap T q l d [(4, atB)] wr.heap.size 1 _ (KK.out.2.2.2.1.below B2.out.1) (by simp) (by omega) (by simp) B2.out.first).mono ?_
    rintro e W2 ⟨rfl, hb⟩
    have KB2 : Hid (CS g b cap T w B d (q :: l) n (vi ki k) (vS t) (vL sq sn sc) (vi ki a) W2) := KK.out.kp hg ((Kp.of B2.out.1).trans (Kp.of hb)) ((KK.out.2.2.2.1.below B2.out.1).below hb) KK.out.2.2.2.2.2.2
    have hwr3 : B < W2.heap.size := KB2.out.2.2.1.1
    have hwr4 : w.heap.size < W2.heap.size := KB2.out.2.1.1
    clear hb KK B2
    by_cases hi : isT q [(4, atB)] = true
    ·rw [hi]
     have hk0 : q.1 ≠ 0 := isT_kind hi (by simp)
     have hEl : EndL l := EndL.tail KB2.out.2.2.2.2.2.2 hk0
     obtain ⟨u, l1, rfl⟩ := hEl.cons
     have HE2 := hZz hEl
     clear hEl
     go_wp2_with fail
     refine (next_any g b cap T q u l1 d _ KB2.out.2.2.2.1).mono ?_
     rintro e W3 ⟨rfl, hk3, hp3⟩
     have KC : Hid (CS g b cap T w B d (u :: l1) n (vi ki k) (vS t) (vL sq sn sc) (vi ki a) W3) := KB2.out.kp hg hk3 hp3 HE2.out
     have hwr5 : B < W3.heap.size := KC.out.2.2.1.1
     have hwr6 : w.heap.size < W3.heap.size := KC.out.2.1.1
     have B3 := bsm1 W3 [vi ki q.1, vS q.2.1, vi ki q.2.2] 81
     go_upto_region 4 with fail
     obtain ⟨B6, hB6⟩ : ∃ B6, B6 = W3.heap.size := ⟨_, rfl⟩
     refine gen_to (fun V => CS g b cap T w B d (u :: l1) n (vi ki k) (vS t) (vL sq sn sc) (vi ki a) V ∧ Bx V B6 [vi ki q.1, vS q.2.1, vi ki q.2.2] ∧ NdAt (fun c => (w.heap.size + 1 ≤ c ∧ c ≠ B) ∧ c ≠ B6) V n [vi ki k, vS t, vL sq sn sc, vi ki a]) ⟨?_, ?_, ?_⟩ ?_
     ·exact KC.out.kp hg (Kp.of B3.out.1) (KC.out.2.2.2.1.below B3.out.1) HE2.out
     ·rw [hB6]; exact B3.out.first
     ·exact NdAt.keep B3.out.1.size (fun c hc hl => ⟨⟨hc, by omega⟩, B3.out.1.block c hl⟩) _ _ KC.out.2.2.2.2.1
     rintro W4 ⟨hc4, hb4, hn4⟩
     have K4 := hZz hc4
     have H6 := hZz hb4
     have N6 := hZz hn4
     rw [← hB6]
     have h6B : B < B6 := by omega
     have h6w : w.heap.size < B6 := by omega
     clear hc4 hb4 hn4 KC B3 KB2 hk3 hp3 hB6 hwr5 hwr6
     have hw41 : B < W4.heap.size := K4.out.2.2.1.1
     have hw42 : w.heap.size < W4.heap.size := K4.out.2.1.1
     have hw43 : B6 < W4.heap.size := H6.out.1
     by_cases ht : isT u [(4, timeB)] = true
     ·have hk1 : u.1 ≠ 0 := isT_kind ht (by simp)
      have hEl : EndL l1 := EndL.tail HE2.out hk1
      obtain ⟨z, l2, rfl⟩ := hEl.cons
      have HE3 := hZz hEl
      clear hEl
      go_wp2_with fail
      refine (take_yes g b cap T u l2 d 4 timeB _ z K4.out.2.2.2.1 ht).mono ?_
      rintro e W5 ⟨rfl, hk5, hp5⟩
      have K5 : Hid (CS g b cap T w B d (z :: l2) n (vi ki k) (vS t) (vL sq sn sc) (vi ki a) W5) := K4.out.kp hg hk5 hp5 HE3.out
      have H65 : Hid (Bx W5 B6 [vi ki q.1, vS q.2.1, vi ki q.2.2]) := hk5.bx H6.out (by omega)
      have N65 : Hid (NdAt (fun c => (w.heap.size + 1 ≤ c ∧ c ≠ B) ∧ c ≠ B6) W5 n [vi ki k, vS t, vL sq sn sc, vi ki a]) := N6.out.kp hk5 (fun c hc => ⟨hc, by omega⟩)
      clear hk5 hp5 K4 H6 N6 hw41 hw42 hw43
      have hw51 : B < W5.heap.size := K5.out.2.2.1.1
      have hw52 : w.heap.size < W5.heap.size := K5.out.2.1.1
      have hw53 : B6 < W5.heap.size := H65.out.1
      by_cases hz : isT z [(4, zoneB)] = true
      ·have hk2 : z.1 ≠ 0 := isT_kind hz (by simp)
       have hEl : EndL l2 := EndL.tail HE3.out hk2
       obtain ⟨y, l3, rfl⟩ := hEl.cons
       have HE4 := hZz hEl
       clear hEl
       go_wp2_with fail
       refine (take_yes g b cap T z l3 d 4 zoneB _ y K5.out.2.2.2.1 hz).mono ?_
       rintro e W6 ⟨rfl, hk6, hp6⟩
       have K6 : Hid (CS g b cap T w B d (y :: l3) n (vi ki k) (vS t) (vL sq sn sc) (vi ki a) W6) := K5.out.kp hg hk6 hp6 HE4.out
       have H66 : Hid (Bx W6 B6 [vi ki q.1, vS q.2.1, vi ki q.2.2]) := hk6.bx H65.out (by omega)
       have N66 : Hid (NdAt (fun c => (w.heap.size + 1 ≤ c ∧ c ≠ B) ∧ c ≠ B6) W6 n [vi ki k, vS t, vL sq sn sc, vi ki a]) := N65.out.kp hk6 (fun c hc => ⟨hc, by omega⟩)
       clear hk6 hp6 K5 H65 N65 hw51 hw52 hw53
       have c61 := H66.out.c 1 rfl
       have z61 := H66.out.f 1 rfl
       have hw61 := H66.out.1
       go_upto_region 7 with fail
       refine gen_to (fun V => CS g b cap T w B d (y :: l3) n (vi ki k) (vS t) (vL sq sn sc) (vi ki a) V ∧ Bx V B6 [vi ki q.1, vS ⟨#[97, 116, 32, 116, 105, 109, 101, 32, 122, 111, 110, 101]⟩, vi ki q.2.2] ∧ NdAt (fun c => (w.heap.size + 1 ≤ c ∧ c ≠ B) ∧ c ≠ B6) V n [vi ki k, vS t, vL sq sn sc, vi ki a]) ⟨?_, ?_, ?_⟩ ?_
       ·exact K6.out.other hg hbl (by omega) (by omega) N66.out _
       ·exact H66.out.set1 1 _ (by simp)
       ·exact N66.out.off (r := B6) (fun c _ hc => Below.heap_setCell _ _ _ _ hc) (by simp) (fun c hc => ⟨hc, hc.2⟩)
       rintro W7 ⟨hc7, hb7, hn7⟩
       have K7 := hZz hc7
       have H67 := hZz hb7
       have N67 := hZz hn7
       clear hc7 hb7 hn7 K6 H66 N66 c61 z61 hw61
       have c60 := H67.out.c 0 rfl
       have c61 := H67.out.c 1 rfl
       have c62 := H67.out.c 2 rfl
       obtain ⟨c70, c71, c72, c73⟩ := K7.out.2.2.1.d4
       have hw71 := H67.out.1
       have hw72 := K7.out.2.2.1.1
       simp only [zl] at hN1 HPL HF2
       have hf2 : need (.lv 8) (y :: l3) ≤ f1 := by have := HF2.out; simp only [need, zl] at this ⊢; omega
       have HMr0 : Hid (∀ V : World, PS g b cap T V (y :: l3) d → Calls Tryd.prog 94 #[.pointer (some ⟨g, 0, none⟩)] V fun e w' => Kp g V w' ∧ Out g b cap T (fun c => V.heap.size ≤ c) w' d e (par f1 (.lv 8) d (y :: l3))) := fun V hV => HM.out V _ d f1 hV HE4.out hd (by simp only [zl]; omega) hf2
       have eL : par (f1 + 1) (.zs n) d (q :: u :: z :: y :: l3) = match par f1 (.lv 8) d (y :: l3) with | .ok m l3 => par f1 (.zs (.mk 8 atzB [n, m] q.2.2)) d l3 | .no a e => .no a e := by
        rw [par_succ]; unfold pst; dsimp only; rw [if_pos hi, if_pos ht, if_pos hz]; cases par f1 (.lv 8) d (y :: l3) <;> rfl
       have hR1 := HR0.out
       rw [eL] at hR1
       clear eL HR0
       cases hr : par f1 (.lv 8) d (y :: l3) with
       | ok m l4 =>
        rw [hr] at HMr0 hR1
        have HMr : Hid _ := HMr0
        have hls := (par_less hok HE4.out hf2 hr).2
        simp only [most, zl] at hls
        have HR1 := hZz hR1
        have HF1 : Hid (10 * l4.length + 1 ≤ f1) := by have := HF2.out; show _ ≤ _; omega
        clear hR1 hr HMr0
        go_wp2_with fail
        refine (op_ok g b cap T _ (enters_of Tryd.func94 (by kernel_rfl) rfl) (y :: l3) d k t sq sn sc a q.1 atzB q.2.2 n m l4 (fun c => (w.heap.size + 1 ≤ c ∧ c ≠ B) ∧ c ≠ B6) (fun c hc => by omega) HMr _ K7.out.2.2.2.1 N67.out).mono ?_
        rintro e W8 ⟨hk8, hps, hend, k2, u2, sq2, sn2, sc2, a2, rfl, hnd⟩
        have KP : Hid (CS g b cap T w B d l4 (.mk 8 atzB [n, m] q.2.2) (vi ki k2) (vS u2) (vL sq2 sn2 sc2) (vi ki a2) (W8.setCells B 0 [vi ki k2, vS u2, vL sq2 sn2 sc2, vi ki a2])) := K7.out.put hg hbl hk8 hps hend (NdAt.keep (Nat.le_refl _) (fun c hc _ => ⟨by omega, rfl⟩) _ _ hnd)
        have hB8 : Bx W8 B [vi ki k, vS t, vL sq sn sc, vi ki a] := hk8.bx K7.out.2.2.1 (by omega)
        simp only [World.setCells, Nat.zero_add, Nat.reduceAdd] at KP
        obtain ⟨d80, d81, d82, d83, e80, e81, e82, e83⟩ := hB8.cf4
        have hw81 := hB8.1
        clear hk8 hps hend hnd hB8
        go_wp2
        exact ⟨.inl ⟨_, l4, f1, _, _, _, _, _, _, KP, rfl, by omega, HF1.out, HR1.out⟩, by rw [msr_true, msr_true, KP.out.2.2.2.1.len, HPL.out]; omega⟩
       | no ea er =>
        rw [hr] at HMr0 hR1
        have HMr : Hid _ := HMr0
        have HR1 := hZz hR1.symm
        clear hR1 hr HMr0
        go_wp2_with fail
        refine (op_no g b cap T _ (enters_of Tryd.func94 (by kernel_rfl) rfl) (y :: l3) d k t sq sn sc a q.1 atzB q.2.2 ea er HMr _ K7.out.2.2.2.1).mono ?_
        rintro e W8 ⟨hk8, hf8, rfl⟩
        have KP : Hid (CF g w B d ea er (W8.setCells B 0 [vi ki 0, vS ⟨#[]⟩, vL none 0 0, vi ki 0])) := K7.out.fail hg hk8 hf8
        have hB8 : Bx W8 B [vi ki k, vS t, vL sq sn sc, vi ki a] := hk8.bx K7.out.2.2.1 (by omega)
        simp only [World.setCells, Nat.zero_add, Nat.reduceAdd] at KP
        obtain ⟨d80, d81, d82, d83, e80, e81, e82, e83⟩ := hB8.cf4
        have hw81 := hB8.1
        clear hk8 hf8 hB8
        go_wp2
        exact ⟨.inr ⟨rfl, ea, er, KP, HR1⟩, by rw [msr_false, msr_true]; omega⟩
      ·rw [Bool.not_eq_true] at hz
       have eL : par (f1 + 1) (.zs n) d (q :: u :: z :: l2) = .no z.2.2 30 := by rw [par_succ]; unfold pst; dsimp only; rw [if_pos hi, if_pos ht, hz]; rfl
       have hR1 := HR0.out
       rw [eL] at hR1
       have HR1 := hZz hR1.symm
       clear eL hR1 HR0
       go_wp2_with fail
       refine (take_no g b cap T z l2 d 4 zoneB _ K5.out.2.2.2.1 hz).mono ?_
       rintro e W6 ⟨rfl, hk6, hf6⟩
       have K9 : Hid (Kp g w W6) := K5.out.1.trans hk6
       have H9 : Hid (Bx W6 w.heap.size _) := hk6.bx K5.out.2.1 (by omega)
       have HF6 := hZz hf6
       clear hk6 hf6
       obtain ⟨y0', y1', y2', y3', HFK, HFO, HFS, r0, r1, r2, r3, s0, s1, s2, s3, hrw'⟩ := fin9 (vi ki 0) (vS ⟨#[]⟩) (vL none 0 0) (vi ki 0) K9.out (by omega) (H9.out)
       go_wp2
       refine bodyPost_ret (v := .tuple #[.agg #[vi ki 0, vS ⟨#[]⟩, vL none 0 0, vi ki 0], .bool false]) (by simp [results, Tryd.results93, go_sem, y0', y1', y2', y3']) rfl ⟨HFK.out, by rw [HR1.out]; exact ⟨PF.off HF6.out HFO.out HFS.out (by omega), rfl⟩⟩
     ·rw [Bool.not_eq_true] at ht
      have eL : par (f1 + 1) (.zs n) d (q :: u :: l1) = .no u.2.2 30 := by rw [par_succ]; unfold pst; dsimp only; rw [if_pos hi, ht]; rfl
      have hR1 := HR0.out
      rw [eL] at hR1
      have HR1 := hZz hR1.symm
      clear eL hR1 HR0
      go_wp2_with fail
      refine (take_no g b cap T u l1 d 4 timeB _ K4.out.2.2.2.1 ht).mono ?_
      rintro e W6 ⟨rfl, hk6, hf6⟩
      have K9 : Hid (Kp g w W6) := K4.out.1.trans hk6
      have H9 : Hid (Bx W6 w.heap.size _) := hk6.bx K4.out.2.1 (by omega)
      have HF6 := hZz hf6
      clear hk6 hf6
      obtain ⟨y0', y1', y2', y3', HFK, HFO, HFS, r0, r1, r2, r3, s0, s1, s2, s3, hrw'⟩ := fin9 (vi ki 0) (vS ⟨#[]⟩) (vL none 0 0) (vi ki 0) K9.out (by omega) (H9.out)
      go_wp2
      refine bodyPost_ret (v := .tuple #[.agg #[vi ki 0, vS ⟨#[]⟩, vL none 0 0, vi ki 0], .bool false]) (by simp [results, Tryd.results93, go_sem, y0', y1', y2', y3']) rfl ⟨HFK.out, by rw [HR1.out]; exact ⟨PF.off HF6.out HFO.out HFS.out (by omega), rfl⟩⟩
    ·rw [Bool.not_eq_true] at hi
     rw [hi]
     have eL : par (f1 + 1) (.zs n) d (q :: l) = .ok n (q :: l) := by rw [par_succ]; unfold pst; dsimp only; rw [hi]; rfl
     have hR1 := HR0.out
     rw [eL] at hR1
     have HR1 := hZz hR1.symm
     have K9 := hZz KB2.out.1
     have H9 := hZz KB2.out.2.1
     have H8 := hZz KB2.out.2.2.1
     clear eL hR1 HR0
     obtain ⟨x0, x1, x2, x3⟩ := H8.out.d4
     obtain ⟨y0', y1', y2', y3', HFK, HFO, HFS, r0, r1, r2, r3, s0, s1, s2, s3, hrw'⟩ := fin9 (vi ki k) (vS t) (vL sq sn sc) (vi ki a) K9.out (by omega) (H9.out)
     go_wp2
     refine bodyPost_ret (v := .tuple #[.agg #[vi ki k, vS t, vL sq sn sc, vi ki a], .bool true]) (by simp [results, Tryd.results93, go_sem, y0', y1', y2', y3']) rfl ⟨HFK.out, by rw [HR1.out]; exact ⟨KB2.out.2.2.2.1.off HFO.out HFS.out (by omega) (by omega), KB2.out.2.2.2.2.2.2, _, _, _, _, _, _, rfl, KB2.out.2.2.2.2.1.off HFO.out HFS.out (fun c hc => ⟨by omega, by omega⟩)⟩⟩
   ·skip
    have K9 := hZz KK.out.1
    have H9 := hZz KK.out.2.1
    have H8 := hZz KK.out.2.2.1
    have HF := hZz KK.out.2.2.2
    clear KK
    obtain ⟨x0, x1, x2, x3⟩ := H8.out.d4
    obtain ⟨y0', y1', y2', y3', HFK, HFO, HFS, r0, r1, r2, r3, s0, s1, s2, s3, hrw'⟩ := fin9 (vi ki 0) (vS ⟨#[]⟩) (vL none 0 0) (vi ki 0) K9.out (by omega) (H9.out)
    go_wp2
    refine bodyPost_ret (v := .tuple #[.agg #[vi ki 0, vS ⟨#[]⟩, vL none 0 0, vi ki 0], .bool false]) (by simp [results, Tryd.results93, go_sem, y0', y1', y2', y3']) rfl ⟨HFK.out, by rw [HR0.out]; exact ⟨PF.off HF.out HFO.out HFS.out (by omega), rfl⟩⟩
end Go.Proofs.YtaoocecipacnhaaDoor
