/- The reference's parse: where it has failed; casts; not and minus. -/
import Derived.Test.YtaoocecipacnhaaDoorRxFq
namespace Go.Proofs.YtaoocecipacnhaaDoor
open Go.RowKit
set_option linter.unusedVariables false

set_option maxRecDepth 100000 in
set_option maxHeartbeats 4000000 in
theorem rlv_bad (g b lo : Nat) (lev a e : Int) (he : e ≠ 0) (w : World) (h : RF g b lo w a e) (hbl : b < w.heap.size) (hlo : lo ≤ w.heap.size) :
    Calls Tryd.prog 18 #[.pointer (some ⟨g, 0, none⟩), .int .i64 lev] w fun e' w' => Kp g w w' ∧ RF g b lo w' a e ∧ e' = .returned (.agg #[.int .i64 0, .string ⟨#[]⟩, .slice none 0 0, .int .i64 0]) := by
  obtain ⟨c, o, n, m, D, k, z, t, hcc, hb, h2, h3, h4, h5, h6, h7, hD, t0, t1, t2⟩ := id h
  have c0 := hb.c 0 rfl
  have c2 := hb.c 2 rfl
  have hg := hb.1
  have HE : Hid (e ≠ 0) := he
  have he0 : (e == 0) = false := by simpa using he
  have he1 : (e = 0) = False := eq_false he
  have HF : Hid (RF g b lo w a e) := h
  clear hb h he hcc
  go_enter Tryd.func18, Tryd.ntmps18
  go_wp2
  refine bodyPost_ret (v := .agg #[.int .i64 0, .string ⟨#[]⟩, .slice none 0 0, .int .i64 0]) (by simp [results, Tryd.results18, go_sem]) rfl ⟨(Kp.refl g w).alloc _, HF.out.below ((Below.refl _ w).alloc (Nat.le_refl _) _), rfl⟩

set_option maxRecDepth 100000 in
set_option maxHeartbeats 4000000 in
theorem rlv_8 (g b cap : Nat) (T : List Tk) (N : Nat) (HM : Hid (RM g b cap T 37 8 N)) : RLv g b cap T 8 N := by
  intro w L d f h hL hd hN hf
  obtain ⟨R, hR⟩ : ∃ R, par f (.lv 8) d (mL L) = R := ⟨_, rfl⟩
  have HC : Hid (∀ V : World, RS g b cap T V L d → Calls Tryd.prog 37 #[.pointer (some ⟨g, 0, none⟩)] V fun e w' => Kp g V w' ∧ ROut g b V.heap.size cap T (fun c => V.heap.size ≤ c) w' d e R) := fun V hV => by rw [← hR]; exact HM.out V L d f hV hL hd hN hf
  rw [hR]
  clear hR
  obtain ⟨r, l, rfl⟩ := mL_none hL
  have hg := h.lt
  have hbl := h.tr.1
  have HP : Hid _ := h
  obtain ⟨⟨pre, pa, he, hbx⟩, htr, hne, hle, hmost⟩ := h
  have cg0 := hbx.c 0 rfl
  have cg1 := hbx.c 1 rfl
  have cg2 := hbx.c 2 rfl
  have fg0 := hbx.f 0 rfl
  have fg1 := hbx.f 1 rfl
  obtain ⟨t0, t1, t2⟩ := htr.at he
  have hgW := hbx.1
  have hbW := htr.1
  have hlen : T.length = pre.length + l.length + 1 := by rw [he]; simp <;> omega
  unfold maxLen at hmost
  have HEQ : Hid _ := he
  have HBX : Hid (Bx _ g _) := hbx
  have HTR : Hid (TR _ b T) := htr
  clear hbx htr he
  go_enter Tryd.func18, Tryd.ntmps18
  go_wp2_with fail
  have B0 : Hid (BS w [(w.heap.size, [.int .i64 0, .string ⟨#[]⟩, .slice none 0 0, .int .i64 0])] _) := ((BS.start w).new [.int .i64 0, .string ⟨#[]⟩, .slice none 0 0, .int .i64 0] 30 rfl)
  refine (HC.out _ (HP.out.below B0.out.1)).mono ?_
  rintro e W1 ⟨hk, ho⟩
  have hz1 : w.heap.size + 1 ≤ W1.heap.size := by have := hk.size; (try simp at this); omega
  have K1 : Hid (Kp g w W1) := (Kp.of B0.out.1).trans hk
  have H1 : Hid (Bx W1 w.heap.size [.int .i64 0, .string ⟨#[]⟩, .slice none 0 0, .int .i64 0]) := hk.bx B0.out.first (by omega)
  clear B0 cg0 cg1 cg2 fg0 fg1 t0 t1 t2 hgW hbW hlen hmost hle HEQ HBX HTR hne HP HC hk
  cases R with
  | no ea er =>
    obtain ⟨her, hf, k9, u9, sq9, sn9, sc9, a9, rfl⟩ := ho
    have HF : Hid (RF g b (w.heap.size + 1) W1 ea er) := by have := hf; simp at this; exact this
    have HER : Hid (er ≠ 0) := her
    clear hf her
    obtain ⟨FK, FB, FO, FS⟩ := fin4 [] (.int .i64 k9) (.string u9) (.slice sq9 sn9 sc9) (.int .i64 a9) K1.out (Nat.le_refl _) (H1.out)
    have y0' := FB.c 0 rfl
    have y1' := FB.c 1 rfl
    have y2' := FB.c 2 rfl
    have y3' := FB.c 3 rfl
    simp only [List.foldl, World.setCells, Nat.zero_add, Nat.reduceAdd] at y0' y1' y2' y3'
    have HFK : Hid _ := FK
    have HFO : Hid _ := FO
    have HFS : Hid _ := FS
    clear FK FB FO FS
    have rr0 := (H1.out).c 0 rfl
    have rr1 := (H1.out).c 1 rfl
    have rr2 := (H1.out).c 2 rfl
    have rr3 := (H1.out).c 3 rfl
    have rf0 := (H1.out).f 0 rfl
    have rf1 := (H1.out).f 1 rfl
    have rf2 := (H1.out).f 2 rfl
    have rf3 := (H1.out).f 3 rfl
    have hrw' := (H1.out).1
    go_wp2
    refine bodyPost_ret (v := .agg #[.int .i64 k9, .string u9, .slice sq9 sn9 sc9, .int .i64 a9]) (by simp [results, Tryd.results18, go_sem, y0', y1', y2', y3']) rfl ⟨HFK.out, HER.out, (HF.out.off HFO.out HFS.out (by omega) (by omega) (by omega)).mono (by omega), _, _, _, _, _, _, rfl⟩
  | ok n l1 =>
    obtain ⟨L1, rfl, hrs, hend, k9, u9, sq9, sn9, sc9, a9, rfl, hnd⟩ := ho
    have HS : Hid (RS g b cap T W1 L1 d) := hrs
    have HE1 : Hid (EndL (mL L1)) := hend
    have HNd : Hid (NdAt (fun c => w.heap.size + 1 ≤ c) W1 n [.int .i64 k9, .string u9, .slice sq9 sn9 sc9, .int .i64 a9]) := NdAt.keep (Nat.le_refl _) (fun c hc _ => ⟨by (try simp at hc); omega, rfl⟩) _ _ hnd
    clear hrs hend hnd
    obtain ⟨FK, FB, FO, FS⟩ := fin4 [] (.int .i64 k9) (.string u9) (.slice sq9 sn9 sc9) (.int .i64 a9) K1.out (Nat.le_refl _) (H1.out)
    have y0' := FB.c 0 rfl
    have y1' := FB.c 1 rfl
    have y2' := FB.c 2 rfl
    have y3' := FB.c 3 rfl
    simp only [List.foldl, World.setCells, Nat.zero_add, Nat.reduceAdd] at y0' y1' y2' y3'
    have HFK : Hid _ := FK
    have HFO : Hid _ := FO
    have HFS : Hid _ := FS
    clear FK FB FO FS
    have rr0 := (H1.out).c 0 rfl
    have rr1 := (H1.out).c 1 rfl
    have rr2 := (H1.out).c 2 rfl
    have rr3 := (H1.out).c 3 rfl
    have rf0 := (H1.out).f 0 rfl
    have rf1 := (H1.out).f 1 rfl
    have rf2 := (H1.out).f 2 rfl
    have rf3 := (H1.out).f 3 rfl
    have hrw' := (H1.out).1
    go_wp2
    refine bodyPost_ret (v := .agg #[.int .i64 k9, .string u9, .slice sq9 sn9 sc9, .int .i64 a9]) (by simp [results, Tryd.results18, go_sem, y0', y1', y2', y3']) rfl ⟨HFK.out, L1, rfl, HS.out.off HFO.out HFS.out (by omega) (by omega), HE1.out, _, _, _, _, _, _, rfl, HNd.out.off HFO.out HFS.out (fun c hc => ⟨by omega, by omega⟩)⟩

end Go.Proofs.YtaoocecipacnhaaDoor
