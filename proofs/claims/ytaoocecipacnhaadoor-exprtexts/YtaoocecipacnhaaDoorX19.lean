import Derived.Test.YtaoocecipacnhaaDoorX18
open Go.Value renaming int → vi, string → vS, slice → vL
open Go.IntKind renaming i64 → ki
open List renaming setIfInBounds_toArray → zb, set_cons_zero → zc, set_cons_succ → zd, length_cons → zl
open Go.Act renaming put → za
open Go.Ending renaming returned → zr
set_option maxRecDepth 100000
set_option maxHeartbeats 16000000
set_option linter.all false
namespace Go.Proofs.YtaoocecipacnhaaDoor
open Go.RowKit
theorem toks_zero (s : ByteArray) : ∀ (n : Nat) (L A T : List Tk), (∀ a ∈ A, a.1 = 0 → a.2.1 = ⟨#[]⟩) → toksF s n L A = .inr T → ∀ a ∈ T, a.1 = 0 → a.2.1 = ⟨#[]⟩
 | 0, L, A, T, h, e => by
  simp only [toksF, Sum.inr.injEq] at e; subst e
  intro a ha h0
  rcases List.mem_append.1 ha with z | z
  ·exact h a z h0
  ·simp at z; subst z; rfl
 | n + 1, [], A, T, h, e => by
  simp only [toksF, Sum.inr.injEq] at e; subst e
  intro a ha h0
  rcases List.mem_append.1 ha with z | z
  ·exact h a z h0
  ·simp at z; subst z; rfl
 | n + 1, p :: l, A, T, h, e => by
  rw [toksF] at e
  split at e
  ·exact absurd e (by simp)
  ·refine toks_zero s n _ _ T (fun a ha h0 => ?_) e
   rcases List.mem_append.1 ha with z | z
   ·exact h a z h0
   ·simp at z; subst z; exact absurd h0 (fst_kind p l)
theorem rtk_B {s : ByteArray} (hs : s.size ≤ 2048) (hc : rcheck s s.size 0 = none) :
  (∀ i, rtk s 0 (texts s (rparts s s.size 0 [])) [] = .inl i → toksB s = .inl (i, 30)) ∧
  (∀ T, rtk s 0 (texts s (rparts s s.size 0 [])) [] = .inr T → toksB s = .inr (mL T) ∧ (∀ x ∈ T, GoodT x) ∧ EndL (mL T) ∧ T.length ≤ 2049 ∧ ∀ x ∈ T, (mT x).1 = 0 → (mT x).2.1 = ⟨#[]⟩) := by
 have e1 := splitB_good hc
 obtain ⟨h1, h2⟩ := rtk_toks s hs (rparts s s.size 0 []).length (rparts s s.size 0 []) 0 0 [] (Nat.le_refl _) (rparts_all s) (by omega) (by simp)
 refine ⟨fun i h => ?_, fun T h => ?_⟩
 ·unfold toksB; rw [e1]
  have := h1 i h
  simp only
  rw [show ([] : List Tk) = mL [] from rfl, this]
 ·obtain ⟨h3, h4⟩ := h2 T h
  have e2 : toksB s = .inr (mL T) := by
   unfold toksB; rw [e1]
   simp only
   rw [show ([] : List Tk) = mL [] from rfl, h3]
  obtain ⟨h5, h6⟩ := toksB_end e2 hs
  rw [mL_len] at h6
  exact ⟨e2, h4, h5, h6, fun x hx h0 => toks_zero s _ _ (mL []) (mL T) (by simp [mL]) h3 (mT x) (List.mem_map.2 ⟨x, hx, rfl⟩) h0⟩
theorem parts_row {W : World} {base : Nat} {s : ByteArray} {v : Value} {P : List Prt} (hs : s.size ≤ 2048) (hk : Pk s 0 P s.size) (hl : P.length ≤ 2048) (h : W.ownsRow base 86 3 v P.length (flatP s P)) :
  ∃ q cap, v = vL q (texts s P).length cap ∧ (texts s P ≠ [] → ∃ b, q = some ⟨b, 0, none⟩ ∧ PV b 0 cap (texts s P) W) := by
 have hlen : (texts s P).length = P.length := by simp [texts]
 rcases h.2 with ⟨e, h0⟩ | ⟨g, cap, cur, e, h1, h2, h3, h4, h5, h6⟩
 ·have : P = [] := List.length_eq_zero_iff.1 h0
  subst this
  exact ⟨none, 0, e, fun z => absurd rfl z⟩
 ·subst e
  have hlt := (Array.getElem?_eq_some_iff.1 h2).1
  refine ⟨some ⟨g, 0, none⟩, cap, by rw [hlen], fun _ => ⟨g, rfl, hlt, by omega, by omega, by unfold maxLen at h4; exact h4, fun j p e => ?_⟩⟩
  obtain ⟨q1, q2, q3⟩ := flatT_at _ _ _ e
  have hj : j < P.length := by rw [← hlen]; exact (List.getElem?_eq_some_iff.1 e).1
  obtain ⟨p', hp'⟩ : ∃ p', P[j]? = some p' := ⟨P[j]'hj, List.getElem?_eq_getElem hj⟩
  have e2 : p = tx s p' := by
   unfold texts at e
   rw [List.getElem?_map, hp'] at e
   simp at e; exact e.symm
  obtain ⟨g1, g2, g3, -, -, -⟩ := Pk_at j 0 s.size P p' hk hp'
  rw [← flatP_texts] at q1 q2 q3
  refine ⟨⟨?_, ?_, ?_⟩, by rw [e2]; show (0 : Int) ≤ (p'.2.1 : Int); omega, by rw [e2]; show (p'.2.1 : Int) ≤ 4096; omega, by rw [e2]; show (s.extract p'.2.1 p'.2.2).size ≤ 4096; rw [ext_size s g3]; omega⟩
  ·rw [Nat.zero_add, h.cellAt _ (by omega)]; exact q1
  ·rw [Nat.zero_add, h.cellAt _ (by omega)]; exact q2
  ·rw [Nat.zero_add, h.cellAt _ (by omega)]; exact q3
theorem parts_at {s : ByteArray} {P : List Prt} (hk : Pk s 0 P s.size) : ∀ p ∈ texts s P, ∃ a : Nat, p.2.2 = (a : Int) ∧ a < s.size := by
 intro p hp
 obtain ⟨p', hp', rfl⟩ := List.mem_map.1 hp
 obtain ⟨j, hj⟩ := List.getElem?_of_mem hp'
 obtain ⟨g1, g2, g3, -, -, -⟩ := Pk_at j 0 s.size P p' hk hj
 exact ⟨p'.2.1, rfl, by omega⟩
theorem parts_one {s : ByteArray} (hs : s.size ≤ 2048) {P : List Prt} (hk : Pk s 0 P s.size) : ∀ i p, (texts s P)[i]? = some p → qt p = false → (oneT p ((texts s P).drop (i + 1))).2.1.size ≤ 2048 := by
 intro i p hp hq
 unfold texts at hp
 rw [List.getElem?_map] at hp
 cases hP : P[i]? with
 | none => rw [hP] at hp; cases hp
 | some p' =>
  rw [hP] at hp; simp at hp; subst hp
  have hlt := (List.getElem?_eq_some_iff.1 hP).1
  obtain ⟨g1, g2, g3, g4, g5, g6⟩ := Pk_at i 0 s.size P p' hk hP
  have e : (texts s P).drop (i + 1) = texts s (P.drop (i + 1)) := by unfold texts; rw [List.map_drop]
  rw [e]
  exact (good_one s p' (P.drop (i + 1)) p'.2.1 s.size hs ⟨Nat.le_refl _, g2, g3, fun j a b => by omega, g4, g5⟩ hq).size
theorem parts_len (s : ByteArray) : ∀ (l : List Prt) (a zz : Nat), Pk s a l zz → l.length + a ≤ zz
 | [], a, zz, ⟨h1, _⟩ => by simp; exact h1
 | p :: l, a, zz, ⟨h1, h2, _, _, _, h6⟩ => by
  have := parts_len s l _ _ h6
  simp only [zl]; omega
theorem rparse_any (s : ByteArray) (w : World) (hsz : s.size ≤ 2048) :
  Calls Tryd.prog 6 #[vS s] w fun e w' => Below w.heap.size w w' ∧ ParOf (fun c => w.heap.size < c) e w' (parseB s) := by
 obtain ⟨R, hR⟩ : ∃ R, R = parseB s := ⟨_, rfl⟩
 rw [← hR]
 go_enter Tryd.func6, Tryd.ntmps6
 go_wp2_with fail
 have B0 := bsm1 w [vi ki 0, vS ⟨#[]⟩, vL none 0 0, vi ki 0] 30
 refine (rsplit_any s _ hsz).mono ?_
 rintro e V ⟨hb, ht⟩
 have BV : Hid (BS w [(w.heap.size, [vi ki 0, vS ⟨#[]⟩, vL none 0 0, vi ki 0])] V) := B0.out.below hb
 clear hb
 cases hc : rcheck s s.size 0 with
 | some i =>
  rw [hc] at ht
  obtain rfl := ht
  have HR : Hid (R = .inl ((i : Int), 21)) := by show _ = _; rw [hR]; unfold parseB toksB; rw [splitB_bad hc]
  clear hR hc B0
  have HQ' := fin4 (g := w.heap.size) [] (vi ki 0) (vS ⟨#[]⟩) (vL none 0 0) (vi ki 0) (Kp.of BV.out.1) (Nat.le_refl _) BV.out.first
  obtain ⟨k1, k2, -, -⟩ := HQ'
  obtain ⟨y0, y1, y2, y3⟩ := k2.d4
  have HK : Hid _ := k1
  simp only [List.foldl, World.setCells, Nat.zero_add, Nat.reduceAdd] at y0 y1 y2 y3
  obtain ⟨c0, c1, c2, c3, z0, z1, z2, z3⟩ := BV.out.first.cf4
  have hr9 := BV.out.first.1
  clear k1 k2
  go_wp2
  exact bodyPost_ret (v := .tuple #[.agg #[vi ki 0, vS ⟨#[]⟩, vL none 0 0, vi ki 0], vi ki (i : Int), vi ki 21]) (by simp [results, Tryd.results6, go_sem, y0, y1, y2, y3]) rfl ⟨HK.out.below (Nat.le_refl _) (Nat.le_refl _), by rw [HR.out]; rfl⟩
 | none =>
  rw [hc] at ht
  obtain ⟨v, rfl, hown⟩ := ht
  have hpk := rparts_all s
  have hpl := parts_len s _ _ _ hpk
  obtain ⟨h1, h2⟩ := rtk_B hsz hc
  have HAt : Hid _ := parts_at hpk
  have HOn : Hid _ := parts_one hsz hpk
  obtain ⟨q, cp, rfl, hrow⟩ := parts_row hsz hpk (by omega) hown
  have HRow : Hid _ := hrow
  have hll : (texts s (rparts s s.size 0 [])).length ≤ 2048 := by rw [texts_length]; omega
  obtain ⟨L, hL⟩ : ∃ L, L = texts s (rparts s s.size 0 []) := ⟨_, rfl⟩
  rw [← hL] at h1 h2 HAt HOn HRow hll
  rw [← hL]
  clear hown hrow hpk hpl hL hc B0
  have H1 : Hid _ := h1
  have H2 : Hid _ := h2
  have HR0 : Hid (R = parseB s) := hR
  clear h1 h2 hR
  go_wp2_with fail
  refine (rtokens_any s hsz L hll q cp _ HRow.out HAt HOn).mono ?_
  rintro e V2 ⟨hb, ht⟩
  have BV2 : Hid (BS w [(w.heap.size, [vi ki 0, vS ⟨#[]⟩, vL none 0 0, vi ki 0])] V2) := BV.out.below hb
  have hV12 := hb.size
  clear hb HRow HAt HOn
  cases hk : rtk s 0 L [] with
  | inl i =>
   rw [hk] at ht
   obtain rfl := ht
   have HR : Hid (R = .inl (i, 30)) := by show _ = _; rw [HR0.out]; unfold parseB; rw [H1.out i hk]
   clear hk H1 H2 HR0 BV
   have HQ' := fin4 (g := w.heap.size) [] (vi ki 0) (vS ⟨#[]⟩) (vL none 0 0) (vi ki 0) (Kp.of BV2.out.1) (Nat.le_refl _) BV2.out.first
   obtain ⟨k1, k2, -, -⟩ := HQ'
   obtain ⟨y0, y1, y2, y3⟩ := k2.d4
   have HK : Hid _ := k1
   simp only [List.foldl, World.setCells, Nat.zero_add, Nat.reduceAdd] at y0 y1 y2 y3
   obtain ⟨c0, c1, c2, c3, z0, z1, z2, z3⟩ := BV2.out.first.cf4
   have hr9 := BV2.out.first.1
   clear k1 k2
   go_wp2
   exact bodyPost_ret (v := .tuple #[.agg #[vi ki 0, vS ⟨#[]⟩, vL none 0 0, vi ki 0], vi ki i, vi ki 30]) (by simp [results, Tryd.results6, go_sem, y0, y1, y2, y3]) rfl ⟨HK.out.below (Nat.le_refl _) (Nat.le_refl _), by rw [HR.out]; rfl⟩
  | inr T =>
   rw [hk] at ht
   obtain ⟨u, rfl, hown⟩ := ht
   obtain ⟨g1, g2, hE, hTl, g5⟩ := H2.out T hk
   have HG : Hid (∀ x ∈ T, GoodT x) := g2
   have HZ : Hid (∀ x ∈ T, (mT x).1 = 0 → (mT x).2.1 = ⟨#[]⟩) := g5
   have HR : Hid (R = endT (par (10 * T.length + 10) (.lv 0) 0 (mL T))) := by show _ = _; rw [HR0.out]; unfold parseB; rw [g1]; simp only; rw [mL_len]
   have HE : Hid (EndL (mL T)) := hE
   obtain ⟨b, cap, cur, rfl, h1, h3, h4, h5, h6, h7⟩ : ∃ g cap cur, u = vL (some ⟨g, 0, none⟩) T.length cap ∧ V.heap.size ≤ g ∧ V2.heap[g]? = some (.cells cur 59 (0, 0)) ∧ T.length ≤ cap ∧ cap ≤ maxLen ∧ cur.size = cap * 3 ∧ cur.toList.take (T.length * 3) = flatT T := by
    rcases hown.2 with ⟨_, h0⟩ | q
    ·obtain ⟨r, l, rfl⟩ := mL_none hE
     simp at h0
    ·simpa using q
   have hbV : b < V2.heap.size := (Array.getElem?_eq_some_iff.1 h3).1
   have HTR : Hid (TR V2 b T) := ⟨hbV, fun i v hv => by
    have hi := (List.getElem?_eq_some_iff.1 hv).1
    rw [hown.1] at hi
    rw [hown.cellAt i hi]; exact hv⟩
   clear hown h3 h6 h7 hE g1 g2 g5 hk H1 H2 HR0
   have hwV : w.heap.size < V.heap.size := BV.out.first.1
   clear BV
   go_upto_region 8 with fail
   obtain ⟨g, hg⟩ : ∃ g, g = V2.heap.size := ⟨_, rfl⟩
   have B1 := bsm1 V2 [vL (some ⟨b, 0, none⟩) T.length cap, vi ki 0, vi ki 0, vi ki 0] 56
   have X1 : Hid (Below V2.heap.size V2 (V2.alloc (.cells #[vL (some ⟨b, 0, none⟩) T.length cap, vi ki 0, vi ki 0, vi ki 0] 56)) ∧ RS g b cap T (V2.alloc (.cells #[vL (some ⟨b, 0, none⟩) T.length cap, vi ki 0, vi ki 0, vi ki 0] 56)) T 0) := ⟨B1.out.1, by rw [hg]; exact ⟨⟨[], 0, rfl, by simpa using B1.out.first⟩, HTR.out.kp (Kp.of (g := V2.heap.size) B1.out.1) (by omega), by omega, h4, h5⟩⟩
   rw [← hg]
   refine gen_to (fun W => Below V2.heap.size V2 W ∧ RS g b cap T W T 0) X1.out ?_
   have hgw : w.heap.size < g := by omega
   have hgb : w.heap.size < b := by omega
   have HGg : Hid (g = V2.heap.size) := hg
   clear X1 B1 HTR hbV h1 hg
   rintro W1 ⟨k1, k2⟩
   have BW : Hid (Below V2.heap.size V2 W1) := k1
   have HS : Hid (RS g b cap T W1 T 0) := k2
   have hgW : g < W1.heap.size := k2.lt
   clear k1 k2
   have HC : Hid (Calls Tryd.prog 18 #[.pointer (some ⟨g, 0, none⟩), vi ki 0] W1 fun e w' => Kp g W1 w' ∧ ROut g b W1.heap.size cap T (fun c => W1.heap.size ≤ c) w' 0 e (par (10 * T.length + 10) (.lv 0) 0 (mL T))) := (rlv_all g b cap T HG T.length (by omega)).1 W1 T 0 (10 * T.length + 10) HS.out HE.out (by omega) (Nat.le_refl _) (by simp [need, mL_len])
   go_wp2_with fail
   refine Calls.mono HC.out ?_
   rintro e W2 ⟨hk, ho⟩
   have hz2 := hk.size
   have BW2 : Hid (BS w [(w.heap.size, [vi ki 0, vS ⟨#[]⟩, vL none 0 0, vi ki 0])] W2) := BV2.out.below (BW.out.trans (hk.below (B := V2.heap.size) (by have := HGg.out; omega) BW.out.size))
   clear HC BW BV2 hk HGg HS hV12 hwV
   cases hp : par (10 * T.length + 10) (.lv 0) 0 (mL T) with
   | no ea er =>
    rw [hp] at ho HR
    obtain ⟨her, hf, k9, u9, sq9, sn9, sc9, a9, rfl⟩ := ho
    have HER : Hid (er ≠ 0) := her
    have X3 : Hid (BS w [(w.heap.size, [vi ki 0, vS ⟨#[]⟩, vL none 0 0, vi ki 0])] (W2.alloc (.cells #[vi ki k9, vS u9, vL sq9 sn9 sc9, vi ki a9] 30)) ∧ RF g b W1.heap.size (W2.alloc (.cells #[vi ki k9, vS u9, vL sq9 sn9 sc9, vi ki a9] 30)) ea er) := ⟨BW2.out.alloc _, hf.below ((Below.refl _ W2).alloc (Nat.le_refl _) _)⟩
    clear hf her hp BW2 HG HZ HE hTl h4 h5
    go_upto_region 9 with fail
    refine gen_to (fun V => BS w [(w.heap.size, [vi ki 0, vS ⟨#[]⟩, vL none 0 0, vi ki 0])] V ∧ RF g b W1.heap.size V ea er) X3.out ?_
    clear X3
    rintro W4 ⟨k1, k2⟩
    have BW4 : Hid (BS w [(w.heap.size, [vi ki 0, vS ⟨#[]⟩, vL none 0 0, vi ki 0])] W4) := k1
    have HF : Hid (RF g b W1.heap.size W4 ea er) := k2
    clear k1 k2
    obtain ⟨c9, o9, n9, m9, D9, i9, z9, t9, hc9, hb9, -⟩ := HF.out
    have HB9 : Hid (Bx W4 g [vL (some ⟨c9, o9, none⟩) n9 m9, vi ki D9, vi ki er, vi ki ea]) := hb9
    have cg2 := hb9.c 2 rfl
    have cg3 := hb9.c 3 rfl
    have cg0 := hb9.c 0 rfl
    have hg9 := hb9.1
    have e0 : (er == 0) = false := by rw [beq_eq_false_iff_ne]; exact HER.out
    have e0p : (er = 0) = False := eq_false HER.out
    clear hb9 hc9 HF
    go_upto_region 12 with fail
    clear cg0 cg2 cg3 hg9
    refine wp_region_held_drew (S := (fun V => Bx V g [vL (some ⟨c9, o9, none⟩) n9 m9, vi ki D9, vi ki er, vi ki ea])) (by kernel_rfl) (by first | exact HB9.out | exact HB9.out) (fun hHeld => ?_)
    refine gen_anyR (fun V => BS w [(w.heap.size, [vi ki 0, vS ⟨#[]⟩, vL none 0 0, vi ki 0])] V ∧ Bx V g [vL (some ⟨c9, o9, none⟩) n9 m9, vi ki D9, vi ki er, vi ki ea]) (by first | exact ⟨BW4.out.drew, HB9.out⟩ | exact ⟨BW4.out, HB9.out⟩) ?_
    clear hHeld BW4 HB9
    rintro W9 ⟨k1, k2⟩
    have HW : Hid (BS w [(w.heap.size, [vi ki 0, vS ⟨#[]⟩, vL none 0 0, vi ki 0])] W9) := k1
    have HB9 : Hid (Bx W9 g [vL (some ⟨c9, o9, none⟩) n9 m9, vi ki D9, vi ki er, vi ki ea]) := k2
    have hHeld : (fun V => Bx V g [vL (some ⟨c9, o9, none⟩) n9 m9, vi ki D9, vi ki er, vi ki ea]) W9 := k2
    clear k1 k2
    refine tks 0 (oi := ⟨some 68, _, _, _, _, none⟩) ?_
    simp only [za, zb, zc, zd]
    refine tks 1 (oi := ⟨some 69, _, _, _, _, none⟩) ?_
    simp only [za, zb, zc, zd]
    refine tks 2 (oi := ⟨some 70, _, _, _, _, none⟩) ?_
    simp only [za, zb, zc, zd]
    refine tks 3 (oi := ⟨some 71, _, _, _, _, none⟩) ?_
    simp only [za, zb, zc, zd]
    refine tk (v := ?_) 4 (oi := ⟨some 72, _, _, _, _, none⟩) ?_ ?_
    case refine_2 => (intro w9 hSw; have cg0 := hSw.c 0 rfl; have cg1 := hSw.c 1 rfl; have cg2 := hSw.c 2 rfl; have cg3 := hSw.c 3 rfl; have hg9 := hSw.1; clear hSw; go_simp; try with_reducible rfl)
    simp only [za, zb, zc, zd]
    refine tks 5 (oi := ⟨some 73, _, _, _, _, none⟩) ?_
    simp only [za, zb, zc, zd]
    refine tks 6 (oi := ⟨some 74, _, _, _, _, none⟩) ?_
    simp only [za, zb, zc, zd]
    refine tks 7 (oi := ⟨some 75, _, _, _, _, none⟩) ?_
    simp only [za, zb, zc, zd]
    refine tk (v := ?_) 8 (oi := ⟨some 76, _, _, _, _, none⟩) ?_ ?_
    case refine_2 => (intro w9 hSw; have cg0 := hSw.c 0 rfl; have cg1 := hSw.c 1 rfl; have cg2 := hSw.c 2 rfl; have cg3 := hSw.c 3 rfl; have hg9 := hSw.1; clear hSw; go_simp; try with_reducible rfl)
    simp only [za, zb, zc, zd]
    refine rd 9 (fun K hK => ?_)
    obtain ⟨c0, c1, c2, c3, z0, z1, z2, z3⟩ := HW.out.first.cf4
    have hr9 := HW.out.first.1
    have HWs : Hid (Below w.heap.size w (W9.setCells w.heap.size 0 [vi ki 0, vS ⟨#[]⟩, vL none 0 0, vi ki 0]) ∧ Bx (W9.setCells w.heap.size 0 [vi ki 0, vS ⟨#[]⟩, vL none 0 0, vi ki 0]) w.heap.size [vi ki 0, vS ⟨#[]⟩, vL none 0 0, vi ki 0]) := ⟨below_setCells (Nat.le_refl _) _ _ 0 HW.out.1, HW.out.first.setAll _ rfl⟩
    have HBs : Hid (Bx (W9.setCells w.heap.size 0 [vi ki 0, vS ⟨#[]⟩, vL none 0 0, vi ki 0]) g [vL (some ⟨c9, o9, none⟩) n9 m9, vi ki D9, vi ki er, vi ki ea]) := HB9.out.setOther (show g ≠ w.heap.size by omega) _
    go_simp
    refine hK.out _ _ HBs.out (fun hHeld => ?_)
    clear hK K c0 c1 c2 c3 z0 z1 z2 z3 hr9 HW hHeld
    refine gen_anyR (fun V => Below w.heap.size w V ∧ Bx V w.heap.size [vi ki 0, vS ⟨#[]⟩, vL none 0 0, vi ki 0] ∧ Bx V g [vL (some ⟨c9, o9, none⟩) n9 m9, vi ki D9, vi ki er, vi ki ea]) ⟨HWs.out.1, HWs.out.2, HBs.out⟩ ?_
    clear HWs HBs HB9
    rintro v1 ⟨k1, k2, k3⟩
    have HW : Hid (Below w.heap.size w v1 ∧ Bx v1 w.heap.size [vi ki 0, vS ⟨#[]⟩, vL none 0 0, vi ki 0]) := ⟨k1, k2⟩
    have hHeld : (fun V => Bx V g [vL (some ⟨c9, o9, none⟩) n9 m9, vi ki D9, vi ki er, vi ki ea]) v1 := k3
    clear k1 k2 k3
    refine tks 10 (oi := ⟨some 3, _, _, _, _, none⟩) ?_
    simp only [za, zb, zc, zd]
    refine tks 11 (oi := ⟨some 4, _, _, _, _, none⟩) ?_
    simp only [za, zb, zc, zd]
    refine dn ?_
    clear hHeld
    obtain ⟨y0, y1, y2, y3⟩ := HW.out.2.d4
    go_wp2
    exact bodyPost_ret (v := .tuple #[.agg #[vi ki 0, vS ⟨#[]⟩, vL none 0 0, vi ki 0], vi ki ea, vi ki er]) (by simp [results, Tryd.results6, go_sem, y0, y1, y2, y3]) rfl ⟨HW.out.1, by rw [HR.out]; rfl⟩
   | ok n l1 =>
    rw [hp] at ho HR
    obtain ⟨L1, rfl, hrs, hend, k9, u9, sq9, sn9, sc9, a9, rfl, hnd⟩ := ho
    obtain ⟨q9, l9, rfl⟩ := mL_none hend
    have HGq : Hid (GoodT q9) := hrs.good HG.out
    have HMq : Hid (q9 ∈ T) := by show q9 ∈ T; obtain ⟨pre, _, e, _⟩ := hrs.bx; rw [e]; simp
    obtain ⟨B9, hB9⟩ : ∃ B9, B9 = W2.heap.size := ⟨_, rfl⟩
    have HB9g : Hid (B9 ≠ g ∧ w.heap.size < B9) := ⟨by omega, by have := BW2.out.first.1; omega⟩
    have X3 : Hid (BS w [(w.heap.size, [vi ki 0, vS ⟨#[]⟩, vL none 0 0, vi ki 0])] (W2.alloc (.cells #[vi ki k9, vS u9, vL sq9 sn9 sc9, vi ki a9] 30)) ∧ RS g b cap T (W2.alloc (.cells #[vi ki k9, vS u9, vL sq9 sn9 sc9, vi ki a9] 30)) (q9 :: l9) 0 ∧ Bx (W2.alloc (.cells #[vi ki k9, vS u9, vL sq9 sn9 sc9, vi ki a9] 30)) B9 [vi ki k9, vS u9, vL sq9 sn9 sc9, vi ki a9] ∧ NdAt (fun c => w.heap.size < c) (W2.alloc (.cells #[vi ki k9, vS u9, vL sq9 sn9 sc9, vi ki a9] 30)) n [vi ki k9, vS u9, vL sq9 sn9 sc9, vi ki a9]) := ⟨BW2.out.alloc _, hrs.below ((Below.refl _ W2).alloc (Nat.le_refl _) _), by rw [hB9]; exact Bx.new W2 [vi ki k9, vS u9, vL sq9 sn9 sc9, vi ki a9] _, NdAt.keep (by simp) (fun c hc hl => ⟨by omega, Below.heap_alloc _ _ _ hl⟩) _ _ hnd⟩
    have HEn : Hid (EndL (mL (q9 :: l9))) := hend
    clear hrs hend hnd hp BW2 HG HE
    go_upto_region 9 with fail
    rw [← hB9]
    refine gen_to (fun V => BS w [(w.heap.size, [vi ki 0, vS ⟨#[]⟩, vL none 0 0, vi ki 0])] V ∧ RS g b cap T V (q9 :: l9) 0 ∧ Bx V B9 [vi ki k9, vS u9, vL sq9 sn9 sc9, vi ki a9] ∧ NdAt (fun c => w.heap.size < c) V n [vi ki k9, vS u9, vL sq9 sn9 sc9, vi ki a9]) X3.out ?_
    clear X3 hB9
    rintro W4 ⟨k1, k2, k3, k4⟩
    have BW4 : Hid (BS w [(w.heap.size, [vi ki 0, vS ⟨#[]⟩, vL none 0 0, vi ki 0])] W4) := k1
    have HS4 : Hid (RS g b cap T W4 (q9 :: l9) 0) := k2
    have HN4 : Hid (Bx W4 B9 [vi ki k9, vS u9, vL sq9 sn9 sc9, vi ki a9]) := k3
    have HD4 : Hid (NdAt (fun c => w.heap.size < c) W4 n [vi ki k9, vS u9, vL sq9 sn9 sc9, vi ki a9]) := k4
    clear k1 k2 k3 k4
    obtain ⟨⟨pre, pa, he, hbx⟩, htr, hne, hle, hmost⟩ := HS4.out
    have cg0 := hbx.c 0 rfl
    have cg2 := hbx.c 2 rfl
    obtain ⟨t0, t1, t2⟩ := htr.at he
    have hgW4 := hbx.1
    have hbW4 := htr.1
    have hlen : T.length = pre.length + l9.length + 1 := by rw [he]; simp <;> omega
    unfold maxLen at hmost
    clear hbx htr he
    by_cases h5k : q9.1 = 5
    ·have g5 : (q9.1 == 5) = true := by rw [beq_iff_eq]; exact h5k
     have HR9 : Hid (R = .inr n) := by
      show _ = _
      have h0 : (mT q9).1 = 0 := (mT_end HGq.out).2 h5k
      have h1 := HZ.out q9 HMq.out h0
      rw [HR.out, mL_cons, endT, if_pos (by rw [isT_one, decide_eq_true_eq]; exact ⟨h0, h1⟩)]
     clear HR HZ HMq HGq HEn h5k
     go_upto_region 13 with fail
     obtain ⟨d0, d1, d2, d3⟩ := HN4.out.d4
     have d9 := HN4.out.1
     obtain ⟨k1, k2, k3, k4⟩ := fin4 (g := w.heap.size) [] (vi ki k9) (vS u9) (vL sq9 sn9 sc9) (vi ki a9) (Kp.of BW4.out.1) (Nat.le_refl _) BW4.out.first
     have HNF : Hid _ := NdAt.off HD4.out k3 k4 (Y := fun c => w.heap.size < c) (fun c hc => ⟨hc, by omega⟩)
     have HK : Hid _ := k1
     obtain ⟨y0, y1, y2, y3⟩ := k2.d4
     simp only [List.foldl, World.setCells, Nat.zero_add, Nat.reduceAdd] at y0 y1 y2 y3
     obtain ⟨c0, c1, c2, c3, z0, z1, z2, z3⟩ := BW4.out.first.cf4
     have hr9 := BW4.out.first.1
     clear k1 k2 k3 k4 HD4 cg0 cg2 t0 t1 t2
     go_wp2
     exact bodyPost_ret (v := .tuple #[.agg #[vi ki k9, vS u9, vL sq9 sn9 sc9, vi ki a9], vi ki 0, vi ki 0]) (by simp [results, Tryd.results6, go_sem, y0, y1, y2, y3]) rfl ⟨HK.out.below (Nat.le_refl _) (Nat.le_refl _), by rw [HR9.out]; exact ⟨_, _, _, _, _, _, rfl, HNF.out⟩⟩
    ·have g5 : (q9.1 == 5) = false := by rw [beq_eq_false_iff_ne]; exact h5k
     have HR9 : Hid (R = .inl (q9.2.2, 30)) := by
      show _ = _
      have h0 : ¬ (mT q9).1 = 0 := fun z => h5k ((mT_end HGq.out).1 z)
      rw [HR.out, mL_cons, endT, if_neg (by rw [isT_one, decide_eq_true_eq]; exact fun z => h0 z.1)]; rfl
     have HFl : Hid _ := rfail_ok g b (W4.heap.size) cap T l9 q9 HGq.out.size 0 (by omega) 30 q9.2.2 W4 HS4.out
     clear HR HZ HMq HGq HEn h5k HN4 HD4 HS4
     go_wp2_with fail
     refine Calls.mono HFl.out ?_
     rintro e W5 ⟨rfl, hk5, hf5⟩
     have BW5 : Hid (BS w [(w.heap.size, [vi ki 0, vS ⟨#[]⟩, vL none 0 0, vi ki 0])] W5) := ⟨BW4.out.1.trans (hk5.below (B := w.heap.size) (by omega) BW4.out.1.size), fun x hx => ⟨(BW4.out.2 x hx).1, hk5.bx (BW4.out.2 x hx).2 (by simp at hx; rw [hx]; show w.heap.size ≠ g; omega)⟩⟩
     obtain ⟨er, her⟩ : ∃ er : Int, er = 30 := ⟨_, rfl⟩
     obtain ⟨ea, hea⟩ : ∃ ea : Int, ea = q9.2.2 := ⟨_, rfl⟩
     rw [← her, ← hea] at hf5
     have HER : Hid (er ≠ 0) := by show er ≠ 0; rw [her]; decide
     rw [← her, ← hea] at HR9
     have HF : Hid (RF g b W4.heap.size W5 ea er) := hf5
     clear hf5 hk5 HFl BW4 her hea cg0 cg2 t0 t1 t2 g5
     obtain ⟨c9, o9, n9, m9, D9, i9, z9, t9, hc9, hb9, -⟩ := HF.out
     have HB9 : Hid (Bx W5 g [vL (some ⟨c9, o9, none⟩) n9 m9, vi ki D9, vi ki er, vi ki ea]) := hb9
     have cg2 := hb9.c 2 rfl
     have cg3 := hb9.c 3 rfl
     have cg0 := hb9.c 0 rfl
     have hg9 := hb9.1
     have e0 : (er == 0) = false := by rw [beq_eq_false_iff_ne]; exact HER.out
     have e0p : (er = 0) = False := eq_false HER.out
     clear hb9 hc9 HF
     go_upto_region 12 with fail
     clear cg0 cg2 cg3 hg9
     refine wp_region_held_drew (S := (fun V => Bx V g [vL (some ⟨c9, o9, none⟩) n9 m9, vi ki D9, vi ki er, vi ki ea])) (by kernel_rfl) (by first | exact HB9.out | exact HB9.out) (fun hHeld => ?_)
     refine gen_anyR (fun V => BS w [(w.heap.size, [vi ki 0, vS ⟨#[]⟩, vL none 0 0, vi ki 0])] V ∧ Bx V g [vL (some ⟨c9, o9, none⟩) n9 m9, vi ki D9, vi ki er, vi ki ea]) (by first | exact ⟨BW5.out.drew, HB9.out⟩ | exact ⟨BW5.out, HB9.out⟩) ?_
     clear hHeld BW5 HB9
     rintro W9 ⟨k1, k2⟩
     have HW : Hid (BS w [(w.heap.size, [vi ki 0, vS ⟨#[]⟩, vL none 0 0, vi ki 0])] W9) := k1
     have HB9 : Hid (Bx W9 g [vL (some ⟨c9, o9, none⟩) n9 m9, vi ki D9, vi ki er, vi ki ea]) := k2
     have hHeld : (fun V => Bx V g [vL (some ⟨c9, o9, none⟩) n9 m9, vi ki D9, vi ki er, vi ki ea]) W9 := k2
     clear k1 k2
     refine tks 0 (oi := ⟨some 68, _, _, _, _, none⟩) ?_
     simp only [za, zb, zc, zd]
     refine tks 1 (oi := ⟨some 69, _, _, _, _, none⟩) ?_
     simp only [za, zb, zc, zd]
     refine tks 2 (oi := ⟨some 70, _, _, _, _, none⟩) ?_
     simp only [za, zb, zc, zd]
     refine tks 3 (oi := ⟨some 71, _, _, _, _, none⟩) ?_
     simp only [za, zb, zc, zd]
     refine tk (v := ?_) 4 (oi := ⟨some 72, _, _, _, _, none⟩) ?_ ?_
     case refine_2 => (intro w9 hSw; have cg0 := hSw.c 0 rfl; have cg1 := hSw.c 1 rfl; have cg2 := hSw.c 2 rfl; have cg3 := hSw.c 3 rfl; have hg9 := hSw.1; clear hSw; go_simp; try with_reducible rfl)
     simp only [za, zb, zc, zd]
     refine tks 5 (oi := ⟨some 73, _, _, _, _, none⟩) ?_
     simp only [za, zb, zc, zd]
     refine tks 6 (oi := ⟨some 74, _, _, _, _, none⟩) ?_
     simp only [za, zb, zc, zd]
     refine tks 7 (oi := ⟨some 75, _, _, _, _, none⟩) ?_
     simp only [za, zb, zc, zd]
     refine tk (v := ?_) 8 (oi := ⟨some 76, _, _, _, _, none⟩) ?_ ?_
     case refine_2 => (intro w9 hSw; have cg0 := hSw.c 0 rfl; have cg1 := hSw.c 1 rfl; have cg2 := hSw.c 2 rfl; have cg3 := hSw.c 3 rfl; have hg9 := hSw.1; clear hSw; go_simp; try with_reducible rfl)
     simp only [za, zb, zc, zd]
     refine rd 9 (fun K hK => ?_)
     obtain ⟨c0, c1, c2, c3, z0, z1, z2, z3⟩ := HW.out.first.cf4
     have hr9 := HW.out.first.1
     have HWs : Hid (Below w.heap.size w (W9.setCells w.heap.size 0 [vi ki 0, vS ⟨#[]⟩, vL none 0 0, vi ki 0]) ∧ Bx (W9.setCells w.heap.size 0 [vi ki 0, vS ⟨#[]⟩, vL none 0 0, vi ki 0]) w.heap.size [vi ki 0, vS ⟨#[]⟩, vL none 0 0, vi ki 0]) := ⟨below_setCells (Nat.le_refl _) _ _ 0 HW.out.1, HW.out.first.setAll _ rfl⟩
     have HBs : Hid (Bx (W9.setCells w.heap.size 0 [vi ki 0, vS ⟨#[]⟩, vL none 0 0, vi ki 0]) g [vL (some ⟨c9, o9, none⟩) n9 m9, vi ki D9, vi ki er, vi ki ea]) := HB9.out.setOther (show g ≠ w.heap.size by omega) _
     go_simp
     refine hK.out _ _ HBs.out (fun hHeld => ?_)
     clear hK K c0 c1 c2 c3 z0 z1 z2 z3 hr9 HW hHeld
     refine gen_anyR (fun V => Below w.heap.size w V ∧ Bx V w.heap.size [vi ki 0, vS ⟨#[]⟩, vL none 0 0, vi ki 0] ∧ Bx V g [vL (some ⟨c9, o9, none⟩) n9 m9, vi ki D9, vi ki er, vi ki ea]) ⟨HWs.out.1, HWs.out.2, HBs.out⟩ ?_
     clear HWs HBs HB9
     rintro v1 ⟨k1, k2, k3⟩
     have HW : Hid (Below w.heap.size w v1 ∧ Bx v1 w.heap.size [vi ki 0, vS ⟨#[]⟩, vL none 0 0, vi ki 0]) := ⟨k1, k2⟩
     have hHeld : (fun V => Bx V g [vL (some ⟨c9, o9, none⟩) n9 m9, vi ki D9, vi ki er, vi ki ea]) v1 := k3
     clear k1 k2 k3
     refine tks 10 (oi := ⟨some 3, _, _, _, _, none⟩) ?_
     simp only [za, zb, zc, zd]
     refine tks 11 (oi := ⟨some 4, _, _, _, _, none⟩) ?_
     simp only [za, zb, zc, zd]
     refine dn ?_
     clear hHeld
     obtain ⟨y0, y1, y2, y3⟩ := HW.out.2.d4
     go_wp2
     exact bodyPost_ret (v := .tuple #[.agg #[vi ki 0, vS ⟨#[]⟩, vL none 0 0, vi ki 0], vi ki ea, vi ki er]) (by simp [results, Tryd.results6, go_sem, y0, y1, y2, y3]) rfl ⟨HW.out.1, by rw [HR9.out]; rfl⟩
theorem rparse_long (s : ByteArray) (w : World) (hs : s.size ≤ maxLen) (hsz : ¬ s.size ≤ 2048) :
  Calls Tryd.prog 6 #[vS s] w fun e w' => Below w.heap.size w w' ∧ e = zr (.tuple #[.agg #[vi ki 0, vS ⟨#[]⟩, vL none 0 0, vi ki 0], vi ki 0, vi ki 3]) := by
 go_enter Tryd.func6, Tryd.ntmps6
 go_wp2_with fail
 refine (rsplit_long s _ hs hsz).mono ?_
 rintro e V ⟨rfl, hV⟩
 have BV : Hid (BS w [(w.heap.size, [vi ki 0, vS ⟨#[]⟩, vL none 0 0, vi ki 0])] V) := by rw [hV]; exact ((BS.start w).new [vi ki 0, vS ⟨#[]⟩, vL none 0 0, vi ki 0] 30 rfl)
 clear hV
 have HQ' := fin4 (g := w.heap.size) [] (vi ki 0) (vS ⟨#[]⟩) (vL none 0 0) (vi ki 0) (Kp.of BV.out.1) (Nat.le_refl _) BV.out.first
 obtain ⟨k1, k2, -, -⟩ := HQ'
 obtain ⟨y0, y1, y2, y3⟩ := k2.d4
 have HK : Hid _ := k1
 simp only [List.foldl, World.setCells, Nat.zero_add, Nat.reduceAdd] at y0 y1 y2 y3
 obtain ⟨c0, c1, c2, c3, z0, z1, z2, z3⟩ := BV.out.first.cf4
 have hr9 := BV.out.first.1
 clear k1 k2
 go_wp2
 exact bodyPost_ret (v := .tuple #[.agg #[vi ki 0, vS ⟨#[]⟩, vL none 0 0, vi ki 0], vi ki 0, vi ki 3]) (by simp [results, Tryd.results6, go_sem, y0, y1, y2, y3]) rfl ⟨HK.out.below (Nat.le_refl _) (Nat.le_refl _), by rfl⟩
theorem split_kk {s : ByteArray} {pos : Nat} (hk : kindP s pos = 3 ∨ kindP s pos = 0) (f : Nat) (l : List Prt) (k k2 : Int) : splitF s f pos l k = splitF s f pos l k2 := by
 rcases hk with hk | hk
 ·exact split_k hk f l k k2
 ·cases f with
  | zero => rfl
  | succ f =>
   by_cases hp : pos < s.size
   ·rw [splitF_blank hp hk, splitF_blank hp hk]
   ·rw [splitF_end _ _ _ _ _ hp, splitF_end _ _ _ _ _ hp]
theorem splitB_app {a c : ByteArray} {l m : List Prt} (hk : kindP c 0 = 3 ∨ kindP c 0 = 0) (ha : splitB a = .inr l) (hc : splitB c = .inr m) : splitB (a ++ c) = .inr (l ++ m.map (sh a.size)) := by
 have hk2 : kindP (a ++ c) a.size = 3 ∨ kindP (a ++ c) a.size = 0 := by
  have := kind_right a c 0
  rw [Nat.add_zero] at this
  rw [this]; exact hk
 unfold splitB at ha hc ⊢
 obtain ⟨F', k', g1, g2⟩ := split_left a c a.size (a ++ c).size 0 [] 0 l (by omega) (by omega) (by omega) ha
 rw [ByteArray.size_append] at g1
 rw [g2, split_kk hk2 F' l k' 0]
 have := split_right a c l c.size F' 0 [] 0 m (by omega) (by omega) (.inl rfl) hc
 simpa using this
theorem dec_low {x : UInt8} (hx : x.toNat < 128) (c : ByteArray) : Utf8.decode ((⟨#[x]⟩ : ByteArray) ++ c) 0 = (x.toNat, 1) := by
 have hz : 0 < ((⟨#[x]⟩ : ByteArray) ++ c).size := by rw [ByteArray.size_append, one_size]; omega
 have hb0 : bt ((⟨#[x]⟩ : ByteArray) ++ c) 0 = x.toNat := by
  rw [bt_left _ _ _ (by rw [one_size]; omega)]; rfl
 rcases dec_shape ((⟨#[x]⟩ : ByteArray) ++ c) 0 hz with ⟨q, e⟩ | ⟨q, _⟩ | ⟨q, _⟩
 ·rw [e, hb0]
 ·omega
 ·omega
def Bk (k : Int) (x : UInt8) : Prop := x.toNat < 128 ∧ kindW (x.toNat : Int) 1 = k
theorem kind_low {x : UInt8} {k : Int} (hx : Bk k x) (c : ByteArray) : kindP ((⟨#[x]⟩ : ByteArray) ++ c) 0 = k := by
 unfold kindP; rw [dec_low hx.1]; exact hx.2
theorem splitB_sg {x : UInt8} (hx : Bk 3 x) {c : ByteArray} {m : List Prt} (h : splitB c = .inr m) : splitB ((⟨#[x]⟩ : ByteArray) ++ c) = .inr ((3, 0, 1) :: m.map (sh 1)) := by
 unfold splitB at h ⊢
 have hk := kind_low hx c
 have hz : ((⟨#[x]⟩ : ByteArray) ++ c).size = c.size + 1 := by rw [ByteArray.size_append, one_size]; omega
 rw [hz, splitF_new (by omega) (by omega) (by omega) (.inl hk), dec_low hx.1, hk, split_three]
 have := split_right (⟨#[x]⟩ : ByteArray) c [(3, 0, 1)] c.size c.size 0 [] 0 m (by omega) (by omega) (.inl rfl) h
 simpa [one_size] using this
theorem splitB_blank {x : UInt8} (hx : Bk 0 x) {c : ByteArray} {m : List Prt} (h : splitB c = .inr m) : splitB ((⟨#[x]⟩ : ByteArray) ++ c) = .inr (m.map (sh 1)) := by
 unfold splitB at h ⊢
 have hk := kind_low hx c
 have hz : ((⟨#[x]⟩ : ByteArray) ++ c).size = c.size + 1 := by rw [ByteArray.size_append, one_size]; omega
 rw [hz, splitF_blank (by omega) hk, dec_low hx.1]
 have := split_right (⟨#[x]⟩ : ByteArray) c [] c.size c.size 0 [] 0 m (by omega) (by omega) (.inl rfl) h
 simpa [one_size] using this
def Nx (p q : Tk) : Prop := (besT p q && qt q) = false ∧ (besT p q && decide (q.1 ≠ 3)) = false ∧ (besT p q && isPr (p.2.1 ++ q.2.1)) = false ∧ (besT p q && decide (q.2.1 = ⟨#[46]⟩)) = false
def NxL (L M : List Tk) : Prop := ∀ p q, L.getLast? = some p → M.head? = some q → Nx p q
theorem NxL.tail {p q : Tk} {l M : List Tk} (h : NxL (p :: q :: l) M) : NxL (q :: l) M := fun a b ha hb => h a b (by rw [List.getLast?_cons_cons]; exact ha) hb
theorem toQ_nx {M : List Tk} : ∀ (k : Nat) (l : List Tk) (i : Nat), l.length ≤ k → NxL l M → toQ i l ≠ 0 → toQ i (l ++ M) = toQ i l
 | _, [], i, _, hM, h => by simp [toQ] at h
 | _, [p], i, _, hM, h => by
  cases M with
  | nil => rfl
  | cons q M =>
   rw [toQ] at h ⊢
   by_cases hp : qt p = true
   ·rw [if_pos hp, List.cons_append, List.nil_append, toQ, if_pos hp, (hM p q rfl rfl).1]; simp
   ·rw [if_neg hp] at h; exact absurd rfl h
 | 0, p :: q :: l, i, h, _, _ => by simp at h
 | k + 1, p :: q :: l, i, h, hM, hz => by
  simp only [zl] at h
  rw [toQ] at hz
  rw [List.cons_append, List.cons_append, toQ, toQ]
  by_cases hp : qt p = true
  ·rw [if_pos hp] at hz ⊢
   rw [if_pos hp]
   by_cases hq : (besT p q && qt q) = true
   ·rw [if_pos hq] at hz ⊢
    rw [if_pos hq]
    cases l with
    | nil => simp [toQ] at hz
    | cons u l => exact toQ_nx k (u :: l) _ (by simp only [zl] at h ⊢; omega) hM.tail.tail hz
   ·rw [if_neg hq, if_neg hq]
  ·rw [if_neg hp] at hz ⊢
   rw [if_neg hp]
   exact toQ_nx k (q :: l) _ (by simp only [zl]; omega) hM.tail hz
theorem toS_nx {M : List Tk} : ∀ (l : List Tk) (m : Nat) (p : Tk), NxL (p :: l) M → toS m p (l ++ M) = toS m p l
 | [], m, p, hM => by
  cases M with
  | nil => rfl
  | cons q M =>
   have := (hM p q rfl rfl).2.1
   show toS m p (q :: M) = m
   rw [toS, if_neg (by rw [this]; simp)]
 | q :: l, m, p, hM => by rw [List.cons_append, toS, toS, toS_nx l _ _ hM.tail]
theorem prT_nx {M : List Tk} (p : Tk) (l : List Tk) (hM : NxL (p :: l) M) : prT p (l ++ M) = prT p l := by
 cases l with
 | nil =>
  cases M with
  | nil => rfl
  | cons q M => rw [List.nil_append, prT, prT, (hM p q rfl rfl).2.2.1]
 | cons q l => rfl
theorem dcT_nx {M : List Tk} (p : Tk) (l : List Tk) (hM : NxL (p :: l) M) : dcT p (l ++ M) = dcT p l := by
 match l, hM with
 | [], hM =>
  match M, hM with
  | [], _ => rfl
  | [q], _ => rfl
  | q :: r :: M, hM =>
   have := (hM p q rfl rfl).2.2.2
   rw [List.nil_append, dcT, this]; simp [dcT]
 | [q], hM =>
  match M, hM with
  | [], _ => rfl
  | r :: M, hM =>
   have := (hM q r rfl rfl).2.1
   rw [List.cons_append, List.nil_append, dcT]
   simp only [dcT]
   by_cases hb : besT q r = true
   ·rw [hb] at this
    simp only [Bool.true_and, decide_eq_false_iff_not, ne_eq, Decidable.not_not] at this
    rw [this]; simp
   ·simp at hb; rw [hb]; simp
 | q :: r :: l, hM => rfl
theorem fst_nx {M : List Tk} (p : Tk) (l : List Tk) (hM : NxL (p :: l) M) (h : (fstT p l).2 ≠ 0) : fstT p (l ++ M) = fstT p l := by
 unfold fstT at h ⊢
 by_cases hq : qt p = true
 ·rw [if_pos hq] at h ⊢
  rw [if_pos hq]
  cases l with
  | nil => simp [toQ] at h
  | cons u l => rw [toQ_nx _ (u :: l) 1 (Nat.le_refl _) hM.tail h]
 ·rw [if_neg hq] at h ⊢
  rw [if_neg hq, toS_nx _ _ _ hM, prT_nx _ _ hM, dcT_nx _ _ hM]
theorem NxL.drop {M : List Tk} : ∀ (n : Nat) (L : List Tk), NxL L M → NxL (L.drop n) M
 | 0, L, h => h
 | n + 1, [], h => h
 | n + 1, [p], h => by cases n <;> (intro a b ha; simp at ha)
 | n + 1, p :: q :: l, h => NxL.drop n (q :: l) h.tail
theorem toks_nx (a c : ByteArray) {M : List Tk} : ∀ (n N : Nat) (L A T : List Tk) (b : Nat), NxL L M → Od a b L → L.length ≤ n → (L ++ M).length ≤ N → toksF a n L A = .inr T →
  ∃ T0 N', T = T0 ++ [(0, ⟨#[]⟩, (a.size : Int))] ∧ M.length ≤ N' ∧ toksF (a ++ c) N (L ++ M) A = toksF (a ++ c) N' M T0
 | n, N, [], A, T, b, hM, ho, h1, h2, h => by
  have e : T = A ++ [(0, ⟨#[]⟩, (a.size : Int))] := by
   cases n <;> (simp only [toksF, Sum.inr.injEq] at h; exact h.symm)
  exact ⟨A, N, e, by simpa using h2, rfl⟩
 | 0, N, p :: l, A, T, b, hM, ho, h1, h2, h => by simp at h1
 | n + 1, 0, p :: l, A, T, b, hM, ho, h1, h2, h => by simp at h2
 | n + 1, N + 1, p :: l, A, T, b, hM, ho, h1, h2, h => by
  rw [toksF] at h
  by_cases hm : (fstT p l).2 = 0
  ·rw [if_pos hm] at h; exact absurd h (by simp)
  ·rw [if_neg hm] at h
   have hle := fst_le p l
   rw [List.cons_append, toksF, fst_nx p l hM hm, if_neg hm]
   have e1 : (p :: (l ++ M)).drop (fstT p l).2 = (p :: l).drop (fstT p l).2 ++ M := by
    rw [← List.cons_append, List.drop_append_of_le_length (by simpa using hle)]
   have e2 : tokT (a ++ c) p (l ++ M) = tokT a p l := by
    unfold tokT
    rw [fst_nx p l hM hm]
    obtain ⟨q, hq, h3, h4, h5, h6, h7⟩ := end_at ho (m := (fstT p l).2) (by omega) hle
    have e3 : endN (p :: (l ++ M)) ((fstT p l).2 - 1) = endN (p :: l) ((fstT p l).2 - 1) := by
     unfold endN
     rw [← List.cons_append, List.getElem?_append_left (by simp only [zl]; omega)]
    rw [e3, ext_left _ _ _ _ (by omega)]
   rw [e1, e2]
   simp only [zl, List.length_append] at h1 h2
   exact toks_nx a c n N _ _ T b (hM.drop _ _) (Od_drop _ _ _ ho) (by simp only [List.length_drop, zl]; omega) (by simp only [List.length_append, List.length_drop, zl]; omega) h
theorem toks_app {a c : ByteArray} {TA T : List Tk} {P Q : List Prt} (hk : kindP c 0 = 3 ∨ kindP c 0 = 0) (hp : splitB a = .inr P) (hq : splitB c = .inr Q) (hN : NxL (texts a P) ((texts c Q).map (shK a.size)))
  (ha : toksB a = .inr (TA ++ [(0, ⟨#[]⟩, (a.size : Int))])) (hc : toksB c = .inr T) : toksB (a ++ c) = .inr (TA ++ T.map (shK a.size)) := by
 obtain ⟨P1, hp1, hf⟩ := toksB_get ha
 obtain ⟨Q1, hq1, hf2⟩ := toksB_get hc
 obtain rfl : P1 = P := by rw [hp1] at hp; simpa using hp
 obtain rfl : Q1 = Q := by rw [hq1] at hq; simpa using hq
 refine toksB_of (splitB_app hk hp hq) ?_
 rw [texts_append, texts_left a c P1 0 _ (splitB_cov hp), texts_right]
 obtain ⟨T0, N', e0, h1, h2⟩ := toks_nx a c P1.length (P1 ++ Q1.map (sh a.size)).length (texts a P1) [] _ 0 hN (Od_cov a P1 0 _ (splitB_cov hp)) (by rw [texts_length]; omega) (by simp [texts_length]) hf
 have e0' : TA = T0 := List.append_cancel_right e0
 subst e0'
 rw [h2]
 have := toks_right a c TA Q1.length N' (texts c Q1) [] _ 0 (Od_cov c Q1 0 _ (splitB_cov hq)) (by rw [texts_length]; omega) (by simpa using h1) hf2
 simpa using this
theorem toks_blank {x : UInt8} (hx : Bk 0 x) {c : ByteArray} {T : List Tk} (h : toksB c = .inr T) : toksB ((⟨#[x]⟩ : ByteArray) ++ c) = .inr (T.map (shK 1)) := by
 obtain ⟨P, hp, hf⟩ := toksB_get h
 refine toksB_of (splitB_blank hx hp) ?_
 have e1 := texts_right (⟨#[x]⟩ : ByteArray) c P
 rw [one_size] at e1
 rw [e1]
 have := toks_right (⟨#[x]⟩ : ByteArray) c [] P.length (P.map (sh 1)).length (texts c P) [] T 0 (Od_cov c P 0 _ (splitB_cov hp)) (by rw [texts_length]; omega) (by rw [texts_length]; simp) hf
 simpa [one_size] using this
theorem last_in {a : ByteArray} {P : List Prt} (h : splitB a = .inr P) {p : Tk} (hp : (texts a P).getLast? = some p) : 0 ≤ p.2.2 ∧ p.2.2 + (p.2.1.size : Int) ≤ (a.size : Int) := by
 have ho := Od_cov a P 0 _ (splitB_cov h)
 rw [List.getLast?_eq_getElem?] at hp
 have := Od_at _ _ _ _ ho hp
 omega
theorem head_in {a : ByteArray} {P : List Prt} (h : splitB a = .inr P) {p : Tk} (hp : (texts a P).head? = some p) : 0 ≤ p.2.2 := by
 have ho := Od_cov a P 0 _ (splitB_cov h)
 rw [List.head?_eq_getElem?] at hp
 have := Od_at _ _ _ _ ho hp
 omega
theorem toks_sp {x : UInt8} (hx : Bk 0 x) {a c : ByteArray} {TA T : List Tk} (ha : toksB a = .inr (TA ++ [(0, ⟨#[]⟩, (a.size : Int))])) (hc : toksB c = .inr T) : toksB (a ++ ((⟨#[x]⟩ : ByteArray) ++ c)) = .inr (TA ++ (T.map (shK 1)).map (shK a.size)) := by
 obtain ⟨P, hp, -⟩ := toksB_get ha
 obtain ⟨Q, hq, -⟩ := toksB_get hc
 refine toks_app (.inr (kind_low hx c)) hp (splitB_blank hx hq) (fun p q h1 h2 => ?_) ha (toks_blank hx hc)
 have e1 := texts_right (⟨#[x]⟩ : ByteArray) c Q
 rw [one_size] at e1
 rw [e1, List.head?_map, List.head?_map] at h2
 cases hh : (texts c Q).head? with
 | none => rw [hh] at h2; simp at h2
 | some u =>
  rw [hh] at h2
  simp only [Option.map_some, Option.some.injEq] at h2
  have i1 := last_in hp h1
  have i2 := head_in hq hh
  have : besT p q = false := by
   rw [← h2]; unfold besT shK
   apply decide_eq_false
   simp only
   omega
  refine ⟨?_, ?_, ?_, ?_⟩ <;> rw [this] <;> rfl
def dqL : List UInt8 → List UInt8
 | [] => []
 | c :: l => (if c = 39 then [39, 39] else [c]) ++ dqL l
theorem dqL_append : ∀ (l m : List UInt8), dqL (l ++ m) = dqL l ++ dqL m
 | [], m => rfl
 | c :: l, m => by rw [List.cons_append, dqL, dqL, dqL_append l m, List.append_assoc]
theorem dqL_len : ∀ l : List UInt8, (dqL l).length ≤ 2 * l.length
 | [] => by simp [dqL]
 | c :: l => by
  have := dqL_len l
  rw [dqL, List.length_append, zl]
  split <;> simp <;> omega
theorem take_one {s : ByteArray} {i : Nat} (h : i < s.size) : s.data.toList.take (i + 1) = s.data.toList.take i ++ [s[i]'h] := by
 rw [List.take_add_one, List.getElem?_eq_getElem (show i < s.data.toList.length by rw [Array.length_toList]; exact h)]; rfl
theorem ba_add (a : ByteArray) (b : ByteArray) : (a ++ b).data.toList = a.data.toList ++ b.data.toList := by simp [ByteArray.data_append]
theorem rquote_any (s : ByteArray) (hs : s.size ≤ 100000) (w : World) :
  Calls Tryd.prog 22 #[vS s] w fun e w' => e = zr (vS ⟨(39 :: dqL s.data.toList ++ [39]).toArray⟩) ∧ w' = w := by
 have hsI : (s.size : Int) ≤ 100000 := by omega
 go_enter Tryd.func22, Tryd.ntmps22
 go_wp2_with fail
 go_loopw [3, 4] (fun v iv W => ∃ (i : Nat) (T : ByteArray), v = vS T ∧ iv = vi ki (i : Int) ∧ i ≤ s.size ∧ Hid (T.data.toList = 39 :: dqL (s.data.toList.take i)) ∧ T.size ≤ 1 + 2 * i ∧ W = w) (fun _ iv _ => s.size - (intOf iv).toNat)
 case atStart => exact ⟨0, ⟨#[39]⟩, rfl, rfl, Nat.zero_le _, rfl, by decide, rfl⟩
 case round =>
  obtain ⟨i, T, rfl, rfl, his, HT, hTz, rfl⟩ := hrel
  have hi0 : (0 : Int) ≤ (i : Int) := by omega
  have hiw : IntKind.i64.wrap ((i : Int) + 1) = (i : Int) + 1 := by rw [IntKind.wrap_i64]; omega
  by_cases hp : i < s.size
  ·have hpI : (i : Int) < (s.size : Int) := by omega
   have hp1 : (i : Int) + 1 ≤ (s.size : Int) := by omega
   have htk := take_one hp
   have hob := one_byte s i hp
   obtain ⟨c, hc⟩ : ∃ c, s[i]'hp = c := ⟨_, rfl⟩
   obtain ⟨z, hz⟩ : ∃ z : Int, z = (c.toNat : Int) := ⟨_, rfl⟩
   have hb : ((s[i]'hp).toNat : Int) = z := by rw [hc, hz]
   rw [hc] at htk hob
   have HK := hZz htk
   have HOb := hZz hob
   clear htk hob
   by_cases h39 : c = 39
   ·have hz39 : (z == 39) = true := by rw [hz, h39]; rfl
    have s1 : ¬ 9223372036854775807 < T.size + 1 := by omega
    have s2 : ¬ 9223372036854775807 < T.size + 1 + 1 := by omega
    have HN : Hid (∀ U : ByteArray, U = T ++ ⟨#[39]⟩ ++ s.extract i (i + 1) → U.data.toList = 39 :: dqL (s.data.toList.take (i + 1)) ∧ U.size ≤ 1 + 2 * (i + 1)) := by
     rintro U rfl
     refine ⟨?_, ?_⟩
     ·rw [ba_add, ba_add, HT.out, HOb.out, HK.out, dqL_append, h39]; simp [dqL]
     ·rw [ByteArray.size_append, ByteArray.size_append, HOb.out]; show T.size + 1 + 1 ≤ _; omega
    clear hc h39 hz
    go_wp2_with fail
    exact ⟨⟨i + 1, _, rfl, by go_num, by omega, (HN.out _ rfl).1, (HN.out _ rfl).2, trivial⟩, by simp [intOf]; omega⟩
   ·have hz39 : (z == 39) = false := by
     rw [beq_eq_false_iff_ne, hz]; intro q; exact h39 (UInt8.toNat_inj.1 (by show c.toNat = 39; omega))
    have s1 : ¬ 9223372036854775807 < T.size + 1 := by omega
    have HN : Hid (∀ U : ByteArray, U = T ++ s.extract i (i + 1) → U.data.toList = 39 :: dqL (s.data.toList.take (i + 1)) ∧ U.size ≤ 1 + 2 * (i + 1)) := by
     rintro U rfl
     refine ⟨?_, ?_⟩
     ·rw [ba_add, HT.out, HOb.out, HK.out, dqL_append]; simp [dqL, h39]
     ·rw [ByteArray.size_append, HOb.out]; show T.size + 1 ≤ _; omega
    clear hc h39 hz
    go_wp2_with fail
    exact ⟨⟨i + 1, _, rfl, by go_num, by omega, (HN.out _ rfl).1, (HN.out _ rfl).2, trivial⟩, by simp [intOf]; omega⟩
  ·obtain rfl : i = s.size := by omega
   have hpI : ¬ (s.size : Int) < (s.size : Int) := by omega
   have s1 : ¬ 9223372036854775807 < T.size + 1 := by omega
   have HN : Hid (T ++ ⟨#[39]⟩ = ⟨(39 :: dqL s.data.toList ++ [39]).toArray⟩) := by
    show _ = _
    apply ByteArray.ext
    apply Array.ext'
    rw [ba_add, HT.out, List.take_of_length_le (by rw [Array.length_toList]; exact Nat.le_refl _)]
   clear HT
   go_wp2_with fail
   go_ret
   exact ⟨(by show Ending.returned (vS (T ++ ⟨#[39]⟩)) = _; rw [HN.out]; rfl), rfl⟩
theorem rsteps_any (n : Nd) (hn : PlN (fun _ => True) n) : ∀ (X : Nat → Prop) (w : World) (c0 c1 c2 c3 : Value), NdAt X w n [c0, c1, c2, c3] → stN n ≤ 1000000000 →
  Calls Tryd.prog 13 #[.agg #[c0, c1, c2, c3]] w fun e w' => e = zr (vi ki (stN n : Nat)) ∧ Below w.heap.size w w' := by
 induction hn with
 | mk k t ks a ha hk ih =>
  intro X w c0 c1 c2 c3 h hle
  rw [NdAt] at h
  obtain ⟨sv, hcs, hv⟩ := h
  simp only [List.cons.injEq, and_true] at hcs
  obtain ⟨rfl, rfl, rfl, rfl⟩ := hcs
  have HI : Hid _ := ih
  clear hk ih ha
  obtain ⟨sq, sc, rfl, hkl, HG⟩ : ∃ sq sc, c2 = vL sq ks.length sc ∧ ks.length ≤ 9223372036854775807 ∧ Hid (∀ j n, ks[j]? = some n → ∃ b, sq = some ⟨b, 0, none⟩ ∧ ks.length ≤ sc ∧ b < w.heap.size ∧ ∃ d0 d1 d2 d3, w.cell? ⟨b, j * 4, none⟩ = some d0 ∧ w.cell? ⟨b, j * 4 + 1, none⟩ = some d1 ∧ w.cell? ⟨b, j * 4 + 2, none⟩ = some d2 ∧ w.cell? ⟨b, j * 4 + 3, none⟩ = some d3 ∧ NdAt X w n [d0, d1, d2, d3]) := by
   rcases hv with ⟨q1, q2⟩ | ⟨b, cap, e1, e0, e2, e3, e4, e5, e6⟩
   ·first | (subst q1; exact ⟨none, 0, q2, by simp, fun j n e => by simp at e⟩) | (subst q2; exact ⟨none, 0, q1, by simp, fun j n e => by simp at e⟩)
   ·refine ⟨some ⟨b, 0, none⟩, cap, e1, by unfold maxLen at e3; omega, fun j n e => ⟨b, rfl, e2, e5, ?_⟩⟩
    have q := RwAt.get ks 0 j n e6 e
    rw [Nat.zero_add] at q
    exact q
  clear hv
  have hklI : (ks.length : Int) ≤ 9223372036854775807 := by omega
  have HE : Hid (stN (.mk k t ks a) = if k = 5 then 1 else 1 + stL ks) := by show _ = _; rw [stN]
  obtain ⟨M, hM⟩ : ∃ M, M = stN (.mk k t ks a) := ⟨_, rfl⟩
  rw [← hM] at hle ⊢
  have HM : Hid (M = if k = 5 then 1 else 1 + stL ks) := hM.trans HE.out
  clear hM HE
  have B0 := bsn1 w [vi ki k, vS t, vL sq ks.length sc, vi ki a] 30
  go_enter Tryd.func13, Tryd.ntmps13
  go_wp2_with fail
  go_loopw [3, 4] (fun u i W => ∃ (j : Nat), u = vi ki (1 + (stL (ks.take j) : Nat) : Int) ∧ i = vi ki (j : Int) ∧ j ≤ ks.length ∧ (k = 5 → j = 0) ∧ Hid (BS w [(w.heap.size, [vi ki k, vS t, vL sq ks.length sc, vi ki a])] W)) (fun _ i _ => ks.length - (intOf i).toNat)
  case atStart => exact ⟨0, rfl, rfl, Nat.zero_le _, fun _ => rfl, B0⟩
  case round =>
   obtain ⟨j, rfl, rfl, hj, h50, KB⟩ := hrel
   clear B0
   have hj0 : (0 : Int) ≤ (j : Int) := by omega
   have hs := KB.out.1.size
   have b0 := KB.out.first.c 0 rfl
   have b2 := KB.out.first.c 2 rfl
   have b9 := KB.out.first.1
   by_cases hjl : j < ks.length
   ·have hjI : (j : Int) < (ks.length : Int) := by omega
    by_cases h5 : k = 5
    ·have g5 : (k == 5) = true := by simpa using h5
     have HR : Hid (M = 1) := by show _ = _; rw [HM.out, if_pos h5]
     obtain rfl := h50 h5
     clear h5 h50 HM
     go_wp2_with fail
     go_ret
     exact ⟨by rw [HR.out]; rfl, KB.out.1⟩
    have g5 : (k == 5) = false := by simpa using h5
    have HM2 : Hid (M = 1 + stL ks) := by show _ = _; rw [HM.out, if_neg h5]
    have HN5 := hZz h5
    rw [HM2.out] at hle
    clear h5 h50
    obtain ⟨b, rfl, hsc, hb, d0, d1, d2, d3, y0, y1, y2, y3, hnd⟩ := HG.out j _ (List.getElem?_eq_getElem hjl)
    have et := stL_take (List.getElem?_eq_getElem hjl)
    have el := stL_take_le ks (j + 1)
    obtain ⟨N, hN⟩ : ∃ N, N = stN ks[j] := ⟨_, rfl⟩
    rw [← hN] at et
    have HC : Hid (∀ V : World, Below w.heap.size w V → Calls Tryd.prog 13 #[.agg #[d0, d1, d2, d3]] V fun e w' => e = zr (vi ki (N : Int)) ∧ Below V.heap.size V w') :=
     fun V hV => by rw [hN]; exact HI.out _ (List.getElem_mem hjl) X V d0 d1 d2 d3 (hnd.below hV) (by omega)
    have v0 := (KB.out.1.cell (p := ⟨b, j * 4, none⟩) hb).trans y0
    have v1 := (KB.out.1.cell (p := ⟨b, j * 4 + 1, none⟩) hb).trans y1
    have v2 := (KB.out.1.cell (p := ⟨b, j * 4 + 2, none⟩) hb).trans y2
    have v3 := (KB.out.1.cell (p := ⟨b, j * 4 + 3, none⟩) hb).trans y3
    have hbw : b < wr.heap.size := by omega
    obtain ⟨k2, t2, sq2, sn2, sc2, a2, rfl, rfl, rfl, rfl⟩ := hnd.form
    have ht1 : IntKind.i64.wrap (1 + (stL (ks.take j) : Int) + (N : Int)) = 1 + (stL (ks.take (j + 1)) : Int) := by rw [IntKind.wrap_i64, et]; omega
    have hjw : IntKind.i64.wrap ((j : Int) + 1) = (j : Int) + 1 := by rw [IntKind.wrap_i64]; omega
    clear y0 y1 y2 y3 hnd HI HG hN
    go_wp2_with fail
    refine (HC.out _ KB.out.1).mono ?_
    rintro e V ⟨rfl, hk⟩
    have KV : Hid (BS w [(w.heap.size, [vi ki k, vS t, vL (some ⟨b, 0, none⟩) ks.length sc, vi ki a])] V) := KB.out.below hk
    clear hk KB HC v0 v1 v2 v3 b0 b2 b9
    go_wp2
    exact ⟨⟨j + 1, by rw [et]; simp, by simp, by omega, fun z => absurd z HN5.out, KV⟩, by simp [intOf]; omega⟩
   ·obtain rfl : j = ks.length := by omega
    rw [List.take_length]
    have hjI : ¬ (ks.length : Int) < (ks.length : Int) := by omega
    have HR : Hid (M = 1 + stL ks) := by
     show _ = _
     rw [HM.out]
     by_cases h5 : k = 5
     ·rw [if_pos h5, List.length_eq_zero_iff.1 (h50 h5)]; rfl
     ·rw [if_neg h5]
    clear h50
    go_wp2_with fail
    go_ret
    exact ⟨by rw [HR.out]; simp, KB.out.1⟩
theorem infoStr : (Tryd.prog.info? 9).map (fun i => (i.zero, i.size, i.bytes)) = some (some (vS ⟨#[]⟩), 1, 16) := by kernel_rfl
def bsT (l : List UInt8) : ByteArray := ⟨l.toArray⟩
theorem bsT_add (l m : List UInt8) : bsT l ++ bsT m = bsT (l ++ m) := by
 apply ByteArray.ext; apply Array.ext'; simp [bsT, ByteArray.data_append]
theorem bsT_size (l : List UInt8) : (bsT l).size = l.length := by show l.toArray.size = _; simp
theorem bsT_of (t : ByteArray) : bsT t.data.toList = t := by cases t; rfl
def txC (l : List Nd) : List Value := l.map fun n => vS (bsT (wrN n))
structure SG (B : World) (l : List Nd) (v : Value) (V : World) : Prop where
 low : Below B.heap.size B V
 own : V.ownsRow B.heap.size 9 1 v l.length (txC l)
theorem SG.below {B : World} {l : List Nd} {v : Value} {V W : World} (h : SG B l v V) (hb : Below V.heap.size V W) : SG B l v W :=
 ⟨h.low.trans (hb.mono h.low.size), ownsRow_keep h.own (fun c _ hl => hb.block c hl)⟩
theorem SG.len {B : World} {l : List Nd} {q : Option Addr} {n c : Nat} {V : World} (h : SG B l (vL q n c) V) : n = l.length := by
 rcases h.own.2 with ⟨e, z⟩ | ⟨g, cap, cur, e, _⟩
 ·cases e; exact z.symm
 ·cases e; rfl
theorem SG.more {B : World} {l : List Nd} {n : Nd} {v v' : Value} {V V' : World} (h : SG B l v V) (hgr : V.grownBy V' v.ownBlock) (hown : V'.ownsRow B.heap.size 9 1 v' (l.length + 1) (txC l ++ [vS (bsT (wrN n))])) : SG B (l ++ [n]) v' V' := by
 have hr : ∀ c, v.ownBlock = some c → B.heap.size ≤ c ∧ c < V.heap.size := fun c hc => ob_lt h.own hc
 refine ⟨⟨hgr.os.trans h.low.os, hgr.tape.trans h.low.tape, hgr.output.trans h.low.output, Nat.le_trans h.low.size hgr.size, fun c hc => (hgr.block c (by have := h.low.size; omega) (fun e => by have := hr c e.symm; omega)).trans (h.low.block c hc)⟩, ?_⟩
 rw [List.length_append]; unfold txC at hown ⊢; rw [List.map_append]; exact hown
theorem SG.at {B : World} {l : List Nd} {v : Value} {V : World} (h : SG B l v V) {i : Nat} {n : Nd} (hi : l[i]? = some n) : ∃ g cap, v = vL (some ⟨g, 0, none⟩) l.length cap ∧ l.length ≤ cap ∧ cap ≤ 9223372036854775807 ∧ g < V.heap.size ∧ V.cell? ⟨g, i, none⟩ = some (vS (bsT (wrN n))) := by
 have hlt := (List.getElem?_eq_some_iff.1 hi).1
 rcases h.own.2 with ⟨_, z⟩ | ⟨g, cap, cur, e, h1, h2, h3, h4, _⟩
 ·omega
 ·have h5 := h.own
  rw [e] at h5
  refine ⟨g, cap, e, h3, by unfold maxLen at h4; exact h4, (Array.getElem?_eq_some_iff.1 h2).1, ?_⟩
  rw [h5.cellAt i (by omega)]
  unfold txC
  rw [List.getElem?_map, hi]; rfl
mutual
def shN : Nd → Bool
 | .mk k _ ks _ => (if k = 9 then true else if k = 8 then decide (ks.length = 2) else if k = 5 ∨ k = 6 ∨ k = 7 ∨ k = 10 then decide (ks.length = 1) else decide (1 ≤ k ∧ k ≤ 4 ∧ ks.length = 0)) && shL ks
def shL : List Nd → Bool
 | [] => true
 | n :: l => shN n && shL l
end
theorem shL_mem : ∀ {l : List Nd}, shL l = true → ∀ n ∈ l, shN n = true
 | [], _, n, hn => by simp at hn
 | m :: l, h, n, hn => by
  rw [shL, Bool.and_eq_true] at h
  rcases List.mem_cons.1 hn with rfl | hn
  ·exact h.1
  ·exact shL_mem h.2 n hn
theorem jn_mem (b : List UInt8) : ∀ (f : Bool) (l : List (List UInt8)) (x : List UInt8), x ∈ l → x.length ≤ (jnW b f l).length
 | f, [], x, h => by simp at h
 | f, y :: l, x, h => by
  rw [jnW]
  simp only [List.length_append]
  rcases List.mem_cons.1 h with rfl | h
  ·omega
  ·have := jn_mem b false l x h; omega
theorem wr_kid {k : Int} {t : ByteArray} {ks : List Nd} {a : Int} (hs : shN (.mk k t ks a) = true) {n : Nd} (hn : n ∈ ks) : (wrN n).length ≤ (wrN (.mk k t ks a)).length := by
 have hm : wrN n ∈ wrT ks := by rw [wrT_map]; exact List.mem_map.2 ⟨n, hn, rfl⟩
 rw [wrN]
 unfold frW
 rw [shN, Bool.and_eq_true] at hs
 have h1 := hs.1
 have hpos : 0 < ks.length := List.length_pos_of_mem hn
 have j0 := jn_mem [] true _ _ hm
 have j1 := jn_mem ([32] ++ t.data.toList ++ [32]) true _ _ hm
 have j2 := jn_mem [44, 32] true _ _ hm
 by_cases h9 : k = 9
 ·subst h9; simp; omega
 rw [if_neg h9] at h1
 by_cases h8 : k = 8
 ·subst h8; simp at j1 ⊢; omega
 rw [if_neg h8] at h1
 by_cases h5 : k = 5
 ·subst h5; simp; omega
 by_cases h6 : k = 6
 ·subst h6; simp; omega
 by_cases h7 : k = 7
 ·subst h7; simp; omega
 by_cases h10 : k = 10
 ·subst h10; simp; omega
 rw [if_neg (by omega), decide_eq_true_eq] at h1
 omega
theorem rep_dq : ∀ l : List UInt8, Lib.replaceK [39] [39, 39] (Lib.count l [39]) l = dqL l
 | [] => rfl
 | a :: l => by
  have ih := rep_dq l
  by_cases h : a = 39
  ·subst h
   have e : Lib.index (39 :: l) [39] = (0 : Nat) := by simp [Lib.index, List.isPrefixOf]
   rw [Lib.count_hit (by simp) e, Nat.add_comm, Lib.replaceK_hit _ _ _ _ 0 e]
   simp only [zl, List.length_nil, Nat.zero_add, List.take_zero, List.nil_append, List.drop_succ_cons, List.drop_zero]
   rw [ih, dqL, if_pos rfl]
  ·have hp : List.isPrefixOf [39] (a :: l) = false := by
    simp only [List.isPrefixOf, Bool.and_true, beq_eq_false_iff_ne]
    exact fun q => h q.symm
   have e0 : Lib.index (a :: l) [39] = if Lib.index l [39] == -1 then -1 else Lib.index l [39] + 1 := by
    rw [Lib.index, hp]; simp
   rw [dqL, if_neg h, ← ih]
   have hge := Lib.index_ge l [39]
   by_cases hm : Lib.index l [39] = -1
   ·rw [hm] at e0
    rw [Lib.count_miss e0, Lib.count_miss hm]; rfl
   ·obtain ⟨i, hi⟩ : ∃ i : Nat, Lib.index l [39] = i := ⟨(Lib.index l [39]).toNat, by omega⟩
    have e1 : Lib.index (a :: l) [39] = (i + 1 : Nat) := by
     rw [e0, hi, if_neg (by simp <;> omega)]; simp
    rw [Lib.count_hit (by simp) e1, Lib.count_hit (by simp) hi, Nat.add_comm 1, Nat.add_comm 1, Lib.replaceK_hit _ _ _ _ _ e1, Lib.replaceK_hit _ _ _ _ _ hi]
    simp only [zl, List.length_nil, Nat.zero_add, Nat.add_assoc, List.take_succ_cons, List.cons_append]
    rw [show i + (1 + 1) = i + 1 + 1 by omega, List.drop_succ_cons]; rfl
theorem repl_dq (l : List UInt8) : Lib.replaceAll l [39] [39, 39] = dqL l := by
 rw [← rep_dq l]
 simp [Lib.replaceAll, Lib.replace, Lib.replaceNum]
theorem two_of : ∀ {l : List Nd}, l.length = 2 → ∃ a b, l = [a, b]
 | [], h => by cases h
 | [_], h => by cases h
 | [a, b], _ => ⟨a, b, rfl⟩
 | _ :: _ :: _ :: _, h => by simp at h
theorem one_of : ∀ {l : List Nd}, l.length = 1 → ∃ a, l = [a]
 | [], h => by cases h
 | [a], _ => ⟨a, rfl⟩
 | _ :: _ :: _, h => by simp at h
theorem kinds_of {k : Int} {n : Nat} (h : (if k = 9 then true else if k = 8 then decide (n = 2) else if k = 5 ∨ k = 6 ∨ k = 7 ∨ k = 10 then decide (n = 1) else decide (1 ≤ k ∧ k ≤ 4 ∧ n = 0)) = true) : k = 9 ∨ (k = 8 ∧ n = 2) ∨ ((k = 5 ∨ k = 6 ∨ k = 7 ∨ k = 10) ∧ n = 1) ∨ ((1 ≤ k ∧ k ≤ 4) ∧ n = 0) := by
 by_cases h9 : k = 9
 ·exact .inl h9
 rw [if_neg h9] at h
 by_cases h8 : k = 8
 ·rw [if_pos h8, decide_eq_true_eq] at h; exact .inr (.inl ⟨h8, h⟩)
 rw [if_neg h8] at h
 by_cases h5 : k = 5 ∨ k = 6 ∨ k = 7 ∨ k = 10
 ·rw [if_pos h5, decide_eq_true_eq] at h; exact .inr (.inr (.inl ⟨h5, h⟩))
 rw [if_neg h5, decide_eq_true_eq] at h
 exact .inr (.inr (.inr ⟨⟨h.1, h.2.1⟩, h.2.2⟩))
theorem rstring_any (n : Nd) (hn : PlN (fun _ => True) n) : ∀ (X : Nat → Prop) (w : World) (c0 c1 c2 c3 : Value), NdAt X w n [c0, c1, c2, c3] → shN n = true → tzN n = true → cnN n ≤ 100000 → (wrN n).length ≤ 1000000000 →
  Calls Tryd.prog 11 #[.agg #[c0, c1, c2, c3]] w fun e w' => e = zr (vS (bsT (wrN n))) ∧ Below w.heap.size w w' := by
 obtain ⟨i0, hi0, iz0, iz1, iz2⟩ := info_parts infoStr
 induction hn with
 | mk k t ks a ha hk ih =>
  intro X w c0 c1 c2 c3 h hsh htz hcn hle
  rw [cnN] at hcn
  have hkl5 := cnL_len ks
  rw [NdAt] at h
  obtain ⟨sv, hcs, hv⟩ := h
  simp only [List.cons.injEq, and_true] at hcs
  obtain ⟨rfl, rfl, rfl, rfl⟩ := hcs
  have hkid : ∀ m ∈ ks, shN m = true ∧ tzN m = true ∧ cnN m ≤ 100000 ∧ (wrN m).length ≤ 1000000000 := fun m hm => ⟨shL_mem (by rw [shN, Bool.and_eq_true] at hsh; exact hsh.2) m hm, tzL_mem (by rw [tzN, Bool.and_eq_true] at htz; exact htz.2) m hm, by have := cnL_mem hm; omega, Nat.le_trans (wr_kid hsh hm) hle⟩
  have HK : Hid _ := hkid
  have hts : t.size ≤ 100000 := by rw [tzN, Bool.and_eq_true, decide_eq_true_eq] at htz; exact htz.1
  have hS1 := hsh
  rw [shN, Bool.and_eq_true] at hS1
  have HSh : Hid _ := hS1.1
  obtain ⟨WN, hWN⟩ : ∃ WN, WN = wrN (.mk k t ks a) := ⟨_, rfl⟩
  rw [← hWN] at hle ⊢
  have HW : Hid (WN = frW k t (wrT ks)) := by show _ = _; rw [hWN, wrN]
  have HI : Hid _ := ih
  clear hk ih ha hsh htz hS1 hWN hkid
  obtain ⟨sq, sc, rfl, hkl, HG⟩ : ∃ sq sc, c2 = vL sq ks.length sc ∧ ks.length ≤ 9223372036854775807 ∧ Hid (∀ j n, ks[j]? = some n → ∃ b, sq = some ⟨b, 0, none⟩ ∧ ks.length ≤ sc ∧ b < w.heap.size ∧ ∃ d0 d1 d2 d3, w.cell? ⟨b, j * 4, none⟩ = some d0 ∧ w.cell? ⟨b, j * 4 + 1, none⟩ = some d1 ∧ w.cell? ⟨b, j * 4 + 2, none⟩ = some d2 ∧ w.cell? ⟨b, j * 4 + 3, none⟩ = some d3 ∧ NdAt X w n [d0, d1, d2, d3]) := by
   rcases hv with ⟨q1, q2⟩ | ⟨b, cap, e1, e0, e2, e3, e4, e5, e6⟩
   ·first | (subst q1; exact ⟨none, 0, q2, by simp, fun j n e => by simp at e⟩) | (subst q2; exact ⟨none, 0, q1, by simp, fun j n e => by simp at e⟩)
   ·refine ⟨some ⟨b, 0, none⟩, cap, e1, by unfold maxLen at e3; omega, fun j n e => ⟨b, rfl, e2, e5, ?_⟩⟩
    have q := RwAt.get ks 0 j n e6 e
    rw [Nat.zero_add] at q
    exact q
  clear hv
  have hklI : (ks.length : Int) ≤ 9223372036854775807 := by omega
  have hkn : (ks.length + 1) * 16 ≤ 140737488355328 := by omega
  have B0 := bsn1 w [vi ki k, vS t, vL sq ks.length sc, vi ki a] 30
  go_enter Tryd.func11, Tryd.ntmps11
  go_upto_region 1 with fail
  refine gen_to (fun V => BS w [(w.heap.size, [vi ki k, vS t, vL sq ks.length sc, vi ki a])] V) B0.out ?_
  clear B0
  intro W1 hW1
  have B1 : Hid (BS w [(w.heap.size, [vi ki k, vS t, vL sq ks.length sc, vi ki a])] W1) := hW1
  clear hW1
  go_wp2_with fail
  go_loopw [3, 4] (fun v i W => ∃ (j : Nat) (vq : Option Addr) (vn vc : Nat), v = vL vq vn vc ∧ i = vi ki (j : Int) ∧ j ≤ ks.length ∧ Hid (SG W1 (ks.take j) (vL vq vn vc) W)) (fun _ i _ => ks.length - (intOf i).toNat)
  case atStart => exact ⟨0, none, 0, 0, rfl, rfl, Nat.zero_le _, ⟨Below.refl _ _, World.ownsRow_nil _ _ _ _⟩⟩
  case round =>
   obtain ⟨j, vq, vn, vc, rfl, rfl, hj, KS⟩ := hrel
   have hj0 : (0 : Int) ≤ (j : Int) := by omega
   have hjw : IntKind.i64.wrap ((j : Int) + 1) = (j : Int) + 1 := by rw [IntKind.wrap_i64]; omega
   have hs1 := B1.out.1.size
   have hs := KS.out.low.size
   have HBx : Hid (Bx wr w.heap.size [vi ki k, vS t, vL sq ks.length sc, vi ki a]) := B1.out.first.below KS.out.low
   have b0 := HBx.out.c 0 rfl
   have b1 := HBx.out.c 1 rfl
   have b2 := HBx.out.c 2 rfl
   have b9 := HBx.out.1
   by_cases hjl : j < ks.length
   ·have hjI : (j : Int) < (ks.length : Int) := by omega
    obtain ⟨b, rfl, hsc, hb, d0, d1, d2, d3, y0, y1, y2, y3, hnd⟩ := HG.out j _ (List.getElem?_eq_getElem hjl)
    obtain ⟨m, hm⟩ : ∃ m, m = ks[j] := ⟨_, rfl⟩
    have HT : Hid (ks.take (j + 1) = ks.take j ++ [m]) := by show _ = _; rw [List.take_add_one, List.getElem?_eq_getElem hjl, hm]; rfl
    have hkm := HK.out m (by rw [hm]; exact List.getElem_mem hjl)
    rw [← hm] at hnd
    have HC : Hid (∀ V : World, Below w.heap.size w V → Calls Tryd.prog 11 #[.agg #[d0, d1, d2, d3]] V fun e w' => e = zr (vS (bsT (wrN m))) ∧ Below V.heap.size V w') :=
     fun V hV => HI.out m (by rw [hm]; exact List.getElem_mem hjl) X V d0 d1 d2 d3 (hnd.below hV) hkm.1 hkm.2.1 hkm.2.2.1 hkm.2.2.2
    have KW : Hid (Below w.heap.size w wr) := B1.out.1.trans (KS.out.low.mono hs1)
    have v0 := (KW.out.cell (p := ⟨b, j * 4, none⟩) hb).trans y0
    have v1 := (KW.out.cell (p := ⟨b, j * 4 + 1, none⟩) hb).trans y1
    have v2 := (KW.out.cell (p := ⟨b, j * 4 + 2, none⟩) hb).trans y2
    have v3 := (KW.out.cell (p := ⟨b, j * 4 + 3, none⟩) hb).trans y3
    have hbw : b < wr.heap.size := by omega
    have htl : (ks.take j).length = j := by rw [List.length_take]; omega
    have HTl : Hid _ := htl
    obtain ⟨k2, t2, sq2, sn2, sc2, a2, rfl, rfl, rfl, rfl⟩ := hnd.form
    obtain ⟨P, hP⟩ : ∃ P, P = bsT (wrN m) := ⟨_, rfl⟩
    rw [← hP] at HC
    have HPm : Hid (P = bsT (wrN m)) := hP
    clear y0 y1 y2 y3 hnd HI HG hm hkm htl hP b1
    go_wp2_with fail
    refine (HC.out _ KW.out).mono ?_
    rintro e V ⟨rfl, hkb⟩
    have KS2 : Hid (SG W1 (ks.take j) (vL vq vn vc) V) := KS.out.below hkb
    clear hkb KS HC v0 v1 v2 v3 b0 b2 b9 HBx KW
    go_wp2_with (at_builtin; refine Hid.out ?_)
    unfold Hid
    refine wpl_append_new rfl _ _ 67 rfl W1.heap.size 9 i0 (vS ⟨#[]⟩) 1 16 Tryd.underlying67 hi0 iz0 iz1 iz2 rfl (by decide) _ (ks.take j).length (txC (ks.take j)) rfl ((KS2.out.below ((Below.refl _ V).alloc (Nat.le_refl _) _)).own) ⟨V.heap.size, 0, none⟩ 1 [vS P] rfl rfl (new_one _ _ _) (by intro u hu; simp at hu; subst hu; rfl) (by rw [HTl.out]; unfold maxLen; omega) (by rw [HTl.out]; omega) (by have := KS2.out.low.size; simp; omega) ?_
    intro v' w4 hown' hgrow hnew
    rw [HPm.out] at hown'
    have HF : Hid (SG W1 (ks.take (j + 1)) v' w4) := by show SG _ _ _ _; rw [HT.out]; exact (KS2.out.below ((Below.refl _ V).alloc (Nat.le_refl _) _)).more hgrow hown'
    obtain ⟨sq', sn', sc', hv'⟩ := own_form hown'
    subst hv'
    clear hown' hgrow hnew KS2 HT HTl HPm
    go_wp2_with fail
    go_roundw
    case rel => exact ⟨j + 1, sq', sn', sc', rfl, by go_num, by omega, HF⟩
    case measure => simp [intOf]; omega
   ·obtain rfl : j = ks.length := by omega
    have hjI : ¬ (ks.length : Int) < (ks.length : Int) := by omega
    have KF : Hid (SG W1 ks (vL vq vn vc) wr) := by have := KS.out; rw [List.take_length] at this; exact this
    have KW : Hid (Below w.heap.size w wr) := B1.out.1.trans (KS.out.low.mono hs1)
    obtain rfl : vn = ks.length := KF.out.len
    clear KS HI HG hj hjw hj0
    rcases kinds_of HSh.out with h9 | ⟨h8, hl2⟩ | ⟨h1, hl1⟩ | ⟨h14, hl0⟩
    ·subst h9
     have HW9 : Hid (WN = (t.data.toList ++ [40]) ++ jnW [44, 32] true (wrT ks) ++ [41]) := HW.out
     have s1 : ¬ 9223372036854775807 < t.size + 1 := by omega
     have HP0 : Hid (t ++ ⟨#[40]⟩ = bsT ((t.data.toList ++ [40]) ++ jnW [44, 32] true (wrT (ks.take 0)))) := by
      have e0 : jnW [44, 32] true (wrT (ks.take 0)) = [] := by rw [List.take_zero, wrT]; rfl
      show _ = _
      rw [e0, List.append_nil, ← bsT_add, bsT_of]; rfl
     have hlen9 : WN.length = t.size + 1 + (jnW [44, 32] true (wrT ks)).length + 1 := by rw [HW9.out]; simp only [List.length_append, zl, List.length_nil, sz]
     clear HW HSh
     go_wp2_with fail
     go_loopw [5, 6] (fun v i W => ∃ (j : Nat), v = vS (bsT ((t.data.toList ++ [40]) ++ jnW [44, 32] true (wrT (ks.take j)))) ∧ i = vi ki (j : Int) ∧ j ≤ ks.length ∧ W = wr) (fun _ i _ => ks.length - (intOf i).toNat)
     case atStart => exact ⟨0, by rw [← HP0.out], rfl, Nat.zero_le _, rfl⟩
     case round =>
      obtain ⟨j, rfl, rfl, hj, rfl⟩ := hrel
      have hj0 : (0 : Int) ≤ (j : Int) := by omega
      have hjw : IntKind.i64.wrap ((j : Int) + 1) = (j : Int) + 1 := by rw [IntKind.wrap_i64]; omega
      by_cases hjl : j < ks.length
      ·have hjI : (j : Int) < (ks.length : Int) := by omega
       obtain ⟨m, hm⟩ : ∃ m, ks[j]? = some m := ⟨ks[j], List.getElem?_eq_getElem hjl⟩
       obtain ⟨g, cap, hv, hc1, hc2, hg, hcell⟩ := KF.out.at hm
       obtain ⟨rfl, rfl⟩ : vq = some ⟨g, 0, none⟩ ∧ vc = cap := by cases hv; exact ⟨rfl, rfl⟩
       have hjt := jn_take [44, 32] hm
       have hjl2 := jn_le [44, 32] ks (j + 1)
       obtain ⟨X, hX⟩ : ∃ X, X = (t.data.toList ++ [40]) ++ jnW [44, 32] true (wrT (ks.take j)) := ⟨_, rfl⟩
       obtain ⟨Y, hY⟩ : ∃ Y, Y = wrN m := ⟨_, rfl⟩
       have HN : Hid ((t.data.toList ++ [40]) ++ jnW [44, 32] true (wrT (ks.take (j + 1))) = X ++ (if 0 < j then [44, 32] else []) ++ Y) := by show _ = _; rw [hjt, hX, hY]; simp
       have hsz : X.length + 2 + Y.length ≤ 2000000000 := by
        have e1 : X.length = t.size + 1 + (jnW [44, 32] true (wrT (ks.take j))).length := by rw [hX]; simp only [List.length_append, zl, List.length_nil, sz]
        have e2 := congrArg List.length hjt
        simp only [List.length_append] at e2
        rw [← hY] at e2
        omega
       rw [← hX]
       rw [← hY] at hcell
       clear hjt hjl2 hX hY hm hv
       obtain ⟨x, hx⟩ : ∃ x, x = bsT X := ⟨_, rfl⟩
       obtain ⟨y, hy⟩ : ∃ y, y = bsT Y := ⟨_, rfl⟩
       have hxz : x.size = X.length := by rw [hx, bsT_size]
       have hyz : y.size = Y.length := by rw [hy, bsT_size]
       rw [← hx]
       rw [← hy] at hcell
       have HX : Hid (x = bsT X ∧ y = bsT Y) := ⟨hx, hy⟩
       have HSz : Hid (x.size + 2 + y.size ≤ 2000000000) := by show _ ≤ _; omega
       clear hx hy hxz hyz hsz
       by_cases hj1 : 0 < j
       ·have hjp : (0 : Int) < (j : Int) := by omega
        have s1 : ¬ 9223372036854775807 < x.size + 2 := by have := HSz.out; omega
        have s2 : ¬ 9223372036854775807 < x.size + 2 + y.size := by have := HSz.out; omega
        have HR : Hid (x ++ ⟨#[44, 32]⟩ ++ y = bsT ((t.data.toList ++ [40]) ++ jnW [44, 32] true (wrT (ks.take (j + 1))))) := by show _ = _; rw [HN.out, if_pos hj1, ← bsT_add, ← bsT_add, HX.out.1, HX.out.2]; rfl
        clear HN HX HSz
        go_wp2_with fail
        exact ⟨⟨j + 1, by rw [HR.out], by go_num, by omega, trivial⟩, by simp [intOf]; omega⟩
       ·obtain rfl : j = 0 := by omega
        have s2 : ¬ 9223372036854775807 < x.size + y.size := by have := HSz.out; omega
        have HR : Hid (x ++ y = bsT ((t.data.toList ++ [40]) ++ jnW [44, 32] true (wrT (ks.take (0 + 1))))) := by show _ = _; rw [HN.out, if_neg hj1, List.append_nil, ← bsT_add, HX.out.1, HX.out.2]
        clear HN HX HSz
        go_wp2_with fail
        exact ⟨⟨1, by rw [HR.out], by go_num, by omega, trivial⟩, by simp [intOf]; omega⟩
      ·obtain rfl : j = ks.length := by omega
       have hjI : ¬ (ks.length : Int) < (ks.length : Int) := by omega
       rw [List.take_length]
       obtain ⟨x, hx⟩ : ∃ x, x = bsT ((t.data.toList ++ [40]) ++ jnW [44, 32] true (wrT ks)) := ⟨_, rfl⟩
       have hxz : x.size + 1 ≤ 1000000000 := by rw [hx, bsT_size]; simp only [List.length_append, zl, List.length_nil, sz]; omega
       have s1 : ¬ 9223372036854775807 < x.size + 1 := by omega
       have HR : Hid (x ++ ⟨#[41]⟩ = bsT WN) := by show _ = _; rw [hx, HW9.out, ← bsT_add _ [41]]; rfl
       rw [← hx]
       clear hx
       go_wp2_with fail
       exact bodyPost_ret (v := vS (x ++ ⟨#[41]⟩)) (by simp [results, Tryd.results11, go_sem]) rfl ⟨by rw [HR.out], KW.out⟩
    ·obtain ⟨m1, m2, rfl⟩ := two_of hl2
     subst h8
     obtain ⟨g, cap, hv, hc1, hc2, hg, hcell⟩ := KF.out.at (i := 0) (n := m1) rfl
     obtain ⟨rfl, rfl⟩ : vq = some ⟨g, 0, none⟩ ∧ vc = cap := by cases hv; exact ⟨rfl, rfl⟩
     obtain ⟨g', cap', hv', -, -, -, hcell'⟩ := KF.out.at (i := 1) (n := m2) rfl
     cases hv'
     have HW8 : Hid (WN = [40] ++ (wrN m1 ++ ([32] ++ t.data.toList ++ [32]) ++ wrN m2) ++ [41]) := by show _ = _; rw [HW.out]; simp [frW, wrT, jnW]
     have hlen8 : WN.length = 1 + (wrN m1).length + 1 + t.size + 1 + (wrN m2).length + 1 := by rw [HW8.out]; simp only [List.length_append, zl, List.length_nil, sz]; omega
     obtain ⟨P, hP⟩ : ∃ P, P = bsT (wrN m1) := ⟨_, rfl⟩
     obtain ⟨Q, hQ⟩ : ∃ Q, Q = bsT (wrN m2) := ⟨_, rfl⟩
     have hPz : P.size = (wrN m1).length := by rw [hP, bsT_size]
     have hQz : Q.size = (wrN m2).length := by rw [hQ, bsT_size]
     have HR : Hid ((⟨#[40]⟩ ++ P ++ ⟨#[32]⟩ ++ t ++ ⟨#[32]⟩ ++ Q ++ ⟨#[41]⟩) = bsT WN) := by show _ = _; rw [HW8.out, hP, hQ, ← bsT_add, ← bsT_add, ← bsT_add, ← bsT_add, ← bsT_add, ← bsT_add, bsT_of]; simp only [ByteArray.append_assoc]; rfl
     rw [← hP] at hcell
     rw [← hQ] at hcell'
     have s19 : ¬ 9223372036854775807 < 1 + P.size := by omega
     have s29 : ¬ 9223372036854775807 < 1 + P.size + 1 := by omega
     have s39 : ¬ 9223372036854775807 < 1 + P.size + 1 + t.size := by omega
     have s49 : ¬ 9223372036854775807 < 1 + P.size + 1 + t.size + 1 := by omega
     have s59 : ¬ 9223372036854775807 < 1 + P.size + 1 + t.size + 1 + Q.size := by omega
     have s69 : ¬ 9223372036854775807 < 1 + P.size + 1 + t.size + 1 + Q.size + 1 := by omega
     simp only [zl, List.length_nil, Nat.zero_add, Nat.reduceAdd] at hc1 b2 KF hkl hklI hjI ⊢
     clear HW8 hP hQ hPz hQz hlen8 hv HW HSh hl2 hjl
     go_upto_region 16 with fail
     refine wp_region_held_drew (S := (fun V : World => V.cell? ⟨g, 0, none⟩ = some (vS P) ∧ V.cell? ⟨g, 1, none⟩ = some (vS Q) ∧ V.cell? ⟨w.heap.size, 1, none⟩ = some (vS t) ∧ g < V.heap.size ∧ w.heap.size < V.heap.size)) (by kernel_rfl) (by first | exact ⟨hcell, hcell', b1, hg, b9⟩ | exact ⟨hcell, hcell', b1, hg, b9⟩) (fun hHeld => ?_)
     refine tks 0 (oi := ⟨some 55, _, _, _, _, none⟩) ?_
     simp only [za, zb, zc, zd]
     refine tks 1 (oi := ⟨some 56, _, _, _, _, none⟩) ?_
     simp only [za, zb, zc, zd]
     refine tk (v := ?_) 2 (oi := ⟨some 57, _, _, _, _, none⟩) ?_ ?_
     case refine_2 => (intro w9 hSw; obtain ⟨u1, u2, u3, u4, u5⟩ := hSw; go_simp; try with_reducible rfl)
     simp only [za, zb, zc, zd]
     refine tks 3 (oi := ⟨some 58, _, _, _, _, none⟩) ?_
     simp only [za, zb, zc, zd]
     refine tks 4 (oi := ⟨some 59, _, _, _, _, none⟩) ?_
     simp only [za, zb, zc, zd]
     refine tks 5 (oi := ⟨some 60, _, _, _, _, none⟩) ?_
     simp only [za, zb, zc, zd]
     refine tk (v := ?_) 6 (oi := ⟨some 61, _, _, _, _, none⟩) ?_ ?_
     case refine_2 => (intro w9 hSw; obtain ⟨u1, u2, u3, u4, u5⟩ := hSw; go_simp; try with_reducible rfl)
     simp only [za, zb, zc, zd]
     refine tks 7 (oi := ⟨some 62, _, _, _, _, none⟩) ?_
     simp only [za, zb, zc, zd]
     refine tks 8 (oi := ⟨some 63, _, _, _, _, none⟩) ?_
     simp only [za, zb, zc, zd]
     refine tks 9 (oi := ⟨some 64, _, _, _, _, none⟩) ?_
     simp only [za, zb, zc, zd]
     refine tks 10 (oi := ⟨some 65, _, _, _, _, none⟩) ?_
     simp only [za, zb, zc, zd]
     refine tk (v := ?_) 11 (oi := ⟨some 66, _, _, _, _, none⟩) ?_ ?_
     case refine_2 => (intro w9 hSw; obtain ⟨u1, u2, u3, u4, u5⟩ := hSw; go_simp; try with_reducible rfl)
     simp only [za, zb, zc, zd]
     refine tks 12 (oi := ⟨some 67, _, _, _, _, none⟩) ?_
     simp only [za, zb, zc, zd]
     refine tks 13 (oi := ⟨some 68, _, _, _, _, none⟩) ?_
     simp only [za, zb, zc, zd]
     refine tks 14 (oi := ⟨some 2, _, _, _, _, none⟩) ?_
     simp only [za, zb, zc, zd]
     refine dn ?_
     clear hHeld
     go_wp2
     exact bodyPost_ret (v := vS (⟨#[40]⟩ ++ P ++ ⟨#[32]⟩ ++ t ++ ⟨#[32]⟩ ++ Q ++ ⟨#[41]⟩)) (by simp [results, Tryd.results11, go_sem]) rfl ⟨by rw [HR.out], by first | exact KW.out | exact KW.out.drew⟩
    ·obtain ⟨m, rfl⟩ := one_of hl1
     obtain ⟨g, cap, hv, hc1, hc2, hg, hcell⟩ := KF.out.at (i := 0) (n := m) rfl
     obtain ⟨rfl, rfl⟩ : vq = some ⟨g, 0, none⟩ ∧ vc = cap := by cases hv; exact ⟨rfl, rfl⟩
     obtain ⟨P, hP⟩ : ∃ P, P = bsT (wrN m) := ⟨_, rfl⟩
     have hPz : P.size = (wrN m).length := by rw [hP, bsT_size]
     rw [← hP] at hcell
     simp only [zl, List.length_nil, Nat.zero_add] at hc1 b2 KF hkl hklI hjI ⊢
     rcases h1 with hk | hk | hk | hk
     ·subst hk
      have HW1 : Hid (WN = t.data.toList ++ [32] ++ wrN m) := by show _ = _; rw [HW.out]; simp [frW, wrT, jnW]
      have hlen1 : WN.length = t.size + 1 + (wrN m).length := by rw [HW1.out]; simp only [List.length_append, zl, List.length_nil, sz]; try omega
      have HR : Hid ((t ++ ⟨#[32]⟩ ++ P) = bsT WN) := by show _ = _; rw [HW1.out, hP]; simp only [← bsT_add, bsT_of, ByteArray.append_assoc]; rfl
      have s19 : ¬ 9223372036854775807 < t.size + 1 := by omega
      have s29 : ¬ 9223372036854775807 < t.size + 1 + P.size := by omega
      clear HW1 hP hPz hlen1 hv HW HSh hl1 hjl
      go_upto_region 10 with fail
      refine wp_region_held_drew (S := (fun V : World => V.cell? ⟨g, 0, none⟩ = some (vS P) ∧ V.cell? ⟨w.heap.size, 1, none⟩ = some (vS t) ∧ g < V.heap.size ∧ w.heap.size < V.heap.size)) (by kernel_rfl) (by first | exact ⟨hcell, b1, hg, b9⟩ | exact ⟨hcell, b1, hg, b9⟩) (fun hHeld => ?_)
      refine tks 0 (oi := ⟨some 32, _, _, _, _, none⟩) ?_
      simp only [za, zb, zc, zd]
      refine tk (v := ?_) 1 (oi := ⟨some 33, _, _, _, _, none⟩) ?_ ?_
      case refine_2 => (intro w9 hSw; obtain ⟨u1, u3, u4, u5⟩ := hSw; go_simp; try with_reducible rfl)
      simp only [za, zb, zc, zd]
      refine tks 2 (oi := ⟨some 34, _, _, _, _, none⟩) ?_
      simp only [za, zb, zc, zd]
      refine tks 3 (oi := ⟨some 35, _, _, _, _, none⟩) ?_
      simp only [za, zb, zc, zd]
      refine tks 4 (oi := ⟨some 36, _, _, _, _, none⟩) ?_
      simp only [za, zb, zc, zd]
      refine tk (v := ?_) 5 (oi := ⟨some 37, _, _, _, _, none⟩) ?_ ?_
      case refine_2 => (intro w9 hSw; obtain ⟨u1, u3, u4, u5⟩ := hSw; go_simp; try with_reducible rfl)
      simp only [za, zb, zc, zd]
      refine tks 6 (oi := ⟨some 38, _, _, _, _, none⟩) ?_
      simp only [za, zb, zc, zd]
      refine tks 7 (oi := ⟨some 2, _, _, _, _, none⟩) ?_
      simp only [za, zb, zc, zd]
      refine dn ?_
      clear hHeld
      go_wp2
      exact bodyPost_ret (v := vS (t ++ ⟨#[32]⟩ ++ P)) (by simp [results, Tryd.results11, go_sem]) rfl ⟨by rw [HR.out], by first | exact KW.out | exact KW.out.drew⟩
     ·subst hk
      have HW1 : Hid (WN = [40, 45, 32] ++ wrN m ++ [41]) := by show _ = _; rw [HW.out]; simp [frW, wrT, jnW]
      have hlen1 : WN.length = 3 + (wrN m).length + 1 := by rw [HW1.out]; simp only [List.length_append, zl, List.length_nil]; try omega
      have HR : Hid ((⟨#[40, 45, 32]⟩ ++ P ++ ⟨#[41]⟩) = bsT WN) := by show _ = _; rw [HW1.out, hP]; simp only [← bsT_add, ByteArray.append_assoc]; rfl
      have s19 : ¬ 9223372036854775807 < 3 + P.size := by omega
      have s29 : ¬ 9223372036854775807 < 3 + P.size + 1 := by omega
      clear HW1 hP hPz hlen1 hv HW HSh hl1 hjl
      go_wp2_with fail
      exact bodyPost_ret (v := vS (⟨#[40, 45, 32]⟩ ++ P ++ ⟨#[41]⟩)) (by simp [results, Tryd.results11, go_sem]) rfl ⟨by rw [HR.out], by first | exact KW.out | exact KW.out.drew⟩
     ·subst hk
      have HW1 : Hid (WN = [40, 110, 111, 116, 32] ++ wrN m ++ [41]) := by show _ = _; rw [HW.out]; simp [frW, wrT, jnW]
      have hlen1 : WN.length = 5 + (wrN m).length + 1 := by rw [HW1.out]; simp only [List.length_append, zl, List.length_nil]; try omega
      have HR : Hid ((⟨#[40, 110, 111, 116, 32]⟩ ++ P ++ ⟨#[41]⟩) = bsT WN) := by show _ = _; rw [HW1.out, hP]; simp only [← bsT_add, ByteArray.append_assoc]; rfl
      have s19 : ¬ 9223372036854775807 < 5 + P.size := by omega
      have s29 : ¬ 9223372036854775807 < 5 + P.size + 1 := by omega
      clear HW1 hP hPz hlen1 hv HW HSh hl1 hjl
      go_wp2_with fail
      exact bodyPost_ret (v := vS (⟨#[40, 110, 111, 116, 32]⟩ ++ P ++ ⟨#[41]⟩)) (by simp [results, Tryd.results11, go_sem]) rfl ⟨by rw [HR.out], by first | exact KW.out | exact KW.out.drew⟩
     ·subst hk
      have HW1 : Hid (WN = [40] ++ wrN m ++ ([58, 58] ++ t.data.toList ++ [41])) := by show _ = _; rw [HW.out]; simp [frW, wrT, jnW]
      have hlen1 : WN.length = 1 + (wrN m).length + 2 + t.size + 1 := by rw [HW1.out]; simp only [List.length_append, zl, List.length_nil, sz]; try omega
      have HR : Hid ((⟨#[40]⟩ ++ P ++ ⟨#[58, 58]⟩ ++ t ++ ⟨#[41]⟩) = bsT WN) := by show _ = _; rw [HW1.out, hP]; simp only [← bsT_add, bsT_of, ByteArray.append_assoc]; rfl
      have s19 : ¬ 9223372036854775807 < 1 + P.size := by omega
      have s29 : ¬ 9223372036854775807 < 1 + P.size + 2 := by omega
      have s39 : ¬ 9223372036854775807 < 1 + P.size + 2 + t.size := by omega
      have s49 : ¬ 9223372036854775807 < 1 + P.size + 2 + t.size + 1 := by omega
      clear HW1 hP hPz hlen1 hv HW HSh hl1 hjl
      go_upto_region 27 with fail
      refine wp_region_held_drew (S := (fun V : World => V.cell? ⟨g, 0, none⟩ = some (vS P) ∧ V.cell? ⟨w.heap.size, 1, none⟩ = some (vS t) ∧ g < V.heap.size ∧ w.heap.size < V.heap.size)) (by kernel_rfl) (by first | exact ⟨hcell, b1, hg, b9⟩ | exact ⟨hcell, b1, hg, b9⟩) (fun hHeld => ?_)
      refine tks 0 (oi := ⟨some 94, _, _, _, _, none⟩) ?_
      simp only [za, zb, zc, zd]
      refine tks 1 (oi := ⟨some 95, _, _, _, _, none⟩) ?_
      simp only [za, zb, zc, zd]
      refine tk (v := ?_) 2 (oi := ⟨some 96, _, _, _, _, none⟩) ?_ ?_
      case refine_2 => (intro w9 hSw; obtain ⟨u1, u3, u4, u5⟩ := hSw; go_simp; try with_reducible rfl)
      simp only [za, zb, zc, zd]
      refine tks 3 (oi := ⟨some 97, _, _, _, _, none⟩) ?_
      simp only [za, zb, zc, zd]
      refine tks 4 (oi := ⟨some 98, _, _, _, _, none⟩) ?_
      simp only [za, zb, zc, zd]
      refine tks 5 (oi := ⟨some 99, _, _, _, _, none⟩) ?_
      simp only [za, zb, zc, zd]
      refine tk (v := ?_) 6 (oi := ⟨some 100, _, _, _, _, none⟩) ?_ ?_
      case refine_2 => (intro w9 hSw; obtain ⟨u1, u3, u4, u5⟩ := hSw; go_simp; try with_reducible rfl)
      simp only [za, zb, zc, zd]
      refine tks 7 (oi := ⟨some 101, _, _, _, _, none⟩) ?_
      simp only [za, zb, zc, zd]
      refine tks 8 (oi := ⟨some 102, _, _, _, _, none⟩) ?_
      simp only [za, zb, zc, zd]
      refine tks 9 (oi := ⟨some 2, _, _, _, _, none⟩) ?_
      simp only [za, zb, zc, zd]
      refine dn ?_
      clear hHeld
      go_wp2
      exact bodyPost_ret (v := vS (⟨#[40]⟩ ++ P ++ ⟨#[58, 58]⟩ ++ t ++ ⟨#[41]⟩)) (by simp [results, Tryd.results11, go_sem]) rfl ⟨by rw [HR.out], by first | exact KW.out | exact KW.out.drew⟩
    ·have hks : ks = [] := List.length_eq_zero_iff.1 hl0
     subst hks
     by_cases h3 : k = 3
     ·subst h3
      have HR : Hid (WN = 39 :: dqL t.data.toList ++ [39]) := by show _ = _; rw [HW.out]; simp [frW, rpQ, repl_dq]
      clear HW HSh h14 hl0
      go_wp2_with fail
      refine (rquote_any t hts _).mono ?_
      rintro e V ⟨rfl, rfl⟩
      go_wp2_with fail
      go_ret
      exact ⟨by rw [HR.out]; rfl, KW.out⟩
     ·have HR : Hid (WN = t.data.toList) := by
       show _ = _
       rw [HW.out]; unfold frW
       by_cases q1 : k = 1
       ·rw [if_pos q1]
       rw [if_neg q1]
       by_cases q2 : k = 2
       ·rw [if_pos q2]
       rw [if_neg q2, if_pos (by omega)]
      have g3 : (k == 3) = false := by rw [beq_eq_false_iff_ne]; omega
      have g5 : (k == 5) = false := by rw [beq_eq_false_iff_ne]; omega
      have g6 : (k == 6) = false := by rw [beq_eq_false_iff_ne]; omega
      have g7 : (k == 7) = false := by rw [beq_eq_false_iff_ne]; omega
      have g8 : (k == 8) = false := by rw [beq_eq_false_iff_ne]; omega
      have g9 : (k == 9) = false := by rw [beq_eq_false_iff_ne]; omega
      have g10 : (k == 10) = false := by rw [beq_eq_false_iff_ne]; omega
      clear HW HSh h14 hl0 h3
      go_wp2_with fail
      go_ret
      exact ⟨by rw [HR.out, bsT_of]; rfl, KW.out⟩
end Go.Proofs.YtaoocecipacnhaaDoor
