import Derived.Test.YtaoocecipacnhaaDoorWz
import Derived.Test.YtaoocecipacnhaaDoorW31
import Derived.Test.YtaoocecipacnhaaDoorW33
import Derived.Test.YtaoocecipacnhaaDoorW34
import Derived.Test.YtaoocecipacnhaaDoorW32
import Derived.Test.YtaoocecipacnhaaDoorW15
import Derived.Test.YtaoocecipacnhaaDoorW16
import Derived.Test.YtaoocecipacnhaaDoorW19
import Derived.Test.YtaoocecipacnhaaDoorW17
open Go.Value renaming int → vi
open Go.IntKind renaming i64 → ki
open List renaming setIfInBounds_toArray → zb, set_cons_zero → zc, set_cons_succ → zd
open Go.Act renaming put → za
open Go.Ending renaming returned → zr
set_option maxRecDepth 100000
set_option maxHeartbeats 16000000
set_option linter.unusedVariables false
namespace Go.Proofs.YtaoocecipacnhaaDoor
open Go.RowKit
theorem mT_3 {q : Tk} (h : GoodT q) : (mT q).1 = 3 ↔ q.1 = 3 := by
 obtain ⟨k1, k2, k3, k4, k5, _⟩ := @mT_kind q
 have := h.kind
 constructor
 ·intro e
  by_cases e1 : q.1 = 1
  ·rw [k1 e1] at e; split at e <;> omega
  by_cases e2 : q.1 = 2
  ·have := (k2 e2).1; omega
  by_cases e4 : q.1 = 4
  ·have := k4 e4; omega
  by_cases e5 : q.1 = 5
  ·have := k5 e5; omega
  omega
 ·exact k3
theorem rnamed_any (g b cap : Nat) (T : List Tk) (hG : Hid (∀ x ∈ T, GoodT x)) (N : Nat) (hNN : N ≤ 100000) (HA : Hid (RLv g b cap T 0 N)) : RNm g b cap T N := by
 intro w t l d f h hL hGt hfr hd hN hff
 obtain ⟨q, l1, rfl⟩ := mL_none hL
 have hGq := h.good hG.out
 have ht2 : t.1 = 2 := by
  rw [mT_free hGt] at hfr
  exact of_decide_eq_true (Bool.and_eq_true_iff.1 hfr).1
 have e1 : (mT t).2.1 = lowB t.2.1 := (mT_kind.2.1 ht2).2
 have e2 : (mT t).2.2 = t.2.2 := rfl
 have eN : nmF (par f) d (mT t) (mL (q :: l1)) = (if (mT q).1 = 3 ∧ typB (lowB t.2.1) = true then PR.ok (.mk 5 (lowB t.2.1) [.mk 3 (mT q).2.1 [] (mT q).2.2] t.2.2) (mL l1)
   else if isT (mT q) [(5, b1 40)] then
    if d = 20 then PR.no t.2.2 31
    else match mL l1 with
     | [] => PR.no 0 0
     | u :: l2 =>
      if isT u [(5, b1 41)] then PR.ok (.mk 9 (lowB t.2.1) [] t.2.2) l2
      else clK (lowB t.2.1) t.2.2 (par f (.ks []) (d + 1) (u :: l2))
   else PR.no (mT q).2.2 30) := by
  rw [mL_cons]; unfold nmF; dsimp only
  rw [e1, e2]
  cases mL l1 with
  | nil => rfl
  | cons u l2 =>
   dsimp only
   have eC : (match par f (.ks []) (d + 1) (u :: l2) with | .no a e => PR.no a e | .ok n l3 => PR.ok (.mk 9 (lowB t.2.1) n.ks t.2.2) l3) = clK (lowB t.2.1) t.2.2 (par f (.ks []) (d + 1) (u :: l2)) := by
    cases par f (.ks []) (d + 1) (u :: l2) <;> rfl
   rw [← eC]
   rfl
 rw [eN]
 clear eN
 by_cases h3 : q.1 = 3
 ·by_cases hy : typB (lowB t.2.1) = true
  ·rw [if_pos ⟨(mT_3 hGq).2 h3, hy⟩, (mT_kind.2.2.2.2.2 (by omega) : (mT q).2.1 = q.2.1)]
   exact rnamed_lit g b cap T hG t q l1 d hd h3 hy w h hGt hL
  ·have hi : isT (mT q) [(5, b1 40)] = false := by rw [isT_one, mT_kind.2.2.1 h3]; simp
   rw [if_neg (fun z => hy z.2), hi, if_neg (by simp)]
   exact rnamed_no3 g b cap T hG t q l1 d hd h3 ((sg_sign hGq (show (b1 40) ∈ sgnL by unfold sgnL; simp)).trans hi) (by simpa using hy) w h hGt hL
 ·rw [if_neg (fun z => h3 ((mT_3 hGq).1 z.1))]
  by_cases hi : isT (mT q) [(5, b1 40)] = true
  ·rw [if_pos hi]
   by_cases h20 : d = 20
   ·rw [if_pos h20]
    exact rnamed_deep g b cap T hG t q l1 d hd h3 hi h20 w h hGt hL
   ·rw [if_neg h20]
    have hEl : EndL (mL l1) := EndL.tail hL (isT_kind hi (by simp))
    obtain ⟨u, l2, rfl⟩ := mL_none hEl
    rw [mL_cons]
    dsimp only
    simp only [List.length_cons] at hN hff
    by_cases hu : isT (mT u) [(5, b1 41)] = true
    ·rw [if_pos hu]
     exact rnamed_none g b cap T hG t q u l2 d h3 hi hu (by omega) w h hGt hL
    ·rw [if_neg hu]
     exact rnamed_kids g b cap T hG N hNN HA t q u l2 d f h3 hi (by simpa using hu) (by omega) (by simp only [List.length_cons]; omega) (by simp only [need, mL_len, List.length_cons]; omega) w h hGt hL
  ·rw [if_neg hi]
   exact rnamed_no g b cap T hG t q l1 d hd h3 ((sg_sign hGq (show (b1 40) ∈ sgnL by unfold sgnL; simp)).trans (by simpa using hi)) w h hGt hL
theorem rlv_low (g b cap : Nat) (T : List Tk) (hG : Hid (∀ x ∈ T, GoodT x)) (N : Nat) (hNN : N ≤ 100000) (HA : Hid (RLv g b cap T 0 (N - 1))) : RLv g b cap T 8 N :=
 rlv_8 g b cap T N (rcast_any g b cap T hG N (rprim_any g b cap T hG N HA (rnamed_any g b cap T hG (N - 1) (by omega) HA)))
theorem rlv_none (g b cap : Nat) (T : List Tk) (lev : Nat) : RLv g b cap T lev 0 := by
 intro w L d f h hL hd hN hf
 cases L with
 | nil => exact hL.elim
 | cons r L => simp at hN
theorem rlv_all (g b cap : Nat) (T : List Tk) (hG : Hid (∀ x ∈ T, GoodT x)) : ∀ N, N ≤ 100000 → RLv g b cap T 0 N ∧ RLv g b cap T 2 N ∧ RLv g b cap T 6 N
 | 0, _ => ⟨rlv_none g b cap T 0, rlv_none g b cap T 2, rlv_none g b cap T 6⟩
 | N + 1, h => by
  obtain ⟨i0, i2, i6⟩ := rlv_all g b cap T hG N (by omega)
  have l8 : RLv g b cap T 8 (N + 1) := rlv_low g b cap T hG (N + 1) h i0
  have l7 : RLv g b cap T 7 (N + 1) := rlv_7 g b cap T hG (N + 1) l8
  have l6 : RLv g b cap T 6 (N + 1) := rlv_6 g b cap T hG (N + 1) l7 i6
  have l5 : RLv g b cap T 5 (N + 1) := rlv_lp g b cap T hG (N + 1) 5 (by omega) l6
  have l4 : RLv g b cap T 4 (N + 1) := rlv_lp g b cap T hG (N + 1) 4 (by omega) l5
  have l3 : RLv g b cap T 3 (N + 1) := rlv_lp g b cap T hG (N + 1) 3 (by omega) l4
  have l2 : RLv g b cap T 2 (N + 1) := rlv_2 g b cap T hG (N + 1) l3 i2
  have l1 : RLv g b cap T 1 (N + 1) := rlv_lp g b cap T hG (N + 1) 1 (by omega) l2
  exact ⟨rlv_lp g b cap T hG (N + 1) 0 (by omega) l1, l2, l6⟩
theorem toks_zero (s : ByteArray) : ∀ (n : Nat) (L A T : List Tk), (∀ a ∈ A, a.1 = 0 → a.2.1 = ⟨#[]⟩) → toksF s n L A = .inr T → ∀ a ∈ T, a.1 = 0 → a.2.1 = ⟨#[]⟩
 | 0, L, A, T, h, e => by
  simp only [toksF, Sum.inr.injEq] at e; subst e
  intro a ha h0
  rcases List.mem_append.1 ha with z | z
  ·exact h a z h0
  ·simp at z; subst z; rfl
 | n + 1, [], A, T, h, e => by
  simp only [toksF, Sum.inr.injEq] at e; subst e
  intro a ha h0
  rcases List.mem_append.1 ha with z | z
  ·exact h a z h0
  ·simp at z; subst z; rfl
 | n + 1, p :: l, A, T, h, e => by
  rw [toksF] at e
  split at e
  ·exact absurd e (by simp)
  ·refine toks_zero s n _ _ T (fun a ha h0 => ?_) e
   rcases List.mem_append.1 ha with z | z
   ·exact h a z h0
   ·simp at z; subst z; exact absurd h0 (fst_kind p l)
theorem rtk_B {s : ByteArray} (hs : s.size ≤ 2048) (hc : rcheck s s.size 0 = none) :
  (∀ i, rtk s 0 (texts s (rparts s s.size 0 [])) [] = .inl i → toksB s = .inl (i, 30)) ∧
  (∀ T, rtk s 0 (texts s (rparts s s.size 0 [])) [] = .inr T → toksB s = .inr (mL T) ∧ (∀ x ∈ T, GoodT x) ∧ EndL (mL T) ∧ T.length ≤ 2049 ∧ ∀ x ∈ T, (mT x).1 = 0 → (mT x).2.1 = ⟨#[]⟩) := by
 have e1 := splitB_good hc
 obtain ⟨h1, h2⟩ := rtk_toks s hs (rparts s s.size 0 []).length (rparts s s.size 0 []) 0 0 [] (Nat.le_refl _) (rparts_all s) (by omega) (by simp)
 refine ⟨fun i h => ?_, fun T h => ?_⟩
 ·unfold toksB; rw [e1]
  have := h1 i h
  simp only
  rw [show ([] : List Tk) = mL [] from rfl, this]
 ·obtain ⟨h3, h4⟩ := h2 T h
  have e2 : toksB s = .inr (mL T) := by
   unfold toksB; rw [e1]
   simp only
   rw [show ([] : List Tk) = mL [] from rfl, h3]
  obtain ⟨h5, h6⟩ := toksB_end e2 hs
  rw [mL_len] at h6
  exact ⟨e2, h4, h5, h6, fun x hx h0 => toks_zero s _ _ (mL []) (mL T) (by simp [mL]) h3 (mT x) (List.mem_map.2 ⟨x, hx, rfl⟩) h0⟩
theorem parts_row {W : World} {base : Nat} {s : ByteArray} {v : Value} {P : List Prt} (hs : s.size ≤ 2048) (hk : Pk s 0 P s.size) (hl : P.length ≤ 2048) (h : W.ownsRow base 86 3 v P.length (flatP s P)) :
  ∃ q cap, v = .slice q (texts s P).length cap ∧ (texts s P ≠ [] → ∃ b, q = some ⟨b, 0, none⟩ ∧ PV b 0 cap (texts s P) W) := by
 have hlen : (texts s P).length = P.length := by simp [texts]
 rcases h.2 with ⟨e, h0⟩ | ⟨g, cap, cur, e, h1, h2, h3, h4, h5, h6⟩
 ·have : P = [] := List.length_eq_zero_iff.1 h0
  subst this
  exact ⟨none, 0, e, fun z => absurd rfl z⟩
 ·subst e
  have hlt := (Array.getElem?_eq_some_iff.1 h2).1
  refine ⟨some ⟨g, 0, none⟩, cap, by rw [hlen], fun _ => ⟨g, rfl, hlt, by omega, by omega, by unfold maxLen at h4; exact h4, fun j p e => ?_⟩⟩
  obtain ⟨q1, q2, q3⟩ := flatT_at _ _ _ e
  have hj : j < P.length := by rw [← hlen]; exact (List.getElem?_eq_some_iff.1 e).1
  obtain ⟨p', hp'⟩ : ∃ p', P[j]? = some p' := ⟨P[j]'hj, List.getElem?_eq_getElem hj⟩
  have e2 : p = tx s p' := by
   unfold texts at e
   rw [List.getElem?_map, hp'] at e
   simp at e; exact e.symm
  obtain ⟨g1, g2, g3, -, -, -⟩ := Pk_at j 0 s.size P p' hk hp'
  rw [← flatP_texts] at q1 q2 q3
  refine ⟨⟨?_, ?_, ?_⟩, by rw [e2]; show (0 : Int) ≤ (p'.2.1 : Int); omega, by rw [e2]; show (p'.2.1 : Int) ≤ 4096; omega, by rw [e2]; show (s.extract p'.2.1 p'.2.2).size ≤ 4096; rw [ext_size s g3]; omega⟩
  ·rw [Nat.zero_add, h.cellAt _ (by omega)]; exact q1
  ·rw [Nat.zero_add, h.cellAt _ (by omega)]; exact q2
  ·rw [Nat.zero_add, h.cellAt _ (by omega)]; exact q3
theorem parts_at {s : ByteArray} {P : List Prt} (hk : Pk s 0 P s.size) : ∀ p ∈ texts s P, ∃ a : Nat, p.2.2 = (a : Int) ∧ a < s.size := by
 intro p hp
 obtain ⟨p', hp', rfl⟩ := List.mem_map.1 hp
 obtain ⟨j, hj⟩ := List.getElem?_of_mem hp'
 obtain ⟨g1, g2, g3, -, -, -⟩ := Pk_at j 0 s.size P p' hk hj
 exact ⟨p'.2.1, rfl, by omega⟩
theorem parts_one {s : ByteArray} (hs : s.size ≤ 2048) {P : List Prt} (hk : Pk s 0 P s.size) : ∀ i p, (texts s P)[i]? = some p → qt p = false → (oneT p ((texts s P).drop (i + 1))).2.1.size ≤ 2048 := by
 intro i p hp hq
 unfold texts at hp
 rw [List.getElem?_map] at hp
 cases hP : P[i]? with
 | none => rw [hP] at hp; cases hp
 | some p' =>
  rw [hP] at hp; simp at hp; subst hp
  have hlt := (List.getElem?_eq_some_iff.1 hP).1
  obtain ⟨g1, g2, g3, g4, g5, g6⟩ := Pk_at i 0 s.size P p' hk hP
  have e : (texts s P).drop (i + 1) = texts s (P.drop (i + 1)) := by unfold texts; rw [List.map_drop]
  rw [e]
  exact (good_one s p' (P.drop (i + 1)) p'.2.1 s.size hs ⟨Nat.le_refl _, g2, g3, fun j a b => by omega, g4, g5⟩ hq).size
theorem parts_len (s : ByteArray) : ∀ (l : List Prt) (a zz : Nat), Pk s a l zz → l.length + a ≤ zz
 | [], a, zz, ⟨h1, _⟩ => by simp; exact h1
 | p :: l, a, zz, ⟨h1, h2, _, _, _, h6⟩ => by
  have := parts_len s l _ _ h6
  simp only [List.length_cons]; omega
theorem rparse_any (s : ByteArray) (w : World) (hsz : s.size ≤ 2048) :
  Calls Tryd.prog 6 #[.string s] w fun e w' => Below w.heap.size w w' ∧ ParOf (fun c => w.heap.size < c) e w' (parseB s) := by
 obtain ⟨R, hR⟩ : ∃ R, R = parseB s := ⟨_, rfl⟩
 rw [← hR]
 go_enter Tryd.func6, Tryd.ntmps6
 go_wp2_with fail
 have B0 : Hid (BS w [(w.heap.size, [vi ki 0, .string ⟨#[]⟩, .slice none 0 0, vi ki 0])] _) := ((BS.start w).new [vi ki 0, .string ⟨#[]⟩, .slice none 0 0, vi ki 0] 30 rfl)
 refine (rsplit_any s _ hsz).mono ?_
 rintro e V ⟨hb, ht⟩
 have BV : Hid (BS w [(w.heap.size, [vi ki 0, .string ⟨#[]⟩, .slice none 0 0, vi ki 0])] V) := B0.out.below hb
 clear hb
 cases hc : rcheck s s.size 0 with
 | some i =>
  rw [hc] at ht
  obtain rfl := ht
  have HR : Hid (R = .inl ((i : Int), 21)) := by show _ = _; rw [hR]; unfold parseB toksB; rw [splitB_bad hc]
  clear hR hc B0
  have HQ' := fin4 (g := w.heap.size) [] (vi ki 0) (.string ⟨#[]⟩) (.slice none 0 0) (vi ki 0) (Kp.of BV.out.1) (Nat.le_refl _) BV.out.first
  obtain ⟨k1, k2, -, -⟩ := HQ'
  obtain ⟨y0, y1, y2, y3⟩ := k2.d4
  have HK : Hid _ := k1
  simp only [List.foldl, World.setCells, Nat.zero_add, Nat.reduceAdd] at y0 y1 y2 y3
  obtain ⟨c0, c1, c2, c3, z0, z1, z2, z3⟩ := BV.out.first.cf4
  have hr9 := BV.out.first.1
  clear k1 k2
  go_wp2
  exact bodyPost_ret (v := .tuple #[.agg #[vi ki 0, .string ⟨#[]⟩, .slice none 0 0, vi ki 0], vi ki (i : Int), vi ki 21]) (by simp [results, Tryd.results6, go_sem, y0, y1, y2, y3]) rfl ⟨HK.out.below (Nat.le_refl _) (Nat.le_refl _), by rw [HR.out]; rfl⟩
 | none =>
  rw [hc] at ht
  obtain ⟨v, rfl, hown⟩ := ht
  have hpk := rparts_all s
  have hpl := parts_len s _ _ _ hpk
  obtain ⟨h1, h2⟩ := rtk_B hsz hc
  have HAt : Hid _ := parts_at hpk
  have HOn : Hid _ := parts_one hsz hpk
  obtain ⟨q, cp, rfl, hrow⟩ := parts_row hsz hpk (by omega) hown
  have HRow : Hid _ := hrow
  have hll : (texts s (rparts s s.size 0 [])).length ≤ 2048 := by rw [texts_length]; omega
  obtain ⟨L, hL⟩ : ∃ L, L = texts s (rparts s s.size 0 []) := ⟨_, rfl⟩
  rw [← hL] at h1 h2 HAt HOn HRow hll
  rw [← hL]
  clear hown hrow hpk hpl hL hc B0
  have H1 : Hid _ := h1
  have H2 : Hid _ := h2
  have HR0 : Hid (R = parseB s) := hR
  clear h1 h2 hR
  go_wp2_with fail
  refine (rtokens_any s hsz L hll q cp _ HRow.out HAt HOn).mono ?_
  rintro e V2 ⟨hb, ht⟩
  have BV2 : Hid (BS w [(w.heap.size, [vi ki 0, .string ⟨#[]⟩, .slice none 0 0, vi ki 0])] V2) := BV.out.below hb
  have hV12 := hb.size
  clear hb HRow HAt HOn
  cases hk : rtk s 0 L [] with
  | inl i =>
   rw [hk] at ht
   obtain rfl := ht
   have HR : Hid (R = .inl (i, 30)) := by show _ = _; rw [HR0.out]; unfold parseB; rw [H1.out i hk]
   clear hk H1 H2 HR0 BV
   have HQ' := fin4 (g := w.heap.size) [] (vi ki 0) (.string ⟨#[]⟩) (.slice none 0 0) (vi ki 0) (Kp.of BV2.out.1) (Nat.le_refl _) BV2.out.first
   obtain ⟨k1, k2, -, -⟩ := HQ'
   obtain ⟨y0, y1, y2, y3⟩ := k2.d4
   have HK : Hid _ := k1
   simp only [List.foldl, World.setCells, Nat.zero_add, Nat.reduceAdd] at y0 y1 y2 y3
   obtain ⟨c0, c1, c2, c3, z0, z1, z2, z3⟩ := BV2.out.first.cf4
   have hr9 := BV2.out.first.1
   clear k1 k2
   go_wp2
   exact bodyPost_ret (v := .tuple #[.agg #[vi ki 0, .string ⟨#[]⟩, .slice none 0 0, vi ki 0], vi ki i, vi ki 30]) (by simp [results, Tryd.results6, go_sem, y0, y1, y2, y3]) rfl ⟨HK.out.below (Nat.le_refl _) (Nat.le_refl _), by rw [HR.out]; rfl⟩
  | inr T =>
   rw [hk] at ht
   obtain ⟨u, rfl, hown⟩ := ht
   obtain ⟨g1, g2, hE, hTl, g5⟩ := H2.out T hk
   have HG : Hid (∀ x ∈ T, GoodT x) := g2
   have HZ : Hid (∀ x ∈ T, (mT x).1 = 0 → (mT x).2.1 = ⟨#[]⟩) := g5
   have HR : Hid (R = endT (par (10 * T.length + 10) (.lv 0) 0 (mL T))) := by show _ = _; rw [HR0.out]; unfold parseB; rw [g1]; simp only; rw [mL_len]
   have HE : Hid (EndL (mL T)) := hE
   obtain ⟨b, cap, cur, rfl, h1, h3, h4, h5, h6, h7⟩ : ∃ g cap cur, u = .slice (some ⟨g, 0, none⟩) T.length cap ∧ V.heap.size ≤ g ∧ V2.heap[g]? = some (.cells cur 59 (0, 0)) ∧ T.length ≤ cap ∧ cap ≤ maxLen ∧ cur.size = cap * 3 ∧ cur.toList.take (T.length * 3) = flatT T := by
    rcases hown.2 with ⟨_, h0⟩ | q
    ·obtain ⟨r, l, rfl⟩ := mL_none hE
     simp at h0
    ·simpa using q
   have hbV : b < V2.heap.size := (Array.getElem?_eq_some_iff.1 h3).1
   have HTR : Hid (TR V2 b T) := ⟨hbV, fun i v hv => by
    have hi := (List.getElem?_eq_some_iff.1 hv).1
    rw [hown.1] at hi
    rw [hown.cellAt i hi]; exact hv⟩
   clear hown h3 h6 h7 hE g1 g2 g5 hk H1 H2 HR0
   have hwV : w.heap.size < V.heap.size := BV.out.first.1
   clear BV
   go_upto_region 8 with fail
   obtain ⟨g, hg⟩ : ∃ g, g = V2.heap.size := ⟨_, rfl⟩
   have B1 : Hid (BS V2 [(V2.heap.size, [.slice (some ⟨b, 0, none⟩) T.length cap, vi ki 0, vi ki 0, vi ki 0])] (V2.alloc (.cells #[.slice (some ⟨b, 0, none⟩) T.length cap, vi ki 0, vi ki 0, vi ki 0] 56))) := (BS.start V2).new [.slice (some ⟨b, 0, none⟩) T.length cap, vi ki 0, vi ki 0, vi ki 0] 56 rfl
   have X1 : Hid (Below V2.heap.size V2 (V2.alloc (.cells #[.slice (some ⟨b, 0, none⟩) T.length cap, vi ki 0, vi ki 0, vi ki 0] 56)) ∧ RS g b cap T (V2.alloc (.cells #[.slice (some ⟨b, 0, none⟩) T.length cap, vi ki 0, vi ki 0, vi ki 0] 56)) T 0) := ⟨B1.out.1, by rw [hg]; exact ⟨⟨[], 0, rfl, by simpa using B1.out.first⟩, HTR.out.kp (Kp.of (g := V2.heap.size) B1.out.1) (by omega), by omega, h4, h5⟩⟩
   rw [← hg]
   refine gen_to (fun W => Below V2.heap.size V2 W ∧ RS g b cap T W T 0) X1.out ?_
   have hgw : w.heap.size < g := by omega
   have hgb : w.heap.size < b := by omega
   have HGg : Hid (g = V2.heap.size) := hg
   clear X1 B1 HTR hbV h1 hg
   rintro W1 ⟨k1, k2⟩
   have BW : Hid (Below V2.heap.size V2 W1) := k1
   have HS : Hid (RS g b cap T W1 T 0) := k2
   have hgW : g < W1.heap.size := k2.lt
   clear k1 k2
   have HC : Hid (Calls Tryd.prog 18 #[.pointer (some ⟨g, 0, none⟩), vi ki 0] W1 fun e w' => Kp g W1 w' ∧ ROut g b W1.heap.size cap T (fun c => W1.heap.size ≤ c) w' 0 e (par (10 * T.length + 10) (.lv 0) 0 (mL T))) := (rlv_all g b cap T HG T.length (by omega)).1 W1 T 0 (10 * T.length + 10) HS.out HE.out (by omega) (Nat.le_refl _) (by simp [need, mL_len])
   go_wp2_with fail
   refine Calls.mono HC.out ?_
   rintro e W2 ⟨hk, ho⟩
   have hz2 := hk.size
   have BW2 : Hid (BS w [(w.heap.size, [vi ki 0, .string ⟨#[]⟩, .slice none 0 0, vi ki 0])] W2) := BV2.out.below (BW.out.trans (hk.below (B := V2.heap.size) (by have := HGg.out; omega) BW.out.size))
   clear HC BW BV2 hk HGg HS hV12 hwV
   cases hp : par (10 * T.length + 10) (.lv 0) 0 (mL T) with
   | no ea er =>
    rw [hp] at ho HR
    obtain ⟨her, hf, k9, u9, sq9, sn9, sc9, a9, rfl⟩ := ho
    have HER : Hid (er ≠ 0) := her
    have X3 : Hid (BS w [(w.heap.size, [vi ki 0, .string ⟨#[]⟩, .slice none 0 0, vi ki 0])] (W2.alloc (.cells #[vi ki k9, .string u9, .slice sq9 sn9 sc9, vi ki a9] 30)) ∧ RF g b W1.heap.size (W2.alloc (.cells #[vi ki k9, .string u9, .slice sq9 sn9 sc9, vi ki a9] 30)) ea er) := ⟨BW2.out.alloc _, hf.below ((Below.refl _ W2).alloc (Nat.le_refl _) _)⟩
    clear hf her hp BW2 HG HZ HE hTl h4 h5
    go_upto_region 9 with fail
    refine gen_to (fun V => BS w [(w.heap.size, [vi ki 0, .string ⟨#[]⟩, .slice none 0 0, vi ki 0])] V ∧ RF g b W1.heap.size V ea er) X3.out ?_
    clear X3
    rintro W4 ⟨k1, k2⟩
    have BW4 : Hid (BS w [(w.heap.size, [vi ki 0, .string ⟨#[]⟩, .slice none 0 0, vi ki 0])] W4) := k1
    have HF : Hid (RF g b W1.heap.size W4 ea er) := k2
    clear k1 k2
    obtain ⟨c9, o9, n9, m9, D9, i9, z9, t9, hc9, hb9, -⟩ := HF.out
    have HB9 : Hid (Bx W4 g [.slice (some ⟨c9, o9, none⟩) n9 m9, vi ki D9, vi ki er, vi ki ea]) := hb9
    have cg2 := hb9.c 2 rfl
    have cg3 := hb9.c 3 rfl
    have cg0 := hb9.c 0 rfl
    have hg9 := hb9.1
    have e0 : (er == 0) = false := by rw [beq_eq_false_iff_ne]; exact HER.out
    have e0p : (er = 0) = False := eq_false HER.out
    clear hb9 hc9 HF
    go_upto_region 12 with fail
    clear cg0 cg2 cg3 hg9
    refine wp_region_held_drew (S := (fun V => Bx V g [.slice (some ⟨c9, o9, none⟩) n9 m9, vi ki D9, vi ki er, vi ki ea])) (by kernel_rfl) (by first | exact HB9.out | exact HB9.out) (fun hHeld => ?_)
    refine gen_anyR (fun V => BS w [(w.heap.size, [vi ki 0, .string ⟨#[]⟩, .slice none 0 0, vi ki 0])] V ∧ Bx V g [.slice (some ⟨c9, o9, none⟩) n9 m9, vi ki D9, vi ki er, vi ki ea]) (by first | exact ⟨BW4.out.drew, HB9.out⟩ | exact ⟨BW4.out, HB9.out⟩) ?_
    clear hHeld BW4 HB9
    rintro W9 ⟨k1, k2⟩
    have HW : Hid (BS w [(w.heap.size, [vi ki 0, .string ⟨#[]⟩, .slice none 0 0, vi ki 0])] W9) := k1
    have HB9 : Hid (Bx W9 g [.slice (some ⟨c9, o9, none⟩) n9 m9, vi ki D9, vi ki er, vi ki ea]) := k2
    have hHeld : (fun V => Bx V g [.slice (some ⟨c9, o9, none⟩) n9 m9, vi ki D9, vi ki er, vi ki ea]) W9 := k2
    clear k1 k2
    refine tks 0 ⟨some 68, _, _, _, _, none⟩ rfl ?_
    simp only [za, zb, zc, zd]
    refine tks 1 ⟨some 69, _, _, _, _, none⟩ rfl ?_
    simp only [za, zb, zc, zd]
    refine tks 2 ⟨some 70, _, _, _, _, none⟩ rfl ?_
    simp only [za, zb, zc, zd]
    refine tks 3 ⟨some 71, _, _, _, _, none⟩ rfl ?_
    simp only [za, zb, zc, zd]
    refine tk (v := ?_) 4 ⟨some 72, _, _, _, _, none⟩ rfl ?_ ?_
    case refine_2 => (intro w9 hSw; have cg0 := hSw.c 0 rfl; have cg1 := hSw.c 1 rfl; have cg2 := hSw.c 2 rfl; have cg3 := hSw.c 3 rfl; have hg9 := hSw.1; clear hSw; go_simp; try with_reducible rfl)
    simp only [za, zb, zc, zd]
    refine tks 5 ⟨some 73, _, _, _, _, none⟩ rfl ?_
    simp only [za, zb, zc, zd]
    refine tks 6 ⟨some 74, _, _, _, _, none⟩ rfl ?_
    simp only [za, zb, zc, zd]
    refine tks 7 ⟨some 75, _, _, _, _, none⟩ rfl ?_
    simp only [za, zb, zc, zd]
    refine tk (v := ?_) 8 ⟨some 76, _, _, _, _, none⟩ rfl ?_ ?_
    case refine_2 => (intro w9 hSw; have cg0 := hSw.c 0 rfl; have cg1 := hSw.c 1 rfl; have cg2 := hSw.c 2 rfl; have cg3 := hSw.c 3 rfl; have hg9 := hSw.1; clear hSw; go_simp; try with_reducible rfl)
    simp only [za, zb, zc, zd]
    refine rd 9 ⟨none, _, _, _, _, none⟩ rfl (fun K hK => ?_)
    obtain ⟨c0, c1, c2, c3, z0, z1, z2, z3⟩ := HW.out.first.cf4
    have hr9 := HW.out.first.1
    have HWs : Hid (Below w.heap.size w (W9.setCells w.heap.size 0 [vi ki 0, .string ⟨#[]⟩, .slice none 0 0, vi ki 0]) ∧ Bx (W9.setCells w.heap.size 0 [vi ki 0, .string ⟨#[]⟩, .slice none 0 0, vi ki 0]) w.heap.size [vi ki 0, .string ⟨#[]⟩, .slice none 0 0, vi ki 0]) := ⟨below_setCells (Nat.le_refl _) _ _ 0 HW.out.1, HW.out.first.setAll _ rfl⟩
    have HBs : Hid (Bx (W9.setCells w.heap.size 0 [vi ki 0, .string ⟨#[]⟩, .slice none 0 0, vi ki 0]) g [.slice (some ⟨c9, o9, none⟩) n9 m9, vi ki D9, vi ki er, vi ki ea]) := HB9.out.setOther (show g ≠ w.heap.size by omega) _
    go_simp
    refine hK.out _ _ HBs.out (fun hHeld => ?_)
    clear hK K c0 c1 c2 c3 z0 z1 z2 z3 hr9 HW hHeld
    refine gen_anyR (fun V => Below w.heap.size w V ∧ Bx V w.heap.size [vi ki 0, .string ⟨#[]⟩, .slice none 0 0, vi ki 0] ∧ Bx V g [.slice (some ⟨c9, o9, none⟩) n9 m9, vi ki D9, vi ki er, vi ki ea]) ⟨HWs.out.1, HWs.out.2, HBs.out⟩ ?_
    clear HWs HBs HB9
    rintro v1 ⟨k1, k2, k3⟩
    have HW : Hid (Below w.heap.size w v1 ∧ Bx v1 w.heap.size [vi ki 0, .string ⟨#[]⟩, .slice none 0 0, vi ki 0]) := ⟨k1, k2⟩
    have hHeld : (fun V => Bx V g [.slice (some ⟨c9, o9, none⟩) n9 m9, vi ki D9, vi ki er, vi ki ea]) v1 := k3
    clear k1 k2 k3
    refine tks 10 ⟨some 3, _, _, _, _, none⟩ rfl ?_
    simp only [za, zb, zc, zd]
    refine tks 11 ⟨some 4, _, _, _, _, none⟩ rfl ?_
    simp only [za, zb, zc, zd]
    refine wpAnyH_done (by kernel_rfl) ?_ _
    clear hHeld
    obtain ⟨y0, y1, y2, y3⟩ := HW.out.2.d4
    go_wp2
    exact bodyPost_ret (v := .tuple #[.agg #[vi ki 0, .string ⟨#[]⟩, .slice none 0 0, vi ki 0], vi ki ea, vi ki er]) (by simp [results, Tryd.results6, go_sem, y0, y1, y2, y3]) rfl ⟨HW.out.1, by rw [HR.out]; rfl⟩
   | ok n l1 =>
    rw [hp] at ho HR
    obtain ⟨L1, rfl, hrs, hend, k9, u9, sq9, sn9, sc9, a9, rfl, hnd⟩ := ho
    obtain ⟨q9, l9, rfl⟩ := mL_none hend
    have HGq : Hid (GoodT q9) := hrs.good HG.out
    have HMq : Hid (q9 ∈ T) := by show q9 ∈ T; obtain ⟨pre, _, e, _⟩ := hrs.bx; rw [e]; simp
    obtain ⟨B9, hB9⟩ : ∃ B9, B9 = W2.heap.size := ⟨_, rfl⟩
    have HB9g : Hid (B9 ≠ g ∧ w.heap.size < B9) := ⟨by omega, by have := BW2.out.first.1; omega⟩
    have X3 : Hid (BS w [(w.heap.size, [vi ki 0, .string ⟨#[]⟩, .slice none 0 0, vi ki 0])] (W2.alloc (.cells #[vi ki k9, .string u9, .slice sq9 sn9 sc9, vi ki a9] 30)) ∧ RS g b cap T (W2.alloc (.cells #[vi ki k9, .string u9, .slice sq9 sn9 sc9, vi ki a9] 30)) (q9 :: l9) 0 ∧ Bx (W2.alloc (.cells #[vi ki k9, .string u9, .slice sq9 sn9 sc9, vi ki a9] 30)) B9 [vi ki k9, .string u9, .slice sq9 sn9 sc9, vi ki a9] ∧ NdAt (fun c => w.heap.size < c) (W2.alloc (.cells #[vi ki k9, .string u9, .slice sq9 sn9 sc9, vi ki a9] 30)) n [vi ki k9, .string u9, .slice sq9 sn9 sc9, vi ki a9]) := ⟨BW2.out.alloc _, hrs.below ((Below.refl _ W2).alloc (Nat.le_refl _) _), by rw [hB9]; exact Bx.new W2 [vi ki k9, .string u9, .slice sq9 sn9 sc9, vi ki a9] _, NdAt.keep (by simp) (fun c hc hl => ⟨by omega, Below.heap_alloc _ _ _ hl⟩) _ _ hnd⟩
    have HEn : Hid (EndL (mL (q9 :: l9))) := hend
    clear hrs hend hnd hp BW2 HG HE
    go_upto_region 9 with fail
    rw [← hB9]
    refine gen_to (fun V => BS w [(w.heap.size, [vi ki 0, .string ⟨#[]⟩, .slice none 0 0, vi ki 0])] V ∧ RS g b cap T V (q9 :: l9) 0 ∧ Bx V B9 [vi ki k9, .string u9, .slice sq9 sn9 sc9, vi ki a9] ∧ NdAt (fun c => w.heap.size < c) V n [vi ki k9, .string u9, .slice sq9 sn9 sc9, vi ki a9]) X3.out ?_
    clear X3 hB9
    rintro W4 ⟨k1, k2, k3, k4⟩
    have BW4 : Hid (BS w [(w.heap.size, [vi ki 0, .string ⟨#[]⟩, .slice none 0 0, vi ki 0])] W4) := k1
    have HS4 : Hid (RS g b cap T W4 (q9 :: l9) 0) := k2
    have HN4 : Hid (Bx W4 B9 [vi ki k9, .string u9, .slice sq9 sn9 sc9, vi ki a9]) := k3
    have HD4 : Hid (NdAt (fun c => w.heap.size < c) W4 n [vi ki k9, .string u9, .slice sq9 sn9 sc9, vi ki a9]) := k4
    clear k1 k2 k3 k4
    obtain ⟨⟨pre, pa, he, hbx⟩, htr, hne, hle, hmost⟩ := HS4.out
    have cg0 := hbx.c 0 rfl
    have cg2 := hbx.c 2 rfl
    obtain ⟨t0, t1, t2⟩ := htr.at he
    have hgW4 := hbx.1
    have hbW4 := htr.1
    have hlen : T.length = pre.length + l9.length + 1 := by rw [he]; simp <;> omega
    unfold maxLen at hmost
    clear hbx htr he
    by_cases h5k : q9.1 = 5
    ·have g5 : (q9.1 == 5) = true := by rw [beq_iff_eq]; exact h5k
     have HR9 : Hid (R = .inr n) := by
      show _ = _
      have h0 : (mT q9).1 = 0 := (mT_end HGq.out).2 h5k
      have h1 := HZ.out q9 HMq.out h0
      rw [HR.out, mL_cons, endT, if_pos (by rw [isT_one, decide_eq_true_eq]; exact ⟨h0, h1⟩)]
     clear HR HZ HMq HGq HEn h5k
     go_upto_region 13 with fail
     obtain ⟨d0, d1, d2, d3⟩ := HN4.out.d4
     have d9 := HN4.out.1
     obtain ⟨k1, k2, k3, k4⟩ := fin4 (g := w.heap.size) [] (vi ki k9) (.string u9) (.slice sq9 sn9 sc9) (vi ki a9) (Kp.of BW4.out.1) (Nat.le_refl _) BW4.out.first
     have HNF : Hid _ := NdAt.off HD4.out k3 k4 (Y := fun c => w.heap.size < c) (fun c hc => ⟨hc, by omega⟩)
     have HK : Hid _ := k1
     obtain ⟨y0, y1, y2, y3⟩ := k2.d4
     simp only [List.foldl, World.setCells, Nat.zero_add, Nat.reduceAdd] at y0 y1 y2 y3
     obtain ⟨c0, c1, c2, c3, z0, z1, z2, z3⟩ := BW4.out.first.cf4
     have hr9 := BW4.out.first.1
     clear k1 k2 k3 k4 HD4 cg0 cg2 t0 t1 t2
     go_wp2
     exact bodyPost_ret (v := .tuple #[.agg #[vi ki k9, .string u9, .slice sq9 sn9 sc9, vi ki a9], vi ki 0, vi ki 0]) (by simp [results, Tryd.results6, go_sem, y0, y1, y2, y3]) rfl ⟨HK.out.below (Nat.le_refl _) (Nat.le_refl _), by rw [HR9.out]; exact ⟨_, _, _, _, _, _, rfl, HNF.out⟩⟩
    ·have g5 : (q9.1 == 5) = false := by rw [beq_eq_false_iff_ne]; exact h5k
     have HR9 : Hid (R = .inl (q9.2.2, 30)) := by
      show _ = _
      have h0 : ¬ (mT q9).1 = 0 := fun z => h5k ((mT_end HGq.out).1 z)
      rw [HR.out, mL_cons, endT, if_neg (by rw [isT_one, decide_eq_true_eq]; exact fun z => h0 z.1)]; rfl
     have HFl : Hid _ := rfail_ok g b (W4.heap.size) cap T l9 q9 HGq.out.size 0 (by omega) 30 q9.2.2 W4 HS4.out
     clear HR HZ HMq HGq HEn h5k HN4 HD4 HS4
     go_wp2_with fail
     refine Calls.mono HFl.out ?_
     rintro e W5 ⟨rfl, hk5, hf5⟩
     have BW5 : Hid (BS w [(w.heap.size, [vi ki 0, .string ⟨#[]⟩, .slice none 0 0, vi ki 0])] W5) := ⟨BW4.out.1.trans (hk5.below (B := w.heap.size) (by omega) BW4.out.1.size), fun x hx => ⟨(BW4.out.2 x hx).1, hk5.bx (BW4.out.2 x hx).2 (by simp at hx; rw [hx]; show w.heap.size ≠ g; omega)⟩⟩
     obtain ⟨er, her⟩ : ∃ er : Int, er = 30 := ⟨_, rfl⟩
     obtain ⟨ea, hea⟩ : ∃ ea : Int, ea = q9.2.2 := ⟨_, rfl⟩
     rw [← her, ← hea] at hf5
     have HER : Hid (er ≠ 0) := by show er ≠ 0; rw [her]; decide
     rw [← her, ← hea] at HR9
     have HF : Hid (RF g b W4.heap.size W5 ea er) := hf5
     clear hf5 hk5 HFl BW4 her hea cg0 cg2 t0 t1 t2 g5
     obtain ⟨c9, o9, n9, m9, D9, i9, z9, t9, hc9, hb9, -⟩ := HF.out
     have HB9 : Hid (Bx W5 g [.slice (some ⟨c9, o9, none⟩) n9 m9, vi ki D9, vi ki er, vi ki ea]) := hb9
     have cg2 := hb9.c 2 rfl
     have cg3 := hb9.c 3 rfl
     have cg0 := hb9.c 0 rfl
     have hg9 := hb9.1
     have e0 : (er == 0) = false := by rw [beq_eq_false_iff_ne]; exact HER.out
     have e0p : (er = 0) = False := eq_false HER.out
     clear hb9 hc9 HF
     go_upto_region 12 with fail
     clear cg0 cg2 cg3 hg9
     refine wp_region_held_drew (S := (fun V => Bx V g [.slice (some ⟨c9, o9, none⟩) n9 m9, vi ki D9, vi ki er, vi ki ea])) (by kernel_rfl) (by first | exact HB9.out | exact HB9.out) (fun hHeld => ?_)
     refine gen_anyR (fun V => BS w [(w.heap.size, [vi ki 0, .string ⟨#[]⟩, .slice none 0 0, vi ki 0])] V ∧ Bx V g [.slice (some ⟨c9, o9, none⟩) n9 m9, vi ki D9, vi ki er, vi ki ea]) (by first | exact ⟨BW5.out.drew, HB9.out⟩ | exact ⟨BW5.out, HB9.out⟩) ?_
     clear hHeld BW5 HB9
     rintro W9 ⟨k1, k2⟩
     have HW : Hid (BS w [(w.heap.size, [vi ki 0, .string ⟨#[]⟩, .slice none 0 0, vi ki 0])] W9) := k1
     have HB9 : Hid (Bx W9 g [.slice (some ⟨c9, o9, none⟩) n9 m9, vi ki D9, vi ki er, vi ki ea]) := k2
     have hHeld : (fun V => Bx V g [.slice (some ⟨c9, o9, none⟩) n9 m9, vi ki D9, vi ki er, vi ki ea]) W9 := k2
     clear k1 k2
     refine tks 0 ⟨some 68, _, _, _, _, none⟩ rfl ?_
     simp only [za, zb, zc, zd]
     refine tks 1 ⟨some 69, _, _, _, _, none⟩ rfl ?_
     simp only [za, zb, zc, zd]
     refine tks 2 ⟨some 70, _, _, _, _, none⟩ rfl ?_
     simp only [za, zb, zc, zd]
     refine tks 3 ⟨some 71, _, _, _, _, none⟩ rfl ?_
     simp only [za, zb, zc, zd]
     refine tk (v := ?_) 4 ⟨some 72, _, _, _, _, none⟩ rfl ?_ ?_
     case refine_2 => (intro w9 hSw; have cg0 := hSw.c 0 rfl; have cg1 := hSw.c 1 rfl; have cg2 := hSw.c 2 rfl; have cg3 := hSw.c 3 rfl; have hg9 := hSw.1; clear hSw; go_simp; try with_reducible rfl)
     simp only [za, zb, zc, zd]
     refine tks 5 ⟨some 73, _, _, _, _, none⟩ rfl ?_
     simp only [za, zb, zc, zd]
     refine tks 6 ⟨some 74, _, _, _, _, none⟩ rfl ?_
     simp only [za, zb, zc, zd]
     refine tks 7 ⟨some 75, _, _, _, _, none⟩ rfl ?_
     simp only [za, zb, zc, zd]
     refine tk (v := ?_) 8 ⟨some 76, _, _, _, _, none⟩ rfl ?_ ?_
     case refine_2 => (intro w9 hSw; have cg0 := hSw.c 0 rfl; have cg1 := hSw.c 1 rfl; have cg2 := hSw.c 2 rfl; have cg3 := hSw.c 3 rfl; have hg9 := hSw.1; clear hSw; go_simp; try with_reducible rfl)
     simp only [za, zb, zc, zd]
     refine rd 9 ⟨none, _, _, _, _, none⟩ rfl (fun K hK => ?_)
     obtain ⟨c0, c1, c2, c3, z0, z1, z2, z3⟩ := HW.out.first.cf4
     have hr9 := HW.out.first.1
     have HWs : Hid (Below w.heap.size w (W9.setCells w.heap.size 0 [vi ki 0, .string ⟨#[]⟩, .slice none 0 0, vi ki 0]) ∧ Bx (W9.setCells w.heap.size 0 [vi ki 0, .string ⟨#[]⟩, .slice none 0 0, vi ki 0]) w.heap.size [vi ki 0, .string ⟨#[]⟩, .slice none 0 0, vi ki 0]) := ⟨below_setCells (Nat.le_refl _) _ _ 0 HW.out.1, HW.out.first.setAll _ rfl⟩
     have HBs : Hid (Bx (W9.setCells w.heap.size 0 [vi ki 0, .string ⟨#[]⟩, .slice none 0 0, vi ki 0]) g [.slice (some ⟨c9, o9, none⟩) n9 m9, vi ki D9, vi ki er, vi ki ea]) := HB9.out.setOther (show g ≠ w.heap.size by omega) _
     go_simp
     refine hK.out _ _ HBs.out (fun hHeld => ?_)
     clear hK K c0 c1 c2 c3 z0 z1 z2 z3 hr9 HW hHeld
     refine gen_anyR (fun V => Below w.heap.size w V ∧ Bx V w.heap.size [vi ki 0, .string ⟨#[]⟩, .slice none 0 0, vi ki 0] ∧ Bx V g [.slice (some ⟨c9, o9, none⟩) n9 m9, vi ki D9, vi ki er, vi ki ea]) ⟨HWs.out.1, HWs.out.2, HBs.out⟩ ?_
     clear HWs HBs HB9
     rintro v1 ⟨k1, k2, k3⟩
     have HW : Hid (Below w.heap.size w v1 ∧ Bx v1 w.heap.size [vi ki 0, .string ⟨#[]⟩, .slice none 0 0, vi ki 0]) := ⟨k1, k2⟩
     have hHeld : (fun V => Bx V g [.slice (some ⟨c9, o9, none⟩) n9 m9, vi ki D9, vi ki er, vi ki ea]) v1 := k3
     clear k1 k2 k3
     refine tks 10 ⟨some 3, _, _, _, _, none⟩ rfl ?_
     simp only [za, zb, zc, zd]
     refine tks 11 ⟨some 4, _, _, _, _, none⟩ rfl ?_
     simp only [za, zb, zc, zd]
     refine wpAnyH_done (by kernel_rfl) ?_ _
     clear hHeld
     obtain ⟨y0, y1, y2, y3⟩ := HW.out.2.d4
     go_wp2
     exact bodyPost_ret (v := .tuple #[.agg #[vi ki 0, .string ⟨#[]⟩, .slice none 0 0, vi ki 0], vi ki ea, vi ki er]) (by simp [results, Tryd.results6, go_sem, y0, y1, y2, y3]) rfl ⟨HW.out.1, by rw [HR9.out]; rfl⟩
theorem rparse_long (s : ByteArray) (w : World) (hs : s.size ≤ maxLen) (hsz : ¬ s.size ≤ 2048) :
  Calls Tryd.prog 6 #[.string s] w fun e w' => Below w.heap.size w w' ∧ e = zr (.tuple #[.agg #[vi ki 0, .string ⟨#[]⟩, .slice none 0 0, vi ki 0], vi ki 0, vi ki 3]) := by
 go_enter Tryd.func6, Tryd.ntmps6
 go_wp2_with fail
 refine (rsplit_long s _ hs hsz).mono ?_
 rintro e V ⟨rfl, hV⟩
 have BV : Hid (BS w [(w.heap.size, [vi ki 0, .string ⟨#[]⟩, .slice none 0 0, vi ki 0])] V) := by rw [hV]; exact ((BS.start w).new [vi ki 0, .string ⟨#[]⟩, .slice none 0 0, vi ki 0] 30 rfl)
 clear hV
 have HQ' := fin4 (g := w.heap.size) [] (vi ki 0) (.string ⟨#[]⟩) (.slice none 0 0) (vi ki 0) (Kp.of BV.out.1) (Nat.le_refl _) BV.out.first
 obtain ⟨k1, k2, -, -⟩ := HQ'
 obtain ⟨y0, y1, y2, y3⟩ := k2.d4
 have HK : Hid _ := k1
 simp only [List.foldl, World.setCells, Nat.zero_add, Nat.reduceAdd] at y0 y1 y2 y3
 obtain ⟨c0, c1, c2, c3, z0, z1, z2, z3⟩ := BV.out.first.cf4
 have hr9 := BV.out.first.1
 clear k1 k2
 go_wp2
 exact bodyPost_ret (v := .tuple #[.agg #[vi ki 0, .string ⟨#[]⟩, .slice none 0 0, vi ki 0], vi ki 0, vi ki 3]) (by simp [results, Tryd.results6, go_sem, y0, y1, y2, y3]) rfl ⟨HK.out.below (Nat.le_refl _) (Nat.le_refl _), by rfl⟩
theorem parse_both (s : ByteArray) (hs : s.size ≤ 140737488351232) : ∃ (n : Nd) (A E : Int), cnN n ≤ 100000 ∧ (∀ w, Gl w → Calls Tryd.prog 5 #[.string s] w fun e w' => Below w.heap.size w w' ∧ ∃ k t sq sn sc a, e = zr (.tuple #[.agg #[vi ki k, .string t, .slice sq sn sc, vi ki a], vi ki A, vi ki E]) ∧ NdAt (fun c => w.heap.size < c) w' n [vi ki k, .string t, .slice sq sn sc, vi ki a]) ∧ (∀ w, Calls Tryd.prog 6 #[.string s] w fun e w' => Below w.heap.size w w' ∧ ∃ k t sq sn sc a, e = zr (.tuple #[.agg #[vi ki k, .string t, .slice sq sn sc, vi ki a], vi ki A, vi ki E]) ∧ NdAt (fun c => w.heap.size < c) w' n [vi ki k, .string t, .slice sq sn sc, vi ki a]) := by
 by_cases h : s.size ≤ 2048
 ·cases hp : parseB s with
  | inl x =>
   refine ⟨.mk 0 ⟨#[]⟩ [] 0, x.1, x.2, by decide, fun w hG => ?_, fun w => ?_⟩
   ·refine (parse_gl s w hG h).mono ?_
    rw [hp]
    rintro e w' ⟨hb, rfl⟩
    exact ⟨hb, _, _, _, _, _, _, rfl, NdAt.leaf _ _ _ _ _⟩
   ·refine (rparse_any s w h).mono ?_
    rw [hp]
    rintro e w' ⟨hb, rfl⟩
    exact ⟨hb, _, _, _, _, _, _, rfl, NdAt.leaf _ _ _ _ _⟩
  | inr n =>
   refine ⟨n, 0, 0, Nat.le_trans (parse_sz h hp).2 (by decide), fun w hG => ?_, fun w => ?_⟩
   ·refine (parse_gl s w hG h).mono ?_
    rw [hp]
    exact fun e w' h => h
   ·refine (rparse_any s w h).mono ?_
    rw [hp]
    exact fun e w' h => h
 ·refine ⟨.mk 0 ⟨#[]⟩ [] 0, 0, 3, by decide, fun w hG => ?_, fun w => ?_⟩
  ·refine (parse_long s w (by unfold maxLen; omega) h).mono ?_
   rintro e w' ⟨hb, rfl⟩
   exact ⟨hb, _, _, _, _, _, _, rfl, NdAt.leaf _ _ _ _ _⟩
  ·refine (rparse_long s w (by unfold maxLen; omega) h).mono ?_
   rintro e w' ⟨hb, rfl⟩
   exact ⟨hb, _, _, _, _, _, _, rfl, NdAt.leaf _ _ _ _ _⟩
theorem ep_run (s : ByteArray) (n : Nd) (A E : Int) (hcn : cnN n ≤ 100000) (h1 : ∀ w, Gl w → Calls Tryd.prog 5 #[.string s] w fun e w' => Below w.heap.size w w' ∧ ∃ k t sq sn sc a, e = zr (.tuple #[.agg #[vi ki k, .string t, .slice sq sn sc, vi ki a], vi ki A, vi ki E]) ∧ NdAt (fun c => w.heap.size < c) w' n [vi ki k, .string t, .slice sq sn sc, vi ki a]) (h2 : ∀ w, Calls Tryd.prog 6 #[.string s] w fun e w' => Below w.heap.size w w' ∧ ∃ k t sq sn sc a, e = zr (.tuple #[.agg #[vi ki k, .string t, .slice sq sn sc, vi ki a], vi ki A, vi ki E]) ∧ NdAt (fun c => w.heap.size < c) w' n [vi ki k, .string t, .slice sq sn sc, vi ki a]) (w : World) (hGl : Gl w) :
  Calls Tryd.prog 3 #[.string s] w fun e w' => e = zr (.bool true) ∧ Below w.heap.size w w' := by
 have HG : Hid (Gl w) := hGl
 have HC1 : Hid (∀ w, Gl w → Calls Tryd.prog 5 #[.string s] w fun e w' => Below w.heap.size w w' ∧ ∃ k t sq sn sc a, e = zr (.tuple #[.agg #[vi ki k, .string t, .slice sq sn sc, vi ki a], vi ki A, vi ki E]) ∧ NdAt (fun c => w.heap.size < c) w' n [vi ki k, .string t, .slice sq sn sc, vi ki a]) := h1
 have HC2 : Hid (∀ w, Calls Tryd.prog 6 #[.string s] w fun e w' => Below w.heap.size w w' ∧ ∃ k t sq sn sc a, e = zr (.tuple #[.agg #[vi ki k, .string t, .slice sq sn sc, vi ki a], vi ki A, vi ki E]) ∧ NdAt (fun c => w.heap.size < c) w' n [vi ki k, .string t, .slice sq sn sc, vi ki a]) := h2
 clear hGl h1 h2
 go_enter Tryd.func3, Tryd.ntmps3
 go_wp2_with fail
 refine (HC1.out w HG.out).mono ?_
 rintro e V ⟨hb, k, t, sq, sn, sc, a, rfl, hnd⟩
 have HB : Hid (Below w.heap.size w V) := hb
 have HN1 : Hid (NdAt (fun c => w.heap.size < c) V n [vi ki k, .string t, .slice sq sn sc, vi ki a]) := hnd
 have BV : Hid (BS V [(V.heap.size, [vi ki k, .string t, .slice sq sn sc, vi ki a])] (V.alloc (.cells [vi ki k, .string t, .slice sq sn sc, vi ki a].toArray 24))) := (BS.start V).new [vi ki k, .string t, .slice sq sn sc, vi ki a] 24 rfl
 clear hb hnd HC1
 go_wp2_with fail
 refine (HC2.out _).mono ?_
 rintro e U ⟨hb, k2, t2, sq2, sn2, sc2, a2, rfl, hnd⟩
 have BU : Hid (BS V [(V.heap.size, [vi ki k, .string t, .slice sq sn sc, vi ki a])] U) := BV.out.below hb
 have BW : Hid (BS V [(U.heap.size, [vi ki k2, .string t2, .slice sq2 sn2 sc2, vi ki a2]), (V.heap.size, [vi ki k, .string t, .slice sq sn sc, vi ki a])] (U.alloc (.cells [vi ki k2, .string t2, .slice sq2 sn2 sc2, vi ki a2].toArray 30))) := BU.out.new [vi ki k2, .string t2, .slice sq2 sn2 sc2, vi ki a2] 30 rfl
 have HN2 : Hid (NdAt (fun c => V.heap.size + 1 < c) (U.alloc (.cells [vi ki k2, .string t2, .slice sq2 sn2 sc2, vi ki a2].toArray 30)).drew n [vi ki k2, .string t2, .slice sq2 sn2 sc2, vi ki a2]) := by
  have q : NdAt (fun c => V.heap.size + 1 < c) (U.alloc (.cells [vi ki k2, .string t2, .slice sq2 sn2 sc2, vi ki a2].toArray 30)) n [vi ki k2, .string t2, .slice sq2 sn2 sc2, vi ki a2] := NdAt.keep (by simp) (fun c hc hl => ⟨by simpa using hc, Below.heap_alloc _ _ _ hl⟩) _ _ hnd
  exact q.below (bdrew _)
 clear hb hnd BV BU HC2
 go_upto_region 3 with fail
 refine wp_region_held_drew (S := BS V [(U.heap.size, [vi ki k2, .string t2, .slice sq2 sn2 sc2, vi ki a2]), (V.heap.size, [vi ki k, .string t, .slice sq sn sc, vi ki a])]) (by kernel_rfl) BW.out.drew (fun hHeld => ?_)
 refine tk (v := ?_) 0 ⟨some 21, _, _, _, _, none⟩ rfl ?_ ?_
 case refine_2 => (intro w9 hSw; obtain ⟨c0, c1, c2, c3⟩ := (hSw.at (V.heap.size) [vi ki k, .string t, .slice sq sn sc, vi ki a] (by simp)).c4; obtain ⟨e0, e1, e2, e3⟩ := (hSw.at (U.heap.size) [vi ki k2, .string t2, .slice sq2 sn2 sc2, vi ki a2] (by simp)).c4; have g1 := (hSw.at (V.heap.size) [vi ki k, .string t, .slice sq sn sc, vi ki a] (by simp)).1; have g2 := (hSw.at (U.heap.size) [vi ki k2, .string t2, .slice sq2 sn2 sc2, vi ki a2] (by simp)).1; clear hSw; go_simp; try with_reducible rfl)
 simp only [za, zb, zc, zd]
 refine tk (v := ?_) 2 ⟨some 23, _, _, _, _, none⟩ rfl ?_ ?_
 case refine_2 => (intro w9 hSw; obtain ⟨c0, c1, c2, c3⟩ := (hSw.at (V.heap.size) [vi ki k, .string t, .slice sq sn sc, vi ki a] (by simp)).c4; obtain ⟨e0, e1, e2, e3⟩ := (hSw.at (U.heap.size) [vi ki k2, .string t2, .slice sq2 sn2 sc2, vi ki a2] (by simp)).c4; have g1 := (hSw.at (V.heap.size) [vi ki k, .string t, .slice sq sn sc, vi ki a] (by simp)).1; have g2 := (hSw.at (U.heap.size) [vi ki k2, .string t2, .slice sq2 sn2 sc2, vi ki a2] (by simp)).1; clear hSw; go_simp; try with_reducible rfl)
 simp only [za, zb, zc, zd]
 refine rd 1 ⟨some 22, _, _, _, _, none⟩ rfl (fun K hK => ?_)
 go_simp
 refine (taken_any n hcn (fun c => w.heap.size < c) _ _ _ _ _ (HN1.out.below hHeld.1)).mono ?_
 rintro e v1 ⟨hb1, k3, t3, sq3, sn3, sc3, a3, rfl, hnd1⟩
 have HT1 : Hid (NdAt (fun _ => True) v1 n [vi ki k3, .string t3, .slice sq3 sn3 sc3, vi ki a3]) := NdAt.keep (Nat.le_refl _) (fun _ _ _ => ⟨trivial, rfl⟩) _ _ hnd1
 have HN3 : Hid (NdAt (fun c => V.heap.size + 1 < c) v1 n [vi ki k2, .string t2, .slice sq2 sn2 sc2, vi ki a2]) := HN2.out.below hb1
 refine hK.out _ _ (hHeld.below hb1) (fun hHeld => ?_)
 clear hK K hb1 hnd1 HN2
 refine rd 3 ⟨some 24, _, _, _, _, none⟩ rfl (fun K hK => ?_)
 go_simp
 refine (same_any true n n (AlP.refl true n) (fun _ => True) (fun c => V.heap.size + 1 < c) _ _ _ _ _ _ _ _ _ HT1.out HN3.out).mono ?_
 rintro e v2 ⟨rfl, hb2⟩
 refine hK.out _ _ (hHeld.below hb2) (fun hHeld => ?_)
 clear hK K hb2 HT1 HN3
 refine tks 4 ⟨some 25, _, _, _, _, none⟩ rfl ?_
 simp only [za, zb, zc, zd]
 refine tks 5 ⟨some 26, _, _, _, _, some (4, true)⟩ rfl ?_
 simp only [za, zb, zc, zd]
 refine tks 6 ⟨some 27, _, _, _, _, some (4, true)⟩ rfl ?_
 simp only [za, zb, zc, zd]
 refine tks 7 ⟨some 28, _, _, _, _, some (4, true)⟩ rfl ?_
 simp only [za, zb, zc, zd]
 refine tks 8 ⟨some 29, _, _, _, _, none⟩ rfl ?_
 simp only [za, zb, zc, zd]
 refine tks 9 ⟨some 30, _, _, _, _, none⟩ rfl ?_
 simp only [za, zb, zc, zd]
 refine tks 10 ⟨some 31, _, _, _, _, some (9, true)⟩ rfl ?_
 simp only [za, zb, zc, zd]
 refine tks 11 ⟨some 32, _, _, _, _, some (9, true)⟩ rfl ?_
 simp only [za, zb, zc, zd]
 refine tks 12 ⟨some 33, _, _, _, _, some (9, true)⟩ rfl ?_
 simp only [za, zb, zc, zd]
 refine tks 13 ⟨some 34, _, _, _, _, none⟩ rfl ?_
 simp only [za, zb, zc, zd]
 refine tks 14 ⟨some 35, _, _, _, _, none⟩ rfl ?_
 simp only [za, zb, zc, zd]
 refine rd 15 ⟨some 36, _, _, _, _, some (14, true)⟩ rfl (fun K hK => ?_)
 go_simp
 refine (known22_any _ (HG.out.below (HB.out.trans (hHeld.1.mono HB.out.size)))).mono ?_
 rintro e v3 ⟨rfl, hb3⟩
 refine hK.out _ _ (hHeld.below hb3) (fun hHeld => ?_)
 clear hK K hb3
 refine tks 16 ⟨some 37, _, _, _, _, none⟩ rfl ?_
 simp only [za, zb, zc, zd]
 refine tks 17 ⟨some 2, _, _, _, _, none⟩ rfl ?_
 simp only [za, zb, zc, zd]
 refine wpAnyH_done (by kernel_rfl) ?_ _
 have HF : Hid (Below w.heap.size w _) := HB.out.trans (hHeld.1.mono HB.out.size)
 clear hHeld HB HG
 go_wp2
 go_ret
 exact ⟨rfl, HF.out⟩
theorem parses_any (s : ByteArray) (hs : s.size ≤ 140737488351232) (w : World) (hGl : Gl w) :
  Calls Tryd.prog 3 #[.string s] w fun e w' => e = zr (.bool true) ∧ Below w.heap.size w w' := by
 obtain ⟨n, A, E, hcn, h1, h2⟩ := parse_both s hs
 exact ep_run s n A E hcn h1 h2 w hGl
end Go.Proofs.YtaoocecipacnhaaDoor
