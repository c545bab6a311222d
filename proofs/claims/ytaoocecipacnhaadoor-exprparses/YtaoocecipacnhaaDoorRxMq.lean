/- The reference's named, whole. -/
import Derived.Test.YtaoocecipacnhaaDoorRxLq
namespace Go.Proofs.YtaoocecipacnhaaDoor
open Go.RowKit
set_option linter.unusedVariables false

theorem mT_3 {q : Tk} (h : GoodT q) : (mT q).1 = 3 ↔ q.1 = 3 := by
  obtain ⟨k1, k2, k3, k4, k5, _⟩ := @mT_kind q
  have := h.kind
  constructor
  · intro e
    by_cases e1 : q.1 = 1
    · rw [k1 e1] at e; split at e <;> omega
    by_cases e2 : q.1 = 2
    · have := (k2 e2).1; omega
    by_cases e4 : q.1 = 4
    · have := k4 e4; omega
    by_cases e5 : q.1 = 5
    · have := k5 e5; omega
    omega
  · exact k3

theorem rnamed_any (g b cap : Nat) (T : List Tk) (hG : Hid (∀ x ∈ T, GoodT x)) (N : Nat) (hNN : N ≤ 100000) (HA : Hid (RLv g b cap T 0 N)) : RNm g b cap T N := by
  intro w t l d f h hL hGt hfr hd hN hff
  obtain ⟨q, l1, rfl⟩ := mL_none hL
  have hGq := h.good hG.out
  have ht2 : t.1 = 2 := by
    rw [mT_free hGt] at hfr
    exact of_decide_eq_true (Bool.and_eq_true_iff.1 hfr).1
  have e1 : (mT t).2.1 = lowB t.2.1 := (mT_kind.2.1 ht2).2
  have e2 : (mT t).2.2 = t.2.2 := rfl
  have eN : nmF (par f) d (mT t) (mL (q :: l1)) = (if (mT q).1 = 3 ∧ typB (lowB t.2.1) = true then PR.ok (.mk 5 (lowB t.2.1) [.mk 3 (mT q).2.1 [] (mT q).2.2] t.2.2) (mL l1)
      else if isT (mT q) [(5, b1 40)] then
        if d = 20 then PR.no t.2.2 31
        else match mL l1 with
          | [] => PR.no 0 0
          | u :: l2 =>
            if isT u [(5, b1 41)] then PR.ok (.mk 9 (lowB t.2.1) [] t.2.2) l2
            else clK (lowB t.2.1) t.2.2 (par f (.ks []) (d + 1) (u :: l2))
      else PR.no (mT q).2.2 30) := by
    rw [mL_cons]; unfold nmF; dsimp only
    rw [e1, e2]
    cases mL l1 with
    | nil => rfl
    | cons u l2 =>
      dsimp only
      have eC : (match par f (.ks []) (d + 1) (u :: l2) with | .no a e => PR.no a e | .ok n l3 => PR.ok (.mk 9 (lowB t.2.1) n.ks t.2.2) l3) = clK (lowB t.2.1) t.2.2 (par f (.ks []) (d + 1) (u :: l2)) := by
        cases par f (.ks []) (d + 1) (u :: l2) <;> rfl
      rw [← eC]
      rfl
  rw [eN]
  clear eN
  by_cases h3 : q.1 = 3
  · by_cases hy : typB (lowB t.2.1) = true
    · rw [if_pos ⟨(mT_3 hGq).2 h3, hy⟩, (mT_kind.2.2.2.2.2 (by omega) : (mT q).2.1 = q.2.1)]
      exact rnamed_lit g b cap T hG t q l1 d hd h3 hy w h hGt hL
    · have hi : isT (mT q) [(5, b1 40)] = false := by rw [isT_one, mT_kind.2.2.1 h3]; simp
      rw [if_neg (fun z => hy z.2), hi, if_neg (by simp)]
      exact rnamed_no3 g b cap T hG t q l1 d hd h3 ((sg_sign hGq (show (b1 40) ∈ sgnL by unfold sgnL; simp)).trans hi) (by simpa using hy) w h hGt hL
  · rw [if_neg (fun z => h3 ((mT_3 hGq).1 z.1))]
    by_cases hi : isT (mT q) [(5, b1 40)] = true
    · rw [if_pos hi]
      by_cases h20 : d = 20
      · rw [if_pos h20]
        exact rnamed_deep g b cap T hG t q l1 d hd h3 hi h20 w h hGt hL
      · rw [if_neg h20]
        have hEl : EndL (mL l1) := EndL.tail hL (isT_kind hi (by simp))
        obtain ⟨u, l2, rfl⟩ := mL_none hEl
        rw [mL_cons]
        dsimp only
        simp only [List.length_cons] at hN hff
        by_cases hu : isT (mT u) [(5, b1 41)] = true
        · rw [if_pos hu]
          exact rnamed_none g b cap T hG t q u l2 d h3 hi hu (by omega) w h hGt hL
        · rw [if_neg hu]
          exact rnamed_kids g b cap T hG N hNN HA t q u l2 d f h3 hi (by simpa using hu) (by omega) (by simp only [List.length_cons]; omega) (by simp only [need, mL_len, List.length_cons]; omega) w h hGt hL
    · rw [if_neg hi]
      exact rnamed_no g b cap T hG t q l1 d hd h3 ((sg_sign hGq (show (b1 40) ∈ sgnL by unfold sgnL; simp)).trans (by simpa using hi)) w h hGt hL

end Go.Proofs.YtaoocecipacnhaaDoor
