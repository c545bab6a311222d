/- The reference's prim, whole. -/
import Derived.Test.YtaoocecipacnhaaDoorRxEpq
namespace Go.Proofs.YtaoocecipacnhaaDoor
open Go.RowKit
set_option linter.unusedVariables false

theorem endL_one {p : Tk} {l : List Tk} (h : EndL (p :: l)) (h0 : p.1 = 0) : l = [] := by
  cases l with
  | nil => rfl
  | cons q l => exact absurd h0 h.1
theorem mL_nil {L : List Tk} (h : mL L = []) : L = [] := by
  cases L with
  | nil => rfl
  | cons r L => cases h
theorem isT_two (p : Tk) (k k' : Int) (s s' : ByteArray) : isT p [(k, s), (k', s')] = (decide (p.1 = k ∧ p.2.1 = s) || decide (p.1 = k' ∧ p.2.1 = s')) := by simp [isT]

theorem rprim_any (g b cap : Nat) (T : List Tk) (hG : Hid (∀ x ∈ T, GoodT x)) (N : Nat) (HP : Hid (RLv g b cap T 0 (N - 1))) (HN : Hid (RNm g b cap T (N - 1))) : RM g b cap T 58 9 N := by
  intro w L d f h hL hd hN hf
  obtain ⟨r, l, rfl⟩ := mL_none hL
  obtain ⟨f, rfl⟩ : ∃ f', f = f' + 1 := ⟨f - 1, by simp only [need, mL_cons, List.length_cons] at hf; omega⟩
  have hGr := h.good hG.out
  simp only [need, mL_cons, List.length_cons, mL_len] at hf hN
  rw [mL_cons] at hL
  have hk := hGr.kind
  have eP : par (f + 1) (.lv 9) d (mT r :: mL l) = (if (mT r).1 = 1 then PR.ok (.mk 1 (mT r).2.1 [] (mT r).2.2) (mL l)
      else if (mT r).1 = 2 then PR.ok (.mk 2 (mT r).2.1 [] (mT r).2.2) (mL l)
      else if (mT r).1 = 3 then PR.ok (.mk 3 (mT r).2.1 [] (mT r).2.2) (mL l)
      else if isT (mT r) [(4, trueB), (4, falseB)] then PR.ok (.mk 4 (mT r).2.1 [] (mT r).2.2) (mL l)
      else if isT (mT r) [(5, b1 40)] then
        if d = 20 then PR.no (mT r).2.2 31
        else match par f (.lv 0) (d + 1) (mL l) with
          | .no a e => PR.no a e
          | .ok n [] => PR.no 0 0
          | .ok n (q :: l1) => if isT q [(5, b1 41)] then PR.ok n l1 else PR.no q.2.2 30
      else if free (mT r) then nmF (par f) d (mT r) (mL l)
      else PR.no (mT r).2.2 30) := by
    rw [par_succ]; unfold pst; dsimp only
    rw [if_neg (by omega), if_neg (by omega), if_neg (by omega), if_neg (by omega), if_neg (by omega), if_pos rfl]
    rfl
  rw [mL_cons, eP]
  clear eP
  obtain ⟨k1, k2, k3, k4, k5, kn⟩ := @mT_kind r
  have hat : (mT r).2.2 = r.2.2 := rfl
  by_cases e5 : r.1 = 5
  · have hl := mL_nil (endL_one hL (k5 e5))
    subst hl
    have q1 : (mT r).1 = 0 := k5 e5
    rw [if_neg (by omega), if_neg (by omega), if_neg (by omega), if_neg (by rw [isT_two, q1]; simp), if_neg (by rw [isT_one, q1]; simp), if_neg (by rw [mT_free hGr]; simp [e5])]
    exact rprim_end g b cap T r d hd e5 w h hGr
  have h0 : (mT r).1 ≠ 0 := fun q => e5 ((mT_end hGr).1 q)
  have hE : EndL (mL l) := EndL.tail hL h0
  by_cases e1 : r.1 = 1
  · have q1 := k1 e1
    have q := rprim_1 g b cap T r l d hd e1 w h hGr hE
    by_cases hc : r.2.1.data.toList.contains 46 = true
    · rw [if_pos hc] at q1 q
      rw [if_neg (by omega), if_pos q1, kn (by omega), hat]
      exact q
    · rw [if_neg hc] at q1 q
      rw [if_pos q1, kn (by omega), hat]
      exact q
  by_cases e3 : r.1 = 3
  · have q1 := k3 e3
    rw [if_neg (by omega), if_neg (by omega), if_pos q1, kn (by omega), hat]
    exact rprim_3 g b cap T r l d hd e3 w h hGr hE
  by_cases e4 : r.1 = 4
  · have q1 := k4 e4
    rw [if_neg (by omega), if_neg (by omega), if_neg (by omega), if_neg (by rw [isT_two, q1]; simp), isT_one, q1, kn (by omega), hat]
    by_cases hw : r.2.1 = b1 40
    · rw [if_pos (by simp [hw])]
      by_cases h20 : d = 20
      · rw [if_pos h20]
        exact rprim_deep g b cap T r l d hd hG e4 hw h20 w h hGr hE
      · rw [if_neg h20]
        exact rprim_par g b cap T r l d hd hG e4 hw (by omega) (N - 1) f HP.out (by omega) (by simp only [need, mL_len]; omega) w h hGr hE
    · rw [if_neg (by simp [hw]), if_neg (by rw [mT_free hGr]; simp [e4])]
      exact rprim_sign g b cap T r l d hd hG e4 hw w h hGr hE
  have e2 : r.1 = 2 := by omega
  obtain ⟨q1, q2⟩ := k2 e2
  rw [if_neg (by omega), if_neg (by omega), if_neg (by omega), isT_two, q1, q2, hat]
  by_cases n1 : lowB r.2.1 = trueB
  · rw [if_pos (by simp [n1]), n1]
    exact rprim_true g b cap T r l d hd e2 n1 w h hGr hE
  by_cases n2 : lowB r.2.1 = falseB
  · rw [if_pos (by simp [n2]), n2]
    exact rprim_false g b cap T r l d hd e2 n2 w h hGr hE
  rw [if_neg (by simp [n1, n2]), if_neg (by rw [isT_one, q1]; simp)]
  by_cases hf2 : free (mT r) = true
  · rw [if_pos hf2]
    exact rprim_name g b cap T r l d hd e2 hf2 (N - 1) f HN (by omega) (by omega) n1 n2 w h hGr hE
  · rw [if_neg hf2]
    exact rprim_rsv g b cap T r l d hd hG e2 (by simpa using hf2) n1 n2 w h hGr hE

end Go.Proofs.YtaoocecipacnhaaDoor
