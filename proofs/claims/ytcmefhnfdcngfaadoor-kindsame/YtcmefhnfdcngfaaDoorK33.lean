import Derived.Test.YtcmefhnfdcngfaaDoorK29
import Derived.Test.YtcmefhnfdcngfaaDoorK31
import Derived.Test.YtcmefhnfdcngfaaDoorK32
/- An expression in brackets, and its cast to its own kind: mathematics of KindSame. -/
namespace Go.Proofs.YtcmefhnfdcngfaaDoor
open Go.RowKit
set_option linter.unusedVariables false

theorem par_op {c : Tk} (hc : brT c) {F d : Nat} (hd : d < 20) {L R : List Tk} {n : Nd} (a : Int) (h : par F (.lv 0) (d + 1) L = .ok n (c :: R)) : par (F + 1) (.lv 9) d (opT a :: L) = .ok n R := by
  have e0 : par (F + 1) (.lv 9) d (opT a :: L) = match par F (.lv 0) (d + 1) L with
      | .no a e => .no a e
      | .ok n [] => .no 0 0
      | .ok n (q :: l1) => if isT q [(5, b1 41)] then .ok n l1 else .no q.2.2 30 := by
    rw [par_succ]; unfold pst; dsimp only
    rw [if_neg (by decide), if_neg (by decide), if_neg (by decide), if_neg (by decide), if_neg (by decide), if_pos rfl]
    rw [if_neg (by simp [opT]), if_neg (by simp [opT]), if_neg (by simp [opT])]
    rw [show isT (opT a) [(4, trueB), (4, falseB)] = false by unfold isT opT; simp, if_neg (by simp)]
    rw [show isT (opT a) [(5, b1 40)] = true by unfold isT opT; simp; rfl, if_pos rfl, if_neg (by omega)]
    cases par F (.lv 0) (d + 1) L with
    | no a e => rfl
    | ok n l => cases l <;> rfl
  rw [e0, h]
  dsimp only
  rw [show isT c [(5, b1 41)] = true by unfold isT; simp [hc.1, hc.2], if_pos rfl]
/-- one cast behind what is in brackets. -/
theorem par_cast {F d : Nat} {p q t e : Tk} {l : List Tk} {n : Nd} (hq : isT q [(5, b2 58 58)] = true) (ht : free t = true) (he : e.1 = 0) (h : par (F + 2) (.lv 9) d (p :: l) = .ok n [q, t, e]) : par (F + 3) (.lv 8) d (p :: l) = .ok (.mk 10 t.2.1 [n] q.2.2) [e] := by
  have hne : isT e [(5, b2 58 58)] = false := by unfold isT; simp [he]
  have e1 : par (F + 1) (.cs (.mk 10 t.2.1 [n] q.2.2)) d [e] = .ok (.mk 10 t.2.1 [n] q.2.2) [e] := by
    rw [par_succ]; unfold pst; dsimp only; rw [hne, if_neg (by simp)]
  have e2 : par (F + 2) (.cs n) d [q, t, e] = .ok (.mk 10 t.2.1 [n] q.2.2) [e] := by
    rw [par_succ]; unfold pst; dsimp only; rw [if_pos hq, if_pos ht]; exact e1
  rw [par_succ]; unfold pst; dsimp only
  rw [if_neg (by decide), if_neg (by decide), if_neg (by decide), if_neg (by decide), if_pos rfl, h]
  exact e2
theorem isT_sh (k : Nat) (p : Tk) (l : List (Int × ByteArray)) : isT (shK k p) l = isT p l := rfl
theorem free_sh (k : Nat) (p : Tk) : free (shK k p) = free p := rfl

theorem parse_cast {s : ByteArray} {n : Nd} {N : ByteArray} {z : Int} (hs : s.size ≤ 2048) (h : parseB s = .inr n) (hN : toksB ((⟨#[58, 58]⟩ : ByteArray) ++ N) = .inr [(5, ⟨#[58, 58]⟩, 0), (4, N, 2), (0, ⟨#[]⟩, z)]) (hf : free (4, N, 2) = true) :
    (∃ m a, AlN n m ∧ parseB ((⟨#[40]⟩ : ByteArray) ++ s ++ (⟨#[41]⟩ : ByteArray)) = .inr m ∧ parseB ((⟨#[40]⟩ : ByteArray) ++ s ++ (⟨#[41, 58, 58]⟩ : ByteArray) ++ N) = .inr (.mk 10 N [m] a)) ∨ ∃ b, parseB ((⟨#[40]⟩ : ByteArray) ++ s ++ (⟨#[41]⟩ : ByteArray)) = .inl (b, 31) := by
  obtain ⟨A, e, ht, hA, he, hr⟩ := parse_toks hs h
  have h1 := toks_cat (x := 41) (.inr rfl) ht toks_empty
  have h2 := toks_sign (x := 40) (.inl rfl) h1
  rw [show (⟨#[41]⟩ : ByteArray) ++ (⟨#[]⟩ : ByteArray) = ⟨#[41]⟩ by decide, ← ByteArray.append_assoc] at h2
  have g1 := toks_cat (x := 41) (.inr rfl) ht hN
  have g2 := toks_sign (x := 40) (.inl rfl) g1
  have eN : (⟨#[40]⟩ : ByteArray) ++ (s ++ ((⟨#[41]⟩ : ByteArray) ++ ((⟨#[58, 58]⟩ : ByteArray) ++ N))) = (⟨#[40]⟩ : ByteArray) ++ s ++ (⟨#[41, 58, 58]⟩ : ByteArray) ++ N := by
    rw [show (⟨#[41, 58, 58]⟩ : ByteArray) = (⟨#[41]⟩ : ByteArray) ++ (⟨#[58, 58]⟩ : ByteArray) by decide]
    simp only [ByteArray.append_assoc]
  rw [eN] at g2
  simp only [List.map_append, List.map_cons, List.map_nil] at h2 g2
  obtain ⟨c, hcd⟩ : ∃ c, c = shK 1 (shK s.size (5, ⟨#[41]⟩, 0)) := ⟨_, rfl⟩
  obtain ⟨E1, hE1⟩ : ∃ E, E = shK 1 (shK s.size (shK 1 (0, ⟨#[]⟩, 0))) := ⟨_, rfl⟩
  obtain ⟨Q, hQ⟩ : ∃ Q, Q = shK 1 (shK s.size (shK 1 (5, ⟨#[58, 58]⟩, 0))) := ⟨_, rfl⟩
  obtain ⟨U, hU⟩ : ∃ U, U = shK 1 (shK s.size (shK 1 (4, N, 2))) := ⟨_, rfl⟩
  obtain ⟨E2, hE2⟩ : ∃ E, E = shK 1 (shK s.size (shK 1 (0, ⟨#[]⟩, z))) := ⟨_, rfl⟩
  have hc : brT c := by rw [hcd]; exact ⟨rfl, rfl⟩
  have hE1z : E1.1 = 0 := by rw [hE1]; rfl
  have hE2z : E2.1 = 0 := by rw [hE2]; rfl
  have hE2t : isT E2 [(0, ⟨#[]⟩)] = true := by rw [hE2]; unfold isT shK; simp
  have hE1t : isT E1 [(0, ⟨#[]⟩)] = true := by rw [hE1]; unfold isT shK; simp
  have hQt : isT Q [(5, b2 58 58)] = true := by rw [hQ]; simp only [isT_sh]; decide
  have hUf : free U = true := by rw [hU]; simp only [free_sh]; exact hf
  have hUN : U.2.1 = N := by rw [hU]; rfl
  rw [← hcd, ← hE1] at h2
  rw [← hcd, ← hQ, ← hU, ← hE2] at g2
  obtain ⟨B, hB⟩ : ∃ B, B = A.map (shK 1) := ⟨_, rfl⟩
  have hBl : B.length = A.length := by rw [hB]; simp
  have hRL : RL c [E1] (A ++ [(0, ⟨#[]⟩, (s.size : Int))]) (B ++ c :: [E1]) := by rw [hB]; exact RL_map 1 (by rfl) A hA
  rw [← hB] at h2 g2
  obtain ⟨F, hF⟩ : ∃ F, F + 1 = 10 * (A.length + 1) + 20 := ⟨10 * (A.length + 1) + 19, by omega⟩
  have q := (par_in c [E1] hc (F + 1) (.lv 0) (.lv 0) 0 1 _ _ n [e] (by simp [okTg]) (.lv 0) hRL (by rw [hF]; simp [need]) (par_mono (by omega) hr)).case
  have hP1 : parseB ((⟨#[40]⟩ : ByteArray) ++ s ++ (⟨#[41]⟩ : ByteArray)) = endT (par (F + 1 + 1 + 9) (.lv 0) 0 (opT 0 :: (B ++ [c, E1]))) := by
    unfold parseB
    rw [h2]
    dsimp only
    rw [show F + 1 + 1 + 9 = 10 * (opT 0 :: (B ++ [c, E1])).length + 10 by simp [hBl]; omega]
    rfl
  have hP2 : parseB ((⟨#[40]⟩ : ByteArray) ++ s ++ (⟨#[41, 58, 58]⟩ : ByteArray) ++ N) = endT (par (F + 31) (.lv 0) 0 (opT 0 :: (B ++ [c, Q, U, E2]))) := by
    unfold parseB
    rw [g2]
    dsimp only
    rw [show F + 31 = 10 * (opT 0 :: (B ++ [c, Q, U, E2])).length + 10 by simp [hBl]; omega]
    rfl
  rcases q with ⟨m, l', hr1, ha, hl⟩ | ⟨b, hr1⟩
  · left
    have hl' : l' = [c, E1] := by
      cases hl with
      | last e h => rfl
      | cons p q l m hp h hl => cases hl
    rw [hl'] at hr1
    have h9 := par_op hc (d := 0) (by omega) 0 hr1
    obtain ⟨l2, ⟨P, k1, k2⟩, hr2⟩ := par_tl (c := c) (X := [E1]) (Y := [Q, U, E2]) (F + 1) _ _ _ (B ++ c :: [Q, U, E2]) _ _ ⟨B, rfl, rfl⟩ hr1 (by simp)
    have hP : P = [] := by
      have := congrArg List.length k1
      simp at this
      exact this
    rw [hP, List.nil_append] at k2
    rw [k2] at hr2
    have j9 := par_op hc (d := 0) (by omega) 0 hr2
    have j8 := par_cast hQt hUf hE2z j9
    have j0 := ups_ok (f := F + 2) (op_not 0) (op_neg 0) 8 0 (by omega) (fun i _ _ => quiet_end hE2z i) j8
    refine ⟨m, Q.2.2, ha, ?_, ?_⟩
    · rw [hP1, ups_ok (op_not 0) (op_neg 0) 9 0 (by omega) (fun i _ _ => quiet_end hE1z i) h9]
      unfold endT; dsimp only; rw [hE1t]; rfl
    · rw [hP2, par_mono (show F + 2 + 1 + 8 ≤ F + 31 by omega) j0]
      unfold endT; dsimp only; rw [hE2t, hUN]; rfl
  · right
    refine ⟨b, ?_⟩
    have e9 : par (F + 1 + 1) (.lv 9) 0 (opT 0 :: (B ++ [c, E1])) = .no b 31 := by
      rw [par_succ]; unfold pst; dsimp only
      rw [if_neg (by decide), if_neg (by decide), if_neg (by decide), if_neg (by decide), if_neg (by decide), if_pos rfl]
      rw [if_neg (by simp [opT]), if_neg (by simp [opT]), if_neg (by simp [opT])]
      rw [show isT (opT 0) [(4, trueB), (4, falseB)] = false by unfold isT opT; simp, if_neg (by simp)]
      rw [show isT (opT 0) [(5, b1 40)] = true by unfold isT opT; simp; rfl, if_pos rfl, if_neg (by omega)]
      rw [hr1]
    rw [hP1, ups_no (op_not 0) (op_neg 0) 9 0 (by omega) e9]
    rfl

end Go.Proofs.YtcmefhnfdcngfaaDoor
