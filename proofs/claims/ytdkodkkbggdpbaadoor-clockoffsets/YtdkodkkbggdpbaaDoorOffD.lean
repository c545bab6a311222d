/- clock.ReadOffset and the reference's, whole; an offset's text is read again. -/
import Derived.Test.YtdkodkkbggdpbaaDoorOffC
namespace Go.Proofs.YtdkodkkbggdpbaaDoor
open Go.RowKit
set_option linter.unusedVariables false

theorem has_no {c : UInt8} {l : List UInt8} (h : sgnB c l = false) : Lib.hasPrefix l [c] = false := by
  cases l with
  | nil => rfl
  | cons x r =>
    have : ¬ x = c := by simpa [sgnB] using h
    have hb : (c == x) = false := beq_eq_false_iff_ne.2 (fun e => this e.symm)
    simp [Lib.hasPrefix, List.isPrefixOf, hb]
theorem oV_bd (a b c : Int) (ha : 0 ≤ a) (hb : 0 ≤ b) (hc : 0 ≤ c) : -9000000000 ≤ oV (a, b, c) ∧ oV (a, b, c) ≤ 9000000000 := by
  unfold oV
  by_cases h : oOk (a, b, c)
  · rw [if_pos h]
    have := h.2.2
    simp only at this ⊢
    omega
  · rw [if_neg h]; omega
theorem secF_one (m a : Int) (d : Nat) : secF 0 0 3600 [(m, d, a)] = (oV (a, 0, 0), oE (a, 0, 0)) := by
  show (if 0 < 0 ∧ _ then _ else secF 1 (0 + a * 3600) (3600 / 60) []) = _
  rw [if_neg (fun k => absurd k.1 (by decide))]
  unfold secF oV oE
  by_cases h : 57599 < 0 + a * 3600
  · have hk : ¬ oOk (a, 0, 0) := fun k => by have := k.2.2; simp only at this; omega
    rw [if_pos h, if_neg hk, if_neg hk]
  · have hk : oOk (a, 0, 0) := ⟨by show (0 : Int) ≤ 59; decide, by show (0 : Int) ≤ 59; decide, by show a * 3600 + 0 * 60 + 0 ≤ 57599; omega⟩
    rw [if_neg h, if_pos hk, if_pos hk]
    show (0 + a * 3600, (0 : Int)) = (a * 3600 + 0 * 60 + 0, 0)
    rw [show 0 + a * 3600 = a * 3600 + 0 * 60 + 0 by omega]
theorem secF_two (m a n b : Int) (d e : Nat) (hb : 0 ≤ b) : secF 0 0 3600 [(m, d, a), (n, e, b)] = (oV (a, b, 0), oE (a, b, 0)) := by
  show (if 0 < 0 ∧ _ then _ else secF 1 (0 + a * 3600) (3600 / 60) [(n, e, b)]) = _
  rw [if_neg (fun k => absurd k.1 (by decide))]
  show (if 0 < 1 ∧ ¬ (0 ≤ b ∧ b < 60) then _ else secF 2 (0 + a * 3600 + b * (3600 / 60)) (3600 / 60 / 60) []) = _
  unfold oV oE
  by_cases h1 : b < 60
  · rw [if_neg (fun k => k.2 ⟨hb, h1⟩)]
    unfold secF
    have e1 : b * (3600 / 60) = b * 60 := by rw [show (3600 : Int) / 60 = 60 by decide]
    rw [e1]
    by_cases h : 57599 < 0 + a * 3600 + b * 60
    · have hk : ¬ oOk (a, b, 0) := fun k => by have := k.2.2; simp only at this; omega
      rw [if_pos h, if_neg hk, if_neg hk]
    · have hk : oOk (a, b, 0) := ⟨by show b ≤ 59; omega, by show (0 : Int) ≤ 59; decide, by show a * 3600 + b * 60 + 0 ≤ 57599; omega⟩
      rw [if_neg h, if_pos hk, if_pos hk]
      show (0 + a * 3600 + b * 60, (0 : Int)) = (a * 3600 + b * 60 + 0, 0)
      rw [show 0 + a * 3600 + b * 60 = a * 3600 + b * 60 + 0 by omega]
  · have hk : ¬ oOk (a, b, 0) := fun k => by have := k.1; simp only at this; omega
    rw [if_pos ⟨by decide, fun k => h1 k.2⟩, if_neg hk, if_neg hk]
theorem secF_three (m a n b p c : Int) (d e f : Nat) (hb : 0 ≤ b) (hc : 0 ≤ c) : secF 0 0 3600 [(m, d, a), (n, e, b), (p, f, c)] = (oV (a, b, c), oE (a, b, c)) := by
  show (if 0 < 0 ∧ _ then _ else secF 1 (0 + a * 3600) (3600 / 60) [(n, e, b), (p, f, c)]) = _
  rw [if_neg (fun k => absurd k.1 (by decide))]
  show (if 0 < 1 ∧ ¬ (0 ≤ b ∧ b < 60) then _ else secF 2 (0 + a * 3600 + b * (3600 / 60)) (3600 / 60 / 60) [(p, f, c)]) = _
  unfold oV oE
  by_cases h1 : b < 60
  · rw [if_neg (fun k => k.2 ⟨hb, h1⟩)]
    show (if 0 < 2 ∧ ¬ (0 ≤ c ∧ c < 60) then _ else secF 3 (0 + a * 3600 + b * (3600 / 60) + c * (3600 / 60 / 60)) (3600 / 60 / 60 / 60) []) = _
    by_cases h2 : c < 60
    · rw [if_neg (fun k => k.2 ⟨hc, h2⟩)]
      unfold secF
      have e1 : b * (3600 / 60) = b * 60 := by rw [show (3600 : Int) / 60 = 60 by decide]
      have e2 : c * (3600 / 60 / 60) = c := by rw [show (3600 : Int) / 60 / 60 = 1 by decide, Int.mul_one]
      rw [e1, e2]
      by_cases h : 57599 < 0 + a * 3600 + b * 60 + c
      · have hk : ¬ oOk (a, b, c) := fun k => by have := k.2.2; simp only at this; omega
        rw [if_pos h, if_neg hk, if_neg hk]
      · have hk : oOk (a, b, c) := ⟨by show b ≤ 59; omega, by show c ≤ 59; omega, by show a * 3600 + b * 60 + c ≤ 57599; omega⟩
        rw [if_neg h, if_pos hk, if_pos hk]
        show (0 + a * 3600 + b * 60 + c, (0 : Int)) = (a * 3600 + b * 60 + c, 0)
        rw [show 0 + a * 3600 + b * 60 + c = a * 3600 + b * 60 + c by omega]
    · have hk : ¬ oOk (a, b, c) := fun k => by have := k.2.1; simp only at this; omega
      rw [if_pos ⟨by decide, fun k => h2 k.2⟩, if_neg hk, if_neg hk]
  · have hk : ¬ oOk (a, b, c) := fun k => by have := k.1; simp only at this; omega
    rw [if_pos ⟨by decide, fun k => h1 k.2⟩, if_neg hk, if_neg hk]

theorem pow6 {d : Nat} (h : d ≤ 6) : (10 : Int) ^ d ≤ 1000000 := by
  have : ∀ z : Fin 7, (10 : Int) ^ z.val ≤ 1000000 := by decide
  exact this ⟨d, by omega⟩
theorem runsL_bd : ∀ (l : List UInt8) (acc : List Run) (m : Int) (d : Nat) (n : Int) (L : List Run), (∀ r ∈ acc, 0 ≤ r.2.2 ∧ r.2.2 ≤ 999999) → d ≤ 6 → 0 ≤ n → n < 10 ^ d → runsL l acc (m, d, n) = some L → ∀ r ∈ L, 0 ≤ r.2.2 ∧ r.2.2 ≤ 999999
  | [], acc, m, d, n, L, h1, h2, h3, h4, h => by
    obtain rfl := (Option.some.inj h).symm
    intro r hr
    rcases List.mem_append.1 hr with hr | hr
    · exact h1 r hr
    · obtain rfl := List.mem_singleton.1 hr
      have := pow6 h2
      simp only
      omega
  | c :: q, acc, m, d, n, L, h1, h2, h3, h4, h => by
    unfold runsL at h
    by_cases k1 : isDg c = true ∧ d < 6
    · rw [if_pos k1] at h
      have := (isDg_iff c).1 k1.1
      exact runsL_bd q acc m (d + 1) _ L h1 (by omega) (by show 0 ≤ n * 10 + ((c.toNat : Int) - 48); omega) (by rw [Int.pow_succ]; show n * 10 + ((c.toNat : Int) - 48) < _; omega) h
    · rw [if_neg k1] at h
      by_cases k2 : (c = 58 ∨ c = 46) ∧ 0 < d ∧ acc.length < 3
      · rw [if_pos k2] at h
        refine runsL_bd q (acc ++ [(m, d, n)]) _ 0 0 L (fun r hr => ?_) (by omega) (by omega) (by simp) h
        rcases List.mem_append.1 hr with hr | hr
        · exact h1 r hr
        · obtain rfl := List.mem_singleton.1 hr
          have := pow6 h2
          simp only
          omega
      · rw [if_neg k2] at h; cases h

theorem roff_n (q : List UInt8) (hl : q.length ≤ 140737488351231) (w : World) :
    Calls Tryd.prog 15 #[.string ⟨(45 :: q).toArray⟩] w fun e w' => e = .returned (.tuple #[.int .i64 (sg true (oaV (cOff q))), .int .i64 (oaE (cOff q))]) ∧ Below w.heap.size w w' := by
  obtain ⟨k, hk⟩ : ∃ k, k = q.length := ⟨_, rfl⟩
  obtain ⟨t1, t2⟩ := tail_of 45 q _ k rfl hk
  have hk2 : k ≤ 140737488351232 := by omega
  have RN : ∀ G, runsL q [] (0, 0, 0) = G → Hid (∀ w : World, Calls Tryd.prog 33 #[.string ((⟨(45 :: q).toArray⟩ : ByteArray).extract 1 (k + 1))] w fun e w' => Below w.heap.size w w' ∧ RunsOf w e w' G) := fun G hG w => by
    have R := runs_any ⟨q.toArray⟩ w
    rw [runs_list ⟨q.toArray⟩ q rfl, hG] at R
    rw [t2]
    exact R
  unfold cOff
  cases hL : runsL q [] (0, 0, 0) with
  | none =>
    show Calls _ _ _ _ fun e w' => e = .returned (.tuple #[.int .i64 (sg true 0), .int .i64 13]) ∧ _
    rw [sg_zero]
    exact roff_n_none _ k hk2 t1 (fun w => by have := Tryd.strings_HasPrefix ⟨(45 :: q).toArray⟩ ⟨#[45]⟩ w; rw [show Lib.hasPrefix (⟨(45 :: q).toArray⟩ : ByteArray).data.toList (⟨#[45]⟩ : ByteArray).data.toList = true from pre_yes 45 q] at this; exact this) (RN _ hL) w
  | some L =>
    obtain ⟨z1, z2, m', d', n', hg, b1, b2, b3⟩ := runsL_ok q [] 0 0 0 L (by simp) (by decide) (by decide) (by decide) hL
    have hbd := runsL_bd q [] 0 0 0 L (fun r hr => (nomatch hr)) (by decide) (by decide) (by decide) hL
    rw [Option.bind_some]
    have bad : ogood L = none → Calls Tryd.prog 15 #[.string ⟨(45 :: q).toArray⟩] w (fun e w' => e = .returned (.tuple #[.int .i64 0, .int .i64 13]) ∧ Below w.heap.size w w') → Calls Tryd.prog 15 #[.string ⟨(45 :: q).toArray⟩] w fun e w' => e = .returned (.tuple #[.int .i64 (sg true (oaV (ogood L))), .int .i64 (oaE (ogood L))]) ∧ Below w.heap.size w w' := fun e R => by
      rw [e]
      show Calls _ _ _ _ fun e w' => e = .returned (.tuple #[.int .i64 (sg true 0), .int .i64 13]) ∧ _
      rw [sg_zero]
      exact R
    by_cases hd : d' = 0
    · refine bad ?_ (roff_n_zero _ k hk2 t1 L (by rw [hg, hd]; rfl) (fun w => by have := Tryd.strings_HasPrefix ⟨(45 :: q).toArray⟩ ⟨#[45]⟩ w; rw [show Lib.hasPrefix (⟨(45 :: q).toArray⟩ : ByteArray).data.toList (⟨#[45]⟩ : ByteArray).data.toList = true from pre_yes 45 q] at this; exact this) (RN _ hL) w)
      match L, z1, z2, hg with
      | [r0], _, _, hg =>
        obtain rfl : r0 = (m', d', n') := by simpa using hg
        rw [ogood1, if_neg (by omega), if_neg (fun k => by omega)]
      | [(m0, d0, n0), r1], _, _, hg =>
        obtain rfl : r1 = (m', d', n') := by simpa using hg
        rw [ogood2, if_neg (fun k => by omega)]
      | [(m0, d0, n0), (m1, d1, n1), r2], _, _, hg =>
        obtain rfl : r2 = (m', d', n') := by simpa using hg
        rw [ogood3, if_neg (fun k => by omega)]
      | [r0, r1, r2, r3], _, _, hg => rfl
      | _ :: _ :: _ :: _ :: _ :: _, _, z2, _ => simp at z2
    · have hd' : 0 < d' := by omega
      match L, z1, z2, hg, hL, hbd, bad with
      | [r0], _, _, hg, hL, hbd, bad =>
        obtain rfl : r0 = (m', d', n') := by simpa using hg
        have hb := hbd (m', d', n') (by simp)
        simp only at hb
        by_cases h4 : d' = 4
        · subst h4
          have e : ogood [(m', 4, n')] = some (n' / 100, n' % 100, 0) := by rw [ogood1, if_pos rfl]
          rw [e]
          have bd := oV_bd (n' / 100) (n' % 100) 0 (by omega) (by omega) (by omega)
          exact roff_n_four _ k hk2 t1 m' n' _ _ hb.1 hb.2 (fun r hr => by simp at hr; rcases hr with rfl | rfl <;> (simp only; omega)) (secF_two _ _ _ _ _ _ (by omega)) bd.1 bd.2 (fun w => by have := Tryd.strings_HasPrefix ⟨(45 :: q).toArray⟩ ⟨#[45]⟩ w; rw [show Lib.hasPrefix (⟨(45 :: q).toArray⟩ : ByteArray).data.toList (⟨#[45]⟩ : ByteArray).data.toList = true from pre_yes 45 q] at this; exact this) (RN _ hL) w
        · cases hf : faceOk [(m', d', n')] with
          | true =>
            have e : ogood [(m', d', n')] = some (n', 0, 0) := by rw [ogood1, if_neg h4, if_pos ⟨hd', hf⟩]
            rw [e]
            have bd := oV_bd n' 0 0 (by omega) (by omega) (by omega)
            exact roff_n_oney _ k hk2 t1 m' n' _ _ d' hd' h4 hf hbd (secF_one _ _ _) bd.1 bd.2 (fun w => by have := Tryd.strings_HasPrefix ⟨(45 :: q).toArray⟩ ⟨#[45]⟩ w; rw [show Lib.hasPrefix (⟨(45 :: q).toArray⟩ : ByteArray).data.toList (⟨#[45]⟩ : ByteArray).data.toList = true from pre_yes 45 q] at this; exact this) (RN _ hL) w
          | false =>
            refine bad ?_ (roff_n_onen _ k hk2 t1 m' n' d' hd' h4 hf (fun w => by have := Tryd.strings_HasPrefix ⟨(45 :: q).toArray⟩ ⟨#[45]⟩ w; rw [show Lib.hasPrefix (⟨(45 :: q).toArray⟩ : ByteArray).data.toList (⟨#[45]⟩ : ByteArray).data.toList = true from pre_yes 45 q] at this; exact this) (RN _ hL) w)
            rw [ogood1, if_neg h4, if_neg (fun k => by rw [hf] at k; exact absurd k.2 (by decide))]
      | [(m0, d0, n0), r1], _, _, hg, hL, hbd, bad =>
        obtain rfl : r1 = (m', d', n') := by simpa using hg
        have hb := hbd (m', d', n') (by simp)
        have hb0 := hbd (m0, d0, n0) (by simp)
        simp only at hb hb0
        cases hf : faceOk [(m0, d0, n0), (m', d', n')] with
        | true =>
          have e : ogood [(m0, d0, n0), (m', d', n')] = some (n0, n', 0) := by rw [ogood2, if_pos ⟨hd', hf⟩]
          rw [e]
          have bd := oV_bd n0 n' 0 (by omega) (by omega) (by omega)
          exact roff_n_morey _ k hk2 t1 _ _ _ (by simp) (by simp) d' (by simp) hd' hf hbd (secF_two _ _ _ _ _ _ (by omega)) bd.1 bd.2 (fun w => by have := Tryd.strings_HasPrefix ⟨(45 :: q).toArray⟩ ⟨#[45]⟩ w; rw [show Lib.hasPrefix (⟨(45 :: q).toArray⟩ : ByteArray).data.toList (⟨#[45]⟩ : ByteArray).data.toList = true from pre_yes 45 q] at this; exact this) (RN _ hL) w
        | false =>
          refine bad ?_ (roff_n_moren _ k hk2 t1 _ (by simp) (by simp) d' (by simp) hd' hf (fun w => by have := Tryd.strings_HasPrefix ⟨(45 :: q).toArray⟩ ⟨#[45]⟩ w; rw [show Lib.hasPrefix (⟨(45 :: q).toArray⟩ : ByteArray).data.toList (⟨#[45]⟩ : ByteArray).data.toList = true from pre_yes 45 q] at this; exact this) (RN _ hL) w)
          rw [ogood2, if_neg (fun k => by rw [hf] at k; exact absurd k.2 (by decide))]
      | [(m0, d0, n0), (m1, d1, n1), r2], _, _, hg, hL, hbd, bad =>
        obtain rfl : r2 = (m', d', n') := by simpa using hg
        have hb := hbd (m', d', n') (by simp)
        have hb0 := hbd (m0, d0, n0) (by simp)
        have hb1 := hbd (m1, d1, n1) (by simp)
        simp only at hb hb0 hb1
        cases hf : faceOk [(m0, d0, n0), (m1, d1, n1), (m', d', n')] with
        | true =>
          have e : ogood [(m0, d0, n0), (m1, d1, n1), (m', d', n')] = some (n0, n1, n') := by rw [ogood3, if_pos ⟨hd', hf⟩]
          rw [e]
          have bd := oV_bd n0 n1 n' (by omega) (by omega) (by omega)
          exact roff_n_morey _ k hk2 t1 _ _ _ (by simp) (by simp) d' (by simp) hd' hf hbd (secF_three _ _ _ _ _ _ _ _ _ (by omega) (by omega)) bd.1 bd.2 (fun w => by have := Tryd.strings_HasPrefix ⟨(45 :: q).toArray⟩ ⟨#[45]⟩ w; rw [show Lib.hasPrefix (⟨(45 :: q).toArray⟩ : ByteArray).data.toList (⟨#[45]⟩ : ByteArray).data.toList = true from pre_yes 45 q] at this; exact this) (RN _ hL) w
        | false =>
          refine bad ?_ (roff_n_moren _ k hk2 t1 _ (by simp) (by simp) d' (by simp) hd' hf (fun w => by have := Tryd.strings_HasPrefix ⟨(45 :: q).toArray⟩ ⟨#[45]⟩ w; rw [show Lib.hasPrefix (⟨(45 :: q).toArray⟩ : ByteArray).data.toList (⟨#[45]⟩ : ByteArray).data.toList = true from pre_yes 45 q] at this; exact this) (RN _ hL) w)
          rw [ogood3, if_neg (fun k => by rw [hf] at k; exact absurd k.2 (by decide))]
      | [r0, r1, r2, r3], _, _, hg, hL, hbd, bad =>
        refine bad rfl (roff_n_moren _ k hk2 t1 _ (by simp) (by simp) d' (by rw [hg]; rfl) hd' ?_ (fun w => by have := Tryd.strings_HasPrefix ⟨(45 :: q).toArray⟩ ⟨#[45]⟩ w; rw [show Lib.hasPrefix (⟨(45 :: q).toArray⟩ : ByteArray).data.toList (⟨#[45]⟩ : ByteArray).data.toList = true from pre_yes 45 q] at this; exact this) (RN _ hL) w)
        show _ = _
        unfold faceOk
        rw [show decide ((([r0, r1, r2, r3] : List Run).length : Int) ≤ 3) = false from by simp, Bool.and_false]
      | _ :: _ :: _ :: _ :: _ :: _, _, z2, _, _, _, _ => simp at z2

theorem roff_p (q : List UInt8) (hl : q.length ≤ 140737488351231) (w : World) :
    Calls Tryd.prog 15 #[.string ⟨(43 :: q).toArray⟩] w fun e w' => e = .returned (.tuple #[.int .i64 (sg false (oaV (cOff q))), .int .i64 (oaE (cOff q))]) ∧ Below w.heap.size w w' := by
  obtain ⟨k, hk⟩ : ∃ k, k = q.length := ⟨_, rfl⟩
  obtain ⟨t1, t2⟩ := tail_of 43 q _ k rfl hk
  have hk2 : k ≤ 140737488351232 := by omega
  have RN : ∀ G, runsL q [] (0, 0, 0) = G → Hid (∀ w : World, Calls Tryd.prog 33 #[.string ((⟨(43 :: q).toArray⟩ : ByteArray).extract 1 (k + 1))] w fun e w' => Below w.heap.size w w' ∧ RunsOf w e w' G) := fun G hG w => by
    have R := runs_any ⟨q.toArray⟩ w
    rw [runs_list ⟨q.toArray⟩ q rfl, hG] at R
    rw [t2]
    exact R
  unfold cOff
  cases hL : runsL q [] (0, 0, 0) with
  | none =>
    show Calls _ _ _ _ fun e w' => e = .returned (.tuple #[.int .i64 (sg false 0), .int .i64 13]) ∧ _
    rw [sg_zero]
    exact roff_p_none _ k hk2 t1 (fun w => by have := Tryd.strings_HasPrefix ⟨(43 :: q).toArray⟩ ⟨#[45]⟩ w; rw [show Lib.hasPrefix (⟨(43 :: q).toArray⟩ : ByteArray).data.toList (⟨#[45]⟩ : ByteArray).data.toList = false from has_no (c := 45) (l := 43 :: q) (by simp [sgnB])] at this; exact this) (fun w => by have := Tryd.strings_HasPrefix ⟨(43 :: q).toArray⟩ ⟨#[43]⟩ w; rw [show Lib.hasPrefix (⟨(43 :: q).toArray⟩ : ByteArray).data.toList (⟨#[43]⟩ : ByteArray).data.toList = true from pre_yes 43 q] at this; exact this) (RN _ hL) w
  | some L =>
    obtain ⟨z1, z2, m', d', n', hg, b1, b2, b3⟩ := runsL_ok q [] 0 0 0 L (by simp) (by decide) (by decide) (by decide) hL
    have hbd := runsL_bd q [] 0 0 0 L (fun r hr => (nomatch hr)) (by decide) (by decide) (by decide) hL
    rw [Option.bind_some]
    have bad : ogood L = none → Calls Tryd.prog 15 #[.string ⟨(43 :: q).toArray⟩] w (fun e w' => e = .returned (.tuple #[.int .i64 0, .int .i64 13]) ∧ Below w.heap.size w w') → Calls Tryd.prog 15 #[.string ⟨(43 :: q).toArray⟩] w fun e w' => e = .returned (.tuple #[.int .i64 (sg false (oaV (ogood L))), .int .i64 (oaE (ogood L))]) ∧ Below w.heap.size w w' := fun e R => by
      rw [e]
      show Calls _ _ _ _ fun e w' => e = .returned (.tuple #[.int .i64 (sg false 0), .int .i64 13]) ∧ _
      rw [sg_zero]
      exact R
    by_cases hd : d' = 0
    · refine bad ?_ (roff_p_zero _ k hk2 t1 L (by rw [hg, hd]; rfl) (fun w => by have := Tryd.strings_HasPrefix ⟨(43 :: q).toArray⟩ ⟨#[45]⟩ w; rw [show Lib.hasPrefix (⟨(43 :: q).toArray⟩ : ByteArray).data.toList (⟨#[45]⟩ : ByteArray).data.toList = false from has_no (c := 45) (l := 43 :: q) (by simp [sgnB])] at this; exact this) (fun w => by have := Tryd.strings_HasPrefix ⟨(43 :: q).toArray⟩ ⟨#[43]⟩ w; rw [show Lib.hasPrefix (⟨(43 :: q).toArray⟩ : ByteArray).data.toList (⟨#[43]⟩ : ByteArray).data.toList = true from pre_yes 43 q] at this; exact this) (RN _ hL) w)
      match L, z1, z2, hg with
      | [r0], _, _, hg =>
        obtain rfl : r0 = (m', d', n') := by simpa using hg
        rw [ogood1, if_neg (by omega), if_neg (fun k => by omega)]
      | [(m0, d0, n0), r1], _, _, hg =>
        obtain rfl : r1 = (m', d', n') := by simpa using hg
        rw [ogood2, if_neg (fun k => by omega)]
      | [(m0, d0, n0), (m1, d1, n1), r2], _, _, hg =>
        obtain rfl : r2 = (m', d', n') := by simpa using hg
        rw [ogood3, if_neg (fun k => by omega)]
      | [r0, r1, r2, r3], _, _, hg => rfl
      | _ :: _ :: _ :: _ :: _ :: _, _, z2, _ => simp at z2
    · have hd' : 0 < d' := by omega
      match L, z1, z2, hg, hL, hbd, bad with
      | [r0], _, _, hg, hL, hbd, bad =>
        obtain rfl : r0 = (m', d', n') := by simpa using hg
        have hb := hbd (m', d', n') (by simp)
        simp only at hb
        by_cases h4 : d' = 4
        · subst h4
          have e : ogood [(m', 4, n')] = some (n' / 100, n' % 100, 0) := by rw [ogood1, if_pos rfl]
          rw [e]
          have bd := oV_bd (n' / 100) (n' % 100) 0 (by omega) (by omega) (by omega)
          exact roff_p_four _ k hk2 t1 m' n' _ _ hb.1 hb.2 (fun r hr => by simp at hr; rcases hr with rfl | rfl <;> (simp only; omega)) (secF_two _ _ _ _ _ _ (by omega)) bd.1 bd.2 (fun w => by have := Tryd.strings_HasPrefix ⟨(43 :: q).toArray⟩ ⟨#[45]⟩ w; rw [show Lib.hasPrefix (⟨(43 :: q).toArray⟩ : ByteArray).data.toList (⟨#[45]⟩ : ByteArray).data.toList = false from has_no (c := 45) (l := 43 :: q) (by simp [sgnB])] at this; exact this) (fun w => by have := Tryd.strings_HasPrefix ⟨(43 :: q).toArray⟩ ⟨#[43]⟩ w; rw [show Lib.hasPrefix (⟨(43 :: q).toArray⟩ : ByteArray).data.toList (⟨#[43]⟩ : ByteArray).data.toList = true from pre_yes 43 q] at this; exact this) (RN _ hL) w
        · cases hf : faceOk [(m', d', n')] with
          | true =>
            have e : ogood [(m', d', n')] = some (n', 0, 0) := by rw [ogood1, if_neg h4, if_pos ⟨hd', hf⟩]
            rw [e]
            have bd := oV_bd n' 0 0 (by omega) (by omega) (by omega)
            exact roff_p_oney _ k hk2 t1 m' n' _ _ d' hd' h4 hf hbd (secF_one _ _ _) bd.1 bd.2 (fun w => by have := Tryd.strings_HasPrefix ⟨(43 :: q).toArray⟩ ⟨#[45]⟩ w; rw [show Lib.hasPrefix (⟨(43 :: q).toArray⟩ : ByteArray).data.toList (⟨#[45]⟩ : ByteArray).data.toList = false from has_no (c := 45) (l := 43 :: q) (by simp [sgnB])] at this; exact this) (fun w => by have := Tryd.strings_HasPrefix ⟨(43 :: q).toArray⟩ ⟨#[43]⟩ w; rw [show Lib.hasPrefix (⟨(43 :: q).toArray⟩ : ByteArray).data.toList (⟨#[43]⟩ : ByteArray).data.toList = true from pre_yes 43 q] at this; exact this) (RN _ hL) w
          | false =>
            refine bad ?_ (roff_p_onen _ k hk2 t1 m' n' d' hd' h4 hf (fun w => by have := Tryd.strings_HasPrefix ⟨(43 :: q).toArray⟩ ⟨#[45]⟩ w; rw [show Lib.hasPrefix (⟨(43 :: q).toArray⟩ : ByteArray).data.toList (⟨#[45]⟩ : ByteArray).data.toList = false from has_no (c := 45) (l := 43 :: q) (by simp [sgnB])] at this; exact this) (fun w => by have := Tryd.strings_HasPrefix ⟨(43 :: q).toArray⟩ ⟨#[43]⟩ w; rw [show Lib.hasPrefix (⟨(43 :: q).toArray⟩ : ByteArray).data.toList (⟨#[43]⟩ : ByteArray).data.toList = true from pre_yes 43 q] at this; exact this) (RN _ hL) w)
            rw [ogood1, if_neg h4, if_neg (fun k => by rw [hf] at k; exact absurd k.2 (by decide))]
      | [(m0, d0, n0), r1], _, _, hg, hL, hbd, bad =>
        obtain rfl : r1 = (m', d', n') := by simpa using hg
        have hb := hbd (m', d', n') (by simp)
        have hb0 := hbd (m0, d0, n0) (by simp)
        simp only at hb hb0
        cases hf : faceOk [(m0, d0, n0), (m', d', n')] with
        | true =>
          have e : ogood [(m0, d0, n0), (m', d', n')] = some (n0, n', 0) := by rw [ogood2, if_pos ⟨hd', hf⟩]
          rw [e]
          have bd := oV_bd n0 n' 0 (by omega) (by omega) (by omega)
          exact roff_p_morey _ k hk2 t1 _ _ _ (by simp) (by simp) d' (by simp) hd' hf hbd (secF_two _ _ _ _ _ _ (by omega)) bd.1 bd.2 (fun w => by have := Tryd.strings_HasPrefix ⟨(43 :: q).toArray⟩ ⟨#[45]⟩ w; rw [show Lib.hasPrefix (⟨(43 :: q).toArray⟩ : ByteArray).data.toList (⟨#[45]⟩ : ByteArray).data.toList = false from has_no (c := 45) (l := 43 :: q) (by simp [sgnB])] at this; exact this) (fun w => by have := Tryd.strings_HasPrefix ⟨(43 :: q).toArray⟩ ⟨#[43]⟩ w; rw [show Lib.hasPrefix (⟨(43 :: q).toArray⟩ : ByteArray).data.toList (⟨#[43]⟩ : ByteArray).data.toList = true from pre_yes 43 q] at this; exact this) (RN _ hL) w
        | false =>
          refine bad ?_ (roff_p_moren _ k hk2 t1 _ (by simp) (by simp) d' (by simp) hd' hf (fun w => by have := Tryd.strings_HasPrefix ⟨(43 :: q).toArray⟩ ⟨#[45]⟩ w; rw [show Lib.hasPrefix (⟨(43 :: q).toArray⟩ : ByteArray).data.toList (⟨#[45]⟩ : ByteArray).data.toList = false from has_no (c := 45) (l := 43 :: q) (by simp [sgnB])] at this; exact this) (fun w => by have := Tryd.strings_HasPrefix ⟨(43 :: q).toArray⟩ ⟨#[43]⟩ w; rw [show Lib.hasPrefix (⟨(43 :: q).toArray⟩ : ByteArray).data.toList (⟨#[43]⟩ : ByteArray).data.toList = true from pre_yes 43 q] at this; exact this) (RN _ hL) w)
          rw [ogood2, if_neg (fun k => by rw [hf] at k; exact absurd k.2 (by decide))]
      | [(m0, d0, n0), (m1, d1, n1), r2], _, _, hg, hL, hbd, bad =>
        obtain rfl : r2 = (m', d', n') := by simpa using hg
        have hb := hbd (m', d', n') (by simp)
        have hb0 := hbd (m0, d0, n0) (by simp)
        have hb1 := hbd (m1, d1, n1) (by simp)
        simp only at hb hb0 hb1
        cases hf : faceOk [(m0, d0, n0), (m1, d1, n1), (m', d', n')] with
        | true =>
          have e : ogood [(m0, d0, n0), (m1, d1, n1), (m', d', n')] = some (n0, n1, n') := by rw [ogood3, if_pos ⟨hd', hf⟩]
          rw [e]
          have bd := oV_bd n0 n1 n' (by omega) (by omega) (by omega)
          exact roff_p_morey _ k hk2 t1 _ _ _ (by simp) (by simp) d' (by simp) hd' hf hbd (secF_three _ _ _ _ _ _ _ _ _ (by omega) (by omega)) bd.1 bd.2 (fun w => by have := Tryd.strings_HasPrefix ⟨(43 :: q).toArray⟩ ⟨#[45]⟩ w; rw [show Lib.hasPrefix (⟨(43 :: q).toArray⟩ : ByteArray).data.toList (⟨#[45]⟩ : ByteArray).data.toList = false from has_no (c := 45) (l := 43 :: q) (by simp [sgnB])] at this; exact this) (fun w => by have := Tryd.strings_HasPrefix ⟨(43 :: q).toArray⟩ ⟨#[43]⟩ w; rw [show Lib.hasPrefix (⟨(43 :: q).toArray⟩ : ByteArray).data.toList (⟨#[43]⟩ : ByteArray).data.toList = true from pre_yes 43 q] at this; exact this) (RN _ hL) w
        | false =>
          refine bad ?_ (roff_p_moren _ k hk2 t1 _ (by simp) (by simp) d' (by simp) hd' hf (fun w => by have := Tryd.strings_HasPrefix ⟨(43 :: q).toArray⟩ ⟨#[45]⟩ w; rw [show Lib.hasPrefix (⟨(43 :: q).toArray⟩ : ByteArray).data.toList (⟨#[45]⟩ : ByteArray).data.toList = false from has_no (c := 45) (l := 43 :: q) (by simp [sgnB])] at this; exact this) (fun w => by have := Tryd.strings_HasPrefix ⟨(43 :: q).toArray⟩ ⟨#[43]⟩ w; rw [show Lib.hasPrefix (⟨(43 :: q).toArray⟩ : ByteArray).data.toList (⟨#[43]⟩ : ByteArray).data.toList = true from pre_yes 43 q] at this; exact this) (RN _ hL) w)
          rw [ogood3, if_neg (fun k => by rw [hf] at k; exact absurd k.2 (by decide))]
      | [r0, r1, r2, r3], _, _, hg, hL, hbd, bad =>
        refine bad rfl (roff_p_moren _ k hk2 t1 _ (by simp) (by simp) d' (by rw [hg]; rfl) hd' ?_ (fun w => by have := Tryd.strings_HasPrefix ⟨(43 :: q).toArray⟩ ⟨#[45]⟩ w; rw [show Lib.hasPrefix (⟨(43 :: q).toArray⟩ : ByteArray).data.toList (⟨#[45]⟩ : ByteArray).data.toList = false from has_no (c := 45) (l := 43 :: q) (by simp [sgnB])] at this; exact this) (fun w => by have := Tryd.strings_HasPrefix ⟨(43 :: q).toArray⟩ ⟨#[43]⟩ w; rw [show Lib.hasPrefix (⟨(43 :: q).toArray⟩ : ByteArray).data.toList (⟨#[43]⟩ : ByteArray).data.toList = true from pre_yes 43 q] at this; exact this) (RN _ hL) w)
        show _ = _
        unfold faceOk
        rw [show decide ((([r0, r1, r2, r3] : List Run).length : Int) ≤ 3) = false from by simp, Bool.and_false]
      | _ :: _ :: _ :: _ :: _ :: _, _, z2, _, _, _, _ => simp at z2

theorem roff_none (l : List UInt8) (h1 : sgnB 45 l = false) (h2 : sgnB 43 l = false) (w : World) :
    Calls Tryd.prog 15 #[.string ⟨l.toArray⟩] w fun e w' => e = .returned (.tuple #[.int .i64 0, .int .i64 13]) ∧ Below w.heap.size w w' :=
  roff_no _ (fun w => by have := Tryd.strings_HasPrefix ⟨l.toArray⟩ ⟨#[45]⟩ w; rw [has_no h1] at this; exact this) (fun w => by have := Tryd.strings_HasPrefix ⟨l.toArray⟩ ⟨#[43]⟩ w; rw [has_no h2] at this; exact this) w

/-- the answer of an offset's text. -/
def offV (l : List UInt8) : Int := if sgnB 45 l = true then sg true (oaV (cOff (sgnL 45 l))) else if sgnB 43 l = true then sg false (oaV (cOff (sgnL 43 l))) else 0
def offE (l : List UInt8) : Int := if sgnB 45 l = true then oaE (cOff (sgnL 45 l)) else if sgnB 43 l = true then oaE (cOff (sgnL 43 l)) else 13

theorem roff_any (l : List UInt8) (hl : l.length ≤ 140737488351232) (w : World) :
    Calls Tryd.prog 15 #[.string ⟨l.toArray⟩] w fun e w' => e = .returned (.tuple #[.int .i64 (offV l), .int .i64 (offE l)]) ∧ Below w.heap.size w w' := by
  unfold offV offE
  by_cases h1 : sgnB 45 l = true
  · rw [if_pos h1, if_pos h1]
    have e := sgn_yes h1
    have R := roff_n (sgnL 45 l) (by have := congrArg List.length e; simp at this; omega) w
    rw [← e] at R
    exact R
  · rw [if_neg h1, if_neg h1]
    by_cases h2 : sgnB 43 l = true
    · rw [if_pos h2, if_pos h2]
      have e := sgn_yes h2
      have R := roff_p (sgnL 43 l) (by have := congrArg List.length e; simp at this; omega) w
      rw [← e] at R
      exact R
    · rw [if_neg h2, if_neg h2]
      exact roff_none l (by simpa using h1) (by simpa using h2) w

theorem eroff_any (l : List UInt8) (hl : l.length ≤ 140737488351232) (w : World) :
    Calls Tryd.prog 16 #[.string ⟨l.toArray⟩] w fun e w' => e = .returned (.tuple #[.int .i64 (offV l), .int .i64 (offE l)]) ∧ Below w.heap.size w w' := by
  unfold offV offE
  by_cases h1 : sgnB 45 l = true
  · rw [if_pos h1, if_pos h1]
    have e := sgn_yes h1
    have R := eroff_neg (sgnL 45 l) (by have := congrArg List.length e; simp at this; omega) w
    rw [← e, ← offs_same] at R
    exact R
  · rw [if_neg h1, if_neg h1]
    by_cases h2 : sgnB 43 l = true
    · rw [if_pos h2, if_pos h2]
      have e := sgn_yes h2
      have R := eroff_pos (sgnL 43 l) (by have := congrArg List.length e; simp at this; omega) w
      rw [← e, ← offs_same] at R
      exact R
    · rw [if_neg h2, if_neg h2]
      exact eroff_no l (by omega) (by simpa using h1) (by simpa using h2) w

theorem two_dg {x : Nat} (h : x < 100) : DgL (twoB (x : Int)).data.toList 2 2 ∧ valD 0 (twoB (x : Int)).data.toList = x := by
  have a := digit_nat (k := x / 10) (by omega)
  have b := digit_nat (k := x % 10) (by omega)
  rw [twoB_two h]
  refine ⟨⟨fun c hc => ?_, by simp, by simp⟩, ?_⟩
  · simp only [List.mem_cons, List.not_mem_nil, or_false] at hc
    rcases hc with rfl | rfl
    · exact (isDg_iff _).2 (by omega)
    · exact (isDg_iff _).2 (by omega)
  · simp only [valD, List.foldl_cons, List.foldl_nil, a, b]
    omega
theorem dg_more {A : List UInt8} (h : DgL A 2 2) : DgL A 1 2 := ⟨h.1, by have := h.2.1; omega, h.2.2⟩

theorem offB_len (sec : Int) (h1 : -57599 ≤ sec) (h2 : sec ≤ 57599) : (offB sec sec.natAbs).data.toList.length ≤ 100 := by
  have S1 := twoB_size (n := (sec.natAbs : Int) / 3600) (by omega) (by omega)
  have S2 := twoB_size (n := (sec.natAbs : Int) / 60 % 60) (by omega) (by omega)
  have S3 := twoB_size (n := (sec.natAbs : Int) % 60) (by omega) (by omega)
  have e : ∀ A : ByteArray, A.data.toList.length = A.size := fun A => Array.length_toList
  have e0 : (if sec < 0 then (⟨#[45]⟩ : ByteArray) else ⟨#[43]⟩).size = 1 := by split <;> rfl
  have e1 : (⟨#[58]⟩ : ByteArray).size = 1 := rfl
  rw [e]
  unfold offB
  simp only
  split
  · rw [ByteArray.size_append]; omega
  · split
    · rw [ByteArray.size_append, ByteArray.size_append, ByteArray.size_append]; omega
    · rw [ByteArray.size_append, ByteArray.size_append, ByteArray.size_append, ByteArray.size_append, ByteArray.size_append]; omega

theorem off_back (sec : Int) (h1 : -57599 ≤ sec) (h2 : sec ≤ 57599) : offV (offB sec sec.natAbs).data.toList = sec ∧ offE (offB sec sec.natAbs).data.toList = 0 := by
  obtain ⟨a, ha⟩ : ∃ a : Nat, sec.natAbs = a := ⟨_, rfl⟩
  rw [ha]
  obtain ⟨h, hh⟩ : ∃ h : Nat, (a : Int) / 3600 = (h : Int) := ⟨a / 3600, by omega⟩
  obtain ⟨m, hm⟩ : ∃ m : Nat, (a : Int) / 60 % 60 = (m : Int) := ⟨a / 60 % 60, by omega⟩
  obtain ⟨s, hs⟩ : ∃ s : Nat, (a : Int) % 60 = (s : Int) := ⟨a % 60, by omega⟩
  obtain ⟨dh, vh⟩ := two_dg (x := h) (by omega)
  obtain ⟨dm, vm⟩ := two_dg (x := m) (by omega)
  obtain ⟨ds, vs⟩ := two_dg (x := s) (by omega)
  obtain ⟨c, hc⟩ : ∃ c : UInt8, c = if sec < 0 then 45 else 43 := ⟨_, rfl⟩
  have key : ∃ q t, (offB sec a).data.toList = c :: q ∧ OForm q t ∧ oOk t ∧ t.1 * 3600 + t.2.1 * 60 + t.2.2 = (a : Int) := by
    have e0 : (if sec < 0 then (⟨#[45]⟩ : ByteArray) else ⟨#[43]⟩) = ⟨#[c]⟩ := by rw [hc]; split <;> rfl
    unfold offB
    rw [hh, hm, hs]
    simp only [e0]
    by_cases q : (a : Int) % 3600 = 0
    · rw [if_pos q]
      refine ⟨(twoB (h : Int)).data.toList, (h, 0, 0), by simp, .inr (.inl ⟨_, dg_more dh, rfl, by rw [vh]⟩), ⟨by show (0 : Int) ≤ 59; decide, by show (0 : Int) ≤ 59; decide, by show (h : Int) * 3600 + 0 * 60 + 0 ≤ 57599; omega⟩, by show (h : Int) * 3600 + 0 * 60 + 0 = _; omega⟩
    · rw [if_neg q]
      by_cases r : (s : Int) = 0
      · rw [if_pos r]
        refine ⟨(twoB (h : Int)).data.toList ++ 58 :: (twoB (m : Int)).data.toList, (h, m, 0), by simp, .inr (.inr (.inl ⟨_, _, dg_more dh, dm, rfl, by rw [vh, vm]⟩)), ⟨by show (m : Int) ≤ 59; omega, by show (0 : Int) ≤ 59; decide, by show (h : Int) * 3600 + m * 60 + 0 ≤ 57599; omega⟩, by show (h : Int) * 3600 + m * 60 + 0 = _; omega⟩
      · rw [if_neg r]
        refine ⟨(twoB (h : Int)).data.toList ++ 58 :: ((twoB (m : Int)).data.toList ++ 58 :: (twoB (s : Int)).data.toList), (h, m, s), by simp, .inr (.inr (.inr ⟨_, _, _, dg_more dh, dm, ds, rfl, by rw [vh, vm, vs]⟩)), ⟨by show (m : Int) ≤ 59; omega, by show (s : Int) ≤ 59; omega, by show (h : Int) * 3600 + m * 60 + s ≤ 57599; omega⟩, by show (h : Int) * 3600 + m * 60 + s = _; omega⟩
  obtain ⟨q, t, e, hf, hk, ht⟩ := key
  rw [e]
  have co := c_of_off hf
  unfold offV offE
  by_cases hn : sec < 0
  · rw [if_pos hn] at hc
    subst hc
    have s1 : sgnB 45 (45 :: q) = true := by simp [sgnB]
    have s2 : sgnL 45 (45 :: q) = q := by simp [sgnL]
    rw [if_pos s1, if_pos s1, s2, co]
    refine ⟨?_, if_pos hk⟩
    show sg true (oV t) = sec
    unfold oV sg
    rw [if_pos hk, if_pos rfl, ht]
    omega
  · rw [if_neg hn] at hc
    subst hc
    have s0 : ¬ sgnB 45 (43 :: q) = true := by simp [sgnB]
    have s1 : sgnB 43 (43 :: q) = true := by simp [sgnB]
    have s2 : sgnL 43 (43 :: q) = q := by simp [sgnL]
    rw [if_neg s0, if_neg s0, if_pos s1, if_pos s1, s2, co]
    refine ⟨?_, if_pos hk⟩
    show sg false (oV t) = sec
    unfold oV sg
    rw [if_pos hk, if_neg (by decide), ht]
    omega

end Go.Proofs.YtdkodkkbggdpbaaDoor
