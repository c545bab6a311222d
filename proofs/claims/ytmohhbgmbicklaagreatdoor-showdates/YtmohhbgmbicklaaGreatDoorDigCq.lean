/- Contract of the reference's Fraction: microseconds behind a point. -/
import Derived.Test.YtmohhbgmbicklaaGreatDoorDigBq
namespace Go.Proofs.YtmohhbgmbicklaaGreatDoor.Clk
open Go.RowKit
set_option linter.unusedVariables false

theorem trimR_same (r : List UInt8) : Lib.trimRightB (r ++ [48]) 48 = Lib.trimRightB r 48 := by
  unfold Lib.trimRightB
  rw [List.reverse_append]
  simp
theorem trimR_stop (r : List UInt8) (c : UInt8) (h : c ≠ 48) : Lib.trimRightB (r ++ [c]) 48 = r ++ [c] := by
  unfold Lib.trimRightB
  rw [List.reverse_append]
  simp [h]
theorem digit_zero {k : Nat} (h : k < 10) (e : UInt8.ofNat (48 + k) = 48) : k = 0 := by
  have := digit_nat h
  rw [e] at this
  simp at this
  omega
theorem frac_list {us : Int} (h1 : 1 ≤ us) (h2 : us ≤ 999999) : ∃ a b c d e f : Nat, (a < 10 ∧ b < 10 ∧ c < 10 ∧ d < 10 ∧ e < 10 ∧ f < 10) ∧ ¬ (a = 0 ∧ b = 0 ∧ c = 0 ∧ d = 0 ∧ e = 0 ∧ f = 0) ∧
    (⟨(Lib.itoa (1000000 + us)).toArray⟩ : ByteArray).extract 1 7 = ⟨#[UInt8.ofNat (48 + a), UInt8.ofNat (48 + b), UInt8.ofNat (48 + c), UInt8.ofNat (48 + d), UInt8.ofNat (48 + e), UInt8.ofNat (48 + f)]⟩ := by
  obtain ⟨u, hu⟩ : ∃ u : Nat, (1000000 + us).toNat = u := ⟨_, rfl⟩
  have e0 : Lib.itoa (1000000 + us) = Lib.decDigits u := by unfold Lib.itoa; rw [if_neg (by omega), hu]
  have e1 : Lib.decDigits u = [UInt8.ofNat (48 + u / 10 / 10 / 10 / 10 / 10 / 10), UInt8.ofNat (48 + u / 10 / 10 / 10 / 10 / 10 % 10), UInt8.ofNat (48 + u / 10 / 10 / 10 / 10 % 10), UInt8.ofNat (48 + u / 10 / 10 / 10 % 10), UInt8.ofNat (48 + u / 10 / 10 % 10), UInt8.ofNat (48 + u / 10 % 10), UInt8.ofNat (48 + u % 10)] := by
    rw [dec_step (x := u) (by omega), dec_step (x := u / 10) (by omega), dec_step (x := u / 10 / 10) (by omega), dec_step (x := u / 10 / 10 / 10) (by omega), dec_step (x := u / 10 / 10 / 10 / 10) (by omega), dec_step (x := u / 10 / 10 / 10 / 10 / 10) (by omega), Lib.decDigits_one (by omega)]
    rfl
  refine ⟨_, _, _, _, _, _, ⟨?_, ?_, ?_, ?_, ?_, ?_⟩, ?_, by rw [e0, e1]; rfl⟩
  all_goals omega

set_option maxRecDepth 100000 in
set_option maxHeartbeats 1000000 in
theorem efrac_no (us : Int) (h : us < 1 ∨ 999999 < us) (w : World) :
    Calls Tryz.prog 80 #[.int .i64 us] w fun e w' => e = .returned (.string ⟨#[]⟩) ∧ Below w.heap.size w w' := by
  rcases h with h | h
  · go_enter Tryz.func80, Tryz.ntmps80
    go_wp2
    go_ret
    exact ⟨rfl, Below.refl _ _⟩
  · have h2 : ¬ us < 1 := by omega
    go_enter Tryz.func80, Tryz.ntmps80
    go_wp2
    go_ret
    exact ⟨rfl, Below.refl _ _⟩

set_option maxRecDepth 100000 in
set_option maxHeartbeats 2000000 in
theorem efrac_core (us : Int) (S : ByteArray) (L : List UInt8) (h1 : 1 ≤ us) (h2 : us ≤ 999999) (hS : S.size = 7) (HE : Hid (S.extract 1 7 = ⟨L.toArray⟩)) (HLn : Hid (L.length ≤ 6)) (HX : Hid (∃ b ∈ L, b ≠ 48))
    (H1 : Hid (∀ w : World, Calls Tryz.prog 45 #[.int .i64 (1000000 + us)] w fun e w' => e = .returned (.string S) ∧ Below w.heap.size w w')) (w : World) :
    Calls Tryz.prog 80 #[.int .i64 us] w fun e w' => e = .returned (.string (⟨#[46]⟩ ++ ⟨(Lib.trimRightB L 48).toArray⟩)) ∧ Below w.heap.size w w' := by
  have h3 : ¬ us < 1 := by omega
  have h4 : ¬ 999999 < us := by omega
  go_enter Tryz.func80, Tryz.ntmps80
  go_wp2_with fail
  refine (H1.out _).mono ?_
  rintro e w1 ⟨rfl, hb⟩
  have HB : Hid (Below w.heap.size w w1) := hb
  clear hb
  go_wp2_with fail
  go_loopw [3] (fun v W => ∃ (s : ByteArray) (l : List UInt8), v = .string s ∧ s = ⟨l.toArray⟩ ∧ l.length ≤ 6 ∧ (∃ b ∈ l, b ≠ 48) ∧ W = w1 ∧ Hid (Lib.trimRightB l 48 = Lib.trimRightB L 48)) (fun v _ => match v with | .string s => s.size | _ => 0)
  case atStart => exact ⟨_, L, rfl, HE.out, HLn.out, HX.out, rfl, rfl⟩
  case round =>
    obtain ⟨s, l, rfl, hs, hl6, hx, hwr, HT⟩ := hrel
    obtain rfl := hwr
    have hne : l ≠ [] := by rintro rfl; obtain ⟨b, hb, _⟩ := hx; cases hb
    obtain ⟨r, c, rfl⟩ : ∃ r c, l = r ++ [c] := ⟨l.dropLast, l.getLast hne, (List.dropLast_concat_getLast hne).symm⟩
    obtain ⟨k, hk⟩ : ∃ k, k = r.length := ⟨_, rfl⟩
    have hsz : s.size = k + 1 := by rw [hs, hk]; show (r ++ [c]).toArray.size = _; simp
    have hix : ∀ w0 : World, (Instr.index 9 (.string s) (.int .i64 (k : Int))).run Tryz.prog w0 = .ok (.int .u8 (c.toNat : Int)) w0 := fun w0 => by
      rw [run_index_string w0 9 s .i64 (k : Int) Tryz.underlying9, dif_pos ⟨by omega, by omega⟩]
      subst hs
      subst hk
      show Result.ok (Value.int .u8 (((r ++ [c]).toArray[((r.length : Nat) : Int).toNat]'_).toNat : Int)) w0 = _
      simp
    have hex : s.extract 0 k = ⟨r.toArray⟩ := by
      rw [hs, hk]
      apply ByteArray.ext
      simp
    have hk5 : k ≤ 5 := by rw [hk]; simp at hl6; omega
    by_cases hc : c = 48
    · subst hc
      have HX' : Hid (∃ b ∈ r, b ≠ 48) := by
        obtain ⟨b, hb, hn⟩ := hx
        rcases List.mem_append.1 hb with hb | hb
        · exact ⟨b, hb, hn⟩
        · simp at hb; exact absurd hb hn
      have HT' : Hid (Lib.trimRightB r 48 = Lib.trimRightB L 48) := by show _ = _; rw [← HT.out, trimR_same]
      have HXX : Hid (s.extract 0 k = ⟨r.toArray⟩) := hex
      have HR : Hid (r.length = k) := hk.symm
      have hix' : ∀ w0 : World, (Instr.index 9 (.string s) (.int .i64 (k : Int))).run Tryz.prog w0 = .ok (.int .u8 48) w0 := hix
      clear hx hs hl6 hne HT hix hex hk
      go_wp2_with fail
      go_roundw
      case rel => exact ⟨_, r, rfl, HXX.out, by rw [HR.out]; omega, HX'.out, (by first | trivial | rfl), HT'⟩
      case measure =>
        show (s.extract 0 k).size < s.size
        rw [HXX.out, hsz]
        show r.toArray.size < _
        simp [HR.out]
    · have hcn : (c.toNat : Int) ≠ 48 := fun e => hc (by
        have : c.toNat = 48 := by omega
        exact UInt8.toNat_inj.1 this)
      obtain ⟨y, hy⟩ : ∃ y : Int, y = (c.toNat : Int) := ⟨_, rfl⟩
      rw [← hy] at hix hcn
      have hy' : (y == 48) = false := by rw [beq_eq_false_iff_ne]; exact hcn
      have HF : Hid (s = ⟨(Lib.trimRightB L 48).toArray⟩) := by show _ = _; rw [hs, ← HT.out, trimR_stop r c hc]
      clear hx hs hl6 hne HT hex hk hcn hc hy
      go_wp2_with fail
      go_ret
      exact ⟨dig_ret (by rw [← HF.out]), HB.out⟩

theorem efrac_any (us : Int) (w : World) :
    Calls Tryz.prog 80 #[.int .i64 us] w fun e w' => e = .returned (.string (fracB us)) ∧ Below w.heap.size w w' := by
  unfold fracB
  by_cases h : 1 ≤ us ∧ us ≤ 999999
  · rw [if_pos h]
    obtain ⟨h1, h2⟩ := h
    obtain ⟨a, b, c, d, e, f, ⟨a1, b1, c1, d1, e1, f1⟩, hn, hE⟩ := frac_list h1 h2
    have hT : fracT us = ⟨(Lib.trimRightB [UInt8.ofNat (48 + a), UInt8.ofNat (48 + b), UInt8.ofNat (48 + c), UInt8.ofNat (48 + d), UInt8.ofNat (48 + e), UInt8.ofNat (48 + f)] 48).toArray⟩ := by
      unfold fracT fracS
      rw [itoa7 h1 h2, hE]
    rw [hT]
    refine efrac_core us _ _ h1 h2 (itoa7 h1 h2) hE (by show _ ≤ _; simp) ?_ (digits_any _ (by omega) (by omega)) w
    show ∃ b ∈ _, b ≠ 48
    by_cases q : UInt8.ofNat (48 + a) = 48 ∧ UInt8.ofNat (48 + b) = 48 ∧ UInt8.ofNat (48 + c) = 48 ∧ UInt8.ofNat (48 + d) = 48 ∧ UInt8.ofNat (48 + e) = 48 ∧ UInt8.ofNat (48 + f) = 48
    · obtain ⟨q1, q2, q3, q4, q5, q6⟩ := q
      exact absurd ⟨digit_zero a1 q1, digit_zero b1 q2, digit_zero c1 q3, digit_zero d1 q4, digit_zero e1 q5, digit_zero f1 q6⟩ hn
    · refine Classical.byContradiction fun g => q ?_
      have g' : ∀ x ∈ [UInt8.ofNat (48 + a), UInt8.ofNat (48 + b), UInt8.ofNat (48 + c), UInt8.ofNat (48 + d), UInt8.ofNat (48 + e), UInt8.ofNat (48 + f)], x = 48 := fun x hx => Classical.byContradiction fun k => g ⟨x, hx, k⟩
      exact ⟨g' _ (by simp), g' _ (by simp), g' _ (by simp), g' _ (by simp), g' _ (by simp), g' _ (by simp)⟩
  · rw [if_neg h]
    exact efrac_no us (by omega) w

end Go.Proofs.YtmohhbgmbicklaaGreatDoor.Clk
