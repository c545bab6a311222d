/- Contracts of clock.Two, clock.Fraction, clock.face, clock.Text: numbers of two digits, what stands behind the seconds, a time as a text. -/
import Derived.Test.YtgnfkkcagbbhmaaGreatDoorClkBq
import Derived.Test.YtgnfkkcagbbhmaaGreatDoorShelfq
import Derived.Lib.ItoaNum
import Derived.Lib.AppendIntMem
namespace Go.Proofs.YtgnfkkcagbbhmaaGreatDoor.Clk
open Go.RowKit
set_option linter.unusedVariables false

theorem ret_str {a b : ByteArray} (h : a = b) : Ending.returned (.string a) = .returned (.string b) := by rw [h]
theorem below_drewN {B : Nat} {a w : World} (h : Below B a w) (n : Nat) : Below B a (w.drewN n) := h.trans ⟨rfl, rfl, rfl, Nat.le_refl _, fun _ _ => rfl⟩

/-- the table of the powers of ten lies as it must. -/
def Tab (w : World) : Prop := Lib.TabIs Tryz.prog w "internal/strconv.uint64pow10" .u64 Lib.pow10Tab
theorem Tab.below {w w1 : World} (h : Tab w) (hb : Below w.heap.size w w1) : Tab w1 := Lib.tabBelow_of_tabIs h w1 hb

theorem formatInt_any (n : Int) (h0 : -9223372036854775808 ≤ n) (h1 : n ≤ 9223372036854775807) (w : World) (hT : Tab w) :
    Calls Tryz.prog 93 #[.int .i64 n, .int .i64 10] w fun e w' => e = .returned (.string ⟨(Lib.itoa n).toArray⟩) ∧ Below w.heap.size w w' :=
  (Tryz.strconv_FormatInt_10 n h0 h1 w hT).mono fun e w' ⟨he, k, os, hw⟩ => ⟨he, hw ▸ Lib.below_grow w.heap.size w (Nat.le_refl _) k os⟩

/-- the decimal digits of a number, without its sign. -/
def dgB (n : Int) : ByteArray := ⟨(Lib.decDigits n.natAbs).toArray⟩
theorem nDigits_le {u : Nat} (h : u < 10000000000000000000) : Lib.nDigits u ≤ 19 := by
  have g : ∀ k v : Nat, v < 10 ^ k → 1 ≤ k → Lib.nDigits v ≤ k := by
    intro k
    induction k with
    | zero => intro v _ h1; omega
    | succ k ih =>
      intro v hv _
      by_cases h10 : v < 10
      · rw [Lib.nDigits_small h10]; omega
      · rw [Lib.nDigits_big h10]
        have hp : (10 : Nat) ^ (k + 1) = 10 ^ k * 10 := Nat.pow_succ ..
        have : v / 10 < 10 ^ k := by omega
        have hk : 1 ≤ k := by
          cases k with
          | zero => simp at this; omega
          | succ k => omega
        have := ih (v / 10) this hk
        omega
  exact g 19 u (by simpa using h) (by decide)
theorem dgB_size {n : Int} (h0 : -9223372036854775808 ≤ n) (h1 : n ≤ 9223372036854775807) : (dgB n).size ≤ 19 := by
  have : (dgB n).size = (Lib.decDigits n.natAbs).length := rfl
  rw [this, Lib.decDigits_length]
  exact nDigits_le (by omega)
theorem digit_head (u : Nat) : ∃ c l, Lib.decDigits u = c :: l ∧ c ≠ 45 := by
  have h := Lib.decDigits_eq u
  have hp := Lib.nDigits_pos u
  obtain ⟨k, hk⟩ : ∃ k, Lib.nDigits u = k + 1 := ⟨Lib.nDigits u - 1, by omega⟩
  rw [hk] at h
  rw [List.range_succ_eq_map] at h
  refine ⟨_, _, h, ?_⟩
  unfold Lib.dg
  have : ∀ d : Fin 10, UInt8.ofNat (48 + d.val) ≠ 45 := by decide
  exact this ⟨_, Nat.mod_lt _ (by decide)⟩
theorem cut_itoa (n : Int) : Lib.trimPrefix (Lib.itoa n) [45] = Lib.decDigits n.natAbs ∧ Lib.hasPrefix (Lib.itoa n) [45] = decide (n < 0) := by
  unfold Lib.itoa
  by_cases h : n < 0
  · rw [if_pos h, decide_eq_true h]
    exact ⟨rfl, rfl⟩
  · rw [if_neg h, decide_eq_false h]
    obtain ⟨c, l, hc, hn⟩ := digit_head n.toNat
    have e : n.natAbs = n.toNat := by omega
    rw [e, hc]
    have hp : Lib.hasPrefix (c :: l) [45] = false := by
      unfold Lib.hasPrefix
      simp only [List.isPrefixOf, Bool.and_eq_false_iff, beq_eq_false_iff_ne]
      exact .inl (fun k => hn k.symm)
    unfold Lib.trimPrefix
    rw [hp]
    exact ⟨rfl, rfl⟩

/-- two digits at least. -/
def padB (d : ByteArray) : ByteArray := if d.size < 2 then ⟨#[48]⟩ ++ d else d
def twoB (n : Int) : ByteArray := if n < 0 then ⟨#[45]⟩ ++ padB (dgB n) else padB (dgB n)
set_option maxRecDepth 100000 in
set_option maxHeartbeats 1000000 in
theorem two_core (n : Int) (S D : ByteArray) (b : Bool) (hD : D.size ≤ 19)
    (H1 : Hid (∀ w : World, Tab w → Calls Tryz.prog 93 #[.int .i64 n, .int .i64 10] w fun e w' => e = .returned (.string S) ∧ Below w.heap.size w w'))
    (H2 : Hid (∀ w : World, Calls Tryz.prog 103 #[.string S, .string ⟨#[45]⟩] w fun e w' => e = .returned (.tuple #[.string D, .bool b]) ∧ w' = w))
    (w : World) (hT : Hid (Tab w)) :
    Calls Tryz.prog 73 #[.int .i64 n] w fun e w' => e = .returned (.string (if b then ⟨#[45]⟩ ++ padB D else padB D)) ∧ Below w.heap.size w w' := by
  by_cases hs : D.size < 2
  · have hs' : (D.size : Int) < 2 := by omega
    have hp : Hid (padB D = ⟨#[48]⟩ ++ D) := if_pos hs
    cases b
    all_goals
      go_enter Tryz.func73, Tryz.ntmps73
      go_wp2_with fail
      refine (H1.out _ hT.out).mono ?_
      rintro e w1 ⟨rfl, hb⟩
      go_wp2_with fail
      refine (H2.out _).mono ?_
      rintro e w2 ⟨rfl, rfl⟩
      go_wp2
      go_ret
      exact ⟨by rw [hp.out]; rfl, hb⟩
  · have hs' : ¬ (D.size : Int) < 2 := by omega
    have hp : Hid (padB D = D) := if_neg hs
    cases b
    all_goals
      go_enter Tryz.func73, Tryz.ntmps73
      go_wp2_with fail
      refine (H1.out _ hT.out).mono ?_
      rintro e w1 ⟨rfl, hb⟩
      go_wp2_with fail
      refine (H2.out _).mono ?_
      rintro e w2 ⟨rfl, rfl⟩
      go_wp2
      go_ret
      exact ⟨by rw [hp.out]; rfl, hb⟩

theorem two_any (n : Int) (h0 : -9223372036854775808 ≤ n) (h1 : n ≤ 9223372036854775807) (w : World) (hT : Tab w) :
    Calls Tryz.prog 73 #[.int .i64 n] w fun e w' => e = .returned (.string (twoB n)) ∧ Below w.heap.size w w' := by
  have H2 : ∀ w : World, Calls Tryz.prog 103 #[.string ⟨(Lib.itoa n).toArray⟩, .string ⟨#[45]⟩] w fun e w' => e = .returned (.tuple #[.string (dgB n), .bool (decide (n < 0))]) ∧ w' = w := fun w => by
    have h := Tryz.strings_CutPrefix ⟨(Lib.itoa n).toArray⟩ ⟨#[45]⟩ w
    have e : (⟨(Lib.itoa n).toArray⟩ : ByteArray).data.toList = Lib.itoa n := rfl
    rw [e, show (⟨#[45]⟩ : ByteArray).data.toList = [45] from rfl, (cut_itoa n).1, (cut_itoa n).2] at h
    exact h
  have R := two_core n _ _ _ (dgB_size h0 h1) (fun w h => formatInt_any n h0 h1 w h) H2 w hT
  unfold twoB
  by_cases h : n < 0
  · rw [if_pos h]; rw [decide_eq_true h] at R; exact R
  · rw [if_neg h]; rw [decide_eq_false h] at R; exact R

end Go.Proofs.YtgnfkkcagbbhmaaGreatDoor.Clk
