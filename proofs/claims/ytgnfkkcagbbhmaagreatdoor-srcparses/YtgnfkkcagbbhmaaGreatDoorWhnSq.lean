/- Contracts: the reference's ReadOn, the ways of a weekday and a number. -/
import Derived.Test.YtgnfkkcagbbhmaaGreatDoorWhnRq
import Derived.Test.YtgnfkkcagbbhmaaGreatDoorClkRq
namespace Go.Proofs.YtgnfkkcagbbhmaaGreatDoor
open Go.RowKit
set_option linter.unusedVariables false

/-- no sign of a weekday's side stands there. -/
def noE (l : List UInt8) (j : Nat) : Prop := l[j + 1]? ≠ some 61 ∨ (l[j]? ≠ some 62 ∧ l[j]? ≠ some 60)
def RdE (w : World) (b : Nat) (W : World) : Prop := ∃ k d n, RdS w b k d n W
theorem RdE.below {w W W1 : World} {b : Nat} (h : RdE w b W) (hb : Below W.heap.size W W1) : RdE w b W1 := by obtain ⟨k, d, n, r⟩ := h; exact ⟨k, d, n, r.below hb⟩
theorem RdS.drew {w W : World} {b : Nat} {k d n : Int} (h : RdS w b k d n W) : RdS w b k d n W.drew := ⟨⟨h.1.1, h.1.2.1, h.1.2.2.1, h.1.2.2.2.1, h.1.2.2.2.2.1, h.1.2.2.2.2.2.1, h.1.2.2.2.2.2.2.1, h.1.2.2.2.2.2.2.2.drew⟩, h.2.1, h.2.2⟩
theorem ix1 (s : ByteArray) (l : List UInt8) (i : Nat) (x : UInt8) (hs : s = ⟨l.toArray⟩) (hx : l[i + 1]? = some x) (w0 : World) : (Instr.index 9 (.string s) (.int .i64 ((i : Int) + 1))).run Tryz.prog w0 = .ok (.int .u8 (x.toNat : Int)) w0 := by
  have := Clk.ix_of s l (i + 1) x hs hx w0
  rw [show ((i + 1 : Nat) : Int) = (i : Int) + 1 by simp] at this
  exact this

set_option maxRecDepth 100000 in
set_option maxHeartbeats 8000000 in
theorem ern_none_few (s : ByteArray) (N : Int) (h : N < 0) (hz : ¬ 4 < s.size) (hz2 : s.size ≤ 140737488351232) (l : List UInt8) (hs : Hid (s = ⟨l.toArray⟩)) (hl : s.size = l.length) (hno : Hid (∀ j, noE l j))
    (SH : Hid (∀ w : World, Calls Tryz.prog 118 #[.string s] w fun e w' => e = .returned (.int .i64 N) ∧ Below w.heap.size w w'))
    (RO : Hid (∀ w : World, Calls Tryz.prog 65 #[.agg #[.int .i64 (-1), .int .i64 0, .int .i64 0]] w fun e w' => e = .returned (.bool false) ∧ Below w.heap.size w w'))
    (w : World) :
    Calls Tryz.prog 88 #[.string s] w fun e w' => e = .returned (.tuple #[.agg #[.int .i64 0, .int .i64 0, .int .i64 0], .int .i64 21]) ∧ Below w.heap.size w w' := by
  have S0 : Hid (ResB w w.heap.size (w.alloc (.cells #[.int .i64 0, .int .i64 0, .int .i64 0] 67))) := ResB.new w _
  have h2 : ¬ (4 : Int) < (s.size : Int) := by omega
  rw [hl] at hz2
  go_enter Tryz.func88, Tryz.ntmps88
  go_wp2_with fail
  refine (SH.out _).mono ?_
  rintro e w1 ⟨rfl, hb⟩
  have R1 : Hid (ResB w w.heap.size w1) := S0.out.below hb
  clear hb S0
  have S1 : Hid (RdS w w1.heap.size (-1) 0 0 (w1.alloc (.cells #[.int .i64 (-1), .int .i64 0, .int .i64 0] 67))) := RdS.new R1.out _ _ _ _
  have S2 := S1
  clear S1
  go_wp2_with fail
  go_loopw [5] (fun iv W => ∃ i : Nat, i ≤ l.length ∧ iv = .int .i64 (i : Int) ∧ RdS w w1.heap.size (-1) 0 0 W) (fun iv _ => l.length - (intOf iv).toNat)
  case atStart => exact ⟨0, Nat.zero_le _, rfl, S2.out⟩
  case round =>
    obtain ⟨i, hi, rfl, hS⟩ := hrel
    have HS : Hid (RdS w w1.heap.size (-1) 0 0 wr) := hS
    obtain ⟨_, ⟨x1, x2, x3, x4, x5, x6, x7⟩, x8⟩ := hS
    by_cases hlt : i + 1 < l.length
    · have hlt' : (i : Int) + 1 < (l.length : Int) := by omega
      obtain ⟨a, ha⟩ : ∃ a, l[i]? = some a := ⟨l[i]'(by omega), List.getElem?_eq_getElem (by omega)⟩
      obtain ⟨c, hc⟩ : ∃ c, l[i + 1]? = some c := ⟨l[i + 1]'hlt, List.getElem?_eq_getElem hlt⟩
      have i1 := Clk.ix_of s l i a hs.out ha
      have i2 := ix1 s l i c hs.out hc
      have hn := hno.out i
      unfold noE at hn
      rw [ha, hc] at hn
      by_cases c1 : c = 61
      · have hn' : a ≠ 62 ∧ a ≠ 60 := by
          rcases hn with hn | hn
          · exact absurd (by rw [c1]) hn
          · exact ⟨fun e => hn.1 (by rw [e]), fun e => hn.2 (by rw [e])⟩
        have b1 : ((a.toNat : Int) == 62) = false := beq_eq_false_iff_ne.2 (fun e => hn'.1 (UInt8.toNat_inj.1 (by have : (62 : UInt8).toNat = 62 := rfl; omega)))
        have b2 : ((a.toNat : Int) == 60) = false := beq_eq_false_iff_ne.2 (fun e => hn'.2 (UInt8.toNat_inj.1 (by have : (60 : UInt8).toNat = 60 := rfl; omega)))
        have b3 : ((c.toNat : Int) == 61) = true := by rw [c1]; rfl
        clear hn hn' c1 ha hc
        generalize (a.toNat : Int) = A at *
        generalize (c.toNat : Int) = Q at *
        go_wp2_with fail
        go_roundw
        case rel => exact ⟨i + 1, by omega, by go_num, HS.out⟩
        case measure => simp [intOf]; omega
      · have b3 : ((c.toNat : Int) == 61) = false := beq_eq_false_iff_ne.2 (fun e => c1 (UInt8.toNat_inj.1 (by have : (61 : UInt8).toNat = 61 := rfl; omega)))
        clear hn c1 ha hc
        generalize (a.toNat : Int) = A at *
        generalize (c.toNat : Int) = Q at *
        go_wp2_with fail
        go_roundw
        case rel => exact ⟨i + 1, by omega, by go_num, HS.out⟩
        case measure => simp [intOf]; omega
    · have hlt' : ¬ (i : Int) + 1 < (l.length : Int) := by omega
      go_wp2_with fail
      refine (RO.out _).mono ?_
      rintro e w9 ⟨rfl, hb⟩
      have S9 : Hid (RdS w w1.heap.size (-1) 0 0 w9) := (HS.out).below hb
      clear hb
      obtain ⟨⟨q1, q2, q3, q4, q5, q6, q7, q8⟩, ⟨z1, z2, z3, z4, z5, z6, z7⟩, z8⟩ := id S9.out
      obtain ⟨y1, y2, y3⟩ := three_set (x := .int .i64 0) (y := .int .i64 0) (z := .int .i64 0) q2 q3 q4
      have HB : Hid (Below w.heap.size w w9) := q8
      clear q8
      go_wp2
      refine bodyPost_ret (v := .tuple #[.agg #[.int .i64 0, .int .i64 0, .int .i64 0], .int .i64 21]) (by simp [results, Tryz.results88, go_sem, y1, y2, y3]) rfl ⟨rfl, ?_⟩
      exact ((HB.out.setCell (Nat.le_refl _) _).setCell (Nat.le_refl _) _).setCell (Nat.le_refl _) _

set_option maxRecDepth 100000 in
set_option maxHeartbeats 8000000 in
theorem ern_none_not (s : ByteArray) (N : Int) (h : N < 0) (hz : 4 < s.size) (hz2 : s.size ≤ 140737488351232) (l : List UInt8) (hs : Hid (s = ⟨l.toArray⟩)) (hl : s.size = l.length) (hno : Hid (∀ j, noE l j))
    (SH : Hid (∀ w : World, Calls Tryz.prog 118 #[.string s] w fun e w' => e = .returned (.int .i64 N) ∧ Below w.heap.size w w'))
    (SA : Hid (∀ w : World, Calls Tryz.prog 54 #[.string (s.extract 0 4), .string ⟨#[108, 97, 115, 116]⟩] w fun e w' => e = .returned (.bool false) ∧ Below w.heap.size w w'))
    (RO : Hid (∀ w : World, Calls Tryz.prog 65 #[.agg #[.int .i64 (-1), .int .i64 0, .int .i64 0]] w fun e w' => e = .returned (.bool false) ∧ Below w.heap.size w w'))
    (w : World) :
    Calls Tryz.prog 88 #[.string s] w fun e w' => e = .returned (.tuple #[.agg #[.int .i64 0, .int .i64 0, .int .i64 0], .int .i64 21]) ∧ Below w.heap.size w w' := by
  have S0 : Hid (ResB w w.heap.size (w.alloc (.cells #[.int .i64 0, .int .i64 0, .int .i64 0] 67))) := ResB.new w _
  have h2 : (4 : Int) < (s.size : Int) := by omega
  rw [hl] at hz2
  go_enter Tryz.func88, Tryz.ntmps88
  go_wp2_with fail
  refine (SH.out _).mono ?_
  rintro e w1 ⟨rfl, hb⟩
  have R1 : Hid (ResB w w.heap.size w1) := S0.out.below hb
  clear hb S0
  have S1 : Hid (RdS w w1.heap.size (-1) 0 0 (w1.alloc (.cells #[.int .i64 (-1), .int .i64 0, .int .i64 0] 67))) := RdS.new R1.out _ _ _ _
  go_wp2_with fail
  refine (SA.out _).mono ?_
  rintro e w2 ⟨rfl, hb⟩
  have S2 : Hid (RdS w w1.heap.size (-1) 0 0 w2) := S1.out.below hb
  clear hb S1
  go_wp2_with fail
  go_loopw [5] (fun iv W => ∃ i : Nat, i ≤ l.length ∧ iv = .int .i64 (i : Int) ∧ RdS w w1.heap.size (-1) 0 0 W) (fun iv _ => l.length - (intOf iv).toNat)
  case atStart => exact ⟨0, Nat.zero_le _, rfl, S2.out⟩
  case round =>
    obtain ⟨i, hi, rfl, hS⟩ := hrel
    have HS : Hid (RdS w w1.heap.size (-1) 0 0 wr) := hS
    obtain ⟨_, ⟨x1, x2, x3, x4, x5, x6, x7⟩, x8⟩ := hS
    by_cases hlt : i + 1 < l.length
    · have hlt' : (i : Int) + 1 < (l.length : Int) := by omega
      obtain ⟨a, ha⟩ : ∃ a, l[i]? = some a := ⟨l[i]'(by omega), List.getElem?_eq_getElem (by omega)⟩
      obtain ⟨c, hc⟩ : ∃ c, l[i + 1]? = some c := ⟨l[i + 1]'hlt, List.getElem?_eq_getElem hlt⟩
      have i1 := Clk.ix_of s l i a hs.out ha
      have i2 := ix1 s l i c hs.out hc
      have hn := hno.out i
      unfold noE at hn
      rw [ha, hc] at hn
      by_cases c1 : c = 61
      · have hn' : a ≠ 62 ∧ a ≠ 60 := by
          rcases hn with hn | hn
          · exact absurd (by rw [c1]) hn
          · exact ⟨fun e => hn.1 (by rw [e]), fun e => hn.2 (by rw [e])⟩
        have b1 : ((a.toNat : Int) == 62) = false := beq_eq_false_iff_ne.2 (fun e => hn'.1 (UInt8.toNat_inj.1 (by have : (62 : UInt8).toNat = 62 := rfl; omega)))
        have b2 : ((a.toNat : Int) == 60) = false := beq_eq_false_iff_ne.2 (fun e => hn'.2 (UInt8.toNat_inj.1 (by have : (60 : UInt8).toNat = 60 := rfl; omega)))
        have b3 : ((c.toNat : Int) == 61) = true := by rw [c1]; rfl
        clear hn hn' c1 ha hc
        generalize (a.toNat : Int) = A at *
        generalize (c.toNat : Int) = Q at *
        go_wp2_with fail
        go_roundw
        case rel => exact ⟨i + 1, by omega, by go_num, HS.out⟩
        case measure => simp [intOf]; omega
      · have b3 : ((c.toNat : Int) == 61) = false := beq_eq_false_iff_ne.2 (fun e => c1 (UInt8.toNat_inj.1 (by have : (61 : UInt8).toNat = 61 := rfl; omega)))
        clear hn c1 ha hc
        generalize (a.toNat : Int) = A at *
        generalize (c.toNat : Int) = Q at *
        go_wp2_with fail
        go_roundw
        case rel => exact ⟨i + 1, by omega, by go_num, HS.out⟩
        case measure => simp [intOf]; omega
    · have hlt' : ¬ (i : Int) + 1 < (l.length : Int) := by omega
      go_wp2_with fail
      refine (RO.out _).mono ?_
      rintro e w9 ⟨rfl, hb⟩
      have S9 : Hid (RdS w w1.heap.size (-1) 0 0 w9) := (HS.out).below hb
      clear hb
      obtain ⟨⟨q1, q2, q3, q4, q5, q6, q7, q8⟩, ⟨z1, z2, z3, z4, z5, z6, z7⟩, z8⟩ := id S9.out
      obtain ⟨y1, y2, y3⟩ := three_set (x := .int .i64 0) (y := .int .i64 0) (z := .int .i64 0) q2 q3 q4
      have HB : Hid (Below w.heap.size w w9) := q8
      clear q8
      go_wp2
      refine bodyPost_ret (v := .tuple #[.agg #[.int .i64 0, .int .i64 0, .int .i64 0], .int .i64 21]) (by simp [results, Tryz.results88, go_sem, y1, y2, y3]) rfl ⟨rfl, ?_⟩
      exact ((HB.out.setCell (Nat.le_refl _) _).setCell (Nat.le_refl _) _).setCell (Nat.le_refl _) _

end Go.Proofs.YtgnfkkcagbbhmaaGreatDoor
