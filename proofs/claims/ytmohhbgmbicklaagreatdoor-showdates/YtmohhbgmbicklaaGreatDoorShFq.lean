/- A date, a stamp in any style: both sides; ShowDates over its callees. -/
import Derived.Test.YtmohhbgmbicklaaGreatDoorShDq
import Derived.Test.YtmohhbgmbicklaaGreatDoorShEq
import Derived.Test.YtmohhbgmbicklaaGreatDoorDigDq
import Derived.Deep.CutRange
import Derived.Deep.DeepCutAuto
namespace Go.Proofs.YtmohhbgmbicklaaGreatDoor
open Go.RowKit
set_option linter.unusedVariables false

set_option maxRecDepth 100000 in
set_option maxHeartbeats 4000000 in
theorem joined_none (w : World) : Calls Tryz.prog 20 #[.string ⟨#[]⟩, .slice none 0 0] w fun e w' => e = .returned (.string ⟨#[]⟩) ∧ Below w.heap.size w w' := by
  go_enter Tryz.func20, Tryz.ntmps20
  go_wp2_with fail
  go_loopw [5, 22] (fun sv iv wr => iv = .int .i64 0 ∧ sv = .int .i64 0 ∧ wr = w) (fun _ _ _ => 0)
  case atStart => exact ⟨rfl, rfl, rfl⟩
  case round =>
    obtain ⟨rfl, rfl, hw⟩ := hrel
    obtain rfl := hw.symm
    clear hw
    have hmk := make_by 0 (by decide) w
    have HJ0 : Hid (JW w w.heap.size (w.heap.size + 1) (w.heap.size + 1 + 1) 0 [] (((w.alloc (.cells (bts (List.replicate 0 0)).toArray 5)).alloc (.cells #[.slice (some ⟨w.heap.size, 0, none⟩) 0 0] 76)).alloc (.cells #[.int .i64 0] 3))) := by
      have k1 := (((BS.start w).new (bts (List.replicate 0 0)) 5 rfl).new [.slice (some ⟨w.heap.size, 0, none⟩) 0 0] 76 (b := w.heap.size + 1) (by simp)).new [.int .i64 0] 3 (b := w.heap.size + 2) (by simp)
      exact ⟨k1.1, Nat.le_refl _, by omega, by omega, by omega, by omega, by omega, Nat.zero_le _, k1.at _ (bts (List.replicate 0 0)) (by simp), k1.at _ _ (by simp), k1.at _ _ (by simp)⟩
    rw [show ((0 : Nat) : Int) = 0 from rfl] at hmk
    go_upto_region 8 with fail
    refine gen_to (fun V => Hid (JW w w.heap.size (w.heap.size + 1) (w.heap.size + 1 + 1) 0 [] V)) HJ0 ?_
    clear HJ0 hmk
    intro W1 K1
    go_wp2_with fail
    go_loopw [36] (fun iv wr => iv = .int .i64 0 ∧ Hid (JW w w.heap.size (w.heap.size + 1) (w.heap.size + 1 + 1) 0 [] wr)) (fun _ _ => 0)
    case atStart => exact ⟨rfl, K1⟩
    case round =>
      clear K1
      obtain ⟨rfl, HJ⟩ := hrel
      have c2 := HJ.out.x2.c1
      have hcb := run_convert_bytes_back (P := Tryz.prog) wr 76 9 5 ⟨w.heap.size, 0, none⟩ 0 [] Tryz.underlying76 Tryz.underlying5 Tryz.underlying9 (fun j hj => absurd hj (Nat.not_lt_zero _))
      simp only [List.length_nil] at hcb
      have HB : Hid (Below w.heap.size w wr) := HJ.out.below
      clear HJ
      go_wp2_with fail
      go_ret
      exact ⟨rfl, HB.out⟩

theorem two_fin : ∀ n : Fin 100, (Clk.twoB (n.val : Int)).data.toList = [UInt8.ofNat (48 + n.val / 10), UInt8.ofNat (48 + n.val % 10)] := by decide +kernel
theorem year_fin : ∀ n : Fin 100, (Clk.twoB 0 ++ Clk.twoB (n.val : Int)).data.toList = (pad4 (dg (n.val : Int))).data.toList := by decide +kernel
theorem ba_eq {a b : ByteArray} (h : a.data.toList = b.data.toList) : a = b := by apply ByteArray.ext; apply Array.ext'; exact h
theorem year_text (y : Int) (h0 : 0 ≤ y) : pad4 (dg y) = Clk.twoB (y / 100) ++ Clk.twoB (y % 100) := by
  obtain ⟨k, rfl⟩ : ∃ k : Nat, y = (k : Int) := ⟨y.toNat, by omega⟩
  rw [show (k : Int) / 100 = ((k / 100 : Nat) : Int) by omega, show (k : Int) % 100 = ((k % 100 : Nat) : Int) by omega]
  apply ba_eq
  by_cases h : k < 100
  · rw [show k / 100 = 0 by omega, show k % 100 = k by omega]
    exact (year_fin ⟨k, h⟩).symm
  · have e2 := two_fin ⟨k % 100, by omega⟩
    simp only at e2
    have d : Lib.decDigits k = Lib.decDigits (k / 100) ++ [UInt8.ofNat (48 + k % 100 / 10), UInt8.ofNat (48 + k % 100 % 10)] := by
      rw [Clk.dec_step (x := k) (by omega), Clk.dec_step (x := k / 10) (by omega), show k / 10 / 10 = k / 100 by omega, show k / 10 % 10 = k % 100 / 10 by omega, show k % 10 = k % 100 % 10 by omega]
      simp
    have e1 : Clk.twoB ((k / 100 : Nat) : Int) = Clk.padB ⟨(Lib.decDigits (k / 100)).toArray⟩ := by
      unfold Clk.twoB Clk.dgB
      rw [if_neg (by omega), Int.natAbs_natCast]
    have eD : dg (k : Int) = ⟨(Lib.decDigits (k / 100) ++ [UInt8.ofNat (48 + k % 100 / 10), UInt8.ofNat (48 + k % 100 % 10)]).toArray⟩ := by
      unfold dg
      rw [show Lib.itoa (k : Int) = Lib.decDigits k by unfold Lib.itoa; rw [if_neg (by omega)]; simp, d]
    rw [ByteArray.data_append, Array.toList_append, e2, e1, eD]
    obtain ⟨c, l, hcl, _⟩ := Clk.digit_head (k / 100)
    rw [hcl]
    have q : (⟨(c :: l ++ [UInt8.ofNat (48 + k % 100 / 10), UInt8.ofNat (48 + k % 100 % 10)]).toArray⟩ : ByteArray).size = l.length + 3 := by simp [ByteArray.size]
    have q2 : (⟨(c :: l).toArray⟩ : ByteArray).size = l.length + 1 := by simp [ByteArray.size]
    unfold pad4 Clk.padB
    rw [q, q2]
    cases l with
    | nil => simp
    | cons a t => rw [if_neg (by simp), show 4 - ((a :: t).length + 3) = 0 by simp]; simp

theorem year_bd {d y m q : Int} (hd : Dy.dok d = true) (hq : Cv.Is d y m q) : -10000 ≤ y ∧ y ≤ 400000 := by
  obtain ⟨a, b⟩ := Dy.dok_yes hd
  obtain ⟨c, e⟩ := Cv.is_year hq
  unfold Cv.S at c e
  omega
theorem tw_100' {n : Int} (h0 : -9223372036854775808 ≤ n) (h1 : n ≤ 9223372036854775807) : (Clk.twoB n).size ≤ 21 := Clk.twoB_size h0 h1

set_option maxHeartbeats 4000000 in
/-- a date in a style: both sides say the same. -/
theorem both_dt (d o r p : Int) (hd : Dy.dok d = true) (hs : stR o r p = true) : ∃ X E : ByteArray, X.size ≤ 100 ∧ E.size ≤ 100 ∧
    (∀ w : World, LT w → Calls Tryz.prog 19 #[.agg #[.int .i64 0, .int .i64 d], .agg #[.int .i64 o, .int .i64 r, .int .i64 p]] w fun r' w' => r' = .returned (.tuple #[.string X, .string E]) ∧ Below w.heap.size w w') ∧
    (∀ w : World, Calls Tryz.prog 23 #[.agg #[.int .i64 0, .int .i64 d], .agg #[.int .i64 o, .int .i64 r, .int .i64 p]] w fun r' w' => r' = .returned (.tuple #[.string X, .string E]) ∧ Below w.heap.size w w') := by
  obtain ⟨y, m, q, hq⟩ := Cv.is_date d
  have PP : Dy.PartsIs 0 d y m q 0 := .inr (.inr ⟨rfl, hd, hq, rfl⟩)
  obtain ⟨b1, b2⟩ := year_bd hd hq
  obtain ⟨m1, m2, q1, q2, _⟩ := hq
  have q3 := (Cv.len_bd y m).2
  have PA : ∀ w : World, LT w → _ := fun w hw => Dy.parts_any 0 d y m q 0 PP w hw.1
  have PR := fun w => Dy.rparts_any 0 d y m q 0 PP w
  have zM := tw_100' (n := m) (by omega) (by omega)
  have zQ := tw_100' (n := q) (by omega) (by omega)
  have e45 : (⟨#[45]⟩ : ByteArray).size = 1 := rfl
  have e47 : (⟨#[47]⟩ : ByteArray).size = 1 := rfl
  have h4 : o = 0 ∨ (o = 1 ∧ (r = 0 ∨ r = 1 ∨ r = 2)) := by simp [stR] at hs; omega
  by_cases hy : 1 ≤ y
  · have zA := tw_100' (n := y / 100) (by omega) (by omega)
    have zB := tw_100' (n := y % 100) (by omega) (by omega)
    have zD := dg_size y (by omega) (by omega)
    have HY := year_text y (by omega)
    have zY : (Clk.twoB (y / 100) ++ Clk.twoB (y % 100)).size ≤ 42 := by rw [ByteArray.size_append]; omega
    rcases h4 with rfl | ⟨rfl, rfl | rfl | rfl⟩
    · exact ⟨_, _, by simp only [ByteArray.size_append] at *; omega, by decide, fun w hw => dated_iso0 d y m q r p _ _ _ _ _ _ hy (by omega) PA (fun w hw => Clk.two_any (y / 100) (by omega) (by omega) w hw.2) (fun w hw => Clk.two_any (y % 100) (by omega) (by omega) w hw.2) (fun b w h => je2 _ _ (by omega) (by omega) b w h) (fun w hw => Clk.two_any m (by omega) (by omega) w hw.2) (fun w hw => Clk.two_any q (by omega) (by omega) w hw.2) (fun b w h => jm3 ⟨#[45]⟩ (by decide) (Clk.twoB (y / 100) ++ Clk.twoB (y % 100)) (Clk.twoB m) (Clk.twoB q) (by omega) (by omega) (by omega) b w h) w (LT.of hw),
        fun w => rdt_iso0 d y m q r p (dg y) (Clk.twoB m) (Clk.twoB q) _ (by omega) (by omega) (by omega) HY hy (by omega) PR (fun w => Clk.digits_any y (by omega) (by omega) w) (fun w => Clk.etwo_any m (by omega) (by omega) w) (fun w => Clk.etwo_any q (by omega) (by omega) w) w⟩
    · exact ⟨_, _, by simp only [ByteArray.size_append] at *; omega, by decide, fun w hw => dated_ymd0 d y m q 0 p _ _ _ _ _ _ hy (by omega) PA (fun w hw => Clk.two_any (y / 100) (by omega) (by omega) w hw.2) (fun w hw => Clk.two_any (y % 100) (by omega) (by omega) w hw.2) (fun b w h => je2 _ _ (by omega) (by omega) b w h) (fun w hw => Clk.two_any m (by omega) (by omega) w hw.2) (fun w hw => Clk.two_any q (by omega) (by omega) w hw.2) (fun b w h => jm3 ⟨#[47]⟩ (by decide) (Clk.twoB (y / 100) ++ Clk.twoB (y % 100)) (Clk.twoB m) (Clk.twoB q) (by omega) (by omega) (by omega) b w h) w (LT.of hw),
        fun w => rdt_ymd0 d y m q 0 p (dg y) (Clk.twoB m) (Clk.twoB q) _ (by omega) (by omega) (by omega) HY hy (by omega) PR (fun w => Clk.digits_any y (by omega) (by omega) w) (fun w => Clk.etwo_any m (by omega) (by omega) w) (fun w => Clk.etwo_any q (by omega) (by omega) w) w⟩
    · exact ⟨_, _, by simp only [ByteArray.size_append] at *; omega, by decide, fun w hw => dated_dmy0 d y m q 0 p _ _ _ _ _ _ hy (by omega) PA (fun w hw => Clk.two_any (y / 100) (by omega) (by omega) w hw.2) (fun w hw => Clk.two_any (y % 100) (by omega) (by omega) w hw.2) (fun b w h => je2 _ _ (by omega) (by omega) b w h) (fun w hw => Clk.two_any m (by omega) (by omega) w hw.2) (fun w hw => Clk.two_any q (by omega) (by omega) w hw.2) (fun b w h => jm3 ⟨#[47]⟩ (by decide) (Clk.twoB q) (Clk.twoB m) (Clk.twoB (y / 100) ++ Clk.twoB (y % 100)) (by omega) (by omega) (by omega) b w h) w (LT.of hw),
        fun w => rdt_dmy0 d y m q 0 p (dg y) (Clk.twoB m) (Clk.twoB q) _ (by omega) (by omega) (by omega) HY hy (by omega) PR (fun w => Clk.digits_any y (by omega) (by omega) w) (fun w => Clk.etwo_any m (by omega) (by omega) w) (fun w => Clk.etwo_any q (by omega) (by omega) w) w⟩
    · exact ⟨_, _, by simp only [ByteArray.size_append] at *; omega, by decide, fun w hw => dated_mdy0 d y m q 0 p _ _ _ _ _ _ hy (by omega) PA (fun w hw => Clk.two_any (y / 100) (by omega) (by omega) w hw.2) (fun w hw => Clk.two_any (y % 100) (by omega) (by omega) w hw.2) (fun b w h => je2 _ _ (by omega) (by omega) b w h) (fun w hw => Clk.two_any m (by omega) (by omega) w hw.2) (fun w hw => Clk.two_any q (by omega) (by omega) w hw.2) (fun b w h => jm3 ⟨#[47]⟩ (by decide) (Clk.twoB m) (Clk.twoB q) (Clk.twoB (y / 100) ++ Clk.twoB (y % 100)) (by omega) (by omega) (by omega) b w h) w (LT.of hw),
        fun w => rdt_mdy0 d y m q 0 p (dg y) (Clk.twoB m) (Clk.twoB q) _ (by omega) (by omega) (by omega) HY hy (by omega) PR (fun w => Clk.digits_any y (by omega) (by omega) w) (fun w => Clk.etwo_any m (by omega) (by omega) w) (fun w => Clk.etwo_any q (by omega) (by omega) w) w⟩
  · have y1 : y ≤ 0 := by omega
    have zA := tw_100' (n := (1 - y) / 100) (by omega) (by omega)
    have zB := tw_100' (n := (1 - y) % 100) (by omega) (by omega)
    have zD := dg_size (1 - y) (by omega) (by omega)
    have HY := year_text (1 - y) (by omega)
    have zY : (Clk.twoB ((1 - y) / 100) ++ Clk.twoB ((1 - y) % 100)).size ≤ 42 := by rw [ByteArray.size_append]; omega
    rcases h4 with rfl | ⟨rfl, rfl | rfl | rfl⟩
    · exact ⟨_, _, by simp only [ByteArray.size_append] at *; omega, by decide, fun w hw => dated_iso1 d y m q r p _ _ _ _ _ _ y1 (by omega) PA (fun w hw => Clk.two_any ((1 - y) / 100) (by omega) (by omega) w hw.2) (fun w hw => Clk.two_any ((1 - y) % 100) (by omega) (by omega) w hw.2) (fun b w h => je2 _ _ (by omega) (by omega) b w h) (fun w hw => Clk.two_any m (by omega) (by omega) w hw.2) (fun w hw => Clk.two_any q (by omega) (by omega) w hw.2) (fun b w h => jm3 ⟨#[45]⟩ (by decide) (Clk.twoB ((1 - y) / 100) ++ Clk.twoB ((1 - y) % 100)) (Clk.twoB m) (Clk.twoB q) (by omega) (by omega) (by omega) b w h) w (LT.of hw),
        fun w => rdt_iso1 d y m q r p (dg (1 - y)) (Clk.twoB m) (Clk.twoB q) _ (by omega) (by omega) (by omega) HY y1 (by omega) PR (fun w => Clk.digits_any (1 - y) (by omega) (by omega) w) (fun w => Clk.etwo_any m (by omega) (by omega) w) (fun w => Clk.etwo_any q (by omega) (by omega) w) w⟩
    · exact ⟨_, _, by simp only [ByteArray.size_append] at *; omega, by decide, fun w hw => dated_ymd1 d y m q 0 p _ _ _ _ _ _ y1 (by omega) PA (fun w hw => Clk.two_any ((1 - y) / 100) (by omega) (by omega) w hw.2) (fun w hw => Clk.two_any ((1 - y) % 100) (by omega) (by omega) w hw.2) (fun b w h => je2 _ _ (by omega) (by omega) b w h) (fun w hw => Clk.two_any m (by omega) (by omega) w hw.2) (fun w hw => Clk.two_any q (by omega) (by omega) w hw.2) (fun b w h => jm3 ⟨#[47]⟩ (by decide) (Clk.twoB ((1 - y) / 100) ++ Clk.twoB ((1 - y) % 100)) (Clk.twoB m) (Clk.twoB q) (by omega) (by omega) (by omega) b w h) w (LT.of hw),
        fun w => rdt_ymd1 d y m q 0 p (dg (1 - y)) (Clk.twoB m) (Clk.twoB q) _ (by omega) (by omega) (by omega) HY y1 (by omega) PR (fun w => Clk.digits_any (1 - y) (by omega) (by omega) w) (fun w => Clk.etwo_any m (by omega) (by omega) w) (fun w => Clk.etwo_any q (by omega) (by omega) w) w⟩
    · exact ⟨_, _, by simp only [ByteArray.size_append] at *; omega, by decide, fun w hw => dated_dmy1 d y m q 0 p _ _ _ _ _ _ y1 (by omega) PA (fun w hw => Clk.two_any ((1 - y) / 100) (by omega) (by omega) w hw.2) (fun w hw => Clk.two_any ((1 - y) % 100) (by omega) (by omega) w hw.2) (fun b w h => je2 _ _ (by omega) (by omega) b w h) (fun w hw => Clk.two_any m (by omega) (by omega) w hw.2) (fun w hw => Clk.two_any q (by omega) (by omega) w hw.2) (fun b w h => jm3 ⟨#[47]⟩ (by decide) (Clk.twoB q) (Clk.twoB m) (Clk.twoB ((1 - y) / 100) ++ Clk.twoB ((1 - y) % 100)) (by omega) (by omega) (by omega) b w h) w (LT.of hw),
        fun w => rdt_dmy1 d y m q 0 p (dg (1 - y)) (Clk.twoB m) (Clk.twoB q) _ (by omega) (by omega) (by omega) HY y1 (by omega) PR (fun w => Clk.digits_any (1 - y) (by omega) (by omega) w) (fun w => Clk.etwo_any m (by omega) (by omega) w) (fun w => Clk.etwo_any q (by omega) (by omega) w) w⟩
    · exact ⟨_, _, by simp only [ByteArray.size_append] at *; omega, by decide, fun w hw => dated_mdy1 d y m q 0 p _ _ _ _ _ _ y1 (by omega) PA (fun w hw => Clk.two_any ((1 - y) / 100) (by omega) (by omega) w hw.2) (fun w hw => Clk.two_any ((1 - y) % 100) (by omega) (by omega) w hw.2) (fun b w h => je2 _ _ (by omega) (by omega) b w h) (fun w hw => Clk.two_any m (by omega) (by omega) w hw.2) (fun w hw => Clk.two_any q (by omega) (by omega) w hw.2) (fun b w h => jm3 ⟨#[47]⟩ (by decide) (Clk.twoB m) (Clk.twoB q) (Clk.twoB ((1 - y) / 100) ++ Clk.twoB ((1 - y) % 100)) (by omega) (by omega) (by omega) b w h) w (LT.of hw),
        fun w => rdt_mdy1 d y m q 0 p (dg (1 - y)) (Clk.twoB m) (Clk.twoB q) _ (by omega) (by omega) (by omega) HY y1 (by omega) PR (fun w => Clk.digits_any (1 - y) (by omega) (by omega) w) (fun w => Clk.etwo_any m (by omega) (by omega) w) (fun w => Clk.etwo_any q (by omega) (by omega) w) w⟩

theorem textB_size (t : Int) (h : Clk.isT t) : (Clk.textB t).size ≤ 100 := by
  unfold Clk.isT at h
  have a := Clk.twoB_size (n := t / 3600000000) (by omega) (by omega)
  have b := Clk.twoB_size (n := t / 60000000 % 60) (by omega) (by omega)
  have c := Clk.twoB_size (n := t / 1000000 % 60) (by omega) (by omega)
  have f := Clk.fracB_size (t % 1000000)
  unfold Clk.textB Clk.faceB
  simp only [ByteArray.size_append]
  have e : (⟨#[58]⟩ : ByteArray).size = 1 := rfl
  omega

theorem both_date (i d o r p : Int) : ∃ (X : ByteArray) (e : Int),
    (∀ w : World, LT w → Calls Tryz.prog 6 #[.agg #[.int .i64 i, .int .i64 d], .agg #[.int .i64 o, .int .i64 r, .int .i64 p]] w fun r' w' => r' = .returned (.tuple #[.string X, .int .i64 e]) ∧ Below w.heap.size w w') ∧
    (∀ w : World, Calls Tryz.prog 7 #[.agg #[.int .i64 i, .int .i64 d], .agg #[.int .i64 o, .int .i64 r, .int .i64 p]] w fun r' w' => r' = .returned (.tuple #[.string X, .int .i64 e]) ∧ Below w.heap.size w w') := by
  have S1 := fun w => right19 o r p w
  have S2 := fun w => rright19 o r p w
  have P1 : ∀ w : World, LT w → _ := fun w hw => Dy.right_any i d w hw.1
  have P2 := fun w => Dy.rright_any i d w
  cases hs : stR o r p
  · rw [hs] at S1 S2
    cases hp : Dy.dR i d
    · rw [hp] at P2
      exact ⟨_, _, fun w _ => date_no1 i d o r p S1 w, fun w => rdate_no1 i d o r p P2 w⟩
    · rw [hp] at P2
      exact ⟨_, _, fun w _ => date_no1 i d o r p S1 w, fun w => rdate_no2 i d o r p P2 S2 w⟩
  · rw [hs] at S1 S2
    cases hp : Dy.dR i d
    · rw [hp] at P1 P2
      exact ⟨_, _, fun w hw => date_no2 i d o r p S1 P1 w (LT.of hw), fun w => rdate_no1 i d o r p P2 w⟩
    · rw [hp] at P1 P2
      by_cases hi : i = 0
      · subst hi
        obtain ⟨X, E, zX, zE, h1, h2⟩ := both_dt d o r p (by rw [← hp, Dy.dR_0]) hs
        exact ⟨X ++ E, 0, fun w hw => date_ok d o r p X E (X ++ E) S1 P1 h1 (fun b w h => je2 X E (by omega) (by omega) b w h) w (LT.of hw), fun w => rdate_ok d o r p X E zX zE P2 S2 h2 w⟩
      · exact ⟨endB i, 0, fun w hw => date_inf i d o r p (endB i) hi S1 P1 (fun w => end_any i hi w) w (LT.of hw), fun w => rdate_inf i d o r p (endB i) hi P2 S2 (fun w => inf_any i hi w) w⟩

theorem both_stamp (i u o r p : Int) (u1 : -9223372036854775808 ≤ u) (u2 : u ≤ 9223372036854775807) : ∃ (X : ByteArray) (e : Int),
    (∀ w : World, LT w → Calls Tryz.prog 8 #[.agg #[.int .i64 i, .int .i64 u], .agg #[.int .i64 o, .int .i64 r, .int .i64 p]] w fun r' w' => r' = .returned (.tuple #[.string X, .int .i64 e]) ∧ Below w.heap.size w w') ∧
    (∀ w : World, Calls Tryz.prog 9 #[.agg #[.int .i64 i, .int .i64 u], .agg #[.int .i64 o, .int .i64 r, .int .i64 p]] w fun r' w' => r' = .returned (.tuple #[.string X, .int .i64 e]) ∧ Below w.heap.size w w') := by
  have S1 := fun w => right19 o r p w
  have S2 := fun w => rright19 o r p w
  have P1 : ∀ w : World, LT w → _ := fun w hw => Dy.rst_any i u u1 u2 w hw.1
  have P2 := fun w => Dy.rrst_any i u u1 u2 w
  cases hs : stR o r p
  · rw [hs] at S1 S2
    cases hp : Dy.sR i u
    · rw [hp] at P2
      exact ⟨_, _, fun w _ => st_no1 i u o r p S1 w, fun w => rst_no1 i u o r p P2 w⟩
    · rw [hp] at P2
      exact ⟨_, _, fun w _ => st_no1 i u o r p S1 w, fun w => rst_no2 i u o r p P2 S2 w⟩
  · rw [hs] at S1 S2
    cases hp : Dy.sR i u
    · rw [hp] at P1 P2
      exact ⟨_, _, fun w hw => st_no2 i u o r p S1 P1 w (LT.of hw), fun w => rst_no1 i u o r p P2 w⟩
    · rw [hp] at P1 P2
      by_cases hi : i = 0
      · subst hi
        have hT : Clk.isT (u % 86400000000) := ⟨by omega, by omega⟩
        have zM := textB_size _ hT
        obtain ⟨X, E, zX, zE, h1, h2⟩ := both_dt (u / 86400000000) o r p (by rw [← hp, Dy.sR_0]) hs
        have OF : ∀ w : World, LT w → Calls Tryz.prog 48 #[.agg #[.int .i64 0, .int .i64 u]] w fun r' w' => r' = .returned (.tuple #[.agg #[.int .i64 0, .int .i64 (u / 86400000000)], .int .i64 (u % 86400000000), .int .i64 0]) ∧ Below w.heap.size w w' := fun w hw => by
          have R := Dy.sof_any 0 u u1 u2 w hw.1
          unfold Dy.ofI Dy.ofD Dy.ofU Dy.ofE at R
          rw [if_pos hp, if_pos ⟨hp, rfl⟩, if_pos ⟨hp, rfl⟩, if_pos hp] at R
          exact R
        have OR : ∀ w : World, Calls Tryz.prog 51 #[.agg #[.int .i64 0, .int .i64 u]] w fun r' w' => r' = .returned (.tuple #[.agg #[.int .i64 0, .int .i64 (u / 86400000000)], .int .i64 (u % 86400000000), .int .i64 0]) ∧ Below w.heap.size w w' := fun w => by
          have R := Dy.srof_any 0 u u1 u2 w
          unfold Dy.ofI Dy.ofD Dy.ofU Dy.ofE at R
          rw [if_pos hp, if_pos ⟨hp, rfl⟩, if_pos ⟨hp, rfl⟩, if_pos hp] at R
          exact R
        have e5 : X ++ ⟨#[32]⟩ ++ Clk.textB (u % 86400000000) ++ ⟨#[]⟩ ++ E = X ++ ⟨#[32]⟩ ++ Clk.textB (u % 86400000000) ++ E := by apply ByteArray.ext; simp
        have z3 : (X ++ ⟨#[32]⟩ ++ Clk.textB (u % 86400000000)).size ≤ 500 := by simp only [ByteArray.size_append]; have e : (⟨#[32]⟩ : ByteArray).size = 1 := rfl; omega
        refine ⟨X ++ ⟨#[32]⟩ ++ Clk.textB (u % 86400000000) ++ E, 0, fun w hw => st_ok 0 u o r p _ S1 P1 (fun w hw => timed_ok u o r p _ _ X E _ _ OF (fun w hw => Clk.text_in _ hT w hw.2) h1 (fun w => joined_none w) (fun b w h => by
            have R := je5 X ⟨#[32]⟩ (Clk.textB (u % 86400000000)) ⟨#[]⟩ E (by omega) (by decide) (by omega) (by decide) (by omega) b w h
            rw [e5] at R
            exact R) w (LT.of hw)) w (LT.of hw),
          fun w => rst_ok u o r p _ E z3 zE P2 S2 (fun w => rmom u o r p _ _ X E _ zX zE zM OR h2 (fun w => Clk.etext_in _ hT w) w) w⟩
      · exact ⟨endB i, 0, fun w hw => st_ok i u o r p _ S1 P1 (fun w hw => timed_inf i u o r p (endB i) hi (fun w => end_any i hi w) w) w (LT.of hw), fun w => rst_inf i u o r p (endB i) hi P2 S2 (fun w => inf_any i hi w) w⟩


set_option maxRecDepth 100000 in
set_option maxHeartbeats 4000000 in
theorem dates_run (i d j u o r p : Int) (X Y : ByteArray) (e f : Int) (b : Bool)
    (V1 : Hid (∀ w : World, LT w → Calls Tryz.prog 6 #[.agg #[.int .i64 i, .int .i64 d], .agg #[.int .i64 o, .int .i64 r, .int .i64 p]] w fun r' w' => r' = .returned (.tuple #[.string X, .int .i64 e]) ∧ Below w.heap.size w w'))
    (V2 : Hid (∀ w : World, Calls Tryz.prog 7 #[.agg #[.int .i64 i, .int .i64 d], .agg #[.int .i64 o, .int .i64 r, .int .i64 p]] w fun r' w' => r' = .returned (.tuple #[.string X, .int .i64 e]) ∧ Below w.heap.size w w'))
    (V3 : Hid (∀ w : World, LT w → Calls Tryz.prog 8 #[.agg #[.int .i64 j, .int .i64 u], .agg #[.int .i64 o, .int .i64 r, .int .i64 p]] w fun r' w' => r' = .returned (.tuple #[.string Y, .int .i64 f]) ∧ Below w.heap.size w w'))
    (V4 : Hid (∀ w : World, Calls Tryz.prog 9 #[.agg #[.int .i64 j, .int .i64 u], .agg #[.int .i64 o, .int .i64 r, .int .i64 p]] w fun r' w' => r' = .returned (.tuple #[.string Y, .int .i64 f]) ∧ Below w.heap.size w w'))
    (S1 : Hid (∀ w : World, Calls Tryz.prog 10 #[.agg #[.int .i64 o, .int .i64 r, .int .i64 p]] w fun r' w' => r' = .returned (.bool b) ∧ Below w.heap.size w w'))
    (S2 : Hid (∀ w : World, Calls Tryz.prog 11 #[.agg #[.int .i64 o, .int .i64 r, .int .i64 p]] w fun r' w' => r' = .returned (.bool b) ∧ Below w.heap.size w w'))
    (KN : Hid (∀ w : World, LT w → Calls Tryz.prog 12 #[] w fun r' w' => r' = .returned (.bool true) ∧ Below w.heap.size w w'))
    (w : World) (hL : Hid (∀ W : World, Below w.heap.size w W → LT W)) :
    Calls Tryz.prog 3 #[.agg #[.int .i64 i, .int .i64 d], .agg #[.int .i64 j, .int .i64 u], .agg #[.int .i64 o, .int .i64 r, .int .i64 p]] w fun r' w' => r' = .returned (.bool true) ∧ Below w.heap.size w w' := by
  have K0 : Hid (BS w [(w.heap.size + 2, [.int .i64 o, .int .i64 r, .int .i64 p]), (w.heap.size + 1, [.int .i64 j, .int .i64 u]), (w.heap.size, [.int .i64 i, .int .i64 d])] (((w.alloc (.cells #[.int .i64 i, .int .i64 d] 23)).alloc (.cells #[.int .i64 j, .int .i64 u] 25)).alloc (.cells #[.int .i64 o, .int .i64 r, .int .i64 p] 27))) := ((((BS.start w).new [.int .i64 i, .int .i64 d] 23 rfl).new [.int .i64 j, .int .i64 u] 25 (by simp)).new [.int .i64 o, .int .i64 r, .int .i64 p] 27 (by simp))
  go_enter Tryz.func3, Tryz.ntmps3
  go_wp2_with fail
  refine (V1.out _ (hL.out _ K0.out.1)).mono ?_
  rintro e W1 ⟨rfl, hb⟩
  have K1 := bsb K0 hb
  clear hb K0
  obtain ⟨c1_0_0, c1_0_1, c1_0_2⟩ := (bo1 K1).c3
  obtain ⟨c1_1_0, c1_1_1⟩ := (bo2 K1).c2
  obtain ⟨c1_2_0, c1_2_1⟩ := (bo3 K1).c2
  go_wp2_with fail
  refine (V2.out _).mono ?_
  rintro e W2 ⟨rfl, hb⟩
  have K2 := bsb K1 hb
  clear c1_0_0 c1_0_1 c1_0_2 c1_1_0 c1_1_1 c1_2_0 c1_2_1
  clear hb K1
  obtain ⟨c2_0_0, c2_0_1, c2_0_2⟩ := (bo1 K2).c3
  obtain ⟨c2_1_0, c2_1_1⟩ := (bo2 K2).c2
  obtain ⟨c2_2_0, c2_2_1⟩ := (bo3 K2).c2
  go_wp2_with fail
  refine (V3.out _ (hL.out _ K2.out.1)).mono ?_
  rintro e W3 ⟨rfl, hb⟩
  have K3 := bsb K2 hb
  clear c2_0_0 c2_0_1 c2_0_2 c2_1_0 c2_1_1 c2_2_0 c2_2_1
  clear hb K2
  obtain ⟨c3_0_0, c3_0_1, c3_0_2⟩ := (bo1 K3).c3
  obtain ⟨c3_1_0, c3_1_1⟩ := (bo2 K3).c2
  obtain ⟨c3_2_0, c3_2_1⟩ := (bo3 K3).c2
  go_wp2_with fail
  refine (V4.out _).mono ?_
  rintro e W4 ⟨rfl, hb⟩
  have K4 := bsb K3 hb
  clear c3_0_0 c3_0_1 c3_0_2 c3_1_0 c3_1_1 c3_2_0 c3_2_1
  clear hb K3
  obtain ⟨c4_0_0, c4_0_1, c4_0_2⟩ := (bo1 K4).c3
  obtain ⟨c4_1_0, c4_1_1⟩ := (bo2 K4).c2
  obtain ⟨c4_2_0, c4_2_1⟩ := (bo3 K4).c2
  go_wp2_with fail
  clear c4_0_0 c4_0_1 c4_0_2 c4_1_0 c4_1_1 c4_2_0 c4_2_1
  refine wp_region_held_drew (S := BS w [(w.heap.size + 2, [.int .i64 o, .int .i64 r, .int .i64 p]), (w.heap.size + 1, [.int .i64 j, .int .i64 u]), (w.heap.size, [.int .i64 i, .int .i64 d])]) (by kernel_rfl) K4.out.drew (fun hHeld => ?_)
  refine wpAnyH_take (i := 0) (v := ?_) (oi := { dst := some 39, op := _, type := _, pos := _, after := _, guard := none }) rfl (by kernel_rfl) (by kernel_rfl) (by kernel_rfl) (fun _ _ _ h => h) (Or.inl ⟨by kernel_rfl, ?_⟩) (by assumption) ?_
  case refine_2 => (intro w9 hSw; clear hSw; go_simp; try with_reducible rfl)
  simp only [Act.put, List.setIfInBounds_toArray, List.set_cons_zero, List.set_cons_succ]
  refine wpAnyH_take (i := 1) (v := ?_) (oi := { dst := some 40, op := _, type := _, pos := _, after := _, guard := none }) rfl (by kernel_rfl) (by kernel_rfl) (by kernel_rfl) (fun _ _ _ h => h) (Or.inl ⟨by kernel_rfl, ?_⟩) (by assumption) ?_
  case refine_2 => (intro w9 hSw; clear hSw; go_simp; try with_reducible rfl)
  simp only [Act.put, List.setIfInBounds_toArray, List.set_cons_zero, List.set_cons_succ]
  refine wpAnyH_take (i := 2) (v := ?_) (oi := { dst := some 41, op := _, type := _, pos := _, after := _, guard := none }) rfl (by kernel_rfl) (by kernel_rfl) (by kernel_rfl) (fun _ _ _ h => h) (Or.inl ⟨by kernel_rfl, ?_⟩) (by assumption) ?_
  case refine_2 => (intro w9 hSw; clear hSw; go_simp; try with_reducible rfl)
  simp only [Act.put, List.setIfInBounds_toArray, List.set_cons_zero, List.set_cons_succ]
  refine wpAnyH_take (i := 3) (v := ?_) (oi := { dst := some 42, op := _, type := _, pos := _, after := _, guard := none }) rfl (by kernel_rfl) (by kernel_rfl) (by kernel_rfl) (fun _ _ _ h => h) (Or.inl ⟨by kernel_rfl, ?_⟩) (by assumption) ?_
  case refine_2 => (intro w9 hSw; clear hSw; go_simp; try with_reducible rfl)
  simp only [Act.put, List.setIfInBounds_toArray, List.set_cons_zero, List.set_cons_succ]
  refine wpAnyH_take (i := 4) (v := ?_) (oi := { dst := some 43, op := _, type := _, pos := _, after := _, guard := some (3, true) }) rfl (by kernel_rfl) (by kernel_rfl) (by kernel_rfl) (fun _ _ _ h => h) (Or.inl ⟨by kernel_rfl, ?_⟩) (by assumption) ?_
  case refine_2 => (intro w9 hSw; clear hSw; go_simp; try with_reducible rfl)
  simp only [Act.put, List.setIfInBounds_toArray, List.set_cons_zero, List.set_cons_succ]
  refine wpAnyH_take (i := 5) (v := ?_) (oi := { dst := some 44, op := _, type := _, pos := _, after := _, guard := some (3, true) }) rfl (by kernel_rfl) (by kernel_rfl) (by kernel_rfl) (fun _ _ _ h => h) (Or.inl ⟨by kernel_rfl, ?_⟩) (by assumption) ?_
  case refine_2 => (intro w9 hSw; clear hSw; go_simp; try with_reducible rfl)
  simp only [Act.put, List.setIfInBounds_toArray, List.set_cons_zero, List.set_cons_succ]
  refine wpAnyH_take (i := 6) (v := ?_) (oi := { dst := some 45, op := _, type := _, pos := _, after := _, guard := some (3, true) }) rfl (by kernel_rfl) (by kernel_rfl) (by kernel_rfl) (fun _ _ _ h => h) (Or.inl ⟨by kernel_rfl, ?_⟩) (by assumption) ?_
  case refine_2 => (intro w9 hSw; clear hSw; go_simp; try with_reducible rfl)
  simp only [Act.put, List.setIfInBounds_toArray, List.set_cons_zero, List.set_cons_succ]
  refine wpAnyH_take (i := 7) (v := ?_) (oi := { dst := some 46, op := _, type := _, pos := _, after := _, guard := none }) rfl (by kernel_rfl) (by kernel_rfl) (by kernel_rfl) (fun _ _ _ h => h) (Or.inl ⟨by kernel_rfl, ?_⟩) (by assumption) ?_
  case refine_2 => (intro w9 hSw; clear hSw; go_simp; try with_reducible rfl)
  simp only [Act.put, List.setIfInBounds_toArray, List.set_cons_zero, List.set_cons_succ]
  refine wpAnyH_take (i := 8) (v := ?_) (oi := { dst := some 47, op := _, type := _, pos := _, after := _, guard := none }) rfl (by kernel_rfl) (by kernel_rfl) (by kernel_rfl) (fun _ _ _ h => h) (Or.inl ⟨by kernel_rfl, ?_⟩) (by assumption) ?_
  case refine_2 => (intro w9 hSw; clear hSw; go_simp; try with_reducible rfl)
  simp only [Act.put, List.setIfInBounds_toArray, List.set_cons_zero, List.set_cons_succ]
  refine wpAnyH_take (i := 9) (v := ?_) (oi := { dst := some 48, op := _, type := _, pos := _, after := _, guard := some (8, true) }) rfl (by kernel_rfl) (by kernel_rfl) (by kernel_rfl) (fun _ _ _ h => h) (Or.inl ⟨by kernel_rfl, ?_⟩) (by assumption) ?_
  case refine_2 => (intro w9 hSw; clear hSw; go_simp; try with_reducible rfl)
  simp only [Act.put, List.setIfInBounds_toArray, List.set_cons_zero, List.set_cons_succ]
  refine wpAnyH_take (i := 10) (v := ?_) (oi := { dst := some 49, op := _, type := _, pos := _, after := _, guard := some (8, true) }) rfl (by kernel_rfl) (by kernel_rfl) (by kernel_rfl) (fun _ _ _ h => h) (Or.inl ⟨by kernel_rfl, ?_⟩) (by assumption) ?_
  case refine_2 => (intro w9 hSw; clear hSw; go_simp; try with_reducible rfl)
  simp only [Act.put, List.setIfInBounds_toArray, List.set_cons_zero, List.set_cons_succ]
  refine wpAnyH_take (i := 11) (v := ?_) (oi := { dst := some 50, op := _, type := _, pos := _, after := _, guard := some (8, true) }) rfl (by kernel_rfl) (by kernel_rfl) (by kernel_rfl) (fun _ _ _ h => h) (Or.inl ⟨by kernel_rfl, ?_⟩) (by assumption) ?_
  case refine_2 => (intro w9 hSw; clear hSw; go_simp; try with_reducible rfl)
  simp only [Act.put, List.setIfInBounds_toArray, List.set_cons_zero, List.set_cons_succ]
  refine wpAnyH_take (i := 12) (v := ?_) (oi := { dst := some 51, op := _, type := _, pos := _, after := _, guard := none }) rfl (by kernel_rfl) (by kernel_rfl) (by kernel_rfl) (fun _ _ _ h => h) (Or.inl ⟨by kernel_rfl, ?_⟩) (by assumption) ?_
  case refine_2 => (intro w9 hSw; clear hSw; go_simp; try with_reducible rfl)
  simp only [Act.put, List.setIfInBounds_toArray, List.set_cons_zero, List.set_cons_succ]
  refine wpAnyH_take (i := 13) (v := ?_) (oi := { dst := some 52, op := _, type := _, pos := _, after := _, guard := none }) rfl (by kernel_rfl) (by kernel_rfl) (by kernel_rfl) (fun _ _ _ h => h) (Or.inl ⟨by kernel_rfl, ?_⟩) (by assumption) ?_
  case refine_2 => (intro w9 hSw; clear hSw; go_simp; try with_reducible rfl)
  simp only [Act.put, List.setIfInBounds_toArray, List.set_cons_zero, List.set_cons_succ]
  refine wpAnyH_take (i := 14) (v := ?_) (oi := { dst := some 53, op := _, type := _, pos := _, after := _, guard := some (13, true) }) rfl (by kernel_rfl) (by kernel_rfl) (by kernel_rfl) (fun _ _ _ h => h) (Or.inl ⟨by kernel_rfl, ?_⟩) (by assumption) ?_
  case refine_2 => (intro w9 hSw; clear hSw; go_simp; try with_reducible rfl)
  simp only [Act.put, List.setIfInBounds_toArray, List.set_cons_zero, List.set_cons_succ]
  refine wpAnyH_take (i := 15) (v := ?_) (oi := { dst := some 54, op := _, type := _, pos := _, after := _, guard := some (13, true) }) rfl (by kernel_rfl) (by kernel_rfl) (by kernel_rfl) (fun _ _ _ h => h) (Or.inl ⟨by kernel_rfl, ?_⟩) (by assumption) ?_
  case refine_2 => (intro w9 hSw; clear hSw; go_simp; try with_reducible rfl)
  simp only [Act.put, List.setIfInBounds_toArray, List.set_cons_zero, List.set_cons_succ]
  refine wpAnyH_take (i := 16) (v := ?_) (oi := { dst := some 55, op := _, type := _, pos := _, after := _, guard := some (13, true) }) rfl (by kernel_rfl) (by kernel_rfl) (by kernel_rfl) (fun _ _ _ h => h) (Or.inl ⟨by kernel_rfl, ?_⟩) (by assumption) ?_
  case refine_2 => (intro w9 hSw; clear hSw; go_simp; try with_reducible rfl)
  simp only [Act.put, List.setIfInBounds_toArray, List.set_cons_zero, List.set_cons_succ]
  refine wpAnyH_take (i := 17) (v := ?_) (oi := { dst := some 56, op := _, type := _, pos := _, after := _, guard := none }) rfl (by kernel_rfl) (by kernel_rfl) (by kernel_rfl) (fun _ _ _ h => h) (Or.inl ⟨by kernel_rfl, ?_⟩) (by assumption) ?_
  case refine_2 => (intro w9 hSw; clear hSw; go_simp; try with_reducible rfl)
  simp only [Act.put, List.setIfInBounds_toArray, List.set_cons_zero, List.set_cons_succ]
  refine wpAnyH_take (i := 18) (v := ?_) (oi := { dst := some 57, op := _, type := _, pos := _, after := _, guard := none }) rfl (by kernel_rfl) (by kernel_rfl) (by kernel_rfl) (fun _ _ _ h => h) (Or.inl ⟨by kernel_rfl, ?_⟩) (by assumption) ?_
  case refine_2 => (intro w9 hSw; clear hSw; go_simp; try with_reducible rfl)
  simp only [Act.put, List.setIfInBounds_toArray, List.set_cons_zero, List.set_cons_succ]
  refine wpAnyH_take (i := 19) (v := ?_) (oi := { dst := some 58, op := _, type := _, pos := _, after := _, guard := some (18, true) }) rfl (by kernel_rfl) (by kernel_rfl) (by kernel_rfl) (fun _ _ _ h => h) (Or.inl ⟨by kernel_rfl, ?_⟩) (by assumption) ?_
  case refine_2 => (intro w9 hSw; have l0_0 := (hSw.at (w.heap.size + 2) [.int .i64 o, .int .i64 r, .int .i64 p] (by simp)).c 0 rfl; have l0_1 := (hSw.at (w.heap.size + 2) [.int .i64 o, .int .i64 r, .int .i64 p] (by simp)).c 1 rfl; have l0_2 := (hSw.at (w.heap.size + 2) [.int .i64 o, .int .i64 r, .int .i64 p] (by simp)).c 2 rfl; have l1_0 := (hSw.at (w.heap.size + 1) [.int .i64 j, .int .i64 u] (by simp)).c 0 rfl; have l1_1 := (hSw.at (w.heap.size + 1) [.int .i64 j, .int .i64 u] (by simp)).c 1 rfl; have l2_0 := (hSw.at (w.heap.size) [.int .i64 i, .int .i64 d] (by simp)).c 0 rfl; have l2_1 := (hSw.at (w.heap.size) [.int .i64 i, .int .i64 d] (by simp)).c 1 rfl; clear hSw; go_simp; try with_reducible rfl)
  simp only [Act.put, List.setIfInBounds_toArray, List.set_cons_zero, List.set_cons_succ]
  refine wpAnyH_take (i := 21) (v := ?_) (oi := { dst := some 60, op := _, type := _, pos := _, after := _, guard := some (18, true) }) rfl (by kernel_rfl) (by kernel_rfl) (by kernel_rfl) (fun _ _ _ h => h) (Or.inl ⟨by kernel_rfl, ?_⟩) (by assumption) ?_
  case refine_2 => (intro w9 hSw; have l0_0 := (hSw.at (w.heap.size + 2) [.int .i64 o, .int .i64 r, .int .i64 p] (by simp)).c 0 rfl; have l0_1 := (hSw.at (w.heap.size + 2) [.int .i64 o, .int .i64 r, .int .i64 p] (by simp)).c 1 rfl; have l0_2 := (hSw.at (w.heap.size + 2) [.int .i64 o, .int .i64 r, .int .i64 p] (by simp)).c 2 rfl; have l1_0 := (hSw.at (w.heap.size + 1) [.int .i64 j, .int .i64 u] (by simp)).c 0 rfl; have l1_1 := (hSw.at (w.heap.size + 1) [.int .i64 j, .int .i64 u] (by simp)).c 1 rfl; have l2_0 := (hSw.at (w.heap.size) [.int .i64 i, .int .i64 d] (by simp)).c 0 rfl; have l2_1 := (hSw.at (w.heap.size) [.int .i64 i, .int .i64 d] (by simp)).c 1 rfl; clear hSw; go_simp; try with_reducible rfl)
  simp only [Act.put, List.setIfInBounds_toArray, List.set_cons_zero, List.set_cons_succ]
  refine wpAnyH_ready (rs := [20]) (by kernel_rfl) (by simp) (AllReadyH.cons (o := { dst := some 59, op := _, type := _, pos := _, after := _, guard := some (18, true) }) rfl (fun K hK => ?_) AllReadyH.nil)
  go_simp
  refine (S1.out _).mono ?_
  rintro e v1 ⟨rfl, hb1⟩
  refine hK.out _ _ (hHeld.below hb1) (fun hHeld => ?_)
  clear hK K hb1
  refine wpAnyH_ready (rs := [22]) (by kernel_rfl) (by simp) (AllReadyH.cons (o := { dst := some 61, op := _, type := _, pos := _, after := _, guard := some (18, true) }) rfl (fun K hK => ?_) AllReadyH.nil)
  go_simp
  refine (S2.out _).mono ?_
  rintro e v2 ⟨rfl, hb2⟩
  refine hK.out _ _ (hHeld.below hb2) (fun hHeld => ?_)
  clear hK K hb2
  refine wpAnyH_take (i := 23) (v := ?_) (oi := { dst := some 62, op := _, type := _, pos := _, after := _, guard := some (18, true) }) rfl (by kernel_rfl) (by kernel_rfl) (by kernel_rfl) (fun _ _ _ h => h) (Or.inl ⟨by kernel_rfl, ?_⟩) (by assumption) ?_
  case refine_2 => (intro w9 hSw; clear hSw; go_simp; try with_reducible rfl)
  simp only [Act.put, List.setIfInBounds_toArray, List.set_cons_zero, List.set_cons_succ]
  refine wpAnyH_take (i := 24) (v := ?_) (oi := { dst := some 63, op := _, type := _, pos := _, after := _, guard := none }) rfl (by kernel_rfl) (by kernel_rfl) (by kernel_rfl) (fun _ _ _ h => h) (Or.inl ⟨by kernel_rfl, ?_⟩) (by assumption) ?_
  case refine_2 => (intro w9 hSw; clear hSw; go_simp; try with_reducible rfl)
  simp only [Act.put, List.setIfInBounds_toArray, List.set_cons_zero, List.set_cons_succ]
  refine wpAnyH_take (i := 25) (v := ?_) (oi := { dst := some 64, op := _, type := _, pos := _, after := _, guard := none }) rfl (by kernel_rfl) (by kernel_rfl) (by kernel_rfl) (fun _ _ _ h => h) (Or.inl ⟨by kernel_rfl, ?_⟩) (by assumption) ?_
  case refine_2 => (intro w9 hSw; clear hSw; go_simp; try with_reducible rfl)
  simp only [Act.put, List.setIfInBounds_toArray, List.set_cons_zero, List.set_cons_succ]
  refine wpAnyH_ready (rs := [26]) (by kernel_rfl) (by simp) (AllReadyH.cons (o := { dst := some 65, op := _, type := _, pos := _, after := _, guard := some (25, true) }) rfl (fun K hK => ?_) AllReadyH.nil)
  go_simp
  refine (KN.out _ (hL.out _ hHeld.1)).mono ?_
  rintro e v3 ⟨rfl, hb3⟩
  refine hK.out _ _ (hHeld.below hb3) (fun hHeld => ?_)
  clear hK K hb3
  refine wpAnyH_take (i := 27) (v := ?_) (oi := { dst := some 66, op := _, type := _, pos := _, after := _, guard := none }) rfl (by kernel_rfl) (by kernel_rfl) (by kernel_rfl) (fun _ _ _ h => h) (Or.inl ⟨by kernel_rfl, ?_⟩) (by assumption) ?_
  case refine_2 => (intro w9 hSw; clear hSw; go_simp; try with_reducible rfl)
  simp only [Act.put, List.setIfInBounds_toArray, List.set_cons_zero, List.set_cons_succ]
  refine wpAnyH_take (i := 28) (v := ?_) (oi := { dst := some 6, op := _, type := _, pos := _, after := _, guard := none }) rfl (by kernel_rfl) (by kernel_rfl) (by kernel_rfl) (fun _ _ _ h => h) (Or.inl ⟨by kernel_rfl, ?_⟩) (by assumption) ?_
  case refine_2 => (intro w9 hSw; clear hSw; go_simp; try with_reducible rfl)
  simp only [Act.put, List.setIfInBounds_toArray, List.set_cons_zero, List.set_cons_succ]
  refine wpAnyH_done (by kernel_rfl) ?_ _
  have HB : Hid (Below w.heap.size w _) := hHeld.1
  clear hHeld
  go_wp2
  go_ret
  exact ⟨rfl, HB.out⟩



end Go.Proofs.YtmohhbgmbicklaaGreatDoor
