/- Contracts of dec.Cmp, dec.Floor, dec.Round: order, the whole part, other places. -/
import Derived.Test.YtlhlanekklonmaaDoorDecD
import Derived.Deep.QuietTactic
import Derived.BigQuiet
namespace Go.Proofs.YtlhlanekklonmaaDoor
open Go.RowKit
set_option linter.unusedVariables false

theorem below_drewN {B : Nat} {a w : World} (h : Below B a w) (n : Nat) : Below B a (w.drewN n) := h.trans ⟨rfl, rfl, rfl, Nat.le_refl _, fun _ _ => rfl⟩

/-- two blocks. -/
abbrev lv2 (w : World) (xn xs yn ys : Int) : World := (w.alloc (dbox xn xs)).alloc (dbox yn ys)
def Two2 (w : World) (B : Nat) (xn xs yn ys : Int) : Prop := Box w B xn xs ∧ Box w (B + 1) yn ys
theorem Two2.new (w : World) (xn xs yn ys : Int) : Two2 (lv2 w xn xs yn ys) w.heap.size xn xs yn ys :=
  ⟨by have := (Box.new w xn xs).alloc (dbox yn ys); simpa using this, by have := Box.new (w.alloc (dbox xn xs)) yn ys; simpa using this⟩
theorem Two2.below {w w1 : World} {B : Nat} {xn xs yn ys : Int} (h : Two2 w B xn xs yn ys) (hb : Below w.heap.size w w1) : Two2 w1 B xn xs yn ys :=
  ⟨h.1.below hb h.1.1, h.2.below hb h.2.1⟩
theorem Two2.alloc {w : World} {B : Nat} {xn xs yn ys : Int} (h : Two2 w B xn xs yn ys) (o : Obj) : Two2 (w.alloc o) B xn xs yn ys :=
  ⟨h.1.alloc o, h.2.alloc o⟩
theorem lv2_below (w : World) (xn xs yn ys : Int) : Below w.heap.size w (lv2 w xn xs yn ys) := (by repeat' (first | assumption | exact Below.refl _ _ | exact Nat.le_refl _ | refine Below.alloc ?_ ?_ _ | (simp; done) | (simp; omega) | omega))

set_option maxRecDepth 100000 in
set_option maxHeartbeats 1000000 in
theorem dcmp_ok (xn xs yn ys a b c : Int)
    (H1 : Hid (∀ w : World, Calls Tryd.prog 58 #[.agg #[.int .i64 xn, .int .i64 xs], .agg #[.int .i64 yn, .int .i64 ys]] w fun e w' => e = .returned (.tuple #[.agg #[.int .i64 a, .int .i64 c], .agg #[.int .i64 b, .int .i64 c], .int .i64 0]) ∧ Below w.heap.size w w'))
    (w : World) :
    Calls Tryd.prog 31 #[.agg #[.int .i64 xn, .int .i64 xs], .agg #[.int .i64 yn, .int .i64 ys]] w fun e w' => e = .returned (.int .i64 (cmp3 a b)) ∧ Below w.heap.size w w' := by
  have HB : Hid (Below w.heap.size w (lv2 w xn xs yn ys)) := lv2_below _ _ _ _ _
  go_enter Tryd.func31, Tryd.ntmps31
  go_wp2_with fail
  refine (H1.out _).mono ?_
  rintro e w1 ⟨rfl, hb⟩
  have HB1 : Hid (Below w.heap.size w w1) := HB.out.trans (hb.mono HB.out.size)
  clear HB hb
  go_wp2_with fail
  refine (compare_any _ _ _).mono ?_
  rintro e w2 ⟨rfl, rfl⟩
  go_wp2
  go_ret
  exact ⟨rfl, (HB1.out.alloc HB1.out.size _).alloc (by have := HB1.out.size; simp; omega) _⟩

set_option maxRecDepth 100000 in
set_option maxHeartbeats 1000000 in
theorem dcmp_far1 (xn xs yn ys : Int) (hlt : xs < ys)
    (H1 : Hid (∀ w : World, Calls Tryd.prog 58 #[.agg #[.int .i64 xn, .int .i64 xs], .agg #[.int .i64 yn, .int .i64 ys]] w fun e w' => e = .returned (.tuple #[d0, d0, .int .i64 10]) ∧ Below w.heap.size w w'))
    (w : World) :
    Calls Tryd.prog 31 #[.agg #[.int .i64 xn, .int .i64 xs], .agg #[.int .i64 yn, .int .i64 ys]] w fun e w' => e = .returned (.int .i64 (cmp3 xn 0)) ∧ Below w.heap.size w w' := by
  have F := Two2.new w xn xs yn ys
  have HB : Hid (Below w.heap.size w (lv2 w xn xs yn ys)) := lv2_below _ _ _ _ _
  go_enter Tryd.func31, Tryd.ntmps31
  go_wp2_with fail
  refine (H1.out _).mono ?_
  rintro e w1 ⟨rfl, hb⟩
  have F1 := F.below hb
  have HB1 : Hid (Below w.heap.size w w1) := HB.out.trans (hb.mono HB.out.size)
  clear HB hb F
  have x2 : ∀ o1 o2, ((w1.alloc o1).alloc o2).cell? ⟨w.heap.size, 0, none⟩ = some (.int .i64 xn) := fun o1 o2 => ((F1.alloc o1).alloc o2).1.2.1
  have x3 : ∀ o1 o2, ((w1.alloc o1).alloc o2).cell? ⟨w.heap.size, 1, none⟩ = some (.int .i64 xs) := fun o1 o2 => ((F1.alloc o1).alloc o2).1.2.2.1
  have y2 : ∀ o1 o2, ((w1.alloc o1).alloc o2).cell? ⟨w.heap.size + 1, 0, none⟩ = some (.int .i64 yn) := fun o1 o2 => ((F1.alloc o1).alloc o2).2.2.1
  have y3 : ∀ o1 o2, ((w1.alloc o1).alloc o2).cell? ⟨w.heap.size + 1, 1, none⟩ = some (.int .i64 ys) := fun o1 o2 => ((F1.alloc o1).alloc o2).2.2.2.1
  go_wp2_with fail
  refine (compare_any _ _ _).mono ?_
  rintro e w2 ⟨rfl, rfl⟩
  go_wp2
  go_ret
  exact ⟨rfl, (HB1.out.alloc HB1.out.size _).alloc (by have := HB1.out.size; simp; omega) _⟩

set_option maxRecDepth 100000 in
set_option maxHeartbeats 1000000 in
theorem dcmp_far2 (xn xs yn ys : Int) (hlt : ¬ xs < ys)
    (H1 : Hid (∀ w : World, Calls Tryd.prog 58 #[.agg #[.int .i64 xn, .int .i64 xs], .agg #[.int .i64 yn, .int .i64 ys]] w fun e w' => e = .returned (.tuple #[d0, d0, .int .i64 10]) ∧ Below w.heap.size w w'))
    (w : World) :
    Calls Tryd.prog 31 #[.agg #[.int .i64 xn, .int .i64 xs], .agg #[.int .i64 yn, .int .i64 ys]] w fun e w' => e = .returned (.int .i64 (cmp3 0 yn)) ∧ Below w.heap.size w w' := by
  have F := Two2.new w xn xs yn ys
  have HB : Hid (Below w.heap.size w (lv2 w xn xs yn ys)) := lv2_below _ _ _ _ _
  go_enter Tryd.func31, Tryd.ntmps31
  go_wp2_with fail
  refine (H1.out _).mono ?_
  rintro e w1 ⟨rfl, hb⟩
  have F1 := F.below hb
  have HB1 : Hid (Below w.heap.size w w1) := HB.out.trans (hb.mono HB.out.size)
  clear HB hb F
  have x2 : ∀ o1 o2, ((w1.alloc o1).alloc o2).cell? ⟨w.heap.size, 0, none⟩ = some (.int .i64 xn) := fun o1 o2 => ((F1.alloc o1).alloc o2).1.2.1
  have x3 : ∀ o1 o2, ((w1.alloc o1).alloc o2).cell? ⟨w.heap.size, 1, none⟩ = some (.int .i64 xs) := fun o1 o2 => ((F1.alloc o1).alloc o2).1.2.2.1
  have y2 : ∀ o1 o2, ((w1.alloc o1).alloc o2).cell? ⟨w.heap.size + 1, 0, none⟩ = some (.int .i64 yn) := fun o1 o2 => ((F1.alloc o1).alloc o2).2.2.1
  have y3 : ∀ o1 o2, ((w1.alloc o1).alloc o2).cell? ⟨w.heap.size + 1, 1, none⟩ = some (.int .i64 ys) := fun o1 o2 => ((F1.alloc o1).alloc o2).2.2.2.1
  go_wp2_with fail
  refine (compare_any _ _ _).mono ?_
  rintro e w2 ⟨rfl, rfl⟩
  go_wp2
  go_ret
  exact ⟨rfl, (HB1.out.alloc HB1.out.size _).alloc (by have := HB1.out.size; simp; omega) _⟩

set_option maxRecDepth 100000 in
set_option maxHeartbeats 1000000 in
theorem dcmp_bad (xn xs yn ys : Int)
    (H1 : Hid (∀ w : World, Calls Tryd.prog 58 #[.agg #[.int .i64 xn, .int .i64 xs], .agg #[.int .i64 yn, .int .i64 ys]] w fun e w' => e = .returned (.tuple #[d0, d0, .int .i64 1]) ∧ Below w.heap.size w w'))
    (w : World) :
    Calls Tryd.prog 31 #[.agg #[.int .i64 xn, .int .i64 xs], .agg #[.int .i64 yn, .int .i64 ys]] w fun e w' => e = .returned (.int .i64 0) ∧ Below w.heap.size w w' := by
  have HB : Hid (Below w.heap.size w (lv2 w xn xs yn ys)) := lv2_below _ _ _ _ _
  go_enter Tryd.func31, Tryd.ntmps31
  go_wp2_with fail
  refine (H1.out _).mono ?_
  rintro e w1 ⟨rfl, hb⟩
  have HB1 : Hid (Below w.heap.size w w1) := HB.out.trans (hb.mono HB.out.size)
  clear HB hb
  go_wp2
  go_ret
  exact ⟨rfl, (HB1.out.alloc HB1.out.size _).alloc (by have := HB1.out.size; simp; omega) _⟩

/-- a number at nine places. -/
def at9 (n s : Int) : Int := n * Dm.ten (9 - s).toNat
/-- which number is the lesser one. -/
def cmpV (xn xs yn ys : Int) : Int := if rt xs = true ∧ rt ys = true then cmp3 (at9 xn xs) (at9 yn ys) else 0

theorem cmp3_mul {a b t : Int} (ht : 0 < t) : cmp3 (a * t) (b * t) = cmp3 a b := by
  have h1 : a * t < b * t ↔ a < b := Int.mul_lt_mul_right ht
  have h2 : b * t < a * t ↔ b < a := Int.mul_lt_mul_right ht
  unfold cmp3
  simp only [h1, h2]
theorem at9_up {n s c : Int} (hs : rt s = true) (hc : rt c = true) (hsc : s ≤ c) : at9 n s = n * Dm.ten (c - s).toNat * Dm.ten (9 - c).toNat := by
  obtain ⟨h1, h2⟩ := rt_yes hs
  obtain ⟨h3, h4⟩ := rt_yes hc
  unfold at9
  rw [Int.mul_assoc, ← Dm.ten_add]
  congr 2
  omega
theorem cmpV_level {xn xs yn ys : Int} (hx : rt xs = true) (hy : rt ys = true) : cmpV xn xs yn ys = cmp3 (la xn xs yn ys) (lb xn xs yn ys) := by
  unfold cmpV
  rw [if_pos ⟨hx, hy⟩, at9_up hx (rt_max hx hy) (Int.le_max_left _ _), at9_up hy (rt_max hx hy) (Int.le_max_right _ _), cmp3_mul (Dm.ten_pos _)]
  rfl

theorem smE_out' {x : Int} (h : smE x ≠ 0) : x < -9223372036854775808 ∨ 9223372036854775807 < x := by
  by_cases l : -9223372036854775808 ≤ x ∧ x ≤ 9223372036854775807
  · exact absurd (if_pos l) h
  · omega

/-- dec.Cmp, whatever it is given. -/
theorem dcmp_any (xn xs yn ys : Int) (x1 : -9223372036854775808 ≤ xn) (x2 : xn ≤ 9223372036854775807) (y1 : -9223372036854775808 ≤ yn) (y2 : yn ≤ 9223372036854775807) (w : World) :
    Calls Tryd.prog 31 #[.agg #[.int .i64 xn, .int .i64 xs], .agg #[.int .i64 yn, .int .i64 ys]] w fun e w' => e = .returned (.int .i64 (cmpV xn xs yn ys)) ∧ Below w.heap.size w w' := by
  have L := level_any xn xs yn ys x1 x2 y1 y2
  by_cases hr : rt xs = true ∧ rt ys = true
  · rw [cmpV_level hr.1 hr.2]
    by_cases h : smE (la xn xs yn ys) = 0 ∧ smE (lb xn xs yn ys) = 0
    · have e : levE xn xs yn ys = 0 := by unfold levE; rw [if_pos hr, if_pos h]
      rw [e] at L
      exact dcmp_ok xn xs yn ys _ _ _ L w
    · have e : levE xn xs yn ys = 10 := by unfold levE; rw [if_pos hr, if_neg h]
      rw [e] at L
      by_cases hlt : xs < ys
      · have em : max xs ys = ys := Int.max_eq_right (Int.le_of_lt hlt)
        have eb : lb xn xs yn ys = yn := by unfold lb; rw [em, Int.sub_self]; exact Int.mul_one _
        have ea : la xn xs yn ys < -9223372036854775808 ∨ 9223372036854775807 < la xn xs yn ys := smE_out' (fun k => h ⟨k, by rw [eb]; exact smE_in y1 y2⟩)
        have hs : (0 < la xn xs yn ys ↔ 0 < xn) ∧ (la xn xs yn ys < 0 ↔ xn < 0) := by
          have t := Dm.ten_pos (max xs ys - xs).toNat
          unfold la
          constructor
          · constructor
            · intro k
              by_cases z : 0 < xn
              · exact z
              · have := Int.mul_nonneg (show 0 ≤ -xn by omega) (Int.le_of_lt t); rw [Int.neg_mul] at this; omega
            · intro k; exact Int.mul_pos k t
          · constructor
            · intro k
              by_cases z : xn < 0
              · exact z
              · have := Int.mul_nonneg (show 0 ≤ xn by omega) (Int.le_of_lt t); omega
            · intro k; exact Int.mul_neg_of_neg_of_pos k t
        have R := dcmp_far1 xn xs yn ys hlt L w
        have e2 : cmp3 xn 0 = cmp3 (la xn xs yn ys) (lb xn xs yn ys) := by
          rw [eb]; unfold cmp3
          repeat' split
          all_goals omega
        rw [e2] at R
        exact R
      · have em : max xs ys = xs := Int.max_eq_left (by omega)
        have ea : la xn xs yn ys = xn := by unfold la; rw [em, Int.sub_self]; exact Int.mul_one _
        have eb : lb xn xs yn ys < -9223372036854775808 ∨ 9223372036854775807 < lb xn xs yn ys := smE_out' (fun k => h ⟨by rw [ea]; exact smE_in x1 x2, k⟩)
        have hs : (0 < lb xn xs yn ys ↔ 0 < yn) ∧ (lb xn xs yn ys < 0 ↔ yn < 0) := by
          have t := Dm.ten_pos (max xs ys - ys).toNat
          unfold lb
          constructor
          · constructor
            · intro k
              by_cases z : 0 < yn
              · exact z
              · have := Int.mul_nonneg (show 0 ≤ -yn by omega) (Int.le_of_lt t); rw [Int.neg_mul] at this; omega
            · intro k; exact Int.mul_pos k t
          · constructor
            · intro k
              by_cases z : yn < 0
              · exact z
              · have := Int.mul_nonneg (show 0 ≤ yn by omega) (Int.le_of_lt t); omega
            · intro k; exact Int.mul_neg_of_neg_of_pos k t
        have R := dcmp_far2 xn xs yn ys hlt L w
        have e2 : cmp3 0 yn = cmp3 (la xn xs yn ys) (lb xn xs yn ys) := by
          rw [ea]; unfold cmp3
          repeat' split
          all_goals omega
        rw [e2] at R
        exact R
  · have e : levE xn xs yn ys = 1 := by unfold levE; rw [if_neg hr]
    rw [e] at L
    have e2 : cmpV xn xs yn ys = 0 := by unfold cmpV; rw [if_neg hr]
    rw [e2]
    exact dcmp_bad xn xs yn ys L w

set_option maxRecDepth 100000 in
set_option maxHeartbeats 1000000 in
theorem dfloor_bad (n s : Int) (h : rt s = false) (w : World) :
    Calls Tryd.prog 38 #[.agg #[.int .i64 n, .int .i64 s]] w fun e w' => e = .returned (.tuple #[.int .i64 0, .int .i64 1]) ∧ Below w.heap.size w w' := by
  go_enter Tryd.func38, Tryd.ntmps38
  go_wp2_with fail
  refine (dright_no _ _ h _).mono ?_
  rintro e w1 ⟨rfl, hb⟩
  go_wp2
  go_ret2
  exact ⟨rfl, ((Below.refl _ _).alloc (Nat.le_refl _) _).trans (hb.mono (by simp))⟩

set_option maxRecDepth 100000 in
set_option maxHeartbeats 1000000 in
theorem dfloor_ok (n s t v : Int) (h : rt s = true)
    (H1 : Hid (∀ w : World, Calls Tryd.prog 72 #[.int .i64 s] w fun e w' => e = .returned (.int .i64 t) ∧ w' = w))
    (H2 : Hid (∀ w : World, Calls Tryd.prog 75 #[.int .i64 n, .int .i64 t] w fun e w' => e = .returned (.tuple #[.int .i64 v, .int .i64 0]) ∧ w' = w)) (w : World) :
    Calls Tryd.prog 38 #[.agg #[.int .i64 n, .int .i64 s]] w fun e w' => e = .returned (.tuple #[.int .i64 v, .int .i64 0]) ∧ Below w.heap.size w w' := by
  have F := Box.new w n s
  go_enter Tryd.func38, Tryd.ntmps38
  go_wp2_with fail
  refine (dright_yes _ _ h _).mono ?_
  rintro e w1 ⟨rfl, hb⟩
  obtain ⟨x1, x2, x3, x4, x5⟩ := F.below hb F.1
  have HB1 : Hid (Below w.heap.size w w1) := ((Below.refl _ _).alloc (Nat.le_refl _) _).trans (hb.mono (by simp))
  clear F hb
  go_wp2_with fail
  go_quiet (first | (go_at_call 72; refine Calls.quiet_of_same (H1.out _)) | (go_at_call 75; refine Calls.quiet_of_same (H2.out _)))
  go_wp2
  go_ret2
  exact ⟨rfl, below_drewN HB1.out nq⟩

theorem dfloor_any (n s : Int) (h1 : -9223372036854775808 ≤ n) (h2 : n ≤ 9223372036854775807) (h : rt s = true) (w : World) :
    Calls Tryd.prog 38 #[.agg #[.int .i64 n, .int .i64 s]] w fun e w' => e = .returned (.tuple #[.int .i64 (n.fdiv (Dm.ten s.toNat)), .int .i64 0]) ∧ Below w.heap.size w w' := by
  obtain ⟨k, hk, rfl⟩ := nat_of_rt h
  have t0 := Dm.ten_pos k
  have t1 := Dm.ten_le hk
  exact dfloor_ok n k (Dm.ten k) _ h (power_any k hk) (div_in n (Dm.ten k) h1 h2 (by omega) (by omega) (by omega) (.inr (by omega))) w

/-- a number with other places. -/
def rndN (n s p : Int) : Int := if s ≤ p then n * Dm.ten (p - s).toNat else Dm.rnd n (Dm.ten (s - p).toNat)
def rndE (n s p : Int) : Int := if rt s = true ∧ rt p = true then (if s ≤ p then smE (n * Dm.ten (p - s).toNat) else 0) else 1

set_option maxRecDepth 100000 in
set_option maxHeartbeats 1000000 in
theorem dround_bad1 (n s p : Int) (h : rt s = false) (w : World) :
    Calls Tryd.prog 36 #[.agg #[.int .i64 n, .int .i64 s], .int .i64 p] w fun e w' => e = .returned (.tuple #[d0, .int .i64 1]) ∧ Below w.heap.size w w' := by
  have F := Two2.new w n s 0 0
  have HB : Hid (Below w.heap.size w (lv2 w n s 0 0)) := lv2_below _ _ _ _ _
  go_enter Tryd.func36, Tryd.ntmps36
  go_wp2_with fail
  refine (dright_no _ _ h _).mono ?_
  rintro e w1 ⟨rfl, hb⟩
  obtain ⟨_, ⟨z1, z2, z3, z4, z5⟩⟩ := F.below hb
  have HB1 : Hid (Below w.heap.size w w1) := HB.out.trans (hb.mono HB.out.size)
  clear F HB hb
  go_wp2_with fail
  exact bodyPost_ret (v := .tuple #[d0, .int .i64 1]) (by simp [results, Tryd.results36, go_sem, z2, z3]) rfl ⟨rfl, (HB1.out.setCell (by simp) _).setCell (by simp) _⟩

set_option maxRecDepth 100000 in
set_option maxHeartbeats 1000000 in
theorem dround_bad2 (n s p : Int) (h0 : rt s = true) (h : rt p = false) (w : World) :
    Calls Tryd.prog 36 #[.agg #[.int .i64 n, .int .i64 s], .int .i64 p] w fun e w' => e = .returned (.tuple #[d0, .int .i64 1]) ∧ Below w.heap.size w w' := by
  have F := Two2.new w n s 0 0
  have HB : Hid (Below w.heap.size w (lv2 w n s 0 0)) := lv2_below _ _ _ _ _
  go_enter Tryd.func36, Tryd.ntmps36
  go_wp2_with fail
  refine (dright_yes _ _ h0 _).mono ?_
  rintro e w1 ⟨rfl, hb⟩
  have F1 := F.below hb
  have HB1 : Hid (Below w.heap.size w w1) := HB.out.trans (hb.mono HB.out.size)
  clear F HB hb
  go_wp2_with fail
  refine (dright_no _ _ h _).mono ?_
  rintro e w2 ⟨rfl, hb⟩
  obtain ⟨_, ⟨z1, z2, z3, z4, z5⟩⟩ := F1.below hb
  have HB2 : Hid (Below w.heap.size w w2) := HB1.out.trans (hb.mono HB1.out.size)
  clear F1 HB1 hb
  go_wp2_with fail
  exact bodyPost_ret (v := .tuple #[d0, .int .i64 1]) (by simp [results, Tryd.results36, go_sem, z2, z3]) rfl ⟨rfl, (HB2.out.setCell (by simp) _).setCell (by simp) _⟩

set_option maxRecDepth 100000 in
set_option maxHeartbeats 1000000 in
theorem dround_up (n s p v c x : Int) (h0 : rt s = true) (h : rt p = true) (hsp : s ≤ p)
    (H1 : Hid (∀ w : World, Calls Tryd.prog 71 #[.agg #[.int .i64 n, .int .i64 s], .int .i64 p] w fun e w' => e = .returned (.tuple #[.agg #[.int .i64 v, .int .i64 c], .int .i64 x]) ∧ Below w.heap.size w w')) (w : World) :
    Calls Tryd.prog 36 #[.agg #[.int .i64 n, .int .i64 s], .int .i64 p] w fun e w' => e = .returned (.tuple #[.agg #[.int .i64 v, .int .i64 c], .int .i64 x]) ∧ Below w.heap.size w w' := by
  have F := Two2.new w n s 0 0
  have HB : Hid (Below w.heap.size w (lv2 w n s 0 0)) := lv2_below _ _ _ _ _
  go_enter Tryd.func36, Tryd.ntmps36
  go_wp2_with fail
  refine (dright_yes _ _ h0 _).mono ?_
  rintro e w1 ⟨rfl, hb⟩
  have F1 := F.below hb
  have HB1 : Hid (Below w.heap.size w w1) := HB.out.trans (hb.mono HB.out.size)
  clear F HB hb
  go_wp2_with fail
  refine (dright_yes _ _ h _).mono ?_
  rintro e w2 ⟨rfl, hb⟩
  have F2 := F1.below hb
  obtain ⟨⟨x1, x2, x3, x4, x5⟩, _⟩ := id F2
  have HB2 : Hid (Below w.heap.size w w2) := HB1.out.trans (hb.mono HB1.out.size)
  clear F1 HB1 hb
  go_wp2_with fail
  refine (H1.out _).mono ?_
  rintro e w3 ⟨rfl, hb⟩
  clear x1 x2 x3 x4 x5
  obtain ⟨_, ⟨z1, z2, z3, z4, z5⟩⟩ := F2.below hb
  have HB3 : Hid (Below w.heap.size w w3) := HB2.out.trans (hb.mono HB2.out.size)
  clear F2 HB2 hb
  go_wp2_with fail
  exact bodyPost_ret (v := .tuple #[.agg #[.int .i64 v, .int .i64 c], .int .i64 x]) (by simp [results, Tryd.results36, go_sem, z2, z3]) rfl ⟨rfl, (HB3.out.setCell (by simp) _).setCell (by simp) _⟩

set_option maxRecDepth 100000 in
set_option maxHeartbeats 1000000 in
theorem dround_down (n s p u g q r m : Int) (h0 : rt s = true) (h : rt p = true) (hsp : ¬ s ≤ p) (hu : u ≠ 0) (q1 : -4611686018427387904 ≤ n.tdiv u) (q2 : n.tdiv u ≤ 4611686018427387904)
    (hq : n.tdiv u = q) (hr : n.tmod u = r) (e1 : u.tdiv 2 = g) (e2 : (-u).tdiv 2 = -g) (hg : 0 < g) (hg2 : g ≤ 1000000000) (u1 : 0 < u) (u2 : u ≤ 1000000000)
    (hm : (g ≤ r ∧ m = q + 1) ∨ (r ≤ -g ∧ m = q - 1) ∨ (¬ g ≤ r ∧ ¬ r ≤ -g ∧ m = q))
    (H1 : Hid (∀ w : World, Calls Tryd.prog 72 #[.int .i64 (s - p)] w fun e w' => e = .returned (.int .i64 u) ∧ w' = w)) (w : World) :
    Calls Tryd.prog 36 #[.agg #[.int .i64 n, .int .i64 s], .int .i64 p] w fun e w' => e = .returned (.tuple #[.agg #[.int .i64 m, .int .i64 p], .int .i64 0]) ∧ Below w.heap.size w w' := by
  have F := Two2.new w n s 0 0
  have HB : Hid (Below w.heap.size w (lv2 w n s 0 0)) := lv2_below _ _ _ _ _
  obtain ⟨s1, s2⟩ := rt_yes h0
  obtain ⟨p1, p2⟩ := rt_yes h
  rw [hq] at q1 q2
  have hw : wrap64 q = q := by unfold wrap64; omega
  have hb0 : (u == 0) = false := by rw [beq_eq_false_iff_ne]; exact hu
  rcases hm with ⟨m1, hm⟩ | ⟨m1, hm⟩ | ⟨m1, m2, hm⟩
  · have m2 : ¬ r ≤ -g := by omega
    subst hm
    clear hu
    go_enter Tryd.func36, Tryd.ntmps36
    go_wp2_with fail
    refine (dright_yes _ _ h0 _).mono ?_
    rintro e w1 ⟨rfl, hb⟩
    have F1 := F.below hb
    have HB1 : Hid (Below w.heap.size w w1) := HB.out.trans (hb.mono HB.out.size)
    clear F HB hb
    go_wp2_with fail
    refine (dright_yes _ _ h _).mono ?_
    rintro e w2 ⟨rfl, hb⟩
    have F2 := F1.below hb
    obtain ⟨⟨x1, x2, x3, x4, x5⟩, ⟨z1, z2, z3, z4, z5⟩⟩ := id F2
    have HB2 : Hid (Below w.heap.size w w2) := HB1.out.trans (hb.mono HB1.out.size)
    clear F1 HB1 hb
    go_wp2_with fail
    refine (H1.out _).mono ?_
    rintro e w3 ⟨rfl, rfl⟩
    go_wp2_with fail
    go_quiet (fail)
    go_wp2
    exact bodyPost_ret (v := .tuple #[.agg #[.int .i64 (q + 1), .int .i64 p], .int .i64 0]) (by simp [results, Tryd.results36, go_sem, z2, z3]) rfl ⟨rfl, ((below_drewN HB2.out nq).setCell (by simp) _).setCell (by simp) _⟩
  · have m2 : ¬ g ≤ r := by omega
    subst hm
    clear hu
    go_enter Tryd.func36, Tryd.ntmps36
    go_wp2_with fail
    refine (dright_yes _ _ h0 _).mono ?_
    rintro e w1 ⟨rfl, hb⟩
    have F1 := F.below hb
    have HB1 : Hid (Below w.heap.size w w1) := HB.out.trans (hb.mono HB.out.size)
    clear F HB hb
    go_wp2_with fail
    refine (dright_yes _ _ h _).mono ?_
    rintro e w2 ⟨rfl, hb⟩
    have F2 := F1.below hb
    obtain ⟨⟨x1, x2, x3, x4, x5⟩, ⟨z1, z2, z3, z4, z5⟩⟩ := id F2
    have HB2 : Hid (Below w.heap.size w w2) := HB1.out.trans (hb.mono HB1.out.size)
    clear F1 HB1 hb
    go_wp2_with fail
    refine (H1.out _).mono ?_
    rintro e w3 ⟨rfl, rfl⟩
    go_wp2_with fail
    go_quiet (fail)
    go_wp2
    exact bodyPost_ret (v := .tuple #[.agg #[.int .i64 (q - 1), .int .i64 p], .int .i64 0]) (by simp [results, Tryd.results36, go_sem, z2, z3]) rfl ⟨rfl, ((below_drewN HB2.out nq).setCell (by simp) _).setCell (by simp) _⟩
  · subst hm
    clear hu
    go_enter Tryd.func36, Tryd.ntmps36
    go_wp2_with fail
    refine (dright_yes _ _ h0 _).mono ?_
    rintro e w1 ⟨rfl, hb⟩
    have F1 := F.below hb
    have HB1 : Hid (Below w.heap.size w w1) := HB.out.trans (hb.mono HB.out.size)
    clear F HB hb
    go_wp2_with fail
    refine (dright_yes _ _ h _).mono ?_
    rintro e w2 ⟨rfl, hb⟩
    have F2 := F1.below hb
    obtain ⟨⟨x1, x2, x3, x4, x5⟩, ⟨z1, z2, z3, z4, z5⟩⟩ := id F2
    have HB2 : Hid (Below w.heap.size w w2) := HB1.out.trans (hb.mono HB1.out.size)
    clear F1 HB1 hb
    go_wp2_with fail
    refine (H1.out _).mono ?_
    rintro e w3 ⟨rfl, rfl⟩
    go_wp2_with fail
    go_quiet (fail)
    go_wp2
    exact bodyPost_ret (v := .tuple #[.agg #[.int .i64 (m), .int .i64 p], .int .i64 0]) (by simp [results, Tryd.results36, go_sem, z2, z3]) rfl ⟨rfl, ((below_drewN HB2.out nq).setCell (by simp) _).setCell (by simp) _⟩

theorem ten_even {k : Nat} (h0 : 1 ≤ k) : ∃ g, 0 < g ∧ Dm.ten k = 2 * g := by
  obtain ⟨j, rfl⟩ : ∃ j, k = j + 1 := ⟨k - 1, by omega⟩
  have := Dm.ten_pos j
  exact ⟨5 * Dm.ten j, by omega, by rw [Dm.ten_succ]; omega⟩

theorem rnd_three (n g : Int) (hg : 0 < g) :
    (g ≤ n.tmod (2 * g) ∧ Dm.rnd n (2 * g) = n.tdiv (2 * g) + 1) ∨ (n.tmod (2 * g) ≤ -g ∧ Dm.rnd n (2 * g) = n.tdiv (2 * g) - 1) ∨ (¬ g ≤ n.tmod (2 * g) ∧ ¬ n.tmod (2 * g) ≤ -g ∧ Dm.rnd n (2 * g) = n.tdiv (2 * g)) := by
  by_cases hn : 0 ≤ n
  · have h := Dm.rnd_pos (n := n) (u := 2 * g) rfl hg hn
    have r0 := Int.tmod_nonneg (a := n) (2 * g) hn
    split at h
    · exact .inl ⟨by assumption, h⟩
    · exact .inr (.inr ⟨by assumption, by omega, h⟩)
  · have h := Dm.rnd_pos (n := -n) (u := 2 * g) rfl hg (by omega)
    have r0 := Int.tmod_nonneg (a := -n) (2 * g) (by omega)
    rw [Dm.rnd_neg n (2 * g) (by omega)] at h
    rw [Int.neg_tmod] at h r0
    rw [Int.neg_tdiv] at h
    split at h
    · exact .inr (.inl ⟨by omega, by omega⟩)
    · exact .inr (.inr ⟨by omega, by omega, by omega⟩)

/-- dec.Round, whatever it is given. -/
theorem dround_any (n s p : Int) (h1 : -9223372036854775808 ≤ n) (h2 : n ≤ 9223372036854775807) (w : World) :
    Calls Tryd.prog 36 #[.agg #[.int .i64 n, .int .i64 s], .int .i64 p] w fun e w' => e = .returned (.tuple #[.agg #[.int .i64 (ofN (rndN n s p) (rndE n s p)), .int .i64 (ofN p (rndE n s p))], .int .i64 (rndE n s p)]) ∧ Below w.heap.size w w' := by
  by_cases hr : rt s = true ∧ rt p = true
  · by_cases hsp : s ≤ p
    · have e1 : rndE n s p = smE (n * Dm.ten (p - s).toNat) := by unfold rndE; rw [if_pos hr, if_pos hsp]
      have e2 : rndN n s p = n * Dm.ten (p - s).toNat := by unfold rndN; rw [if_pos hsp]
      rw [e1, e2]
      exact dround_up n s p _ _ _ hr.1 hr.2 hsp (lift_at n s p h1 h2 hr.1 hr.2 hsp) w
    · have e1 : rndE n s p = 0 := by unfold rndE; rw [if_pos hr, if_neg hsp]
      have e2 : rndN n s p = Dm.rnd n (Dm.ten (s - p).toNat) := by unfold rndN; rw [if_neg hsp]
      obtain ⟨s1, s2⟩ := rt_yes hr.1
      obtain ⟨p1, p2⟩ := rt_yes hr.2
      have hk : (s - p).toNat ≤ 9 := by omega
      obtain ⟨g, g0, hg⟩ := ten_even (k := (s - p).toNat) (by omega)
      have hl := Dm.ten_le hk
      have P := power_any (s - p).toNat hk
      rw [show (((s - p).toNat : Nat) : Int) = s - p by omega] at P
      have q := Nm.tdiv_half h1 h2 (b := 2 * g) (by omega)
      rw [hg] at P hl e2
      rw [e1, e2]
      exact dround_down n s p (2 * g) g _ _ _ hr.1 hr.2 hsp (by omega) q.1 q.2 rfl rfl (by rw [Int.mul_tdiv_cancel_left _ (by decide)]) (by rw [Int.neg_tdiv, Int.mul_tdiv_cancel_left _ (by decide)]) g0 (by omega) (by omega) (by omega) (rnd_three n g g0) P w
  · have e : rndE n s p = 1 := by unfold rndE; rw [if_neg hr]
    rw [e]
    cases hx : rt s
    · exact dround_bad1 n s p hx w
    · cases hy : rt p
      · exact dround_bad2 n s p hx hy w
      · exact absurd ⟨hx, hy⟩ hr

end Go.Proofs.YtlhlanekklonmaaDoor
