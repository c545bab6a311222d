/- Contracts of dec.Cmp, dec.Floor, dec.Round: order, the whole part, other places. -/
import Derived.Test.YtebjicnjbiiioaaDoorDecD
import Derived.Deep.QuietTactic
import Derived.BigQuiet
namespace Go.Proofs.YtebjicnjbiiioaaDoor
open Go.RowKit
set_option linter.unusedVariables false

theorem below_drewN {B : Nat} {a w : World} (h : Below B a w) (n : Nat) : Below B a (w.drewN n) := h.trans ⟨rfl, rfl, rfl, Nat.le_refl _, fun _ _ => rfl⟩

/-- two blocks. -/
abbrev lv2 (w : World) (xn xs yn ys : Int) : World := (w.alloc (dbox xn xs)).alloc (dbox yn ys)
def Two2 (w : World) (B : Nat) (xn xs yn ys : Int) : Prop := Box w B xn xs ∧ Box w (B + 1) yn ys
theorem Two2.new (w : World) (xn xs yn ys : Int) : Two2 (lv2 w xn xs yn ys) w.heap.size xn xs yn ys :=
  ⟨by have := (Box.new w xn xs).alloc (dbox yn ys); simpa using this, by have := Box.new (w.alloc (dbox xn xs)) yn ys; simpa using this⟩
theorem Two2.below {w w1 : World} {B : Nat} {xn xs yn ys : Int} (h : Two2 w B xn xs yn ys) (hb : Below w.heap.size w w1) : Two2 w1 B xn xs yn ys :=
  ⟨h.1.below hb h.1.1, h.2.below hb h.2.1⟩
theorem Two2.alloc {w : World} {B : Nat} {xn xs yn ys : Int} (h : Two2 w B xn xs yn ys) (o : Obj) : Two2 (w.alloc o) B xn xs yn ys :=
  ⟨h.1.alloc o, h.2.alloc o⟩
theorem lv2_below (w : World) (xn xs yn ys : Int) : Below w.heap.size w (lv2 w xn xs yn ys) := (by repeat' (first | assumption | exact Below.refl _ _ | exact Nat.le_refl _ | refine Below.alloc ?_ ?_ _ | (simp; done) | (simp; omega) | omega))

/-- a number at nine places. -/
def at9 (n s : Int) : Int := n * Dm.ten (9 - s).toNat
/-- which number is the lesser one. -/
def cmpV (xn xs yn ys : Int) : Int := if rt xs = true ∧ rt ys = true then cmp3 (at9 xn xs) (at9 yn ys) else 0

theorem cmp3_mul {a b t : Int} (ht : 0 < t) : cmp3 (a * t) (b * t) = cmp3 a b := by
  have h1 : a * t < b * t ↔ a < b := Int.mul_lt_mul_right ht
  have h2 : b * t < a * t ↔ b < a := Int.mul_lt_mul_right ht
  unfold cmp3
  simp only [h1, h2]
theorem at9_up {n s c : Int} (hs : rt s = true) (hc : rt c = true) (hsc : s ≤ c) : at9 n s = n * Dm.ten (c - s).toNat * Dm.ten (9 - c).toNat := by
  obtain ⟨h1, h2⟩ := rt_yes hs
  obtain ⟨h3, h4⟩ := rt_yes hc
  unfold at9
  rw [Int.mul_assoc, ← Dm.ten_add]
  congr 2
  omega
theorem cmpV_level {xn xs yn ys : Int} (hx : rt xs = true) (hy : rt ys = true) : cmpV xn xs yn ys = cmp3 (la xn xs yn ys) (lb xn xs yn ys) := by
  unfold cmpV
  rw [if_pos ⟨hx, hy⟩, at9_up hx (rt_max hx hy) (Int.le_max_left _ _), at9_up hy (rt_max hx hy) (Int.le_max_right _ _), cmp3_mul (Dm.ten_pos _)]
  rfl

theorem smE_out' {x : Int} (h : smE x ≠ 0) : x < -9223372036854775808 ∨ 9223372036854775807 < x := by
  by_cases l : -9223372036854775808 ≤ x ∧ x ≤ 9223372036854775807
  · exact absurd (if_pos l) h
  · omega

set_option maxRecDepth 100000 in
set_option maxHeartbeats 1000000 in
theorem dfloor_bad (n s : Int) (h : rt s = false) (w : World) :
    Calls Tryd.prog 41 #[.agg #[.int .i64 n, .int .i64 s]] w fun e w' => e = .returned (.tuple #[.int .i64 0, .int .i64 1]) ∧ Below w.heap.size w w' := by
  go_enter Tryd.func41, Tryd.ntmps41
  go_wp2_with fail
  refine (dright_no _ _ h _).mono ?_
  rintro e w1 ⟨rfl, hb⟩
  go_wp2
  go_ret2
  exact ⟨rfl, ((Below.refl _ _).alloc (Nat.le_refl _) _).trans (hb.mono (by simp))⟩

set_option maxRecDepth 100000 in
set_option maxHeartbeats 1000000 in
theorem dfloor_ok (n s t v : Int) (h : rt s = true)
    (H1 : Hid (∀ w : World, Calls Tryd.prog 64 #[.int .i64 s] w fun e w' => e = .returned (.int .i64 t) ∧ w' = w))
    (H2 : Hid (∀ w : World, Calls Tryd.prog 65 #[.int .i64 n, .int .i64 t] w fun e w' => e = .returned (.tuple #[.int .i64 v, .int .i64 0]) ∧ w' = w)) (w : World) :
    Calls Tryd.prog 41 #[.agg #[.int .i64 n, .int .i64 s]] w fun e w' => e = .returned (.tuple #[.int .i64 v, .int .i64 0]) ∧ Below w.heap.size w w' := by
  have F := Box.new w n s
  go_enter Tryd.func41, Tryd.ntmps41
  go_wp2_with fail
  refine (dright_yes _ _ h _).mono ?_
  rintro e w1 ⟨rfl, hb⟩
  obtain ⟨x1, x2, x3, x4, x5⟩ := F.below hb F.1
  have HB1 : Hid (Below w.heap.size w w1) := ((Below.refl _ _).alloc (Nat.le_refl _) _).trans (hb.mono (by simp))
  clear F hb
  go_wp2_with fail
  go_quiet (first | (go_at_call 64; refine Calls.quiet_of_same (H1.out _)) | (go_at_call 65; refine Calls.quiet_of_same (H2.out _)))
  go_wp2
  go_ret2
  exact ⟨rfl, below_drewN HB1.out nq⟩

theorem dfloor_any (n s : Int) (h1 : -9223372036854775808 ≤ n) (h2 : n ≤ 9223372036854775807) (h : rt s = true) (w : World) :
    Calls Tryd.prog 41 #[.agg #[.int .i64 n, .int .i64 s]] w fun e w' => e = .returned (.tuple #[.int .i64 (n.fdiv (Dm.ten s.toNat)), .int .i64 0]) ∧ Below w.heap.size w w' := by
  obtain ⟨k, hk, rfl⟩ := nat_of_rt h
  have t0 := Dm.ten_pos k
  have t1 := Dm.ten_le hk
  exact dfloor_ok n k (Dm.ten k) _ h (power_any k hk) (div_in n (Dm.ten k) h1 h2 (by omega) (by omega) (by omega) (.inr (by omega))) w

/-- a number with other places. -/
def rndN (n s p : Int) : Int := if s ≤ p then n * Dm.ten (p - s).toNat else Dm.rnd n (Dm.ten (s - p).toNat)
def rndE (n s p : Int) : Int := if rt s = true ∧ rt p = true then (if s ≤ p then smE (n * Dm.ten (p - s).toNat) else 0) else 1

set_option maxRecDepth 100000 in
set_option maxHeartbeats 1000000 in
theorem dround_bad1 (n s p : Int) (h : rt s = false) (w : World) :
    Calls Tryd.prog 40 #[.agg #[.int .i64 n, .int .i64 s], .int .i64 p] w fun e w' => e = .returned (.tuple #[d0, .int .i64 1]) ∧ Below w.heap.size w w' := by
  have F := Two2.new w n s 0 0
  have HB : Hid (Below w.heap.size w (lv2 w n s 0 0)) := lv2_below _ _ _ _ _
  go_enter Tryd.func40, Tryd.ntmps40
  go_wp2_with fail
  refine (dright_no _ _ h _).mono ?_
  rintro e w1 ⟨rfl, hb⟩
  obtain ⟨_, ⟨z1, z2, z3, z4, z5⟩⟩ := F.below hb
  have HB1 : Hid (Below w.heap.size w w1) := HB.out.trans (hb.mono HB.out.size)
  clear F HB hb
  go_wp2_with fail
  exact bodyPost_ret (v := .tuple #[d0, .int .i64 1]) (by simp [results, Tryd.results40, go_sem, z2, z3]) rfl ⟨rfl, (HB1.out.setCell (by simp) _).setCell (by simp) _⟩

set_option maxRecDepth 100000 in
set_option maxHeartbeats 1000000 in
theorem dround_bad2 (n s p : Int) (h0 : rt s = true) (h : rt p = false) (w : World) :
    Calls Tryd.prog 40 #[.agg #[.int .i64 n, .int .i64 s], .int .i64 p] w fun e w' => e = .returned (.tuple #[d0, .int .i64 1]) ∧ Below w.heap.size w w' := by
  have F := Two2.new w n s 0 0
  have HB : Hid (Below w.heap.size w (lv2 w n s 0 0)) := lv2_below _ _ _ _ _
  go_enter Tryd.func40, Tryd.ntmps40
  go_wp2_with fail
  refine (dright_yes _ _ h0 _).mono ?_
  rintro e w1 ⟨rfl, hb⟩
  have F1 := F.below hb
  have HB1 : Hid (Below w.heap.size w w1) := HB.out.trans (hb.mono HB.out.size)
  clear F HB hb
  go_wp2_with fail
  refine (dright_no _ _ h _).mono ?_
  rintro e w2 ⟨rfl, hb⟩
  obtain ⟨_, ⟨z1, z2, z3, z4, z5⟩⟩ := F1.below hb
  have HB2 : Hid (Below w.heap.size w w2) := HB1.out.trans (hb.mono HB1.out.size)
  clear F1 HB1 hb
  go_wp2_with fail
  exact bodyPost_ret (v := .tuple #[d0, .int .i64 1]) (by simp [results, Tryd.results40, go_sem, z2, z3]) rfl ⟨rfl, (HB2.out.setCell (by simp) _).setCell (by simp) _⟩

set_option maxRecDepth 100000 in
set_option maxHeartbeats 1000000 in
theorem dround_up (n s p v c x : Int) (h0 : rt s = true) (h : rt p = true) (hsp : s ≤ p)
    (H1 : Hid (∀ w : World, Calls Tryd.prog 63 #[.agg #[.int .i64 n, .int .i64 s], .int .i64 p] w fun e w' => e = .returned (.tuple #[.agg #[.int .i64 v, .int .i64 c], .int .i64 x]) ∧ Below w.heap.size w w')) (w : World) :
    Calls Tryd.prog 40 #[.agg #[.int .i64 n, .int .i64 s], .int .i64 p] w fun e w' => e = .returned (.tuple #[.agg #[.int .i64 v, .int .i64 c], .int .i64 x]) ∧ Below w.heap.size w w' := by
  have F := Two2.new w n s 0 0
  have HB : Hid (Below w.heap.size w (lv2 w n s 0 0)) := lv2_below _ _ _ _ _
  go_enter Tryd.func40, Tryd.ntmps40
  go_wp2_with fail
  refine (dright_yes _ _ h0 _).mono ?_
  rintro e w1 ⟨rfl, hb⟩
  have F1 := F.below hb
  have HB1 : Hid (Below w.heap.size w w1) := HB.out.trans (hb.mono HB.out.size)
  clear F HB hb
  go_wp2_with fail
  refine (dright_yes _ _ h _).mono ?_
  rintro e w2 ⟨rfl, hb⟩
  have F2 := F1.below hb
  obtain ⟨⟨x1, x2, x3, x4, x5⟩, _⟩ := id F2
  have HB2 : Hid (Below w.heap.size w w2) := HB1.out.trans (hb.mono HB1.out.size)
  clear F1 HB1 hb
  go_wp2_with fail
  refine (H1.out _).mono ?_
  rintro e w3 ⟨rfl, hb⟩
  clear x1 x2 x3 x4 x5
  obtain ⟨_, ⟨z1, z2, z3, z4, z5⟩⟩ := F2.below hb
  have HB3 : Hid (Below w.heap.size w w3) := HB2.out.trans (hb.mono HB2.out.size)
  clear F2 HB2 hb
  go_wp2_with fail
  exact bodyPost_ret (v := .tuple #[.agg #[.int .i64 v, .int .i64 c], .int .i64 x]) (by simp [results, Tryd.results40, go_sem, z2, z3]) rfl ⟨rfl, (HB3.out.setCell (by simp) _).setCell (by simp) _⟩

set_option maxRecDepth 100000 in
set_option maxHeartbeats 1000000 in
theorem dround_down (n s p u g q r m : Int) (h0 : rt s = true) (h : rt p = true) (hsp : ¬ s ≤ p) (hu : u ≠ 0) (q1 : -4611686018427387904 ≤ n.tdiv u) (q2 : n.tdiv u ≤ 4611686018427387904)
    (hq : n.tdiv u = q) (hr : n.tmod u = r) (e1 : u.tdiv 2 = g) (e2 : (-u).tdiv 2 = -g) (hg : 0 < g) (hg2 : g ≤ 1000000000) (u1 : 0 < u) (u2 : u ≤ 1000000000)
    (hm : (g ≤ r ∧ m = q + 1) ∨ (r ≤ -g ∧ m = q - 1) ∨ (¬ g ≤ r ∧ ¬ r ≤ -g ∧ m = q))
    (H1 : Hid (∀ w : World, Calls Tryd.prog 64 #[.int .i64 (s - p)] w fun e w' => e = .returned (.int .i64 u) ∧ w' = w)) (w : World) :
    Calls Tryd.prog 40 #[.agg #[.int .i64 n, .int .i64 s], .int .i64 p] w fun e w' => e = .returned (.tuple #[.agg #[.int .i64 m, .int .i64 p], .int .i64 0]) ∧ Below w.heap.size w w' := by
  have F := Two2.new w n s 0 0
  have HB : Hid (Below w.heap.size w (lv2 w n s 0 0)) := lv2_below _ _ _ _ _
  obtain ⟨s1, s2⟩ := rt_yes h0
  obtain ⟨p1, p2⟩ := rt_yes h
  rw [hq] at q1 q2
  have hw : wrap64 q = q := by unfold wrap64; omega
  have hb0 : (u == 0) = false := by rw [beq_eq_false_iff_ne]; exact hu
  rcases hm with ⟨m1, hm⟩ | ⟨m1, hm⟩ | ⟨m1, m2, hm⟩
  · have m2 : ¬ r ≤ -g := by omega
    subst hm
    clear hu
    go_enter Tryd.func40, Tryd.ntmps40
    go_wp2_with fail
    refine (dright_yes _ _ h0 _).mono ?_
    rintro e w1 ⟨rfl, hb⟩
    have F1 := F.below hb
    have HB1 : Hid (Below w.heap.size w w1) := HB.out.trans (hb.mono HB.out.size)
    clear F HB hb
    go_wp2_with fail
    refine (dright_yes _ _ h _).mono ?_
    rintro e w2 ⟨rfl, hb⟩
    have F2 := F1.below hb
    obtain ⟨⟨x1, x2, x3, x4, x5⟩, ⟨z1, z2, z3, z4, z5⟩⟩ := id F2
    have HB2 : Hid (Below w.heap.size w w2) := HB1.out.trans (hb.mono HB1.out.size)
    clear F1 HB1 hb
    go_wp2_with fail
    refine (H1.out _).mono ?_
    rintro e w3 ⟨rfl, rfl⟩
    go_wp2_with fail
    go_quiet (fail)
    go_wp2
    exact bodyPost_ret (v := .tuple #[.agg #[.int .i64 (q + 1), .int .i64 p], .int .i64 0]) (by simp [results, Tryd.results40, go_sem, z2, z3]) rfl ⟨rfl, ((below_drewN HB2.out nq).setCell (by simp) _).setCell (by simp) _⟩
  · have m2 : ¬ g ≤ r := by omega
    subst hm
    clear hu
    go_enter Tryd.func40, Tryd.ntmps40
    go_wp2_with fail
    refine (dright_yes _ _ h0 _).mono ?_
    rintro e w1 ⟨rfl, hb⟩
    have F1 := F.below hb
    have HB1 : Hid (Below w.heap.size w w1) := HB.out.trans (hb.mono HB.out.size)
    clear F HB hb
    go_wp2_with fail
    refine (dright_yes _ _ h _).mono ?_
    rintro e w2 ⟨rfl, hb⟩
    have F2 := F1.below hb
    obtain ⟨⟨x1, x2, x3, x4, x5⟩, ⟨z1, z2, z3, z4, z5⟩⟩ := id F2
    have HB2 : Hid (Below w.heap.size w w2) := HB1.out.trans (hb.mono HB1.out.size)
    clear F1 HB1 hb
    go_wp2_with fail
    refine (H1.out _).mono ?_
    rintro e w3 ⟨rfl, rfl⟩
    go_wp2_with fail
    go_quiet (fail)
    go_wp2
    exact bodyPost_ret (v := .tuple #[.agg #[.int .i64 (q - 1), .int .i64 p], .int .i64 0]) (by simp [results, Tryd.results40, go_sem, z2, z3]) rfl ⟨rfl, ((below_drewN HB2.out nq).setCell (by simp) _).setCell (by simp) _⟩
  · subst hm
    clear hu
    go_enter Tryd.func40, Tryd.ntmps40
    go_wp2_with fail
    refine (dright_yes _ _ h0 _).mono ?_
    rintro e w1 ⟨rfl, hb⟩
    have F1 := F.below hb
    have HB1 : Hid (Below w.heap.size w w1) := HB.out.trans (hb.mono HB.out.size)
    clear F HB hb
    go_wp2_with fail
    refine (dright_yes _ _ h _).mono ?_
    rintro e w2 ⟨rfl, hb⟩
    have F2 := F1.below hb
    obtain ⟨⟨x1, x2, x3, x4, x5⟩, ⟨z1, z2, z3, z4, z5⟩⟩ := id F2
    have HB2 : Hid (Below w.heap.size w w2) := HB1.out.trans (hb.mono HB1.out.size)
    clear F1 HB1 hb
    go_wp2_with fail
    refine (H1.out _).mono ?_
    rintro e w3 ⟨rfl, rfl⟩
    go_wp2_with fail
    go_quiet (fail)
    go_wp2
    exact bodyPost_ret (v := .tuple #[.agg #[.int .i64 (m), .int .i64 p], .int .i64 0]) (by simp [results, Tryd.results40, go_sem, z2, z3]) rfl ⟨rfl, ((below_drewN HB2.out nq).setCell (by simp) _).setCell (by simp) _⟩

theorem ten_even {k : Nat} (h0 : 1 ≤ k) : ∃ g, 0 < g ∧ Dm.ten k = 2 * g := by
  obtain ⟨j, rfl⟩ : ∃ j, k = j + 1 := ⟨k - 1, by omega⟩
  have := Dm.ten_pos j
  exact ⟨5 * Dm.ten j, by omega, by rw [Dm.ten_succ]; omega⟩

theorem rnd_three (n g : Int) (hg : 0 < g) :
    (g ≤ n.tmod (2 * g) ∧ Dm.rnd n (2 * g) = n.tdiv (2 * g) + 1) ∨ (n.tmod (2 * g) ≤ -g ∧ Dm.rnd n (2 * g) = n.tdiv (2 * g) - 1) ∨ (¬ g ≤ n.tmod (2 * g) ∧ ¬ n.tmod (2 * g) ≤ -g ∧ Dm.rnd n (2 * g) = n.tdiv (2 * g)) := by
  by_cases hn : 0 ≤ n
  · have h := Dm.rnd_pos (n := n) (u := 2 * g) rfl hg hn
    have r0 := Int.tmod_nonneg (a := n) (2 * g) hn
    split at h
    · exact .inl ⟨by assumption, h⟩
    · exact .inr (.inr ⟨by assumption, by omega, h⟩)
  · have h := Dm.rnd_pos (n := -n) (u := 2 * g) rfl hg (by omega)
    have r0 := Int.tmod_nonneg (a := -n) (2 * g) (by omega)
    rw [Dm.rnd_neg n (2 * g) (by omega)] at h
    rw [Int.neg_tmod] at h r0
    rw [Int.neg_tdiv] at h
    split at h
    · exact .inr (.inl ⟨by omega, by omega⟩)
    · exact .inr (.inr ⟨by omega, by omega, by omega⟩)

/-- dec.Round, whatever it is given. -/
theorem dround_any (n s p : Int) (h1 : -9223372036854775808 ≤ n) (h2 : n ≤ 9223372036854775807) (w : World) :
    Calls Tryd.prog 40 #[.agg #[.int .i64 n, .int .i64 s], .int .i64 p] w fun e w' => e = .returned (.tuple #[.agg #[.int .i64 (ofN (rndN n s p) (rndE n s p)), .int .i64 (ofN p (rndE n s p))], .int .i64 (rndE n s p)]) ∧ Below w.heap.size w w' := by
  by_cases hr : rt s = true ∧ rt p = true
  · by_cases hsp : s ≤ p
    · have e1 : rndE n s p = smE (n * Dm.ten (p - s).toNat) := by unfold rndE; rw [if_pos hr, if_pos hsp]
      have e2 : rndN n s p = n * Dm.ten (p - s).toNat := by unfold rndN; rw [if_pos hsp]
      rw [e1, e2]
      exact dround_up n s p _ _ _ hr.1 hr.2 hsp (lift_at n s p h1 h2 hr.1 hr.2 hsp) w
    · have e1 : rndE n s p = 0 := by unfold rndE; rw [if_pos hr, if_neg hsp]
      have e2 : rndN n s p = Dm.rnd n (Dm.ten (s - p).toNat) := by unfold rndN; rw [if_neg hsp]
      obtain ⟨s1, s2⟩ := rt_yes hr.1
      obtain ⟨p1, p2⟩ := rt_yes hr.2
      have hk : (s - p).toNat ≤ 9 := by omega
      obtain ⟨g, g0, hg⟩ := ten_even (k := (s - p).toNat) (by omega)
      have hl := Dm.ten_le hk
      have P := power_any (s - p).toNat hk
      rw [show (((s - p).toNat : Nat) : Int) = s - p by omega] at P
      have q := Nm.tdiv_half h1 h2 (b := 2 * g) (by omega)
      rw [hg] at P hl e2
      rw [e1, e2]
      exact dround_down n s p (2 * g) g _ _ _ hr.1 hr.2 hsp (by omega) q.1 q.2 rfl rfl (by rw [Int.mul_tdiv_cancel_left _ (by decide)]) (by rw [Int.neg_tdiv, Int.mul_tdiv_cancel_left _ (by decide)]) g0 (by omega) (by omega) (by omega) (rnd_three n g g0) P w
  · have e : rndE n s p = 1 := by unfold rndE; rw [if_neg hr]
    rw [e]
    cases hx : rt s
    · exact dround_bad1 n s p hx w
    · cases hy : rt p
      · exact dround_bad2 n s p hx hy w
      · exact absurd ⟨hx, hy⟩ hr

end Go.Proofs.YtebjicnjbiiioaaDoor
