/- Contracts of the reference's Right, Round, Floor and Trim on decimal numbers. -/
import Derived.Test.YtlhlanekklonmaaDoorDecU
import Derived.Test.YtlhlanekklonmaaDoorWideQ
import Derived.BigQuiet
import Derived.Deep.QuietTactic
namespace Go.Proofs.YtlhlanekklonmaaDoor
open Go.RowKit
set_option linter.unusedVariables false

set_option maxHeartbeats 400000 in
theorem eright_yes (n s : Int) (h : rt s = true) (w : World) :
    Calls Tryd.prog 34 #[.agg #[.int .i64 n, .int .i64 s]] w fun e w' => e = .returned (.bool true) ∧ Below w.heap.size w w' := by
  obtain ⟨h1, h2⟩ := rt_yes h
  clear h
  go_enter Tryd.func34, Tryd.ntmps34
  go_wp2
  go_ret
  exact ⟨rfl, (by repeat' (first | assumption | exact Below.refl _ _ | exact Nat.le_refl _ | refine Below.alloc ?_ ?_ _ | (simp; done) | (simp; omega) | omega))⟩

set_option maxHeartbeats 400000 in
theorem eright_no (n s : Int) (h : rt s = false) (w : World) :
    Calls Tryd.prog 34 #[.agg #[.int .i64 n, .int .i64 s]] w fun e w' => e = .returned (.bool false) ∧ Below w.heap.size w w' := by
  have h1 := rt_no h
  clear h
  rcases h1 with h1 | h1
  · go_enter Tryd.func34, Tryd.ntmps34
    go_wp2
    go_ret
    exact ⟨rfl, (by repeat' (first | assumption | exact Below.refl _ _ | exact Nat.le_refl _ | refine Below.alloc ?_ ?_ _ | (simp; done) | (simp; omega) | omega))⟩
  · have h2 : 0 ≤ s := by omega
    go_enter Tryd.func34, Tryd.ntmps34
    go_wp2
    go_ret
    exact ⟨ret_bool (decide_eq_false (by omega)), (by repeat' (first | assumption | exact Below.refl _ _ | exact Nat.le_refl _ | refine Below.alloc ?_ ?_ _ | (simp; done) | (simp; omega) | omega))⟩

/-- the reference's box of a number, and the place of an answer. -/
abbrev rv2 (w : World) (n s : Int) : World := (w.alloc (.cells #[.int .i64 n, .int .i64 s] 33)).alloc (.cells #[.int .i64 0, .int .i64 0] 33)
theorem rv2_two (w : World) (n s : Int) : Two2 (rv2 w n s) w.heap.size n s 0 0 :=
  ⟨by have := (Box.newT w n s 33).alloc (.cells #[.int .i64 0, .int .i64 0] 33); simpa using this, by have := Box.newT (w.alloc (.cells #[.int .i64 n, .int .i64 s] 33)) 0 0 33; simpa using this⟩
theorem rv2_below (w : World) (n s : Int) : Below w.heap.size w (rv2 w n s) := (by repeat' (first | assumption | exact Below.refl _ _ | exact Nat.le_refl _ | refine Below.alloc ?_ ?_ _ | (simp; done) | (simp; omega) | omega))

set_option maxRecDepth 100000 in
set_option maxHeartbeats 1000000 in
theorem eround_bad1 (n s p : Int) (h : rt s = false) (w : World) :
    Calls Tryd.prog 37 #[.agg #[.int .i64 n, .int .i64 s], .int .i64 p] w fun e w' => e = .returned (.tuple #[d0, .int .i64 1]) ∧ Below w.heap.size w w' := by
  have F := rv2_two w n s
  have HB : Hid (Below w.heap.size w (rv2 w n s)) := rv2_below _ _ _
  go_enter Tryd.func37, Tryd.ntmps37
  go_wp2_with fail
  refine (eright_no _ _ h _).mono ?_
  rintro e w1 ⟨rfl, hb⟩
  obtain ⟨_, ⟨z1, z2, z3, z4, z5⟩⟩ := F.below hb
  have HB1 : Hid (Below w.heap.size w w1) := HB.out.trans (hb.mono HB.out.size)
  clear F HB hb
  go_wp2_with fail
  exact bodyPost_ret (v := .tuple #[d0, .int .i64 1]) (by simp [results, Tryd.results37, go_sem, z2, z3]) rfl ⟨rfl, (HB1.out.setCell (by simp) _).setCell (by simp) _⟩

set_option maxRecDepth 100000 in
set_option maxHeartbeats 1000000 in
theorem eround_bad2 (n s p : Int) (h0 : rt s = true) (h : rt p = false) (w : World) :
    Calls Tryd.prog 37 #[.agg #[.int .i64 n, .int .i64 s], .int .i64 p] w fun e w' => e = .returned (.tuple #[d0, .int .i64 1]) ∧ Below w.heap.size w w' := by
  have F := rv2_two w n s
  have HB : Hid (Below w.heap.size w (rv2 w n s)) := rv2_below _ _ _
  rcases rt_no h with hp | hp
  · go_enter Tryd.func37, Tryd.ntmps37
    go_wp2_with fail
    refine (eright_yes _ _ h0 _).mono ?_
    rintro e w1 ⟨rfl, hb⟩
    obtain ⟨_, ⟨z1, z2, z3, z4, z5⟩⟩ := F.below hb
    have HB1 : Hid (Below w.heap.size w w1) := HB.out.trans (hb.mono HB.out.size)
    clear F HB hb
    go_wp2_with fail
    exact bodyPost_ret (v := .tuple #[d0, .int .i64 1]) (by simp [results, Tryd.results37, go_sem, z2, z3]) rfl ⟨rfl, (HB1.out.setCell (by simp) _).setCell (by simp) _⟩
  · have hp0 : ¬ p < 0 := by omega
    go_enter Tryd.func37, Tryd.ntmps37
    go_wp2_with fail
    refine (eright_yes _ _ h0 _).mono ?_
    rintro e w1 ⟨rfl, hb⟩
    obtain ⟨_, ⟨z1, z2, z3, z4, z5⟩⟩ := F.below hb
    have HB1 : Hid (Below w.heap.size w w1) := HB.out.trans (hb.mono HB.out.size)
    clear F HB hb
    go_wp2_with fail
    exact bodyPost_ret (v := .tuple #[d0, .int .i64 1]) (by simp [results, Tryd.results37, go_sem, z2, z3]) rfl ⟨rfl, (HB1.out.setCell (by simp) _).setCell (by simp) _⟩

set_option maxRecDepth 100000 in
set_option maxHeartbeats 1000000 in
theorem eround_up (n s p x : Int) (h0 : rt s = true) (h : rt p = true) (hsp : s ≤ p)
    (H1 : Hid (∀ w : World, Calls Tryd.prog 67 #[.agg #[.int .i64 n, .int .i64 s], .int .i64 p] w fun e w' => ∃ v, e = .returned v ∧ IsW w' v x ∧ Below w.heap.size w w')) (w : World) :
    Calls Tryd.prog 37 #[.agg #[.int .i64 n, .int .i64 s], .int .i64 p] w fun e w' => e = .returned (.tuple #[.agg #[.int .i64 (ofN x (smE x)), .int .i64 (ofN p (smE x))], .int .i64 (smE x)]) ∧ Below w.heap.size w w' := by
  have F := rv2_two w n s
  have HB : Hid (Below w.heap.size w (rv2 w n s)) := rv2_below _ _ _
  obtain ⟨p1, p2⟩ := rt_yes h
  have p1' : ¬ p < 0 := by omega
  have p2' : ¬ 9 < p := by omega
  have HS : Hid (∀ (v : Value) (w : World), IsW w v x → Calls Tryd.prog 73 #[v] w fun e w' => e = .returned (.tuple #[.int .i64 (smV x), .int .i64 (smE x)]) ∧ Below w.heap.size w w') := fun v w h => wsmall v _ w h
  obtain ⟨E, hE⟩ : ∃ E, smE x = E := ⟨_, rfl⟩
  obtain ⟨V, hV⟩ : ∃ V, smV x = V := ⟨_, rfl⟩
  by_cases hz : smE x = 0
  · have hx := (sm_ok hz).2
    rw [hz] at HS ⊢
    rw [hx] at HS
    rw [(of_zero x p).1, (of_zero p p).1]
    clear hE hV hx hz
    go_enter Tryd.func37, Tryd.ntmps37
    go_wp2_with fail
    refine (eright_yes _ _ h0 _).mono ?_
    rintro e w1 ⟨rfl, hb⟩
    have F1 := F.below hb
    obtain ⟨⟨x1, x2, x3, x4, x5⟩, _⟩ := id F1
    have HB1 : Hid (Below w.heap.size w w1) := HB.out.trans (hb.mono HB.out.size)
    clear F HB hb
    go_wp2_with fail
    refine (H1.out _).mono ?_
    rintro e w2 ⟨v, rfl, hv, hb⟩
    have F2 := F1.below hb
    have HB2 : Hid (Below w.heap.size w w2) := HB1.out.trans (hb.mono HB1.out.size)
    clear F1 HB1 hb x1 x2 x3 x4 x5
    go_wp2_with fail
    refine (HS.out _ _ hv).mono ?_
    rintro e w3 ⟨rfl, hb⟩
    obtain ⟨_, ⟨z1, z2, z3, z4, z5⟩⟩ := F2.below hb
    have HB3 : Hid (Below w.heap.size w w3) := HB2.out.trans (hb.mono HB2.out.size)
    clear F2 HB2 hb hv
    go_wp2_with fail
    exact bodyPost_ret (v := .tuple #[.agg #[.int .i64 x, .int .i64 p], .int .i64 0]) (by simp [results, Tryd.results37, go_sem, z2, z3]) rfl ⟨rfl, (HB3.out.setCell (by simp) _).setCell (by simp) _⟩
  · obtain ⟨hx, hx2⟩ := sm_bad hz
    rw [hx] at HS ⊢
    rw [hx2] at HS
    rw [(of_err (show (10 : Int) ≠ 0 by decide) x p).1, (of_err (show (10 : Int) ≠ 0 by decide) p p).1]
    clear hE hV hx hz hx2
    go_enter Tryd.func37, Tryd.ntmps37
    go_wp2_with fail
    refine (eright_yes _ _ h0 _).mono ?_
    rintro e w1 ⟨rfl, hb⟩
    have F1 := F.below hb
    obtain ⟨⟨x1, x2, x3, x4, x5⟩, _⟩ := id F1
    have HB1 : Hid (Below w.heap.size w w1) := HB.out.trans (hb.mono HB.out.size)
    clear F HB hb
    go_wp2_with fail
    refine (H1.out _).mono ?_
    rintro e w2 ⟨v, rfl, hv, hb⟩
    have F2 := F1.below hb
    have HB2 : Hid (Below w.heap.size w w2) := HB1.out.trans (hb.mono HB1.out.size)
    clear F1 HB1 hb x1 x2 x3 x4 x5
    go_wp2_with fail
    refine (HS.out _ _ hv).mono ?_
    rintro e w3 ⟨rfl, hb⟩
    obtain ⟨_, ⟨z1, z2, z3, z4, z5⟩⟩ := F2.below hb
    have HB3 : Hid (Below w.heap.size w w3) := HB2.out.trans (hb.mono HB2.out.size)
    clear F2 HB2 hb hv
    go_wp2_with fail
    exact bodyPost_ret (v := .tuple #[d0, .int .i64 10]) (by simp [results, Tryd.results37, go_sem, z2, z3]) rfl ⟨rfl, (HB3.out.setCell (by simp) _).setCell (by simp) _⟩

set_option maxRecDepth 100000 in
set_option maxHeartbeats 2000000 in
theorem eround_down (n s p u g q r m : Int) (h0 : rt s = true) (h : rt p = true) (hsp : ¬ s ≤ p) (hu : u ≠ 0) (q1 : -4611686018427387904 ≤ n.tdiv u) (q2 : n.tdiv u ≤ 4611686018427387904)
    (hq : n.tdiv u = q) (hr : n.tmod u = r) (e1 : u.tdiv 2 = g) (hg : 0 < g) (hg2 : g ≤ 1000000000) (u1 : 0 < u) (u2 : u ≤ 1000000000)
    (hm : (g ≤ r ∧ m = q + 1) ∨ (r ≤ -g ∧ m = q - 1) ∨ (¬ g ≤ r ∧ ¬ r ≤ -g ∧ m = q))
    (H1 : Hid (∀ w : World, Calls Tryd.prog 74 #[.int .i64 (s - p)] w fun e w' => e = .returned (.int .i64 u) ∧ Below w.heap.size w w')) (w : World) :
    Calls Tryd.prog 37 #[.agg #[.int .i64 n, .int .i64 s], .int .i64 p] w fun e w' => e = .returned (.tuple #[.agg #[.int .i64 m, .int .i64 p], .int .i64 0]) ∧ Below w.heap.size w w' := by
  have F := rv2_two w n s
  have HB : Hid (Below w.heap.size w (rv2 w n s)) := rv2_below _ _ _
  obtain ⟨s1, s2⟩ := rt_yes h0
  obtain ⟨p1, p2⟩ := rt_yes h
  have p1' : ¬ p < 0 := by omega
  have p2' : ¬ 9 < p := by omega
  rw [hq] at q1 q2
  have hw : wrap64 q = q := by unfold wrap64; omega
  have hb0 : (u == 0) = false := by rw [beq_eq_false_iff_ne]; exact hu
  rcases hm with ⟨m1, hm⟩ | ⟨m1, hm⟩ | ⟨m1, m2, hm⟩
  · have m2 : ¬ r ≤ -g := by omega
    subst hm
    clear hu
    go_enter Tryd.func37, Tryd.ntmps37
    go_wp2_with fail
    refine (eright_yes _ _ h0 _).mono ?_
    rintro e w1 ⟨rfl, hb⟩
    have F1 := F.below hb
    obtain ⟨⟨x1, x2, x3, x4, x5⟩, _⟩ := id F1
    have HB1 : Hid (Below w.heap.size w w1) := HB.out.trans (hb.mono HB.out.size)
    clear F HB hb
    go_wp2_with fail
    refine (H1.out _).mono ?_
    rintro e w2 ⟨rfl, hb⟩
    clear x1 x2 x3 x4 x5
    obtain ⟨⟨x1, x2, x3, x4, x5⟩, ⟨z1, z2, z3, z4, z5⟩⟩ := F1.below hb
    have HB2 : Hid (Below w.heap.size w w2) := HB1.out.trans (hb.mono HB1.out.size)
    clear F1 HB1 hb
    go_wp2_with fail
    exact bodyPost_ret (v := .tuple #[.agg #[.int .i64 (q + 1), .int .i64 p], .int .i64 0]) (by simp [results, Tryd.results37, go_sem, z2, z3]) rfl ⟨rfl, (HB2.out.setCell (by simp) _).setCell (by simp) _⟩
  · have m2 : ¬ g ≤ r := by omega
    subst hm
    clear hu
    go_enter Tryd.func37, Tryd.ntmps37
    go_wp2_with fail
    refine (eright_yes _ _ h0 _).mono ?_
    rintro e w1 ⟨rfl, hb⟩
    have F1 := F.below hb
    obtain ⟨⟨x1, x2, x3, x4, x5⟩, _⟩ := id F1
    have HB1 : Hid (Below w.heap.size w w1) := HB.out.trans (hb.mono HB.out.size)
    clear F HB hb
    go_wp2_with fail
    refine (H1.out _).mono ?_
    rintro e w2 ⟨rfl, hb⟩
    clear x1 x2 x3 x4 x5
    obtain ⟨⟨x1, x2, x3, x4, x5⟩, ⟨z1, z2, z3, z4, z5⟩⟩ := F1.below hb
    have HB2 : Hid (Below w.heap.size w w2) := HB1.out.trans (hb.mono HB1.out.size)
    clear F1 HB1 hb
    go_wp2_with fail
    exact bodyPost_ret (v := .tuple #[.agg #[.int .i64 (q - 1), .int .i64 p], .int .i64 0]) (by simp [results, Tryd.results37, go_sem, z2, z3]) rfl ⟨rfl, (HB2.out.setCell (by simp) _).setCell (by simp) _⟩
  · subst hm
    clear hu
    go_enter Tryd.func37, Tryd.ntmps37
    go_wp2_with fail
    refine (eright_yes _ _ h0 _).mono ?_
    rintro e w1 ⟨rfl, hb⟩
    have F1 := F.below hb
    obtain ⟨⟨x1, x2, x3, x4, x5⟩, _⟩ := id F1
    have HB1 : Hid (Below w.heap.size w w1) := HB.out.trans (hb.mono HB.out.size)
    clear F HB hb
    go_wp2_with fail
    refine (H1.out _).mono ?_
    rintro e w2 ⟨rfl, hb⟩
    clear x1 x2 x3 x4 x5
    obtain ⟨⟨x1, x2, x3, x4, x5⟩, ⟨z1, z2, z3, z4, z5⟩⟩ := F1.below hb
    have HB2 : Hid (Below w.heap.size w w2) := HB1.out.trans (hb.mono HB1.out.size)
    clear F1 HB1 hb
    go_wp2_with fail
    exact bodyPost_ret (v := .tuple #[.agg #[.int .i64 m, .int .i64 p], .int .i64 0]) (by simp [results, Tryd.results37, go_sem, z2, z3]) rfl ⟨rfl, (HB2.out.setCell (by simp) _).setCell (by simp) _⟩

/-- the reference's Round, whatever it is given. -/
theorem eround_any (n s p : Int) (h1 : -9223372036854775808 ≤ n) (h2 : n ≤ 9223372036854775807) (w : World) :
    Calls Tryd.prog 37 #[.agg #[.int .i64 n, .int .i64 s], .int .i64 p] w fun e w' => e = .returned (.tuple #[.agg #[.int .i64 (ofN (rndN n s p) (rndE n s p)), .int .i64 (ofN p (rndE n s p))], .int .i64 (rndE n s p)]) ∧ Below w.heap.size w w' := by
  by_cases hr : rt s = true ∧ rt p = true
  · by_cases hsp : s ≤ p
    · have e1 : rndE n s p = smE (n * Dm.ten (p - s).toNat) := by unfold rndE; rw [if_pos hr, if_pos hsp]
      have e2 : rndN n s p = n * Dm.ten (p - s).toNat := by unfold rndN; rw [if_pos hsp]
      rw [e1, e2]
      obtain ⟨a, ha, rfl⟩ := nat_of_rt hr.1
      obtain ⟨b, hb, rfl⟩ := nat_of_rt hr.2
      refine eround_up n a b _ hr.1 hr.2 hsp (fun w => ?_) w
      have := rat_any n a b h1 h2 (by omega) hb w
      rw [show (10 : Int) ^ (b - a) = Dm.ten ((b : Int) - (a : Int)).toNat by unfold Dm.ten; congr 1; omega] at this
      exact this
    · have e1 : rndE n s p = 0 := by unfold rndE; rw [if_pos hr, if_neg hsp]
      have e2 : rndN n s p = Dm.rnd n (Dm.ten (s - p).toNat) := by unfold rndN; rw [if_neg hsp]
      obtain ⟨s1, s2⟩ := rt_yes hr.1
      obtain ⟨p1, p2⟩ := rt_yes hr.2
      have hk : (s - p).toNat ≤ 9 := by omega
      obtain ⟨g, g0, hg⟩ := ten_even (k := (s - p).toNat) (by omega)
      have hl := Dm.ten_le hk
      have P := rten_any (s - p).toNat hk
      rw [show (((s - p).toNat : Nat) : Int) = s - p by omega] at P
      have q := Nm.tdiv_half h1 h2 (b := 2 * g) (by omega)
      have hp10 : (10 : Int) ^ (s - p).toNat = 2 * g := hg
      rw [hg] at hl e2
      rw [hp10] at P
      rw [e1, e2]
      exact eround_down n s p (2 * g) g _ _ _ hr.1 hr.2 hsp (by omega) q.1 q.2 rfl rfl (by rw [Int.mul_tdiv_cancel_left _ (by decide)]) g0 (by omega) (by omega) (by omega) (rnd_three n g g0) P w
  · have e : rndE n s p = 1 := by unfold rndE; rw [if_neg hr]
    rw [e]
    cases hx : rt s
    · exact eround_bad1 n s p hx w
    · cases hy : rt p
      · exact eround_bad2 n s p hx hy w
      · exact absurd ⟨hx, hy⟩ hr

end Go.Proofs.YtlhlanekklonmaaDoor
