/- Contracts of the reference's Add, Sub and Cmp on decimal numbers. -/
import Derived.Test.YtlhlanekklonmaaDoorDecY
import Derived.Deep.CutRange
import Derived.Deep.DeepCutAuto
namespace Go.Proofs.YtlhlanekklonmaaDoor
open Go.RowKit
set_option linter.unusedVariables false

theorem eat (n s c : Int) (h1 : -9223372036854775808 ≤ n) (h2 : n ≤ 9223372036854775807) (hs : rt s = true) (hc : rt c = true) (hsc : s ≤ c) (w : World) :
    Calls Tryd.prog 67 #[.agg #[.int .i64 n, .int .i64 s], .int .i64 c] w fun e w' => ∃ v, e = .returned v ∧ IsW w' v (n * Dm.ten (c - s).toNat) ∧ Below w.heap.size w w' := by
  obtain ⟨a, ha, rfl⟩ := nat_of_rt hs
  obtain ⟨b, hb, rfl⟩ := nat_of_rt hc
  have := rat_any n a b h1 h2 (by omega) hb w
  rw [show (10 : Int) ^ (b - a) = Dm.ten ((b : Int) - (a : Int)).toNat by unfold Dm.ten; congr 1; omega] at this
  exact this
theorem at_abs (n : Int) (k : Nat) (h1 : -9223372036854775808 ≤ n) (h2 : n ≤ 9223372036854775807) (hk : k ≤ 9) : (n * Dm.ten k).natAbs ≤ 9223372036854775808 * 1000000000 := by
  rw [Int.natAbs_mul]
  have a := Dm.ten_pos k
  have b := Dm.ten_le hk
  exact Nat.mul_le_mul (by omega) (by omega)
theorem la_abs (xn xs yn ys : Int) (x1 : -9223372036854775808 ≤ xn) (x2 : xn ≤ 9223372036854775807) (y1 : -9223372036854775808 ≤ yn) (y2 : yn ≤ 9223372036854775807) (hx : rt xs = true) (hy : rt ys = true) : (la xn xs yn ys).natAbs ≤ 9223372036854775808 * 1000000000 ∧ (lb xn xs yn ys).natAbs ≤ 9223372036854775808 * 1000000000 := by
  obtain ⟨p1, p2⟩ := rt_yes hx
  obtain ⟨q1, q2⟩ := rt_yes hy
  obtain ⟨m1, m2⟩ := rt_yes (rt_max hx hy)
  exact ⟨at_abs _ _ x1 x2 (by omega), at_abs _ _ y1 y2 (by omega)⟩

/-- the reference's sum, whatever it is given. -/
theorem esum_any_f (xn xs yn ys : Int) (x1 : -9223372036854775808 ≤ xn) (x2 : xn ≤ 9223372036854775807) (y1 : -9223372036854775808 ≤ yn) (y2 : yn ≤ 9223372036854775807) (w : World) :
    Calls Tryd.prog 61 #[.agg #[.int .i64 xn, .int .i64 xs], .agg #[.int .i64 yn, .int .i64 ys], .bool false] w fun e w' => e = .returned (.tuple #[.agg #[.int .i64 (ofN (la xn xs yn ys + lb xn xs yn ys) (addE xn xs yn ys)), .int .i64 (ofN (max xs ys) (addE xn xs yn ys))], .int .i64 (addE xn xs yn ys)]) ∧ Below w.heap.size w w' := by
  by_cases hr : rt xs = true ∧ rt ys = true
  · obtain ⟨hx, hy⟩ := hr
    have HM := both_any xn xs yn ys
    have H1 := eat xn xs (max xs ys) x1 x2 hx (rt_max hx hy) (Int.le_max_left _ _)
    have H2 := eat yn ys (max xs ys) y1 y2 hy (rt_max hx hy) (Int.le_max_right _ _)
    obtain ⟨l1, l2⟩ := la_abs xn xs yn ys x1 x2 y1 y2 hx hy
    have hlt : 9223372036854775808 * 1000000000 + 9223372036854775808 * 1000000000 < 4294967296 ^ 6 := by decide
    have HA := fun (v : Value) (w : World) (h : IsW w v (la xn xs yn ys)) => wsmall v _ w h
    have HB := fun (v : Value) (w : World) (h : IsW w v (lb xn xs yn ys)) => wsmall v _ w h
    
    have HP := fun (v u : Value) (w : World) (h : IsW w v (la xn xs yn ys)) (k : IsW w u (lb xn xs yn ys)) => wplus v u _ _ w h k (Nat.lt_of_le_of_lt (Nat.add_le_add l1 (l2)) hlt)
    have HC := fun (v : Value) (w : World) (h : IsW w v (la xn xs yn ys + lb xn xs yn ys)) => wsmall v _ w h
    by_cases ha : smE (la xn xs yn ys) = 0
    · rw [ha] at HA
      by_cases hb : smE (lb xn xs yn ys) = 0
      · rw [hb] at HB
        have e0 : levE xn xs yn ys = 0 := by unfold levE; rw [if_pos ⟨hx, hy⟩, if_pos ⟨ha, hb⟩]
        have e : addE xn xs yn ys = smE (la xn xs yn ys + lb xn xs yn ys) := by unfold addE; rw [if_pos e0]
        by_cases hc : smE (la xn xs yn ys + lb xn xs yn ys) = 0
        · rw [hc, (sm_ok hc).2] at HC
          rw [e, hc]
          exact esum_ok_f xn xs yn ys _ _ _ _ _ _ _ hx hy HM H1 H2 HA HB HP HC w
        · rw [(sm_bad hc).1] at HC
          rw [e, (sm_bad hc).1]
          exact esum_c_f xn xs yn ys _ _ _ _ _ _ _ hx hy HM H1 H2 HA HB HP HC w
      · rw [(sm_bad hb).1] at HB
        have e0 : levE xn xs yn ys = 10 := by unfold levE; rw [if_pos ⟨hx, hy⟩, if_neg (fun h => hb h.2)]
        have e : addE xn xs yn ys = 10 := by unfold addE; rw [e0]; rfl
        rw [e]
        exact esum_b_f xn xs yn ys _ _ _ _ _ _ _ _ hx hy HM H1 H2 HA HB HP HC w
    · rw [(sm_bad ha).1] at HA
      have e0 : levE xn xs yn ys = 10 := by unfold levE; rw [if_pos ⟨hx, hy⟩, if_neg (fun h => ha h.1)]
      have e : addE xn xs yn ys = 10 := by unfold addE; rw [e0]; rfl
      rw [e]
      exact esum_a_f xn xs yn ys _ _ _ _ _ _ _ _ _ hx hy HM H1 H2 HA HB HP HC w
  · have e0 : levE xn xs yn ys = 1 := by unfold levE; rw [if_neg hr]
    have e : addE xn xs yn ys = 1 := by unfold addE; rw [e0]; rfl
    rw [e]
    cases hx : rt xs
    · exact esum_bad1 xn xs yn ys false hx w
    · cases hy : rt ys
      · exact esum_bad2 xn xs yn ys false hx hy w
      · exact absurd ⟨hx, hy⟩ hr

/-- the reference's sum of one and the other's opposite, whatever it is given. -/
theorem esum_any_t (xn xs yn ys : Int) (x1 : -9223372036854775808 ≤ xn) (x2 : xn ≤ 9223372036854775807) (y1 : -9223372036854775808 ≤ yn) (y2 : yn ≤ 9223372036854775807) (w : World) :
    Calls Tryd.prog 61 #[.agg #[.int .i64 xn, .int .i64 xs], .agg #[.int .i64 yn, .int .i64 ys], .bool true] w fun e w' => e = .returned (.tuple #[.agg #[.int .i64 (ofN (la xn xs yn ys - lb xn xs yn ys) (subE xn xs yn ys)), .int .i64 (ofN (max xs ys) (subE xn xs yn ys))], .int .i64 (subE xn xs yn ys)]) ∧ Below w.heap.size w w' := by
  by_cases hr : rt xs = true ∧ rt ys = true
  · obtain ⟨hx, hy⟩ := hr
    have HM := both_any xn xs yn ys
    have H1 := eat xn xs (max xs ys) x1 x2 hx (rt_max hx hy) (Int.le_max_left _ _)
    have H2 := eat yn ys (max xs ys) y1 y2 hy (rt_max hx hy) (Int.le_max_right _ _)
    obtain ⟨l1, l2⟩ := la_abs xn xs yn ys x1 x2 y1 y2 hx hy
    have hlt : 9223372036854775808 * 1000000000 + 9223372036854775808 * 1000000000 < 4294967296 ^ 6 := by decide
    have HA := fun (v : Value) (w : World) (h : IsW w v (la xn xs yn ys)) => wsmall v _ w h
    have HB := fun (v : Value) (w : World) (h : IsW w v (lb xn xs yn ys)) => wsmall v _ w h
    have HN := fun (v : Value) (w : World) (h : IsW w v (lb xn xs yn ys)) => wminus v _ w h
    have HP := fun (v u : Value) (w : World) (h : IsW w v (la xn xs yn ys)) (k : IsW w u (-lb xn xs yn ys)) => wplus v u _ _ w h k (Nat.lt_of_le_of_lt (Nat.add_le_add l1 (by rw [Int.natAbs_neg]; exact l2)) hlt)
    have HC := fun (v : Value) (w : World) (h : IsW w v (la xn xs yn ys + -lb xn xs yn ys)) => wsmall v _ w h
    by_cases ha : smE (la xn xs yn ys) = 0
    · rw [ha] at HA
      by_cases hb : smE (lb xn xs yn ys) = 0
      · rw [hb] at HB
        have e0 : levE xn xs yn ys = 0 := by unfold levE; rw [if_pos ⟨hx, hy⟩, if_pos ⟨ha, hb⟩]
        have e : subE xn xs yn ys = smE (la xn xs yn ys + -lb xn xs yn ys) := by unfold subE; rw [if_pos e0]; rfl
        by_cases hc : smE (la xn xs yn ys + -lb xn xs yn ys) = 0
        · rw [hc, (sm_ok hc).2] at HC
          rw [e, hc]
          exact esum_ok_t xn xs yn ys _ _ _ _ _ _ _ hx hy HM H1 H2 HA HB HN HP HC w
        · rw [(sm_bad hc).1] at HC
          rw [e, (sm_bad hc).1]
          exact esum_c_t xn xs yn ys _ _ _ _ _ _ _ hx hy HM H1 H2 HA HB HN HP HC w
      · rw [(sm_bad hb).1] at HB
        have e0 : levE xn xs yn ys = 10 := by unfold levE; rw [if_pos ⟨hx, hy⟩, if_neg (fun h => hb h.2)]
        have e : subE xn xs yn ys = 10 := by unfold subE; rw [e0]; rfl
        rw [e]
        exact esum_b_t xn xs yn ys _ _ _ _ _ _ _ _ hx hy HM H1 H2 HA HB HN HP HC w
    · rw [(sm_bad ha).1] at HA
      have e0 : levE xn xs yn ys = 10 := by unfold levE; rw [if_pos ⟨hx, hy⟩, if_neg (fun h => ha h.1)]
      have e : subE xn xs yn ys = 10 := by unfold subE; rw [e0]; rfl
      rw [e]
      exact esum_a_t xn xs yn ys _ _ _ _ _ _ _ _ _ hx hy HM H1 H2 HA HB HN HP HC w
  · have e0 : levE xn xs yn ys = 1 := by unfold levE; rw [if_neg hr]
    have e : subE xn xs yn ys = 1 := by unfold subE; rw [e0]; rfl
    rw [e]
    cases hx : rt xs
    · exact esum_bad1 xn xs yn ys true hx w
    · cases hy : rt ys
      · exact esum_bad2 xn xs yn ys true hx hy w
      · exact absurd ⟨hx, hy⟩ hr

set_option maxRecDepth 100000 in
set_option maxHeartbeats 1000000 in
theorem eadd_by (xn xs yn ys n s x : Int)
    (H : Hid (∀ w : World, Calls Tryd.prog 61 #[.agg #[.int .i64 xn, .int .i64 xs], .agg #[.int .i64 yn, .int .i64 ys], .bool false] w fun e w' => e = .returned (.tuple #[.agg #[.int .i64 n, .int .i64 s], .int .i64 x]) ∧ Below w.heap.size w w')) (w : World) :
    Calls Tryd.prog 25 #[.agg #[.int .i64 xn, .int .i64 xs], .agg #[.int .i64 yn, .int .i64 ys]] w fun e w' => e = .returned (.tuple #[.agg #[.int .i64 n, .int .i64 s], .int .i64 x]) ∧ Below w.heap.size w w' := by
  have F := rv3_three w xn xs yn ys
  have HB : Hid (Below w.heap.size w (rv3 w xn xs yn ys)) := rv3_below _ _ _ _ _
  go_enter Tryd.func25, Tryd.ntmps25
  go_wp2_with fail
  refine (H.out _).mono ?_
  rintro e w1 ⟨rfl, hb⟩
  obtain ⟨_, _, ⟨z1, z2, z3, z4, z5⟩⟩ := F.below hb
  have HB1 : Hid (Below w.heap.size w w1) := HB.out.trans (hb.mono HB.out.size)
  clear F HB hb
  go_wp2_with fail
  exact bodyPost_ret (v := .tuple #[.agg #[.int .i64 n, .int .i64 s], .int .i64 x]) (by simp [results, Tryd.results25, go_sem, z2, z3]) rfl ⟨rfl, (HB1.out.setCell (by simp; omega) _).setCell (by simp; omega) _⟩

theorem eadd_any (xn xs yn ys : Int) (x1 : -9223372036854775808 ≤ xn) (x2 : xn ≤ 9223372036854775807) (y1 : -9223372036854775808 ≤ yn) (y2 : yn ≤ 9223372036854775807) (w : World) :
    Calls Tryd.prog 25 #[.agg #[.int .i64 xn, .int .i64 xs], .agg #[.int .i64 yn, .int .i64 ys]] w fun e w' => e = .returned (.tuple #[.agg #[.int .i64 (ofN (la xn xs yn ys + lb xn xs yn ys) (addE xn xs yn ys)), .int .i64 (ofN (max xs ys) (addE xn xs yn ys))], .int .i64 (addE xn xs yn ys)]) ∧ Below w.heap.size w w' :=
  eadd_by xn xs yn ys _ _ _ (esum_any_f xn xs yn ys x1 x2 y1 y2) w

set_option maxRecDepth 100000 in
set_option maxHeartbeats 1000000 in
theorem esub_by (xn xs yn ys n s x : Int)
    (H : Hid (∀ w : World, Calls Tryd.prog 61 #[.agg #[.int .i64 xn, .int .i64 xs], .agg #[.int .i64 yn, .int .i64 ys], .bool true] w fun e w' => e = .returned (.tuple #[.agg #[.int .i64 n, .int .i64 s], .int .i64 x]) ∧ Below w.heap.size w w')) (w : World) :
    Calls Tryd.prog 27 #[.agg #[.int .i64 xn, .int .i64 xs], .agg #[.int .i64 yn, .int .i64 ys]] w fun e w' => e = .returned (.tuple #[.agg #[.int .i64 n, .int .i64 s], .int .i64 x]) ∧ Below w.heap.size w w' := by
  have F := rv3_three w xn xs yn ys
  have HB : Hid (Below w.heap.size w (rv3 w xn xs yn ys)) := rv3_below _ _ _ _ _
  go_enter Tryd.func27, Tryd.ntmps27
  go_wp2_with fail
  refine (H.out _).mono ?_
  rintro e w1 ⟨rfl, hb⟩
  obtain ⟨_, _, ⟨z1, z2, z3, z4, z5⟩⟩ := F.below hb
  have HB1 : Hid (Below w.heap.size w w1) := HB.out.trans (hb.mono HB.out.size)
  clear F HB hb
  go_wp2_with fail
  exact bodyPost_ret (v := .tuple #[.agg #[.int .i64 n, .int .i64 s], .int .i64 x]) (by simp [results, Tryd.results27, go_sem, z2, z3]) rfl ⟨rfl, (HB1.out.setCell (by simp; omega) _).setCell (by simp; omega) _⟩

theorem esub_any (xn xs yn ys : Int) (x1 : -9223372036854775808 ≤ xn) (x2 : xn ≤ 9223372036854775807) (y1 : -9223372036854775808 ≤ yn) (y2 : yn ≤ 9223372036854775807) (w : World) :
    Calls Tryd.prog 27 #[.agg #[.int .i64 xn, .int .i64 xs], .agg #[.int .i64 yn, .int .i64 ys]] w fun e w' => e = .returned (.tuple #[.agg #[.int .i64 (ofN (la xn xs yn ys - lb xn xs yn ys) (subE xn xs yn ys)), .int .i64 (ofN (max xs ys) (subE xn xs yn ys))], .int .i64 (subE xn xs yn ys)]) ∧ Below w.heap.size w w' :=
  esub_by xn xs yn ys _ _ _ (esum_any_t xn xs yn ys x1 x2 y1 y2) w

/-- a block that was made holds two values; it is none of the two boxes. -/
def NV (w : World) (b : Nat) (x y : Value) (W : World) : Prop := VBox W b x y ∧ w.heap.size + 1 < b
theorem NV.below {w W v : World} {b : Nat} {x y : Value} (h : NV w b x y W) (hb : Below W.heap.size W v) : NV w b x y v := ⟨h.1.below hb h.1.1, h.2⟩
theorem LS.newV {w W : World} {xn xs yn ys : Int} (h : LS w [(w.heap.size, xn, xs), (w.heap.size + 1, yn, ys)] W) (x y : Value) (t : TypeId) : NV w W.heap.size x y (W.alloc (.cells #[x, y] t)) :=
  ⟨VBox.new _ _ _ _, (h.2 (w.heap.size + 1, yn, ys) (by simp)).1⟩
theorem LS.newVd {w W : World} {xn xs yn ys : Int} (h : LS w [(w.heap.size, xn, xs), (w.heap.size + 1, yn, ys)] W.drew) (x y : Value) (t : TypeId) : NV w W.heap.size x y (W.alloc (.cells #[x, y] t)).drew := h.newV x y t
theorem LS.setV {w W : World} {xn xs yn ys : Int} {b : Nat} {x y : Value} (h : LS w [(w.heap.size, xn, xs), (w.heap.size + 1, yn, ys)] W) (hN : NV w b x y W) (p q : Value) : LS w [(w.heap.size, xn, xs), (w.heap.size + 1, yn, ys)] ((W.setCell ⟨b, 0, none⟩ p).setCell ⟨b, 1, none⟩ q) :=
  have hb := hN.2
  ⟨(h.1.setCell (by show w.heap.size ≤ b; omega) _).setCell (by show w.heap.size ≤ b; omega) _, fun r hr => (h.2 r hr).other (by
    rcases List.mem_cons.1 hr with rfl | hr
    · show b ≠ w.heap.size; omega
    · rcases List.mem_cons.1 hr with rfl | hr
      · show b ≠ w.heap.size + 1; omega
      · cases hr) _ _⟩
theorem NV.set {w W : World} {b : Nat} {x y : Value} (h : NV w b x y W) (p q : Value) : NV w b p q ((W.setCell ⟨b, 0, none⟩ p).setCell ⟨b, 1, none⟩ q) := ⟨h.1.set p q, h.2⟩
theorem IsW.parts {w : World} {g : Bool} {b : Nat} {x : Int} (h : IsW w (.agg #[.bool g, .slice (some ⟨b, 0, none⟩) 6 6]) x) : g = decide (x < 0) ∧ Row w b x.natAbs := by
  obtain ⟨c, hv, hr⟩ := h
  injection hv with hv
  have hv := congrArg Array.toList hv
  simp only [List.cons.injEq, Value.bool.injEq, Value.slice.injEq, Option.some.injEq, Addr.mk.injEq, and_true] at hv
  obtain ⟨rfl, rfl⟩ := hv
  exact ⟨rfl, hr⟩
theorem six_zero {v : Nat} (hv : v < 4294967296 ^ 6) (h : ∀ j, j < 6 → Wd.dg v j = 0) : v = 0 := by
  have t6 := Wd.top_six hv
  have t5 := Wd.top v 5; rw [t6, h 5 (by decide)] at t5
  have t4 := Wd.top v 4; rw [t5, h 4 (by decide)] at t4
  have t3 := Wd.top v 3; rw [t4, h 3 (by decide)] at t3
  have t2 := Wd.top v 2; rw [t3, h 2 (by decide)] at t2
  have t1 := Wd.top v 1; rw [t2, h 1 (by decide)] at t1
  have t0 := Wd.top v 0; rw [t1, h 0 (by decide), Wd.top_zero] at t0
  omega

set_option maxRecDepth 100000 in
set_option maxHeartbeats 1000000 in
theorem ecmp_bad1 (xn xs yn ys : Int) (h : rt xs = false) (w : World) :
    Calls Tryd.prog 32 #[.agg #[.int .i64 xn, .int .i64 xs], .agg #[.int .i64 yn, .int .i64 ys]] w fun e w' => e = .returned (.int .i64 0) ∧ Below w.heap.size w w' := by
  have L0 := LS.start w xn xs yn ys 33
  go_enter Tryd.func32, Tryd.ntmps32
  go_wp2_with fail
  refine (eright_no _ _ h _).mono ?_
  rintro e w1 ⟨rfl, hb⟩
  have L1 := L0.below hb
  clear L0 hb
  go_wp2
  go_ret
  exact ⟨rfl, L1.1⟩

set_option maxRecDepth 100000 in
set_option maxHeartbeats 1000000 in
theorem ecmp_bad2 (xn xs yn ys : Int) (h0 : rt xs = true) (h : rt ys = false) (w : World) :
    Calls Tryd.prog 32 #[.agg #[.int .i64 xn, .int .i64 xs], .agg #[.int .i64 yn, .int .i64 ys]] w fun e w' => e = .returned (.int .i64 0) ∧ Below w.heap.size w w' := by
  have L0 := LS.start w xn xs yn ys 33
  go_enter Tryd.func32, Tryd.ntmps32
  go_wp2_with fail
  refine (eright_yes _ _ h0 _).mono ?_
  rintro e w1 ⟨rfl, hb⟩
  have L1 := L0.below hb
  clear L0 hb
  obtain ⟨y1, y2, y3, y4, y5⟩ := L1.2 (w.heap.size + 1, yn, ys) (by simp)
  go_wp2_with fail
  refine (eright_no _ _ h _).mono ?_
  rintro e w2 ⟨rfl, hb⟩
  have L2 := L1.below hb
  clear L1 hb y1 y2 y3 y4 y5
  go_wp2
  go_ret
  exact ⟨rfl, L2.1⟩

set_option maxRecDepth 100000 in
set_option maxHeartbeats 8000000 in
theorem ecmp_ok (xn xs yn ys A B C r : Int) (rx : rt xs = true) (ry : rt ys = true)
    (H1 : Hid (∀ w : World, Calls Tryd.prog 67 #[.agg #[.int .i64 xn, .int .i64 xs], .int .i64 9] w fun e w' => ∃ v, e = .returned v ∧ IsW w' v A ∧ Below w.heap.size w w'))
    (H2 : Hid (∀ w : World, Calls Tryd.prog 67 #[.agg #[.int .i64 yn, .int .i64 ys], .int .i64 9] w fun e w' => ∃ v, e = .returned v ∧ IsW w' v B ∧ Below w.heap.size w w'))
    (HN : Hid (∀ (v : Value) (w : World), IsW w v B → Calls Tryd.prog 68 #[v] w fun e w' => ∃ v', e = .returned v' ∧ IsW w' v' (-B) ∧ Below w.heap.size w w'))
    (HP : Hid (∀ (v u : Value) (w : World), IsW w v A → IsW w u (-B) → Calls Tryd.prog 66 #[v, u] w fun e w' => ∃ v', e = .returned v' ∧ IsW w' v' C ∧ Below w.heap.size w w'))
    (R1 : Hid (C < 0 → r = -1)) (R2 : Hid (0 ≤ C → C.natAbs ≠ 0 → r = 1)) (R3 : Hid (C.natAbs = 0 → r = 0)) (w : World) :
    Calls Tryd.prog 32 #[.agg #[.int .i64 xn, .int .i64 xs], .agg #[.int .i64 yn, .int .i64 ys]] w fun e w' => e = .returned (.int .i64 r) ∧ Below w.heap.size w w' := by
  have L0 := LS.start w xn xs yn ys 33
  go_enter Tryd.func32, Tryd.ntmps32
  go_wp2_with fail
  refine (eright_yes _ _ rx _).mono ?_
  rintro e w1 ⟨rfl, hb⟩
  have L1 := L0.below hb
  clear L0 hb
  obtain ⟨y1, y2, y3, y4, y5⟩ := L1.2 (w.heap.size + 1, yn, ys) (by simp)
  go_wp2_with fail
  refine (eright_yes _ _ ry _).mono ?_
  rintro e w2 ⟨rfl, hb⟩
  have L2 := L1.below hb
  clear L1 hb y1 y2 y3 y4 y5
  go_wp2_with fail
  go_cut [5] from 15 to 20 (fun p wx => ∃ nb g b, p = .pointer (some ⟨nb, 0, none⟩) ∧ LS w [(w.heap.size, xn, xs), (w.heap.size + 1, yn, ys)] wx ∧ VBox wx nb (.bool g) (.slice (some ⟨b, 0, none⟩) 6 6) ∧ g = decide (C < 0) ∧ Row wx b C.natAbs)
  case first =>
    refine wp_region_held_drew (S := LS w [(w.heap.size, xn, xs), (w.heap.size + 1, yn, ys)]) (by kernel_rfl) L2.drew (fun hHeld => ?_)
    refine wpAnyH_take (i := 0) (v := ?_) (oi := { dst := some 15, op := _, type := _, pos := _, after := _, guard := none }) rfl (by kernel_rfl) (by kernel_rfl) (by kernel_rfl) (fun _ _ _ h => h) (Or.inl ⟨by kernel_rfl, ?_⟩) (by assumption) ?_
    case refine_2 => (intro w9 hSw; obtain ⟨sa0, sb0, sc0, sd0, se0⟩ := hSw.2 (w.heap.size, xn, xs) (by simp); obtain ⟨sa1, sb1, sc1, sd1, se1⟩ := hSw.2 (w.heap.size + 1, yn, ys) (by simp); clear hSw; go_simp; try with_reducible rfl)
    simp only [Act.put, List.setIfInBounds_toArray, List.set_cons_zero, List.set_cons_succ]
    refine wpAnyH_take (i := 2) (v := ?_) (oi := { dst := some 17, op := _, type := _, pos := _, after := _, guard := none }) rfl (by kernel_rfl) (by kernel_rfl) (by kernel_rfl) (fun _ _ _ h => h) (Or.inl ⟨by kernel_rfl, ?_⟩) (by assumption) ?_
    case refine_2 => (intro w9 hSw; obtain ⟨sa0, sb0, sc0, sd0, se0⟩ := hSw.2 (w.heap.size, xn, xs) (by simp); obtain ⟨sa1, sb1, sc1, sd1, se1⟩ := hSw.2 (w.heap.size + 1, yn, ys) (by simp); clear hSw; go_simp; try with_reducible rfl)
    simp only [Act.put, List.setIfInBounds_toArray, List.set_cons_zero, List.set_cons_succ]
    refine wpAnyH_ready (rs := [1, 6]) (by kernel_rfl) (by simp) (AllReadyH.cons (o := { dst := some 16, op := _, type := _, pos := _, after := _, guard := none }) rfl (fun K hK => ?_) (AllReadyH.cons (o := { dst := some 5, op := _, type := _, pos := _, after := _, guard := none }) rfl (fun K hK => ?_) AllReadyH.nil))
    ·
      go_simp
      refine (H1.out _).mono ?_
      rintro e v1 ⟨u1, rfl, q1, hb⟩
      refine hK.out _ _ (hHeld.below hb) (fun hHeld2 => ?_)
      clear hK K hb hHeld
      have hHeld := hHeld2
      clear hHeld2
      have IA : Hid (IsW v1 _ A) := q1
      clear q1
      refine wpAnyH_ready (rs := [3, 6]) (by kernel_rfl) (by simp) (AllReadyH.cons (o := { dst := some 18, op := _, type := _, pos := _, after := _, guard := none }) rfl (fun K hK => ?_) (AllReadyH.cons (o := { dst := some 5, op := _, type := _, pos := _, after := _, guard := none }) rfl (fun K hK => ?_) AllReadyH.nil))
      ·
        go_simp
        refine (H2.out _).mono ?_
        rintro e v2 ⟨u2, rfl, q2, hb⟩
        have JIA2 : Hid (IsW v2 _ A) := IA.out.below hb
        refine hK.out _ _ (hHeld.below hb) (fun hHeld2 => ?_)
        clear hK K hb hHeld IA
        have hHeld := hHeld2
        clear hHeld2
        have IA := JIA2
        clear JIA2
        have IB : Hid (IsW v2 _ B) := q2
        clear q2
        refine wpAnyH_ready (rs := [4, 6]) (by kernel_rfl) (by simp) (AllReadyH.cons (o := { dst := some 19, op := _, type := _, pos := _, after := _, guard := none }) rfl (fun K hK => ?_) (AllReadyH.cons (o := { dst := some 5, op := _, type := _, pos := _, after := _, guard := none }) rfl (fun K hK => ?_) AllReadyH.nil))
        ·
          go_simp
          refine (HN.out _ _ IB.out).mono ?_
          rintro e v3 ⟨u3, rfl, q3, hb⟩
          have JIA3 : Hid (IsW v3 _ A) := IA.out.below hb
          refine hK.out _ _ (hHeld.below hb) (fun hHeld2 => ?_)
          clear hK K hb hHeld IA IB
          have hHeld := hHeld2
          clear hHeld2
          have IA := JIA3
          clear JIA3
          have IN : Hid (IsW v3 _ (-B)) := q3
          clear q3
          refine wpAnyH_ready (rs := [5, 6]) (by kernel_rfl) (by simp) (AllReadyH.cons (o := { dst := some 20, op := _, type := _, pos := _, after := _, guard := none }) rfl (fun K hK => ?_) (AllReadyH.cons (o := { dst := some 5, op := _, type := _, pos := _, after := _, guard := none }) rfl (fun K hK => ?_) AllReadyH.nil))
          ·
            go_simp
            refine (HP.out _ _ _ IA.out IN.out).mono ?_
            rintro e v4 ⟨u4, rfl, q4, hb⟩
            obtain ⟨gC, bC, rfl⟩ := q4.split
            refine hK.out _ _ (hHeld.below hb) (fun hHeld2 => ?_)
            clear hK K hb hHeld IA IN
            have hHeld := hHeld2
            clear hHeld2
            have IC : Hid (IsW v4 _ C) := q4
            clear q4
            refine wpAnyH_ready (rs := [6]) (by kernel_rfl) (by simp) (AllReadyH.cons (o := { dst := some 5, op := _, type := _, pos := _, after := _, guard := none }) rfl (fun K hK => ?_) AllReadyH.nil)
            have N5 := hHeld.newV (.bool false) (.slice none 0 0) 84
            go_simp
            refine hK.out _ _ (hHeld.alloc _) (fun hHeld2 => ?_)
            clear hK K
            have hHeld0 := hHeld
            clear hHeld
            have hHeld := hHeld2
            clear hHeld2
            refine wpAnyH_ready (rs := [7]) (by kernel_rfl) (by simp) (AllReadyH.cons (o := { dst := none, op := _, type := _, pos := _, after := _, guard := none }) rfl (fun K hK => ?_) AllReadyH.nil)
            go_simp
            have N6 := hHeld0.newV (.bool gC) (.slice (some ⟨bC, 0, none⟩) 6 6) 84
            refine hK.out _ _ (hHeld0.alloc _) (fun hHeld2 => ?_)
            clear hK K hHeld N5
            have hHeld := hHeld2
            clear hHeld2 hHeld0
            have JIC : Hid (IsW (v4.alloc (.cells #[.bool gC, .slice (some ⟨bC, 0, none⟩) 6 6] 84)) _ C) := IC.out.alloc _
            clear IC
            have IC := JIC
            clear JIC
            refine wpAnyH_done (by kernel_rfl) ?_ _
            go_wp2_with fail
            go_meet
            case rel => exact ⟨_, gC, bC, rfl, hHeld, N6.1, IC.out.parts⟩
          ·
            have N7 := hHeld.newV (.bool false) (.slice none 0 0) 84
            go_simp
            refine hK.out _ _ (hHeld.alloc _) (fun hHeld2 => ?_)
            clear hK K
            have hHeld0 := hHeld
            clear hHeld
            have hHeld := hHeld2
            clear hHeld2
            have JIA7 : Hid (IsW (v3.alloc (.cells #[.bool false, .slice none 0 0] 84)) _ A) := IA.out.alloc _
            clear IA
            have IA := JIA7
            clear JIA7
            have JIN7 : Hid (IsW (v3.alloc (.cells #[.bool false, .slice none 0 0] 84)) _ (-B)) := IN.out.alloc _
            clear IN
            have IN := JIN7
            clear JIN7
            refine wpAnyH_ready (rs := [5]) (by kernel_rfl) (by simp) (AllReadyH.cons (o := { dst := some 20, op := _, type := _, pos := _, after := _, guard := none }) rfl (fun K hK => ?_) AllReadyH.nil)
            go_simp
            refine (HP.out _ _ _ IA.out IN.out).mono ?_
            rintro e v8 ⟨u8, rfl, q8, hb⟩
            obtain ⟨gC, bC, rfl⟩ := q8.split
            have N8 := N7.below hb
            refine hK.out _ _ (hHeld.below hb) (fun hHeld2 => ?_)
            clear hK K hb hHeld N7 IA IN hHeld0
            have hHeld := hHeld2
            clear hHeld2
            have IC : Hid (IsW v8 _ C) := q8
            clear q8
            refine wpAnyH_ready (rs := [7]) (by kernel_rfl) (by simp) (AllReadyH.cons (o := { dst := none, op := _, type := _, pos := _, after := _, guard := none }) rfl (fun K hK => ?_) AllReadyH.nil)
            obtain ⟨⟨ta, tb, tc, td, te⟩, _⟩ := id N8
            go_simp
            have N9 := N8.set (.bool gC) (.slice (some ⟨bC, 0, none⟩) 6 6)
            have JIC : Hid (IsW _ _ C) := IC.out.other tb (.bool gC) (.slice (some ⟨bC, 0, none⟩) 6 6)
            refine hK.out _ _ (hHeld.setV N8 _ _) (fun hHeld2 => ?_)
            clear hK K hHeld N8 ta tb tc td te IC
            have hHeld := hHeld2
            clear hHeld2
            have IC := JIC
            clear JIC
            refine wpAnyH_done (by kernel_rfl) ?_ _
            go_wp2_with fail
            go_meet
            case rel => exact ⟨_, gC, bC, rfl, hHeld, N9.1, IC.out.parts⟩
        ·
          have N10 := hHeld.newV (.bool false) (.slice none 0 0) 84
          go_simp
          refine hK.out _ _ (hHeld.alloc _) (fun hHeld2 => ?_)
          clear hK K
          have hHeld0 := hHeld
          clear hHeld
          have hHeld := hHeld2
          clear hHeld2
          have JIA10 : Hid (IsW (v2.alloc (.cells #[.bool false, .slice none 0 0] 84)) _ A) := IA.out.alloc _
          clear IA
          have IA := JIA10
          clear JIA10
          have JIB10 : Hid (IsW (v2.alloc (.cells #[.bool false, .slice none 0 0] 84)) _ B) := IB.out.alloc _
          clear IB
          have IB := JIB10
          clear JIB10
          refine wpAnyH_ready (rs := [4]) (by kernel_rfl) (by simp) (AllReadyH.cons (o := { dst := some 19, op := _, type := _, pos := _, after := _, guard := none }) rfl (fun K hK => ?_) AllReadyH.nil)
          go_simp
          refine (HN.out _ _ IB.out).mono ?_
          rintro e v11 ⟨u11, rfl, q11, hb⟩
          have JIA11 : Hid (IsW v11 _ A) := IA.out.below hb
          have N11 := N10.below hb
          refine hK.out _ _ (hHeld.below hb) (fun hHeld2 => ?_)
          clear hK K hb hHeld N10 IA IB hHeld0
          have hHeld := hHeld2
          clear hHeld2
          have IA := JIA11
          clear JIA11
          have IN : Hid (IsW v11 _ (-B)) := q11
          clear q11
          refine wpAnyH_ready (rs := [5]) (by kernel_rfl) (by simp) (AllReadyH.cons (o := { dst := some 20, op := _, type := _, pos := _, after := _, guard := none }) rfl (fun K hK => ?_) AllReadyH.nil)
          go_simp
          refine (HP.out _ _ _ IA.out IN.out).mono ?_
          rintro e v12 ⟨u12, rfl, q12, hb⟩
          obtain ⟨gC, bC, rfl⟩ := q12.split
          have N12 := N11.below hb
          refine hK.out _ _ (hHeld.below hb) (fun hHeld2 => ?_)
          clear hK K hb hHeld N11 IA IN
          have hHeld := hHeld2
          clear hHeld2
          have IC : Hid (IsW v12 _ C) := q12
          clear q12
          refine wpAnyH_ready (rs := [7]) (by kernel_rfl) (by simp) (AllReadyH.cons (o := { dst := none, op := _, type := _, pos := _, after := _, guard := none }) rfl (fun K hK => ?_) AllReadyH.nil)
          obtain ⟨⟨ta, tb, tc, td, te⟩, _⟩ := id N12
          go_simp
          have N13 := N12.set (.bool gC) (.slice (some ⟨bC, 0, none⟩) 6 6)
          have JIC : Hid (IsW _ _ C) := IC.out.other tb (.bool gC) (.slice (some ⟨bC, 0, none⟩) 6 6)
          refine hK.out _ _ (hHeld.setV N12 _ _) (fun hHeld2 => ?_)
          clear hK K hHeld N12 ta tb tc td te IC
          have hHeld := hHeld2
          clear hHeld2
          have IC := JIC
          clear JIC
          refine wpAnyH_done (by kernel_rfl) ?_ _
          go_wp2_with fail
          go_meet
          case rel => exact ⟨_, gC, bC, rfl, hHeld, N13.1, IC.out.parts⟩
      ·
        have N14 := hHeld.newV (.bool false) (.slice none 0 0) 84
        go_simp
        refine hK.out _ _ (hHeld.alloc _) (fun hHeld2 => ?_)
        clear hK K
        have hHeld0 := hHeld
        clear hHeld
        have hHeld := hHeld2
        clear hHeld2
        have JIA14 : Hid (IsW (v1.alloc (.cells #[.bool false, .slice none 0 0] 84)) _ A) := IA.out.alloc _
        clear IA
        have IA := JIA14
        clear JIA14
        refine wpAnyH_ready (rs := [3]) (by kernel_rfl) (by simp) (AllReadyH.cons (o := { dst := some 18, op := _, type := _, pos := _, after := _, guard := none }) rfl (fun K hK => ?_) AllReadyH.nil)
        go_simp
        refine (H2.out _).mono ?_
        rintro e v15 ⟨u15, rfl, q15, hb⟩
        have JIA15 : Hid (IsW v15 _ A) := IA.out.below hb
        have N15 := N14.below hb
        refine hK.out _ _ (hHeld.below hb) (fun hHeld2 => ?_)
        clear hK K hb hHeld N14 IA hHeld0
        have hHeld := hHeld2
        clear hHeld2
        have IA := JIA15
        clear JIA15
        have IB : Hid (IsW v15 _ B) := q15
        clear q15
        refine wpAnyH_ready (rs := [4]) (by kernel_rfl) (by simp) (AllReadyH.cons (o := { dst := some 19, op := _, type := _, pos := _, after := _, guard := none }) rfl (fun K hK => ?_) AllReadyH.nil)
        go_simp
        refine (HN.out _ _ IB.out).mono ?_
        rintro e v16 ⟨u16, rfl, q16, hb⟩
        have JIA16 : Hid (IsW v16 _ A) := IA.out.below hb
        have N16 := N15.below hb
        refine hK.out _ _ (hHeld.below hb) (fun hHeld2 => ?_)
        clear hK K hb hHeld N15 IA IB
        have hHeld := hHeld2
        clear hHeld2
        have IA := JIA16
        clear JIA16
        have IN : Hid (IsW v16 _ (-B)) := q16
        clear q16
        refine wpAnyH_ready (rs := [5]) (by kernel_rfl) (by simp) (AllReadyH.cons (o := { dst := some 20, op := _, type := _, pos := _, after := _, guard := none }) rfl (fun K hK => ?_) AllReadyH.nil)
        go_simp
        refine (HP.out _ _ _ IA.out IN.out).mono ?_
        rintro e v17 ⟨u17, rfl, q17, hb⟩
        obtain ⟨gC, bC, rfl⟩ := q17.split
        have N17 := N16.below hb
        refine hK.out _ _ (hHeld.below hb) (fun hHeld2 => ?_)
        clear hK K hb hHeld N16 IA IN
        have hHeld := hHeld2
        clear hHeld2
        have IC : Hid (IsW v17 _ C) := q17
        clear q17
        refine wpAnyH_ready (rs := [7]) (by kernel_rfl) (by simp) (AllReadyH.cons (o := { dst := none, op := _, type := _, pos := _, after := _, guard := none }) rfl (fun K hK => ?_) AllReadyH.nil)
        obtain ⟨⟨ta, tb, tc, td, te⟩, _⟩ := id N17
        go_simp
        have N18 := N17.set (.bool gC) (.slice (some ⟨bC, 0, none⟩) 6 6)
        have JIC : Hid (IsW _ _ C) := IC.out.other tb (.bool gC) (.slice (some ⟨bC, 0, none⟩) 6 6)
        refine hK.out _ _ (hHeld.setV N17 _ _) (fun hHeld2 => ?_)
        clear hK K hHeld N17 ta tb tc td te IC
        have hHeld := hHeld2
        clear hHeld2
        have IC := JIC
        clear JIC
        refine wpAnyH_done (by kernel_rfl) ?_ _
        go_wp2_with fail
        go_meet
        case rel => exact ⟨_, gC, bC, rfl, hHeld, N18.1, IC.out.parts⟩
    ·
      have N19 := hHeld.newVd (.bool false) (.slice none 0 0) 84
      go_simp
      refine hK.out _ _ (hHeld.alloc _) (fun hHeld2 => ?_)
      clear hK K
      have hHeld0 := hHeld
      clear hHeld
      have hHeld := hHeld2
      clear hHeld2
      refine wpAnyH_ready (rs := [1]) (by kernel_rfl) (by simp) (AllReadyH.cons (o := { dst := some 16, op := _, type := _, pos := _, after := _, guard := none }) rfl (fun K hK => ?_) AllReadyH.nil)
      go_simp
      refine (H1.out _).mono ?_
      rintro e v20 ⟨u20, rfl, q20, hb⟩
      have N20 := N19.below hb
      refine hK.out _ _ (hHeld.below hb) (fun hHeld2 => ?_)
      clear hK K hb hHeld N19 hHeld0
      have hHeld := hHeld2
      clear hHeld2
      have IA : Hid (IsW v20 _ A) := q20
      clear q20
      refine wpAnyH_ready (rs := [3]) (by kernel_rfl) (by simp) (AllReadyH.cons (o := { dst := some 18, op := _, type := _, pos := _, after := _, guard := none }) rfl (fun K hK => ?_) AllReadyH.nil)
      go_simp
      refine (H2.out _).mono ?_
      rintro e v21 ⟨u21, rfl, q21, hb⟩
      have JIA21 : Hid (IsW v21 _ A) := IA.out.below hb
      have N21 := N20.below hb
      refine hK.out _ _ (hHeld.below hb) (fun hHeld2 => ?_)
      clear hK K hb hHeld N20 IA
      have hHeld := hHeld2
      clear hHeld2
      have IA := JIA21
      clear JIA21
      have IB : Hid (IsW v21 _ B) := q21
      clear q21
      refine wpAnyH_ready (rs := [4]) (by kernel_rfl) (by simp) (AllReadyH.cons (o := { dst := some 19, op := _, type := _, pos := _, after := _, guard := none }) rfl (fun K hK => ?_) AllReadyH.nil)
      go_simp
      refine (HN.out _ _ IB.out).mono ?_
      rintro e v22 ⟨u22, rfl, q22, hb⟩
      have JIA22 : Hid (IsW v22 _ A) := IA.out.below hb
      have N22 := N21.below hb
      refine hK.out _ _ (hHeld.below hb) (fun hHeld2 => ?_)
      clear hK K hb hHeld N21 IA IB
      have hHeld := hHeld2
      clear hHeld2
      have IA := JIA22
      clear JIA22
      have IN : Hid (IsW v22 _ (-B)) := q22
      clear q22
      refine wpAnyH_ready (rs := [5]) (by kernel_rfl) (by simp) (AllReadyH.cons (o := { dst := some 20, op := _, type := _, pos := _, after := _, guard := none }) rfl (fun K hK => ?_) AllReadyH.nil)
      go_simp
      refine (HP.out _ _ _ IA.out IN.out).mono ?_
      rintro e v23 ⟨u23, rfl, q23, hb⟩
      obtain ⟨gC, bC, rfl⟩ := q23.split
      have N23 := N22.below hb
      refine hK.out _ _ (hHeld.below hb) (fun hHeld2 => ?_)
      clear hK K hb hHeld N22 IA IN
      have hHeld := hHeld2
      clear hHeld2
      have IC : Hid (IsW v23 _ C) := q23
      clear q23
      refine wpAnyH_ready (rs := [7]) (by kernel_rfl) (by simp) (AllReadyH.cons (o := { dst := none, op := _, type := _, pos := _, after := _, guard := none }) rfl (fun K hK => ?_) AllReadyH.nil)
      obtain ⟨⟨ta, tb, tc, td, te⟩, _⟩ := id N23
      go_simp
      have N24 := N23.set (.bool gC) (.slice (some ⟨bC, 0, none⟩) 6 6)
      have JIC : Hid (IsW _ _ C) := IC.out.other tb (.bool gC) (.slice (some ⟨bC, 0, none⟩) 6 6)
      refine hK.out _ _ (hHeld.setV N23 _ _) (fun hHeld2 => ?_)
      clear hK K hHeld N23 ta tb tc td te IC
      have hHeld := hHeld2
      clear hHeld2
      have IC := JIC
      clear JIC
      refine wpAnyH_done (by kernel_rfl) ?_ _
      go_wp2_with fail
      go_meet
      case rel => exact ⟨_, gC, bC, rfl, hHeld, N24.1, IC.out.parts⟩
  case rest =>
    clear L2 H1 H2 HN HP
    obtain ⟨nb, g, b, rfl, L3, V3, hg, r3⟩ := hcut
    have HB3 : Hid (Below w.heap.size w _) := L3.1
    clear L3
    by_cases hneg : C < 0
    · have hg1 : g = true := by rw [hg]; exact decide_eq_true hneg
      subst hg1
      have HR : Hid (r = -1) := R1.out hneg
      obtain ⟨d1, d2, d3, d4, d5⟩ := V3
      clear hg hneg R1 R2 R3 r3
      go_wp2
      go_ret
      exact ⟨ret_int HR.out.symm, HB3.out⟩
    · have hg1 : g = false := by rw [hg]; exact decide_eq_false hneg
      subst hg1
      have R2' : Hid (C.natAbs ≠ 0 → r = 1) := R2.out (by omega)
      clear hg hneg R1 R2
      generalize C.natAbs = v at *
      obtain ⟨d1, d2, d3, d4, d5⟩ := id V3
      go_wp2_with fail
      go_loopw [6] (fun i wr => ∃ k : Nat, k ≤ 6 ∧ i = .int .i64 (k : Int) ∧ VBox wr nb (.bool false) (.slice (some ⟨b, 0, none⟩) 6 6) ∧ Row wr b v ∧ Below w.heap.size w wr ∧ Hid (∀ j, j < k → Wd.dg v j = 0)) (fun i _ => 6 - (intOf i).toNat)
      case atStart => exact ⟨0, by omega, rfl, V3, r3, HB3.out, fun j hj => absurd hj (Nat.not_lt_zero j)⟩
      case round =>
        clear d1 d2 d3 d4 d5 V3 r3 HB3
        obtain ⟨k, hk, rfl, V4, r4, hB, HZ⟩ := hrel
        have HB4 : Hid (Below w.heap.size w wr) := hB
        clear hB
        obtain ⟨d1, d2, d3, d4, d5⟩ := id V4
        by_cases hk6 : k < 6
        · have hk' : (k : Int) < 6 := by omega
          by_cases hz : Wd.dg v k = 0
          · have ck : wr.cell? ⟨b, k, none⟩ = some (.int .u64 0) := by have := r4.2.2 k hk6; rw [hz] at this; exact this
            have HZ' : Hid (∀ j, j < k + 1 → Wd.dg v j = 0) := fun j hj => by
              by_cases e : j = k
              · rw [e]; exact hz
              · exact HZ.out j (by omega)
            have HR4 : Hid (Row wr b v) := r4
            have HV4 : Hid (VBox wr nb (.bool false) (.slice (some ⟨b, 0, none⟩) 6 6)) := V4
            clear hz r4 V4 HZ
            go_wp2
            exact ⟨⟨k + 1, by omega, by go_num, HV4.out, HR4.out, HB4.out, HZ'⟩, by simp [intOf]; omega⟩
          · have ck : wr.cell? ⟨b, k, none⟩ = some (.int .u64 ((Wd.dg v k : Nat) : Int)) := r4.2.2 k hk6
            have hx : ((Wd.dg v k : Nat) : Int) ≠ 0 := by omega
            have HR : Hid (r = 1) := R2'.out (fun e => hz (by rw [e]; exact Wd.dg_zero k))
            clear r4 V4 HZ hz R2' R3
            generalize ((Wd.dg v k : Nat) : Int) = x at *
            have hx' : (x == 0) = false := by rw [beq_eq_false_iff_ne]; exact hx
            have hx2 : (x != 0) = true := by rw [bne_iff_ne]; exact hx
            clear hx
            go_wp2
            go_ret
            exact ⟨ret_int HR.out.symm, HB4.out⟩
        · have e6 : k = 6 := by omega
          subst e6
          have HR : Hid (r = 0) := R3.out (six_zero r4.1 HZ.out)
          clear r4 V4 HZ R2' R3 hk hk6
          go_wp2
          go_ret
          exact ⟨ret_int HR.out.symm, HB4.out⟩

/-- the reference's Cmp, whatever it is given. -/
theorem ecmp_any (xn xs yn ys : Int) (x1 : -9223372036854775808 ≤ xn) (x2 : xn ≤ 9223372036854775807) (y1 : -9223372036854775808 ≤ yn) (y2 : yn ≤ 9223372036854775807) (w : World) :
    Calls Tryd.prog 32 #[.agg #[.int .i64 xn, .int .i64 xs], .agg #[.int .i64 yn, .int .i64 ys]] w fun e w' => e = .returned (.int .i64 (cmpV xn xs yn ys)) ∧ Below w.heap.size w w' := by
  by_cases hr : rt xs = true ∧ rt ys = true
  · obtain ⟨hx, hy⟩ := hr
    obtain ⟨p1, p2⟩ := rt_yes hx
    obtain ⟨q1, q2⟩ := rt_yes hy
    have ec : cmpV xn xs yn ys = cmp3 (at9 xn xs) (at9 yn ys) := by unfold cmpV; rw [if_pos ⟨hx, hy⟩]
    rw [ec]
    have l1 : (at9 xn xs).natAbs ≤ 9223372036854775808 * 1000000000 := at_abs _ _ x1 x2 (by omega)
    have l2 : (at9 yn ys).natAbs ≤ 9223372036854775808 * 1000000000 := at_abs _ _ y1 y2 (by omega)
    have hlt : 9223372036854775808 * 1000000000 + 9223372036854775808 * 1000000000 < 4294967296 ^ 6 := by decide
    have H1 : ∀ w : World, Calls Tryd.prog 67 #[.agg #[.int .i64 xn, .int .i64 xs], .int .i64 9] w fun e w' => ∃ v, e = .returned v ∧ IsW w' v (at9 xn xs) ∧ Below w.heap.size w w' := eat xn xs 9 x1 x2 hx (by decide) p2
    have H2 : ∀ w : World, Calls Tryd.prog 67 #[.agg #[.int .i64 yn, .int .i64 ys], .int .i64 9] w fun e w' => ∃ v, e = .returned v ∧ IsW w' v (at9 yn ys) ∧ Below w.heap.size w w' := eat yn ys 9 y1 y2 hy (by decide) q2
    generalize at9 xn xs = a at *
    generalize at9 yn ys = b at *
    refine ecmp_ok xn xs yn ys a b (a + -b) _ hx hy H1 H2 (fun v w h => wminus v _ w h) (fun v u w h k => wplus v u _ _ w h k (Nat.lt_of_le_of_lt (Nat.add_le_add l1 (by rw [Int.natAbs_neg]; exact l2)) hlt)) (fun h => ?_) (fun h k => ?_) (fun h => ?_) w
    · exact if_pos (by omega)
    · unfold cmp3; rw [if_neg (by omega), if_pos (by omega)]
    · unfold cmp3; rw [if_neg (by omega), if_neg (by omega)]
  · have e : cmpV xn xs yn ys = 0 := by unfold cmpV; rw [if_neg hr]
    rw [e]
    cases hx : rt xs
    · exact ecmp_bad1 xn xs yn ys hx w
    · cases hy : rt ys
      · exact ecmp_bad2 xn xs yn ys hx hy w
      · exact absurd ⟨hx, hy⟩ hr

end Go.Proofs.YtlhlanekklonmaaDoor
