/- Contracts of dec.Mul, dec.Cmp, dec.Floor, and of cmp.Compare at int64: products, order, the whole part. -/
import Derived.Test.YtlhlanekklonmaaDoorDecC
namespace Go.Proofs.YtlhlanekklonmaaDoor
open Go.RowKit
set_option linter.unusedVariables false

/-- the product's error. -/
def mulE (xn xs yn ys : Int) : Int := if rt xs = true ∧ rt ys = true then (if 9 < xs + ys then 10 else smE (xn * yn)) else 1

set_option maxRecDepth 100000 in
set_option maxHeartbeats 1000000 in
theorem dmul_bad1 (xn xs yn ys : Int) (h : rt xs = false) (w : World) :
    Calls Tryd.prog 28 #[.agg #[.int .i64 xn, .int .i64 xs], .agg #[.int .i64 yn, .int .i64 ys]] w fun e w' => e = .returned (.tuple #[d0, .int .i64 1]) ∧ Below w.heap.size w w' := by
  have F := Three.new w xn xs yn ys
  have HB : Hid (Below w.heap.size w (lv3 w xn xs yn ys)) := lv3_below _ _ _ _ _
  go_enter Tryd.func28, Tryd.ntmps28
  go_wp2_with fail
  refine (dright_no _ _ h _).mono ?_
  rintro e w1 ⟨rfl, hb⟩
  obtain ⟨⟨x1, x2, x3, x4, x5⟩, ⟨y1, y2, y3, y4, y5⟩, ⟨z1, z2, z3, z4, z5⟩⟩ := F.below hb
  have HB1 : Hid (Below w.heap.size w w1) := HB.out.trans (hb.mono HB.out.size)
  clear F HB hb
  go_wp2_with fail
  exact bodyPost_ret (v := .tuple #[d0, .int .i64 1]) (by simp [results, Tryd.results28, go_sem, z2, z3]) rfl ⟨rfl, (HB1.out.setCell (by simp; omega) _).setCell (by simp; omega) _⟩

set_option maxRecDepth 100000 in
set_option maxHeartbeats 1000000 in
theorem dmul_bad2 (xn xs yn ys : Int) (h0 : rt xs = true) (h : rt ys = false) (w : World) :
    Calls Tryd.prog 28 #[.agg #[.int .i64 xn, .int .i64 xs], .agg #[.int .i64 yn, .int .i64 ys]] w fun e w' => e = .returned (.tuple #[d0, .int .i64 1]) ∧ Below w.heap.size w w' := by
  have F := Three.new w xn xs yn ys
  have HB : Hid (Below w.heap.size w (lv3 w xn xs yn ys)) := lv3_below _ _ _ _ _
  go_enter Tryd.func28, Tryd.ntmps28
  go_wp2_with fail
  refine (dright_yes _ _ h0 _).mono ?_
  rintro e w1 ⟨rfl, hb⟩
  have F1 := F.below hb
  obtain ⟨_, ⟨y1, y2, y3, y4, y5⟩, _⟩ := id F1
  have HB1 : Hid (Below w.heap.size w w1) := HB.out.trans (hb.mono HB.out.size)
  clear F HB hb
  go_wp2_with fail
  refine (dright_no _ _ h _).mono ?_
  rintro e w2 ⟨rfl, hb⟩
  obtain ⟨_, _, ⟨z1, z2, z3, z4, z5⟩⟩ := F1.below hb
  have HB2 : Hid (Below w.heap.size w w2) := HB1.out.trans (hb.mono HB1.out.size)
  clear F1 HB1 hb y1 y2 y3 y4 y5
  go_wp2_with fail
  exact bodyPost_ret (v := .tuple #[d0, .int .i64 1]) (by simp [results, Tryd.results28, go_sem, z2, z3]) rfl ⟨rfl, (HB2.out.setCell (by simp; omega) _).setCell (by simp; omega) _⟩

set_option maxRecDepth 100000 in
set_option maxHeartbeats 1000000 in
theorem dmul_far (xn xs yn ys : Int) (rx : rt xs = true) (ry : rt ys = true) (h9 : 9 < xs + ys) (w : World) :
    Calls Tryd.prog 28 #[.agg #[.int .i64 xn, .int .i64 xs], .agg #[.int .i64 yn, .int .i64 ys]] w fun e w' => e = .returned (.tuple #[d0, .int .i64 10]) ∧ Below w.heap.size w w' := by
  obtain ⟨x0, x9⟩ := rt_yes rx
  obtain ⟨y0, y9⟩ := rt_yes ry
  have F := Three.new w xn xs yn ys
  have HB : Hid (Below w.heap.size w (lv3 w xn xs yn ys)) := lv3_below _ _ _ _ _
  go_enter Tryd.func28, Tryd.ntmps28
  go_wp2_with fail
  refine (dright_yes _ _ rx _).mono ?_
  rintro e w1 ⟨rfl, hb⟩
  have F1 := F.below hb
  obtain ⟨_, ⟨y1, y2, y3, y4, y5⟩, _⟩ := id F1
  have HB1 : Hid (Below w.heap.size w w1) := HB.out.trans (hb.mono HB.out.size)
  clear F HB hb
  go_wp2_with fail
  refine (dright_yes _ _ ry _).mono ?_
  rintro e w2 ⟨rfl, hb⟩
  clear y1 y2 y3 y4 y5
  obtain ⟨⟨x1, x2, x3, x4, x5⟩, ⟨y1, y2, y3, y4, y5⟩, ⟨z1, z2, z3, z4, z5⟩⟩ := F1.below hb
  have HB2 : Hid (Below w.heap.size w w2) := HB1.out.trans (hb.mono HB1.out.size)
  clear F1 HB1 hb
  go_wp2_with fail
  exact bodyPost_ret (v := .tuple #[d0, .int .i64 10]) (by simp [results, Tryd.results28, go_sem, z2, z3]) rfl ⟨rfl, (HB2.out.setCell (by simp; omega) _).setCell (by simp; omega) _⟩

set_option maxRecDepth 100000 in
set_option maxHeartbeats 1000000 in
theorem dmul_near (xn xs yn ys v x : Int) (rx : rt xs = true) (ry : rt ys = true) (h9 : ¬ 9 < xs + ys)
    (H2 : Hid (∀ w : World, Calls Tryd.prog 63 #[.int .i64 xn, .int .i64 yn] w fun e w' => e = .returned (.tuple #[.int .i64 v, .int .i64 x]) ∧ Below w.heap.size w w')) (w : World) :
    Calls Tryd.prog 28 #[.agg #[.int .i64 xn, .int .i64 xs], .agg #[.int .i64 yn, .int .i64 ys]] w fun e w' => e = .returned (.tuple #[.agg #[.int .i64 (ofN v x), .int .i64 (ofS (xs + ys) x)], .int .i64 x]) ∧ Below w.heap.size w w' := by
  have H3 : Hid (∀ w : World, Calls Tryd.prog 60 #[.int .i64 v, .int .i64 (xs + ys), .int .i64 x] w fun e w' => e = .returned (.tuple #[.agg #[.int .i64 (ofN v x), .int .i64 (ofS (xs + ys) x)], .int .i64 x]) ∧ Below w.heap.size w w') := of_any v (xs + ys) x
  obtain ⟨x0, x9⟩ := rt_yes rx
  obtain ⟨y0, y9⟩ := rt_yes ry
  have F := Three.new w xn xs yn ys
  have HB : Hid (Below w.heap.size w (lv3 w xn xs yn ys)) := lv3_below _ _ _ _ _
  go_enter Tryd.func28, Tryd.ntmps28
  go_wp2_with fail
  refine (dright_yes _ _ rx _).mono ?_
  rintro e w1 ⟨rfl, hb⟩
  have F1 := F.below hb
  obtain ⟨_, ⟨y1, y2, y3, y4, y5⟩, _⟩ := id F1
  have HB1 : Hid (Below w.heap.size w w1) := HB.out.trans (hb.mono HB.out.size)
  clear F HB hb
  go_wp2_with fail
  refine (dright_yes _ _ ry _).mono ?_
  rintro e w2 ⟨rfl, hb⟩
  clear y1 y2 y3 y4 y5
  have F2 := F1.below hb
  obtain ⟨⟨x1, x2, x3, x4, x5⟩, ⟨y1, y2, y3, y4, y5⟩, _⟩ := id F2
  have HB2 : Hid (Below w.heap.size w w2) := HB1.out.trans (hb.mono HB1.out.size)
  clear F1 HB1 hb
  go_wp2_with fail
  refine (H2.out _).mono ?_
  rintro e w3 ⟨rfl, hb⟩
  clear x1 x2 x3 x4 x5 y1 y2 y3 y4 y5
  have F3 := F2.below hb
  obtain ⟨⟨x1, x2, x3, x4, x5⟩, ⟨y1, y2, y3, y4, y5⟩, _⟩ := id F3
  have HB3 : Hid (Below w.heap.size w w3) := HB2.out.trans (hb.mono HB2.out.size)
  clear F2 HB2 hb
  go_wp2_with fail
  refine (H3.out _).mono ?_
  rintro e w4 ⟨rfl, hb⟩
  clear x1 x2 x3 x4 x5 y1 y2 y3 y4 y5
  obtain ⟨_, _, ⟨z1, z2, z3, z4, z5⟩⟩ := F3.below hb
  have HB4 : Hid (Below w.heap.size w w4) := HB3.out.trans (hb.mono HB3.out.size)
  clear F3 HB3 hb
  go_wp2_with fail
  exact bodyPost_ret (v := .tuple #[.agg #[.int .i64 (ofN v x), .int .i64 (ofS (xs + ys) x)], .int .i64 x]) (by simp [results, Tryd.results28, go_sem, z2, z3]) rfl ⟨rfl, (HB4.out.setCell (by simp; omega) _).setCell (by simp; omega) _⟩

/-- dec.Mul, whatever it is given. -/
theorem dmul_any (xn xs yn ys : Int) (x1 : -9223372036854775808 ≤ xn) (x2 : xn ≤ 9223372036854775807) (y1 : -9223372036854775808 ≤ yn) (y2 : yn ≤ 9223372036854775807) (w : World) :
    Calls Tryd.prog 28 #[.agg #[.int .i64 xn, .int .i64 xs], .agg #[.int .i64 yn, .int .i64 ys]] w fun e w' => e = .returned (.tuple #[.agg #[.int .i64 (ofN (xn * yn) (mulE xn xs yn ys)), .int .i64 (ofN (xs + ys) (mulE xn xs yn ys))], .int .i64 (mulE xn xs yn ys)]) ∧ Below w.heap.size w w' := by
  by_cases hr : rt xs = true ∧ rt ys = true
  · by_cases h9 : 9 < xs + ys
    · have e : mulE xn xs yn ys = 10 := by unfold mulE; rw [if_pos hr, if_pos h9]
      rw [e]
      exact dmul_far xn xs yn ys hr.1 hr.2 h9 w
    · have e : mulE xn xs yn ys = smE (xn * yn) := by unfold mulE; rw [if_pos hr, if_neg h9]
      have R := dmul_near xn xs yn ys _ _ hr.1 hr.2 h9 (mul_any xn yn x1 x2 y1 y2) w
      rw [sm_of] at R
      rw [e]
      exact R
  · have e : mulE xn xs yn ys = 1 := by unfold mulE; rw [if_neg hr]
    rw [e]
    cases hx : rt xs
    · exact dmul_bad1 xn xs yn ys hx w
    · cases hy : rt ys
      · exact dmul_bad2 xn xs yn ys hx hy w
      · exact absurd ⟨hx, hy⟩ hr

/-- which of two whole numbers is the lesser one. -/
def cmp3 (a b : Int) : Int := if a < b then -1 else if b < a then 1 else 0

set_option maxHeartbeats 400000 in
theorem compare_any (a b : Int) (w : World) :
    Calls Tryd.prog 65 #[.int .i64 a, .int .i64 b] w fun e w' => e = .returned (.int .i64 (cmp3 a b)) ∧ w' = w := by
  unfold cmp3
  by_cases h : a < b
  · rw [if_pos h]
    go_enter Tryd.func65, Tryd.ntmps65
    go_wp2
    go_ret
    exact ⟨rfl, rfl⟩
  · rw [if_neg h]
    by_cases g : b < a
    · rw [if_pos g]
      go_enter Tryd.func65, Tryd.ntmps65
      go_wp2
      go_ret
      exact ⟨rfl, rfl⟩
    · rw [if_neg g]
      go_enter Tryd.func65, Tryd.ntmps65
      go_wp2
      go_ret
      exact ⟨rfl, rfl⟩

end Go.Proofs.YtlhlanekklonmaaDoor
