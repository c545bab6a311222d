/- Contracts of the reference's sums, differences and products of decimal numbers. -/
import Derived.Test.YtlhlanekklonmaaDoorDecX
namespace Go.Proofs.YtlhlanekklonmaaDoor
open Go.RowKit
set_option linter.unusedVariables false

/-- the reference's boxes of two numbers, and the place of an answer. -/
abbrev rv3 (w : World) (xn xs yn ys : Int) : World := ((w.alloc (.cells #[.int .i64 xn, .int .i64 xs] 33)).alloc (.cells #[.int .i64 yn, .int .i64 ys] 33)).alloc (.cells #[.int .i64 0, .int .i64 0] 33)
theorem rv3_three (w : World) (xn xs yn ys : Int) : Three (rv3 w xn xs yn ys) w.heap.size xn xs yn ys :=
  ⟨by have := ((Box.newT w xn xs 33).alloc (.cells #[.int .i64 yn, .int .i64 ys] 33)).alloc (.cells #[.int .i64 0, .int .i64 0] 33); simpa using this,
   by have := (Box.newT (w.alloc (.cells #[.int .i64 xn, .int .i64 xs] 33)) yn ys 33).alloc (.cells #[.int .i64 0, .int .i64 0] 33); simpa using this,
   by have := Box.newT ((w.alloc (.cells #[.int .i64 xn, .int .i64 xs] 33)).alloc (.cells #[.int .i64 yn, .int .i64 ys] 33)) 0 0 33; simpa using this⟩
theorem rv3_below (w : World) (xn xs yn ys : Int) : Below w.heap.size w (rv3 w xn xs yn ys) := (by repeat' (first | assumption | exact Below.refl _ _ | exact Nat.le_refl _ | refine Below.alloc ?_ ?_ _ | (simp; done) | (simp; omega) | omega))

set_option maxRecDepth 100000 in
set_option maxHeartbeats 1000000 in
theorem emul_bad1 (xn xs yn ys : Int) (h : rt xs = false) (w : World) :
    Calls Tryd.prog 29 #[.agg #[.int .i64 xn, .int .i64 xs], .agg #[.int .i64 yn, .int .i64 ys]] w fun e w' => e = .returned (.tuple #[d0, .int .i64 1]) ∧ Below w.heap.size w w' := by
  have F := rv3_three w xn xs yn ys
  have HB : Hid (Below w.heap.size w (rv3 w xn xs yn ys)) := rv3_below _ _ _ _ _
  go_enter Tryd.func29, Tryd.ntmps29
  go_wp2_with fail
  refine (eright_no _ _ h _).mono ?_
  rintro e w1 ⟨rfl, hb⟩
  obtain ⟨⟨x1, x2, x3, x4, x5⟩, ⟨y1, y2, y3, y4, y5⟩, ⟨z1, z2, z3, z4, z5⟩⟩ := F.below hb
  have HB1 : Hid (Below w.heap.size w w1) := HB.out.trans (hb.mono HB.out.size)
  clear F HB hb
  go_wp2_with fail
  exact bodyPost_ret (v := .tuple #[d0, .int .i64 1]) (by simp [results, Tryd.results29, go_sem, z2, z3]) rfl ⟨rfl, (HB1.out.setCell (by simp; omega) _).setCell (by simp; omega) _⟩

set_option maxRecDepth 100000 in
set_option maxHeartbeats 1000000 in
theorem emul_bad2 (xn xs yn ys : Int) (h0 : rt xs = true) (h : rt ys = false) (w : World) :
    Calls Tryd.prog 29 #[.agg #[.int .i64 xn, .int .i64 xs], .agg #[.int .i64 yn, .int .i64 ys]] w fun e w' => e = .returned (.tuple #[d0, .int .i64 1]) ∧ Below w.heap.size w w' := by
  have F := rv3_three w xn xs yn ys
  have HB : Hid (Below w.heap.size w (rv3 w xn xs yn ys)) := rv3_below _ _ _ _ _
  go_enter Tryd.func29, Tryd.ntmps29
  go_wp2_with fail
  refine (eright_yes _ _ h0 _).mono ?_
  rintro e w1 ⟨rfl, hb⟩
  have F1 := F.below hb
  obtain ⟨_, ⟨y1, y2, y3, y4, y5⟩, _⟩ := id F1
  have HB1 : Hid (Below w.heap.size w w1) := HB.out.trans (hb.mono HB.out.size)
  clear F HB hb
  go_wp2_with fail
  refine (eright_no _ _ h _).mono ?_
  rintro e w2 ⟨rfl, hb⟩
  obtain ⟨_, _, ⟨z1, z2, z3, z4, z5⟩⟩ := F1.below hb
  have HB2 : Hid (Below w.heap.size w w2) := HB1.out.trans (hb.mono HB1.out.size)
  clear F1 HB1 hb y1 y2 y3 y4 y5
  go_wp2_with fail
  exact bodyPost_ret (v := .tuple #[d0, .int .i64 1]) (by simp [results, Tryd.results29, go_sem, z2, z3]) rfl ⟨rfl, (HB2.out.setCell (by simp; omega) _).setCell (by simp; omega) _⟩

set_option maxRecDepth 100000 in
set_option maxHeartbeats 1000000 in
theorem emul_err (xn xs yn ys : Int) (rx : rt xs = true) (ry : rt ys = true)
    (H2 : Hid (∀ w : World, Calls Tryd.prog 64 #[.int .i64 xn, .int .i64 yn] w fun e w' => e = .returned (.tuple #[.int .i64 0, .int .i64 10]) ∧ Below w.heap.size w w')) (w : World) :
    Calls Tryd.prog 29 #[.agg #[.int .i64 xn, .int .i64 xs], .agg #[.int .i64 yn, .int .i64 ys]] w fun e w' => e = .returned (.tuple #[d0, .int .i64 10]) ∧ Below w.heap.size w w' := by
  obtain ⟨x0, x9⟩ := rt_yes rx
  obtain ⟨y0, y9⟩ := rt_yes ry
  have F := rv3_three w xn xs yn ys
  have HB : Hid (Below w.heap.size w (rv3 w xn xs yn ys)) := rv3_below _ _ _ _ _
  go_enter Tryd.func29, Tryd.ntmps29
  go_wp2_with fail
  refine (eright_yes _ _ rx _).mono ?_
  rintro e w1 ⟨rfl, hb⟩
  have F1 := F.below hb
  obtain ⟨_, ⟨y1, y2, y3, y4, y5⟩, _⟩ := id F1
  have HB1 : Hid (Below w.heap.size w w1) := HB.out.trans (hb.mono HB.out.size)
  clear F HB hb
  go_wp2_with fail
  refine (eright_yes _ _ ry _).mono ?_
  rintro e w2 ⟨rfl, hb⟩
  clear y1 y2 y3 y4 y5
  have F2 := F1.below hb
  obtain ⟨⟨x1, x2, x3, x4, x5⟩, ⟨y1, y2, y3, y4, y5⟩, _⟩ := id F2
  have HB2 : Hid (Below w.heap.size w w2) := HB1.out.trans (hb.mono HB1.out.size)
  clear F1 HB1 hb
  go_wp2_with fail
  refine (H2.out _).mono ?_
  rintro e w3 ⟨rfl, hb⟩
  clear x1 x2 x3 x4 x5 y1 y2 y3 y4 y5
  obtain ⟨⟨x1, x2, x3, x4, x5⟩, ⟨y1, y2, y3, y4, y5⟩, ⟨z1, z2, z3, z4, z5⟩⟩ := F2.below hb
  have HB3 : Hid (Below w.heap.size w w3) := HB2.out.trans (hb.mono HB2.out.size)
  clear F2 HB2 hb
  go_wp2_with fail
  exact bodyPost_ret (v := .tuple #[d0, .int .i64 10]) (by simp [results, Tryd.results29, go_sem, z2, z3]) rfl ⟨rfl, (HB3.out.setCell (by simp; omega) _).setCell (by simp; omega) _⟩

set_option maxRecDepth 100000 in
set_option maxHeartbeats 1000000 in
theorem emul_far (xn xs yn ys v : Int) (rx : rt xs = true) (ry : rt ys = true) (h9 : 9 < xs + ys)
    (H2 : Hid (∀ w : World, Calls Tryd.prog 64 #[.int .i64 xn, .int .i64 yn] w fun e w' => e = .returned (.tuple #[.int .i64 v, .int .i64 0]) ∧ Below w.heap.size w w')) (w : World) :
    Calls Tryd.prog 29 #[.agg #[.int .i64 xn, .int .i64 xs], .agg #[.int .i64 yn, .int .i64 ys]] w fun e w' => e = .returned (.tuple #[d0, .int .i64 10]) ∧ Below w.heap.size w w' := by
  obtain ⟨x0, x9⟩ := rt_yes rx
  obtain ⟨y0, y9⟩ := rt_yes ry
  have F := rv3_three w xn xs yn ys
  have HB : Hid (Below w.heap.size w (rv3 w xn xs yn ys)) := rv3_below _ _ _ _ _
  go_enter Tryd.func29, Tryd.ntmps29
  go_wp2_with fail
  refine (eright_yes _ _ rx _).mono ?_
  rintro e w1 ⟨rfl, hb⟩
  have F1 := F.below hb
  obtain ⟨_, ⟨y1, y2, y3, y4, y5⟩, _⟩ := id F1
  have HB1 : Hid (Below w.heap.size w w1) := HB.out.trans (hb.mono HB.out.size)
  clear F HB hb
  go_wp2_with fail
  refine (eright_yes _ _ ry _).mono ?_
  rintro e w2 ⟨rfl, hb⟩
  clear y1 y2 y3 y4 y5
  have F2 := F1.below hb
  obtain ⟨⟨x1, x2, x3, x4, x5⟩, ⟨y1, y2, y3, y4, y5⟩, _⟩ := id F2
  have HB2 : Hid (Below w.heap.size w w2) := HB1.out.trans (hb.mono HB1.out.size)
  clear F1 HB1 hb
  go_wp2_with fail
  refine (H2.out _).mono ?_
  rintro e w3 ⟨rfl, hb⟩
  clear x1 x2 x3 x4 x5 y1 y2 y3 y4 y5
  obtain ⟨⟨x1, x2, x3, x4, x5⟩, ⟨y1, y2, y3, y4, y5⟩, ⟨z1, z2, z3, z4, z5⟩⟩ := F2.below hb
  have HB3 : Hid (Below w.heap.size w w3) := HB2.out.trans (hb.mono HB2.out.size)
  clear F2 HB2 hb
  go_wp2_with fail
  exact bodyPost_ret (v := .tuple #[d0, .int .i64 10]) (by simp [results, Tryd.results29, go_sem, z2, z3]) rfl ⟨rfl, (HB3.out.setCell (by simp; omega) _).setCell (by simp; omega) _⟩

set_option maxRecDepth 100000 in
set_option maxHeartbeats 1000000 in
theorem emul_ok (xn xs yn ys v : Int) (rx : rt xs = true) (ry : rt ys = true) (h9 : ¬ 9 < xs + ys)
    (H2 : Hid (∀ w : World, Calls Tryd.prog 64 #[.int .i64 xn, .int .i64 yn] w fun e w' => e = .returned (.tuple #[.int .i64 v, .int .i64 0]) ∧ Below w.heap.size w w')) (w : World) :
    Calls Tryd.prog 29 #[.agg #[.int .i64 xn, .int .i64 xs], .agg #[.int .i64 yn, .int .i64 ys]] w fun e w' => e = .returned (.tuple #[.agg #[.int .i64 v, .int .i64 (xs + ys)], .int .i64 0]) ∧ Below w.heap.size w w' := by
  obtain ⟨x0, x9⟩ := rt_yes rx
  obtain ⟨y0, y9⟩ := rt_yes ry
  have F := rv3_three w xn xs yn ys
  have HB : Hid (Below w.heap.size w (rv3 w xn xs yn ys)) := rv3_below _ _ _ _ _
  go_enter Tryd.func29, Tryd.ntmps29
  go_wp2_with fail
  refine (eright_yes _ _ rx _).mono ?_
  rintro e w1 ⟨rfl, hb⟩
  have F1 := F.below hb
  obtain ⟨_, ⟨y1, y2, y3, y4, y5⟩, _⟩ := id F1
  have HB1 : Hid (Below w.heap.size w w1) := HB.out.trans (hb.mono HB.out.size)
  clear F HB hb
  go_wp2_with fail
  refine (eright_yes _ _ ry _).mono ?_
  rintro e w2 ⟨rfl, hb⟩
  clear y1 y2 y3 y4 y5
  have F2 := F1.below hb
  obtain ⟨⟨x1, x2, x3, x4, x5⟩, ⟨y1, y2, y3, y4, y5⟩, _⟩ := id F2
  have HB2 : Hid (Below w.heap.size w w2) := HB1.out.trans (hb.mono HB1.out.size)
  clear F1 HB1 hb
  go_wp2_with fail
  refine (H2.out _).mono ?_
  rintro e w3 ⟨rfl, hb⟩
  clear x1 x2 x3 x4 x5 y1 y2 y3 y4 y5
  obtain ⟨⟨x1, x2, x3, x4, x5⟩, ⟨y1, y2, y3, y4, y5⟩, ⟨z1, z2, z3, z4, z5⟩⟩ := F2.below hb
  have HB3 : Hid (Below w.heap.size w w3) := HB2.out.trans (hb.mono HB2.out.size)
  clear F2 HB2 hb
  go_wp2_with fail
  exact bodyPost_ret (v := .tuple #[.agg #[.int .i64 v, .int .i64 (xs + ys)], .int .i64 0]) (by simp [results, Tryd.results29, go_sem, z2, z3]) rfl ⟨rfl, (HB3.out.setCell (by simp; omega) _).setCell (by simp; omega) _⟩

/-- the reference's Mul, whatever it is given. -/
theorem emul_any (xn xs yn ys : Int) (x1 : -9223372036854775808 ≤ xn) (x2 : xn ≤ 9223372036854775807) (y1 : -9223372036854775808 ≤ yn) (y2 : yn ≤ 9223372036854775807) (w : World) :
    Calls Tryd.prog 29 #[.agg #[.int .i64 xn, .int .i64 xs], .agg #[.int .i64 yn, .int .i64 ys]] w fun e w' => e = .returned (.tuple #[.agg #[.int .i64 (ofN (xn * yn) (mulE xn xs yn ys)), .int .i64 (ofN (xs + ys) (mulE xn xs yn ys))], .int .i64 (mulE xn xs yn ys)]) ∧ Below w.heap.size w w' := by
  by_cases hr : rt xs = true ∧ rt ys = true
  · have M := refmul_any xn yn x1 x2 y1 y2
    by_cases hs : smE (xn * yn) = 0
    · rw [hs, (sm_ok hs).2] at M
      by_cases h9 : 9 < xs + ys
      · have e : mulE xn xs yn ys = 10 := by unfold mulE; rw [if_pos hr, if_pos h9]
        rw [e]
        exact emul_far xn xs yn ys _ hr.1 hr.2 h9 M w
      · have e : mulE xn xs yn ys = 0 := by unfold mulE; rw [if_pos hr, if_neg h9, hs]
        rw [e]
        exact emul_ok xn xs yn ys _ hr.1 hr.2 h9 M w
    · rw [(sm_bad hs).1, (sm_bad hs).2] at M
      have e : mulE xn xs yn ys = 10 := by
        unfold mulE; rw [if_pos hr]
        split
        · rfl
        · exact (sm_bad hs).1
      rw [e]
      exact emul_err xn xs yn ys hr.1 hr.2 M w
  · have e : mulE xn xs yn ys = 1 := by unfold mulE; rw [if_neg hr]
    rw [e]
    cases hx : rt xs
    · exact emul_bad1 xn xs yn ys hx w
    · cases hy : rt ys
      · exact emul_bad2 xn xs yn ys hx hy w
      · exact absurd ⟨hx, hy⟩ hr

set_option maxHeartbeats 400000 in
theorem both_any (xn xs yn ys : Int) (w : World) :
    Calls Tryd.prog 85 #[.agg #[.int .i64 xn, .int .i64 xs], .agg #[.int .i64 yn, .int .i64 ys]] w fun e w' => e = .returned (.int .i64 (max xs ys)) ∧ Below w.heap.size w w' := by
  by_cases h : ys < xs
  · rw [Int.max_eq_left (Int.le_of_lt h)]
    go_enter Tryd.func85, Tryd.ntmps85
    go_wp2
    go_ret
    exact ⟨rfl, (by repeat' (first | assumption | exact Below.refl _ _ | exact Nat.le_refl _ | refine Below.alloc ?_ ?_ _ | (simp; done) | (simp; omega) | omega))⟩
  · rw [Int.max_eq_right (Int.not_lt.1 h)]
    go_enter Tryd.func85, Tryd.ntmps85
    go_wp2
    go_ret
    exact ⟨rfl, (by repeat' (first | assumption | exact Below.refl _ _ | exact Nat.le_refl _ | refine Below.alloc ?_ ?_ _ | (simp; done) | (simp; omega) | omega))⟩

/-- a block of two values. -/
def VBox (w : World) (b : Nat) (x y : Value) : Prop := b < w.heap.size ∧ w.cell? ⟨b, 0, none⟩ = some x ∧ w.cell? ⟨b, 1, none⟩ = some y ∧ w.frozen? ⟨b, 0, none⟩ = false ∧ w.frozen? ⟨b, 1, none⟩ = false
theorem VBox.new (W : World) (x y : Value) (t : TypeId) : VBox (W.alloc (.cells #[x, y] t)) W.heap.size x y :=
  ⟨by simp, by rw [World.cell?_alloc_at _ _ _ _ rfl]; rfl, by rw [World.cell?_alloc_at _ _ _ _ rfl]; rfl, by rw [World.frozen?_alloc_at _ _ _ _ rfl], by rw [World.frozen?_alloc_at _ _ _ _ rfl]⟩
theorem VBox.below {w w1 : World} {b : Nat} {x y : Value} (h : VBox w b x y) {B : Nat} (hb : Below B w w1) (hB : b < B) : VBox w1 b x y :=
  ⟨Nat.lt_of_lt_of_le h.1 hb.size, (hb.cell (p := ⟨b, 0, none⟩) hB).trans h.2.1, (hb.cell (p := ⟨b, 1, none⟩) hB).trans h.2.2.1, (hb.frozen (p := ⟨b, 0, none⟩) hB).trans h.2.2.2.1, (hb.frozen (p := ⟨b, 1, none⟩) hB).trans h.2.2.2.2⟩
theorem VBox.alloc {w : World} {b : Nat} {x y : Value} (h : VBox w b x y) (o : Obj) : VBox (w.alloc o) b x y :=
  h.below ((Below.refl w.heap.size w).alloc (Nat.le_refl _) o) h.1
theorem VBox.other {w : World} {b c : Nat} {x y : Value} (h : VBox w b x y) (hc : c ≠ b) (p q : Value) : VBox ((w.setCell ⟨c, 0, none⟩ p).setCell ⟨c, 1, none⟩ q) b x y := by
  obtain ⟨h1, h2, h3, h4, h5⟩ := h
  exact ⟨by simpa [World.setCell] using h1, (keep2 hc _ _ _).trans h2, (keep2 hc _ _ _).trans h3, by simpa using h4, by simpa using h5⟩
theorem VBox.set {w : World} {b : Nat} {x y : Value} (h : VBox w b x y) (p q : Value) : VBox ((w.setCell ⟨b, 0, none⟩ p).setCell ⟨b, 1, none⟩ q) b p q := by
  obtain ⟨h1, h2, h3, h4, h5⟩ := h
  have d01 : (⟨b, 1, none⟩ : Addr) ≠ ⟨b, 0, none⟩ := fun e => by cases e
  have k3 : (w.setCell ⟨b, 0, none⟩ p).cell? ⟨b, 1, none⟩ = some y := (World.cell?_setCell_other _ _ _ _ (fun e => d01 e.symm)).trans h3
  exact ⟨by simpa [World.setCell] using h1, (World.cell?_setCell_other _ _ _ _ d01).trans (World.cell?_setCell_same _ _ _ h2), World.cell?_setCell_same _ _ _ k3, by simpa using h4, by simpa using h5⟩
theorem IsW.alloc {w : World} {v : Value} {x : Int} (h : IsW w v x) (o : Obj) : IsW (w.alloc o) v x :=
  h.below ((Below.refl w.heap.size w).alloc (Nat.le_refl _) o)
theorem IsW.split {w : World} {v : Value} {x : Int} (h : IsW w v x) : ∃ (g : Bool) (b : Nat), v = .agg #[.bool g, .slice (some ⟨b, 0, none⟩) 6 6] := by
  obtain ⟨b, hv, _⟩ := h
  exact ⟨_, b, hv⟩
theorem IsW.other {w : World} {v : Value} {x : Int} {N : Nat} {g : Bool} (h : IsW w v x) (hc : w.cell? ⟨N, 0, none⟩ = some (.bool g)) (p q : Value) : IsW ((w.setCell ⟨N, 0, none⟩ p).setCell ⟨N, 1, none⟩ q) v x := by
  obtain ⟨b, hv, hr⟩ := h
  have hne : N ≠ b := by
    rintro rfl
    have := hr.2.2 0 (by decide)
    rw [hc] at this
    cases this
  exact ⟨b, hv, (hr.setCell (a := ⟨N, 0, none⟩) hne p).setCell (a := ⟨N, 1, none⟩) hne q⟩
theorem Three.alloc {w : World} {B : Nat} {xn xs yn ys : Int} (h : Three w B xn xs yn ys) (o : Obj) : Three (w.alloc o) B xn xs yn ys :=
  ⟨h.1.alloc o, h.2.1.alloc o, h.2.2.alloc o⟩
theorem Three.other {w : World} {B c : Nat} {xn xs yn ys : Int} (h : Three w B xn xs yn ys) (h0 : c ≠ B) (h1 : c ≠ B + 1) (h2 : c ≠ B + 2) (p q : Value) : Three ((w.setCell ⟨c, 0, none⟩ p).setCell ⟨c, 1, none⟩ q) B xn xs yn ys :=
  ⟨h.1.other h0 p q, h.2.1.other h1 p q, h.2.2.other h2 p q⟩

set_option maxRecDepth 100000 in
set_option maxHeartbeats 1000000 in
theorem esum_bad1 (xn xs yn ys : Int) (less : Bool) (h : rt xs = false) (w : World) :
    Calls Tryd.prog 61 #[.agg #[.int .i64 xn, .int .i64 xs], .agg #[.int .i64 yn, .int .i64 ys], .bool less] w fun e w' => e = .returned (.tuple #[d0, .int .i64 1]) ∧ Below w.heap.size w w' := by
  have F := rv3_three w xn xs yn ys
  have HB : Hid (Below w.heap.size w (rv3 w xn xs yn ys)) := rv3_below _ _ _ _ _
  go_enter Tryd.func61, Tryd.ntmps61
  go_wp2_with fail
  refine (eright_no _ _ h _).mono ?_
  rintro e w1 ⟨rfl, hb⟩
  obtain ⟨⟨x1, x2, x3, x4, x5⟩, ⟨y1, y2, y3, y4, y5⟩, ⟨z1, z2, z3, z4, z5⟩⟩ := F.below hb
  have HB1 : Hid (Below w.heap.size w w1) := HB.out.trans (hb.mono HB.out.size)
  clear F HB hb
  go_wp2_with fail
  exact bodyPost_ret (v := .tuple #[d0, .int .i64 1]) (by simp [results, Tryd.results61, go_sem, z2, z3]) rfl ⟨rfl, (HB1.out.setCell (by simp; omega) _).setCell (by simp; omega) _⟩

set_option maxRecDepth 100000 in
set_option maxHeartbeats 1000000 in
theorem esum_bad2 (xn xs yn ys : Int) (less : Bool) (h0 : rt xs = true) (h : rt ys = false) (w : World) :
    Calls Tryd.prog 61 #[.agg #[.int .i64 xn, .int .i64 xs], .agg #[.int .i64 yn, .int .i64 ys], .bool less] w fun e w' => e = .returned (.tuple #[d0, .int .i64 1]) ∧ Below w.heap.size w w' := by
  have F := rv3_three w xn xs yn ys
  have HB : Hid (Below w.heap.size w (rv3 w xn xs yn ys)) := rv3_below _ _ _ _ _
  go_enter Tryd.func61, Tryd.ntmps61
  go_wp2_with fail
  refine (eright_yes _ _ h0 _).mono ?_
  rintro e w1 ⟨rfl, hb⟩
  have F1 := F.below hb
  obtain ⟨_, ⟨y1, y2, y3, y4, y5⟩, _⟩ := id F1
  have HB1 : Hid (Below w.heap.size w w1) := HB.out.trans (hb.mono HB.out.size)
  clear F HB hb
  go_wp2_with fail
  refine (eright_no _ _ h _).mono ?_
  rintro e w2 ⟨rfl, hb⟩
  obtain ⟨_, _, ⟨z1, z2, z3, z4, z5⟩⟩ := F1.below hb
  have HB2 : Hid (Below w.heap.size w w2) := HB1.out.trans (hb.mono HB1.out.size)
  clear F1 HB1 hb y1 y2 y3 y4 y5
  go_wp2_with fail
  exact bodyPost_ret (v := .tuple #[d0, .int .i64 1]) (by simp [results, Tryd.results61, go_sem, z2, z3]) rfl ⟨rfl, (HB2.out.setCell (by simp; omega) _).setCell (by simp; omega) _⟩

set_option maxRecDepth 100000 in
set_option maxHeartbeats 4000000 in
theorem esum_ok_f (xn xs yn ys m A B C av bv sv : Int) (rx : rt xs = true) (ry : rt ys = true)
    (HM : Hid (∀ w : World, Calls Tryd.prog 85 #[.agg #[.int .i64 xn, .int .i64 xs], .agg #[.int .i64 yn, .int .i64 ys]] w fun e w' => e = .returned (.int .i64 m) ∧ Below w.heap.size w w'))
    (H1 : Hid (∀ w : World, Calls Tryd.prog 67 #[.agg #[.int .i64 xn, .int .i64 xs], .int .i64 m] w fun e w' => ∃ v, e = .returned v ∧ IsW w' v A ∧ Below w.heap.size w w'))
    (H2 : Hid (∀ w : World, Calls Tryd.prog 67 #[.agg #[.int .i64 yn, .int .i64 ys], .int .i64 m] w fun e w' => ∃ v, e = .returned v ∧ IsW w' v B ∧ Below w.heap.size w w'))
    (HA : Hid (∀ (v : Value) (w : World), IsW w v A → Calls Tryd.prog 73 #[v] w fun e w' => e = .returned (.tuple #[.int .i64 av, .int .i64 0]) ∧ Below w.heap.size w w'))
    (HB0 : Hid (∀ (v : Value) (w : World), IsW w v B → Calls Tryd.prog 73 #[v] w fun e w' => e = .returned (.tuple #[.int .i64 bv, .int .i64 0]) ∧ Below w.heap.size w w'))
    (HP : Hid (∀ (v u : Value) (w : World), IsW w v A → IsW w u B → Calls Tryd.prog 66 #[v, u] w fun e w' => ∃ v', e = .returned v' ∧ IsW w' v' C ∧ Below w.heap.size w w'))
    (HC : Hid (∀ (v : Value) (w : World), IsW w v C → Calls Tryd.prog 73 #[v] w fun e w' => e = .returned (.tuple #[.int .i64 sv, .int .i64 0]) ∧ Below w.heap.size w w')) (w : World) :
    Calls Tryd.prog 61 #[.agg #[.int .i64 xn, .int .i64 xs], .agg #[.int .i64 yn, .int .i64 ys], .bool false] w fun e w' => e = .returned (.tuple #[.agg #[.int .i64 sv, .int .i64 m], .int .i64 0]) ∧ Below w.heap.size w w' := by
  have F := rv3_three w xn xs yn ys
  have HB : Hid (Below w.heap.size w (rv3 w xn xs yn ys)) := rv3_below _ _ _ _ _
  go_enter Tryd.func61, Tryd.ntmps61
  go_wp2_with fail
  refine (eright_yes _ _ rx _).mono ?_
  rintro e w1 ⟨rfl, hb⟩
  have F1 := F.below hb
  obtain ⟨_, ⟨y1, y2, y3, y4, y5⟩, _⟩ := id F1
  have HB1 : Hid (Below w.heap.size w w1) := HB.out.trans (hb.mono HB.out.size)
  clear F HB hb
  go_wp2_with fail
  refine (eright_yes _ _ ry _).mono ?_
  rintro e w2 ⟨rfl, hb⟩
  clear y1 y2 y3 y4 y5
  have F2 := F1.below hb
  obtain ⟨⟨x1, x2, x3, x4, x5⟩, ⟨y1, y2, y3, y4, y5⟩, _⟩ := id F2
  have HB2 : Hid (Below w.heap.size w w2) := HB1.out.trans (hb.mono HB1.out.size)
  clear F1 HB1 hb
  go_wp2_with fail
  refine (HM.out _).mono ?_
  rintro e w3 ⟨rfl, hb⟩
  clear x1 x2 x3 x4 x5 y1 y2 y3 y4 y5
  have F3 := F2.below hb
  have HB3 : Hid (Below w.heap.size w w3) := HB2.out.trans (hb.mono HB2.out.size)
  clear F2 HB2 hb
  obtain ⟨⟨x1, x2, x3, x4, x5⟩, _, _⟩ := id F3
  go_wp2_with fail
  refine (H1.out _).mono ?_
  rintro e w4 ⟨v1, rfl, I1, hb⟩
  clear x1 x2 x3 x4 x5
  obtain ⟨g1, b1, rfl⟩ := I1.split
  have F4 := (F3.below hb).alloc (.cells #[.bool g1, .slice (some ⟨b1, 0, none⟩) 6 6] 84)
  have A4 := VBox.new w4 (.bool g1) (.slice (some ⟨b1, 0, none⟩) 6 6) 84
  have J1 : Hid (IsW (w4.alloc (.cells #[.bool g1, .slice (some ⟨b1, 0, none⟩) 6 6] 84)) (.agg #[.bool g1, .slice (some ⟨b1, 0, none⟩) 6 6]) A) := I1.alloc _
  have HB4 : Hid (Below w.heap.size w (w4.alloc (.cells #[.bool g1, .slice (some ⟨b1, 0, none⟩) 6 6] 84))) := (HB3.out.trans (hb.mono HB3.out.size)).alloc (HB3.out.trans (hb.mono HB3.out.size)).size _
  have Z4 : Hid (w.heap.size + 2 < w4.heap.size) := (F3.below hb).2.2.1
  clear F3 HB3 hb I1
  obtain ⟨_, ⟨y1, y2, y3, y4, y5⟩, _⟩ := id F4
  go_wp2_with fail
  refine (H2.out _).mono ?_
  rintro e w5 ⟨v2, rfl, I2, hb⟩
  clear y1 y2 y3 y4 y5
  obtain ⟨g2, b2, rfl⟩ := I2.split
  have F5 := (F4.below hb).alloc (.cells #[.bool g2, .slice (some ⟨b2, 0, none⟩) 6 6] 84)
  have A5 := (A4.below hb A4.1).alloc (.cells #[.bool g2, .slice (some ⟨b2, 0, none⟩) 6 6] 84)
  have B5 := VBox.new w5 (.bool g2) (.slice (some ⟨b2, 0, none⟩) 6 6) 84
  have K1 : Hid (IsW (w5.alloc (.cells #[.bool g2, .slice (some ⟨b2, 0, none⟩) 6 6] 84)) (.agg #[.bool g1, .slice (some ⟨b1, 0, none⟩) 6 6]) A) := (J1.out.below hb).alloc _
  have K2 : Hid (IsW (w5.alloc (.cells #[.bool g2, .slice (some ⟨b2, 0, none⟩) 6 6] 84)) (.agg #[.bool g2, .slice (some ⟨b2, 0, none⟩) 6 6]) B) := I2.alloc _
  have HB5 : Hid (Below w.heap.size w (w5.alloc (.cells #[.bool g2, .slice (some ⟨b2, 0, none⟩) 6 6] 84))) := (HB4.out.trans (hb.mono HB4.out.size)).alloc (HB4.out.trans (hb.mono HB4.out.size)).size _
  have Z5 : Hid (w4.heap.size < w5.heap.size) := (A4.below hb A4.1).1
  clear F4 HB4 hb I2 J1 A4
  obtain ⟨a1, a2, a3, a4, a5⟩ := id A5
  go_wp2_with fail
  refine (HA.out _ _ K1.out).mono ?_
  rintro e w6 ⟨rfl, hb⟩
  clear a1 a2 a3 a4 a5
  have F6 := F5.below hb
  have A6 := A5.below hb A5.1
  have B6 := B5.below hb B5.1
  have L1 : Hid (IsW w6 _ A) := K1.out.below hb
  have L2 : Hid (IsW w6 _ B) := K2.out.below hb
  have HB6 : Hid (Below w.heap.size w w6) := HB5.out.trans (hb.mono HB5.out.size)
  clear F5 A5 B5 K1 K2 HB5 hb
  obtain ⟨c1, c2, c3, c4, c5⟩ := id B6
  go_wp2_with fail
  refine (HB0.out _ _ L2.out).mono ?_
  rintro e w7 ⟨rfl, hb⟩
  clear c1 c2 c3 c4 c5
  have F7 := F6.below hb
  have A7 := A6.below hb A6.1
  have B7 := B6.below hb B6.1
  have M1 : Hid (IsW w7 _ A) := L1.out.below hb
  have M2 : Hid (IsW w7 _ B) := L2.out.below hb
  have HB7 : Hid (Below w.heap.size w w7) := HB6.out.trans (hb.mono HB6.out.size)
  clear F6 A6 B6 L1 L2 HB6 hb
  obtain ⟨a1, a2, a3, a4, a5⟩ := id A7
  obtain ⟨d1, d2, d3, d4, d5⟩ := id B7
  go_wp2_with fail
  refine (HP.out _ _ _ M1.out M2.out).mono ?_
  rintro e w9 ⟨v4, rfl, I4, hb⟩
  clear a1 a2 a3 a4 a5 d1 d2 d3 d4 d5
  have F9 := F7.below hb
  have HB9 : Hid (Below w.heap.size w w9) := HB7.out.trans (hb.mono HB7.out.size)
  clear F7 A7 B7 M1 M2 HB7 hb
  go_wp2_with fail
  refine (HC.out _ _ I4).mono ?_
  rintro e w10 ⟨rfl, hb⟩
  obtain ⟨_, _, ⟨z1, z2, z3, z4, z5⟩⟩ := F9.below hb
  have HB10 : Hid (Below w.heap.size w w10) := HB9.out.trans (hb.mono HB9.out.size)
  clear F9 HB9 hb I4
  go_wp2_with fail
  exact bodyPost_ret (v := .tuple #[.agg #[.int .i64 sv, .int .i64 m], .int .i64 0]) (by simp [results, Tryd.results61, go_sem, z2, z3]) rfl ⟨rfl, (HB10.out.setCell (by simp; omega) _).setCell (by simp; omega) _⟩

set_option maxRecDepth 100000 in
set_option maxHeartbeats 4000000 in
theorem esum_a_f (xn xs yn ys m A B C av bv sv eb eg : Int) (rx : rt xs = true) (ry : rt ys = true)
    (HM : Hid (∀ w : World, Calls Tryd.prog 85 #[.agg #[.int .i64 xn, .int .i64 xs], .agg #[.int .i64 yn, .int .i64 ys]] w fun e w' => e = .returned (.int .i64 m) ∧ Below w.heap.size w w'))
    (H1 : Hid (∀ w : World, Calls Tryd.prog 67 #[.agg #[.int .i64 xn, .int .i64 xs], .int .i64 m] w fun e w' => ∃ v, e = .returned v ∧ IsW w' v A ∧ Below w.heap.size w w'))
    (H2 : Hid (∀ w : World, Calls Tryd.prog 67 #[.agg #[.int .i64 yn, .int .i64 ys], .int .i64 m] w fun e w' => ∃ v, e = .returned v ∧ IsW w' v B ∧ Below w.heap.size w w'))
    (HA : Hid (∀ (v : Value) (w : World), IsW w v A → Calls Tryd.prog 73 #[v] w fun e w' => e = .returned (.tuple #[.int .i64 av, .int .i64 10]) ∧ Below w.heap.size w w'))
    (HB0 : Hid (∀ (v : Value) (w : World), IsW w v B → Calls Tryd.prog 73 #[v] w fun e w' => e = .returned (.tuple #[.int .i64 bv, .int .i64 eb]) ∧ Below w.heap.size w w'))
    (HP : Hid (∀ (v u : Value) (w : World), IsW w v A → IsW w u B → Calls Tryd.prog 66 #[v, u] w fun e w' => ∃ v', e = .returned v' ∧ IsW w' v' C ∧ Below w.heap.size w w'))
    (HC : Hid (∀ (v : Value) (w : World), IsW w v C → Calls Tryd.prog 73 #[v] w fun e w' => e = .returned (.tuple #[.int .i64 sv, .int .i64 eg]) ∧ Below w.heap.size w w')) (w : World) :
    Calls Tryd.prog 61 #[.agg #[.int .i64 xn, .int .i64 xs], .agg #[.int .i64 yn, .int .i64 ys], .bool false] w fun e w' => e = .returned (.tuple #[d0, .int .i64 10]) ∧ Below w.heap.size w w' := by
  have F := rv3_three w xn xs yn ys
  have HB : Hid (Below w.heap.size w (rv3 w xn xs yn ys)) := rv3_below _ _ _ _ _
  go_enter Tryd.func61, Tryd.ntmps61
  go_wp2_with fail
  refine (eright_yes _ _ rx _).mono ?_
  rintro e w1 ⟨rfl, hb⟩
  have F1 := F.below hb
  obtain ⟨_, ⟨y1, y2, y3, y4, y5⟩, _⟩ := id F1
  have HB1 : Hid (Below w.heap.size w w1) := HB.out.trans (hb.mono HB.out.size)
  clear F HB hb
  go_wp2_with fail
  refine (eright_yes _ _ ry _).mono ?_
  rintro e w2 ⟨rfl, hb⟩
  clear y1 y2 y3 y4 y5
  have F2 := F1.below hb
  obtain ⟨⟨x1, x2, x3, x4, x5⟩, ⟨y1, y2, y3, y4, y5⟩, _⟩ := id F2
  have HB2 : Hid (Below w.heap.size w w2) := HB1.out.trans (hb.mono HB1.out.size)
  clear F1 HB1 hb
  go_wp2_with fail
  refine (HM.out _).mono ?_
  rintro e w3 ⟨rfl, hb⟩
  clear x1 x2 x3 x4 x5 y1 y2 y3 y4 y5
  have F3 := F2.below hb
  have HB3 : Hid (Below w.heap.size w w3) := HB2.out.trans (hb.mono HB2.out.size)
  clear F2 HB2 hb
  obtain ⟨⟨x1, x2, x3, x4, x5⟩, _, _⟩ := id F3
  go_wp2_with fail
  refine (H1.out _).mono ?_
  rintro e w4 ⟨v1, rfl, I1, hb⟩
  clear x1 x2 x3 x4 x5
  obtain ⟨g1, b1, rfl⟩ := I1.split
  have F4 := (F3.below hb).alloc (.cells #[.bool g1, .slice (some ⟨b1, 0, none⟩) 6 6] 84)
  have A4 := VBox.new w4 (.bool g1) (.slice (some ⟨b1, 0, none⟩) 6 6) 84
  have J1 : Hid (IsW (w4.alloc (.cells #[.bool g1, .slice (some ⟨b1, 0, none⟩) 6 6] 84)) (.agg #[.bool g1, .slice (some ⟨b1, 0, none⟩) 6 6]) A) := I1.alloc _
  have HB4 : Hid (Below w.heap.size w (w4.alloc (.cells #[.bool g1, .slice (some ⟨b1, 0, none⟩) 6 6] 84))) := (HB3.out.trans (hb.mono HB3.out.size)).alloc (HB3.out.trans (hb.mono HB3.out.size)).size _
  have Z4 : Hid (w.heap.size + 2 < w4.heap.size) := (F3.below hb).2.2.1
  clear F3 HB3 hb I1
  obtain ⟨_, ⟨y1, y2, y3, y4, y5⟩, _⟩ := id F4
  go_wp2_with fail
  refine (H2.out _).mono ?_
  rintro e w5 ⟨v2, rfl, I2, hb⟩
  clear y1 y2 y3 y4 y5
  obtain ⟨g2, b2, rfl⟩ := I2.split
  have F5 := (F4.below hb).alloc (.cells #[.bool g2, .slice (some ⟨b2, 0, none⟩) 6 6] 84)
  have A5 := (A4.below hb A4.1).alloc (.cells #[.bool g2, .slice (some ⟨b2, 0, none⟩) 6 6] 84)
  have B5 := VBox.new w5 (.bool g2) (.slice (some ⟨b2, 0, none⟩) 6 6) 84
  have K1 : Hid (IsW (w5.alloc (.cells #[.bool g2, .slice (some ⟨b2, 0, none⟩) 6 6] 84)) (.agg #[.bool g1, .slice (some ⟨b1, 0, none⟩) 6 6]) A) := (J1.out.below hb).alloc _
  have K2 : Hid (IsW (w5.alloc (.cells #[.bool g2, .slice (some ⟨b2, 0, none⟩) 6 6] 84)) (.agg #[.bool g2, .slice (some ⟨b2, 0, none⟩) 6 6]) B) := I2.alloc _
  have HB5 : Hid (Below w.heap.size w (w5.alloc (.cells #[.bool g2, .slice (some ⟨b2, 0, none⟩) 6 6] 84))) := (HB4.out.trans (hb.mono HB4.out.size)).alloc (HB4.out.trans (hb.mono HB4.out.size)).size _
  have Z5 : Hid (w4.heap.size < w5.heap.size) := (A4.below hb A4.1).1
  clear F4 HB4 hb I2 J1 A4
  obtain ⟨a1, a2, a3, a4, a5⟩ := id A5
  go_wp2_with fail
  refine (HA.out _ _ K1.out).mono ?_
  rintro e w6 ⟨rfl, hb⟩
  clear a1 a2 a3 a4 a5
  have F6 := F5.below hb
  have A6 := A5.below hb A5.1
  have B6 := B5.below hb B5.1
  have L1 : Hid (IsW w6 _ A) := K1.out.below hb
  have L2 : Hid (IsW w6 _ B) := K2.out.below hb
  have HB6 : Hid (Below w.heap.size w w6) := HB5.out.trans (hb.mono HB5.out.size)
  clear F5 A5 B5 K1 K2 HB5 hb
  obtain ⟨c1, c2, c3, c4, c5⟩ := id B6
  go_wp2_with fail
  refine (HB0.out _ _ L2.out).mono ?_
  rintro e w7 ⟨rfl, hb⟩
  clear c1 c2 c3 c4 c5
  have F7 := F6.below hb
  have A7 := A6.below hb A6.1
  have B7 := B6.below hb B6.1
  have M1 : Hid (IsW w7 _ A) := L1.out.below hb
  have M2 : Hid (IsW w7 _ B) := L2.out.below hb
  have HB7 : Hid (Below w.heap.size w w7) := HB6.out.trans (hb.mono HB6.out.size)
  clear F6 A6 B6 L1 L2 HB6 hb
  obtain ⟨a1, a2, a3, a4, a5⟩ := id A7
  obtain ⟨d1, d2, d3, d4, d5⟩ := id B7
  go_wp2_with fail
  refine (HP.out _ _ _ M1.out M2.out).mono ?_
  rintro e w9 ⟨v4, rfl, I4, hb⟩
  clear a1 a2 a3 a4 a5 d1 d2 d3 d4 d5
  have F9 := F7.below hb
  have HB9 : Hid (Below w.heap.size w w9) := HB7.out.trans (hb.mono HB7.out.size)
  clear F7 A7 B7 M1 M2 HB7 hb
  go_wp2_with fail
  refine (HC.out _ _ I4).mono ?_
  rintro e w10 ⟨rfl, hb⟩
  obtain ⟨_, _, ⟨z1, z2, z3, z4, z5⟩⟩ := F9.below hb
  have HB10 : Hid (Below w.heap.size w w10) := HB9.out.trans (hb.mono HB9.out.size)
  clear F9 HB9 hb I4
  go_wp2_with fail
  exact bodyPost_ret (v := .tuple #[d0, .int .i64 10]) (by simp [results, Tryd.results61, go_sem, z2, z3]) rfl ⟨rfl, (HB10.out.setCell (by simp; omega) _).setCell (by simp; omega) _⟩

set_option maxRecDepth 100000 in
set_option maxHeartbeats 4000000 in
theorem esum_b_f (xn xs yn ys m A B C av bv sv eg : Int) (rx : rt xs = true) (ry : rt ys = true)
    (HM : Hid (∀ w : World, Calls Tryd.prog 85 #[.agg #[.int .i64 xn, .int .i64 xs], .agg #[.int .i64 yn, .int .i64 ys]] w fun e w' => e = .returned (.int .i64 m) ∧ Below w.heap.size w w'))
    (H1 : Hid (∀ w : World, Calls Tryd.prog 67 #[.agg #[.int .i64 xn, .int .i64 xs], .int .i64 m] w fun e w' => ∃ v, e = .returned v ∧ IsW w' v A ∧ Below w.heap.size w w'))
    (H2 : Hid (∀ w : World, Calls Tryd.prog 67 #[.agg #[.int .i64 yn, .int .i64 ys], .int .i64 m] w fun e w' => ∃ v, e = .returned v ∧ IsW w' v B ∧ Below w.heap.size w w'))
    (HA : Hid (∀ (v : Value) (w : World), IsW w v A → Calls Tryd.prog 73 #[v] w fun e w' => e = .returned (.tuple #[.int .i64 av, .int .i64 0]) ∧ Below w.heap.size w w'))
    (HB0 : Hid (∀ (v : Value) (w : World), IsW w v B → Calls Tryd.prog 73 #[v] w fun e w' => e = .returned (.tuple #[.int .i64 bv, .int .i64 10]) ∧ Below w.heap.size w w'))
    (HP : Hid (∀ (v u : Value) (w : World), IsW w v A → IsW w u B → Calls Tryd.prog 66 #[v, u] w fun e w' => ∃ v', e = .returned v' ∧ IsW w' v' C ∧ Below w.heap.size w w'))
    (HC : Hid (∀ (v : Value) (w : World), IsW w v C → Calls Tryd.prog 73 #[v] w fun e w' => e = .returned (.tuple #[.int .i64 sv, .int .i64 eg]) ∧ Below w.heap.size w w')) (w : World) :
    Calls Tryd.prog 61 #[.agg #[.int .i64 xn, .int .i64 xs], .agg #[.int .i64 yn, .int .i64 ys], .bool false] w fun e w' => e = .returned (.tuple #[d0, .int .i64 10]) ∧ Below w.heap.size w w' := by
  have F := rv3_three w xn xs yn ys
  have HB : Hid (Below w.heap.size w (rv3 w xn xs yn ys)) := rv3_below _ _ _ _ _
  go_enter Tryd.func61, Tryd.ntmps61
  go_wp2_with fail
  refine (eright_yes _ _ rx _).mono ?_
  rintro e w1 ⟨rfl, hb⟩
  have F1 := F.below hb
  obtain ⟨_, ⟨y1, y2, y3, y4, y5⟩, _⟩ := id F1
  have HB1 : Hid (Below w.heap.size w w1) := HB.out.trans (hb.mono HB.out.size)
  clear F HB hb
  go_wp2_with fail
  refine (eright_yes _ _ ry _).mono ?_
  rintro e w2 ⟨rfl, hb⟩
  clear y1 y2 y3 y4 y5
  have F2 := F1.below hb
  obtain ⟨⟨x1, x2, x3, x4, x5⟩, ⟨y1, y2, y3, y4, y5⟩, _⟩ := id F2
  have HB2 : Hid (Below w.heap.size w w2) := HB1.out.trans (hb.mono HB1.out.size)
  clear F1 HB1 hb
  go_wp2_with fail
  refine (HM.out _).mono ?_
  rintro e w3 ⟨rfl, hb⟩
  clear x1 x2 x3 x4 x5 y1 y2 y3 y4 y5
  have F3 := F2.below hb
  have HB3 : Hid (Below w.heap.size w w3) := HB2.out.trans (hb.mono HB2.out.size)
  clear F2 HB2 hb
  obtain ⟨⟨x1, x2, x3, x4, x5⟩, _, _⟩ := id F3
  go_wp2_with fail
  refine (H1.out _).mono ?_
  rintro e w4 ⟨v1, rfl, I1, hb⟩
  clear x1 x2 x3 x4 x5
  obtain ⟨g1, b1, rfl⟩ := I1.split
  have F4 := (F3.below hb).alloc (.cells #[.bool g1, .slice (some ⟨b1, 0, none⟩) 6 6] 84)
  have A4 := VBox.new w4 (.bool g1) (.slice (some ⟨b1, 0, none⟩) 6 6) 84
  have J1 : Hid (IsW (w4.alloc (.cells #[.bool g1, .slice (some ⟨b1, 0, none⟩) 6 6] 84)) (.agg #[.bool g1, .slice (some ⟨b1, 0, none⟩) 6 6]) A) := I1.alloc _
  have HB4 : Hid (Below w.heap.size w (w4.alloc (.cells #[.bool g1, .slice (some ⟨b1, 0, none⟩) 6 6] 84))) := (HB3.out.trans (hb.mono HB3.out.size)).alloc (HB3.out.trans (hb.mono HB3.out.size)).size _
  have Z4 : Hid (w.heap.size + 2 < w4.heap.size) := (F3.below hb).2.2.1
  clear F3 HB3 hb I1
  obtain ⟨_, ⟨y1, y2, y3, y4, y5⟩, _⟩ := id F4
  go_wp2_with fail
  refine (H2.out _).mono ?_
  rintro e w5 ⟨v2, rfl, I2, hb⟩
  clear y1 y2 y3 y4 y5
  obtain ⟨g2, b2, rfl⟩ := I2.split
  have F5 := (F4.below hb).alloc (.cells #[.bool g2, .slice (some ⟨b2, 0, none⟩) 6 6] 84)
  have A5 := (A4.below hb A4.1).alloc (.cells #[.bool g2, .slice (some ⟨b2, 0, none⟩) 6 6] 84)
  have B5 := VBox.new w5 (.bool g2) (.slice (some ⟨b2, 0, none⟩) 6 6) 84
  have K1 : Hid (IsW (w5.alloc (.cells #[.bool g2, .slice (some ⟨b2, 0, none⟩) 6 6] 84)) (.agg #[.bool g1, .slice (some ⟨b1, 0, none⟩) 6 6]) A) := (J1.out.below hb).alloc _
  have K2 : Hid (IsW (w5.alloc (.cells #[.bool g2, .slice (some ⟨b2, 0, none⟩) 6 6] 84)) (.agg #[.bool g2, .slice (some ⟨b2, 0, none⟩) 6 6]) B) := I2.alloc _
  have HB5 : Hid (Below w.heap.size w (w5.alloc (.cells #[.bool g2, .slice (some ⟨b2, 0, none⟩) 6 6] 84))) := (HB4.out.trans (hb.mono HB4.out.size)).alloc (HB4.out.trans (hb.mono HB4.out.size)).size _
  have Z5 : Hid (w4.heap.size < w5.heap.size) := (A4.below hb A4.1).1
  clear F4 HB4 hb I2 J1 A4
  obtain ⟨a1, a2, a3, a4, a5⟩ := id A5
  go_wp2_with fail
  refine (HA.out _ _ K1.out).mono ?_
  rintro e w6 ⟨rfl, hb⟩
  clear a1 a2 a3 a4 a5
  have F6 := F5.below hb
  have A6 := A5.below hb A5.1
  have B6 := B5.below hb B5.1
  have L1 : Hid (IsW w6 _ A) := K1.out.below hb
  have L2 : Hid (IsW w6 _ B) := K2.out.below hb
  have HB6 : Hid (Below w.heap.size w w6) := HB5.out.trans (hb.mono HB5.out.size)
  clear F5 A5 B5 K1 K2 HB5 hb
  obtain ⟨c1, c2, c3, c4, c5⟩ := id B6
  go_wp2_with fail
  refine (HB0.out _ _ L2.out).mono ?_
  rintro e w7 ⟨rfl, hb⟩
  clear c1 c2 c3 c4 c5
  have F7 := F6.below hb
  have A7 := A6.below hb A6.1
  have B7 := B6.below hb B6.1
  have M1 : Hid (IsW w7 _ A) := L1.out.below hb
  have M2 : Hid (IsW w7 _ B) := L2.out.below hb
  have HB7 : Hid (Below w.heap.size w w7) := HB6.out.trans (hb.mono HB6.out.size)
  clear F6 A6 B6 L1 L2 HB6 hb
  obtain ⟨a1, a2, a3, a4, a5⟩ := id A7
  obtain ⟨d1, d2, d3, d4, d5⟩ := id B7
  go_wp2_with fail
  refine (HP.out _ _ _ M1.out M2.out).mono ?_
  rintro e w9 ⟨v4, rfl, I4, hb⟩
  clear a1 a2 a3 a4 a5 d1 d2 d3 d4 d5
  have F9 := F7.below hb
  have HB9 : Hid (Below w.heap.size w w9) := HB7.out.trans (hb.mono HB7.out.size)
  clear F7 A7 B7 M1 M2 HB7 hb
  go_wp2_with fail
  refine (HC.out _ _ I4).mono ?_
  rintro e w10 ⟨rfl, hb⟩
  obtain ⟨_, _, ⟨z1, z2, z3, z4, z5⟩⟩ := F9.below hb
  have HB10 : Hid (Below w.heap.size w w10) := HB9.out.trans (hb.mono HB9.out.size)
  clear F9 HB9 hb I4
  go_wp2_with fail
  exact bodyPost_ret (v := .tuple #[d0, .int .i64 10]) (by simp [results, Tryd.results61, go_sem, z2, z3]) rfl ⟨rfl, (HB10.out.setCell (by simp; omega) _).setCell (by simp; omega) _⟩

set_option maxRecDepth 100000 in
set_option maxHeartbeats 4000000 in
theorem esum_c_f (xn xs yn ys m A B C av bv sv : Int) (rx : rt xs = true) (ry : rt ys = true)
    (HM : Hid (∀ w : World, Calls Tryd.prog 85 #[.agg #[.int .i64 xn, .int .i64 xs], .agg #[.int .i64 yn, .int .i64 ys]] w fun e w' => e = .returned (.int .i64 m) ∧ Below w.heap.size w w'))
    (H1 : Hid (∀ w : World, Calls Tryd.prog 67 #[.agg #[.int .i64 xn, .int .i64 xs], .int .i64 m] w fun e w' => ∃ v, e = .returned v ∧ IsW w' v A ∧ Below w.heap.size w w'))
    (H2 : Hid (∀ w : World, Calls Tryd.prog 67 #[.agg #[.int .i64 yn, .int .i64 ys], .int .i64 m] w fun e w' => ∃ v, e = .returned v ∧ IsW w' v B ∧ Below w.heap.size w w'))
    (HA : Hid (∀ (v : Value) (w : World), IsW w v A → Calls Tryd.prog 73 #[v] w fun e w' => e = .returned (.tuple #[.int .i64 av, .int .i64 0]) ∧ Below w.heap.size w w'))
    (HB0 : Hid (∀ (v : Value) (w : World), IsW w v B → Calls Tryd.prog 73 #[v] w fun e w' => e = .returned (.tuple #[.int .i64 bv, .int .i64 0]) ∧ Below w.heap.size w w'))
    (HP : Hid (∀ (v u : Value) (w : World), IsW w v A → IsW w u B → Calls Tryd.prog 66 #[v, u] w fun e w' => ∃ v', e = .returned v' ∧ IsW w' v' C ∧ Below w.heap.size w w'))
    (HC : Hid (∀ (v : Value) (w : World), IsW w v C → Calls Tryd.prog 73 #[v] w fun e w' => e = .returned (.tuple #[.int .i64 sv, .int .i64 10]) ∧ Below w.heap.size w w')) (w : World) :
    Calls Tryd.prog 61 #[.agg #[.int .i64 xn, .int .i64 xs], .agg #[.int .i64 yn, .int .i64 ys], .bool false] w fun e w' => e = .returned (.tuple #[d0, .int .i64 10]) ∧ Below w.heap.size w w' := by
  have F := rv3_three w xn xs yn ys
  have HB : Hid (Below w.heap.size w (rv3 w xn xs yn ys)) := rv3_below _ _ _ _ _
  go_enter Tryd.func61, Tryd.ntmps61
  go_wp2_with fail
  refine (eright_yes _ _ rx _).mono ?_
  rintro e w1 ⟨rfl, hb⟩
  have F1 := F.below hb
  obtain ⟨_, ⟨y1, y2, y3, y4, y5⟩, _⟩ := id F1
  have HB1 : Hid (Below w.heap.size w w1) := HB.out.trans (hb.mono HB.out.size)
  clear F HB hb
  go_wp2_with fail
  refine (eright_yes _ _ ry _).mono ?_
  rintro e w2 ⟨rfl, hb⟩
  clear y1 y2 y3 y4 y5
  have F2 := F1.below hb
  obtain ⟨⟨x1, x2, x3, x4, x5⟩, ⟨y1, y2, y3, y4, y5⟩, _⟩ := id F2
  have HB2 : Hid (Below w.heap.size w w2) := HB1.out.trans (hb.mono HB1.out.size)
  clear F1 HB1 hb
  go_wp2_with fail
  refine (HM.out _).mono ?_
  rintro e w3 ⟨rfl, hb⟩
  clear x1 x2 x3 x4 x5 y1 y2 y3 y4 y5
  have F3 := F2.below hb
  have HB3 : Hid (Below w.heap.size w w3) := HB2.out.trans (hb.mono HB2.out.size)
  clear F2 HB2 hb
  obtain ⟨⟨x1, x2, x3, x4, x5⟩, _, _⟩ := id F3
  go_wp2_with fail
  refine (H1.out _).mono ?_
  rintro e w4 ⟨v1, rfl, I1, hb⟩
  clear x1 x2 x3 x4 x5
  obtain ⟨g1, b1, rfl⟩ := I1.split
  have F4 := (F3.below hb).alloc (.cells #[.bool g1, .slice (some ⟨b1, 0, none⟩) 6 6] 84)
  have A4 := VBox.new w4 (.bool g1) (.slice (some ⟨b1, 0, none⟩) 6 6) 84
  have J1 : Hid (IsW (w4.alloc (.cells #[.bool g1, .slice (some ⟨b1, 0, none⟩) 6 6] 84)) (.agg #[.bool g1, .slice (some ⟨b1, 0, none⟩) 6 6]) A) := I1.alloc _
  have HB4 : Hid (Below w.heap.size w (w4.alloc (.cells #[.bool g1, .slice (some ⟨b1, 0, none⟩) 6 6] 84))) := (HB3.out.trans (hb.mono HB3.out.size)).alloc (HB3.out.trans (hb.mono HB3.out.size)).size _
  have Z4 : Hid (w.heap.size + 2 < w4.heap.size) := (F3.below hb).2.2.1
  clear F3 HB3 hb I1
  obtain ⟨_, ⟨y1, y2, y3, y4, y5⟩, _⟩ := id F4
  go_wp2_with fail
  refine (H2.out _).mono ?_
  rintro e w5 ⟨v2, rfl, I2, hb⟩
  clear y1 y2 y3 y4 y5
  obtain ⟨g2, b2, rfl⟩ := I2.split
  have F5 := (F4.below hb).alloc (.cells #[.bool g2, .slice (some ⟨b2, 0, none⟩) 6 6] 84)
  have A5 := (A4.below hb A4.1).alloc (.cells #[.bool g2, .slice (some ⟨b2, 0, none⟩) 6 6] 84)
  have B5 := VBox.new w5 (.bool g2) (.slice (some ⟨b2, 0, none⟩) 6 6) 84
  have K1 : Hid (IsW (w5.alloc (.cells #[.bool g2, .slice (some ⟨b2, 0, none⟩) 6 6] 84)) (.agg #[.bool g1, .slice (some ⟨b1, 0, none⟩) 6 6]) A) := (J1.out.below hb).alloc _
  have K2 : Hid (IsW (w5.alloc (.cells #[.bool g2, .slice (some ⟨b2, 0, none⟩) 6 6] 84)) (.agg #[.bool g2, .slice (some ⟨b2, 0, none⟩) 6 6]) B) := I2.alloc _
  have HB5 : Hid (Below w.heap.size w (w5.alloc (.cells #[.bool g2, .slice (some ⟨b2, 0, none⟩) 6 6] 84))) := (HB4.out.trans (hb.mono HB4.out.size)).alloc (HB4.out.trans (hb.mono HB4.out.size)).size _
  have Z5 : Hid (w4.heap.size < w5.heap.size) := (A4.below hb A4.1).1
  clear F4 HB4 hb I2 J1 A4
  obtain ⟨a1, a2, a3, a4, a5⟩ := id A5
  go_wp2_with fail
  refine (HA.out _ _ K1.out).mono ?_
  rintro e w6 ⟨rfl, hb⟩
  clear a1 a2 a3 a4 a5
  have F6 := F5.below hb
  have A6 := A5.below hb A5.1
  have B6 := B5.below hb B5.1
  have L1 : Hid (IsW w6 _ A) := K1.out.below hb
  have L2 : Hid (IsW w6 _ B) := K2.out.below hb
  have HB6 : Hid (Below w.heap.size w w6) := HB5.out.trans (hb.mono HB5.out.size)
  clear F5 A5 B5 K1 K2 HB5 hb
  obtain ⟨c1, c2, c3, c4, c5⟩ := id B6
  go_wp2_with fail
  refine (HB0.out _ _ L2.out).mono ?_
  rintro e w7 ⟨rfl, hb⟩
  clear c1 c2 c3 c4 c5
  have F7 := F6.below hb
  have A7 := A6.below hb A6.1
  have B7 := B6.below hb B6.1
  have M1 : Hid (IsW w7 _ A) := L1.out.below hb
  have M2 : Hid (IsW w7 _ B) := L2.out.below hb
  have HB7 : Hid (Below w.heap.size w w7) := HB6.out.trans (hb.mono HB6.out.size)
  clear F6 A6 B6 L1 L2 HB6 hb
  obtain ⟨a1, a2, a3, a4, a5⟩ := id A7
  obtain ⟨d1, d2, d3, d4, d5⟩ := id B7
  go_wp2_with fail
  refine (HP.out _ _ _ M1.out M2.out).mono ?_
  rintro e w9 ⟨v4, rfl, I4, hb⟩
  clear a1 a2 a3 a4 a5 d1 d2 d3 d4 d5
  have F9 := F7.below hb
  have HB9 : Hid (Below w.heap.size w w9) := HB7.out.trans (hb.mono HB7.out.size)
  clear F7 A7 B7 M1 M2 HB7 hb
  go_wp2_with fail
  refine (HC.out _ _ I4).mono ?_
  rintro e w10 ⟨rfl, hb⟩
  obtain ⟨_, _, ⟨z1, z2, z3, z4, z5⟩⟩ := F9.below hb
  have HB10 : Hid (Below w.heap.size w w10) := HB9.out.trans (hb.mono HB9.out.size)
  clear F9 HB9 hb I4
  go_wp2_with fail
  exact bodyPost_ret (v := .tuple #[d0, .int .i64 10]) (by simp [results, Tryd.results61, go_sem, z2, z3]) rfl ⟨rfl, (HB10.out.setCell (by simp; omega) _).setCell (by simp; omega) _⟩

set_option maxRecDepth 100000 in
set_option maxHeartbeats 4000000 in
theorem esum_ok_t (xn xs yn ys m A B C av bv sv : Int) (rx : rt xs = true) (ry : rt ys = true)
    (HM : Hid (∀ w : World, Calls Tryd.prog 85 #[.agg #[.int .i64 xn, .int .i64 xs], .agg #[.int .i64 yn, .int .i64 ys]] w fun e w' => e = .returned (.int .i64 m) ∧ Below w.heap.size w w'))
    (H1 : Hid (∀ w : World, Calls Tryd.prog 67 #[.agg #[.int .i64 xn, .int .i64 xs], .int .i64 m] w fun e w' => ∃ v, e = .returned v ∧ IsW w' v A ∧ Below w.heap.size w w'))
    (H2 : Hid (∀ w : World, Calls Tryd.prog 67 #[.agg #[.int .i64 yn, .int .i64 ys], .int .i64 m] w fun e w' => ∃ v, e = .returned v ∧ IsW w' v B ∧ Below w.heap.size w w'))
    (HA : Hid (∀ (v : Value) (w : World), IsW w v A → Calls Tryd.prog 73 #[v] w fun e w' => e = .returned (.tuple #[.int .i64 av, .int .i64 0]) ∧ Below w.heap.size w w'))
    (HB0 : Hid (∀ (v : Value) (w : World), IsW w v B → Calls Tryd.prog 73 #[v] w fun e w' => e = .returned (.tuple #[.int .i64 bv, .int .i64 0]) ∧ Below w.heap.size w w'))
    (HN : Hid (∀ (v : Value) (w : World), IsW w v B → Calls Tryd.prog 68 #[v] w fun e w' => ∃ v', e = .returned v' ∧ IsW w' v' (-B) ∧ Below w.heap.size w w'))
    (HP : Hid (∀ (v u : Value) (w : World), IsW w v A → IsW w u (-B) → Calls Tryd.prog 66 #[v, u] w fun e w' => ∃ v', e = .returned v' ∧ IsW w' v' C ∧ Below w.heap.size w w'))
    (HC : Hid (∀ (v : Value) (w : World), IsW w v C → Calls Tryd.prog 73 #[v] w fun e w' => e = .returned (.tuple #[.int .i64 sv, .int .i64 0]) ∧ Below w.heap.size w w')) (w : World) :
    Calls Tryd.prog 61 #[.agg #[.int .i64 xn, .int .i64 xs], .agg #[.int .i64 yn, .int .i64 ys], .bool true] w fun e w' => e = .returned (.tuple #[.agg #[.int .i64 sv, .int .i64 m], .int .i64 0]) ∧ Below w.heap.size w w' := by
  have F := rv3_three w xn xs yn ys
  have HB : Hid (Below w.heap.size w (rv3 w xn xs yn ys)) := rv3_below _ _ _ _ _
  go_enter Tryd.func61, Tryd.ntmps61
  go_wp2_with fail
  refine (eright_yes _ _ rx _).mono ?_
  rintro e w1 ⟨rfl, hb⟩
  have F1 := F.below hb
  obtain ⟨_, ⟨y1, y2, y3, y4, y5⟩, _⟩ := id F1
  have HB1 : Hid (Below w.heap.size w w1) := HB.out.trans (hb.mono HB.out.size)
  clear F HB hb
  go_wp2_with fail
  refine (eright_yes _ _ ry _).mono ?_
  rintro e w2 ⟨rfl, hb⟩
  clear y1 y2 y3 y4 y5
  have F2 := F1.below hb
  obtain ⟨⟨x1, x2, x3, x4, x5⟩, ⟨y1, y2, y3, y4, y5⟩, _⟩ := id F2
  have HB2 : Hid (Below w.heap.size w w2) := HB1.out.trans (hb.mono HB1.out.size)
  clear F1 HB1 hb
  go_wp2_with fail
  refine (HM.out _).mono ?_
  rintro e w3 ⟨rfl, hb⟩
  clear x1 x2 x3 x4 x5 y1 y2 y3 y4 y5
  have F3 := F2.below hb
  have HB3 : Hid (Below w.heap.size w w3) := HB2.out.trans (hb.mono HB2.out.size)
  clear F2 HB2 hb
  obtain ⟨⟨x1, x2, x3, x4, x5⟩, _, _⟩ := id F3
  go_wp2_with fail
  refine (H1.out _).mono ?_
  rintro e w4 ⟨v1, rfl, I1, hb⟩
  clear x1 x2 x3 x4 x5
  obtain ⟨g1, b1, rfl⟩ := I1.split
  have F4 := (F3.below hb).alloc (.cells #[.bool g1, .slice (some ⟨b1, 0, none⟩) 6 6] 84)
  have A4 := VBox.new w4 (.bool g1) (.slice (some ⟨b1, 0, none⟩) 6 6) 84
  have J1 : Hid (IsW (w4.alloc (.cells #[.bool g1, .slice (some ⟨b1, 0, none⟩) 6 6] 84)) (.agg #[.bool g1, .slice (some ⟨b1, 0, none⟩) 6 6]) A) := I1.alloc _
  have HB4 : Hid (Below w.heap.size w (w4.alloc (.cells #[.bool g1, .slice (some ⟨b1, 0, none⟩) 6 6] 84))) := (HB3.out.trans (hb.mono HB3.out.size)).alloc (HB3.out.trans (hb.mono HB3.out.size)).size _
  have Z4 : Hid (w.heap.size + 2 < w4.heap.size) := (F3.below hb).2.2.1
  clear F3 HB3 hb I1
  obtain ⟨_, ⟨y1, y2, y3, y4, y5⟩, _⟩ := id F4
  go_wp2_with fail
  refine (H2.out _).mono ?_
  rintro e w5 ⟨v2, rfl, I2, hb⟩
  clear y1 y2 y3 y4 y5
  obtain ⟨g2, b2, rfl⟩ := I2.split
  have F5 := (F4.below hb).alloc (.cells #[.bool g2, .slice (some ⟨b2, 0, none⟩) 6 6] 84)
  have A5 := (A4.below hb A4.1).alloc (.cells #[.bool g2, .slice (some ⟨b2, 0, none⟩) 6 6] 84)
  have B5 := VBox.new w5 (.bool g2) (.slice (some ⟨b2, 0, none⟩) 6 6) 84
  have K1 : Hid (IsW (w5.alloc (.cells #[.bool g2, .slice (some ⟨b2, 0, none⟩) 6 6] 84)) (.agg #[.bool g1, .slice (some ⟨b1, 0, none⟩) 6 6]) A) := (J1.out.below hb).alloc _
  have K2 : Hid (IsW (w5.alloc (.cells #[.bool g2, .slice (some ⟨b2, 0, none⟩) 6 6] 84)) (.agg #[.bool g2, .slice (some ⟨b2, 0, none⟩) 6 6]) B) := I2.alloc _
  have HB5 : Hid (Below w.heap.size w (w5.alloc (.cells #[.bool g2, .slice (some ⟨b2, 0, none⟩) 6 6] 84))) := (HB4.out.trans (hb.mono HB4.out.size)).alloc (HB4.out.trans (hb.mono HB4.out.size)).size _
  have Z5 : Hid (w4.heap.size < w5.heap.size) := (A4.below hb A4.1).1
  clear F4 HB4 hb I2 J1 A4
  obtain ⟨a1, a2, a3, a4, a5⟩ := id A5
  go_wp2_with fail
  refine (HA.out _ _ K1.out).mono ?_
  rintro e w6 ⟨rfl, hb⟩
  clear a1 a2 a3 a4 a5
  have F6 := F5.below hb
  have A6 := A5.below hb A5.1
  have B6 := B5.below hb B5.1
  have L1 : Hid (IsW w6 _ A) := K1.out.below hb
  have L2 : Hid (IsW w6 _ B) := K2.out.below hb
  have HB6 : Hid (Below w.heap.size w w6) := HB5.out.trans (hb.mono HB5.out.size)
  clear F5 A5 B5 K1 K2 HB5 hb
  obtain ⟨c1, c2, c3, c4, c5⟩ := id B6
  go_wp2_with fail
  refine (HB0.out _ _ L2.out).mono ?_
  rintro e w7 ⟨rfl, hb⟩
  clear c1 c2 c3 c4 c5
  have F7 := F6.below hb
  have A7 := A6.below hb A6.1
  have B7 := B6.below hb B6.1
  have M1 : Hid (IsW w7 _ A) := L1.out.below hb
  have M2 : Hid (IsW w7 _ B) := L2.out.below hb
  have HB7 : Hid (Below w.heap.size w w7) := HB6.out.trans (hb.mono HB6.out.size)
  clear F6 A6 B6 L1 L2 HB6 hb
  obtain ⟨c1, c2, c3, c4, c5⟩ := id B7
  go_wp2_with fail
  refine (HN.out _ _ M2.out).mono ?_
  rintro e w8 ⟨v3, rfl, I3, hb⟩
  clear c1 c2 c3 c4 c5
  obtain ⟨g3, b3, rfl⟩ := I3.split
  have z4 := Z4.out
  have z5 := Z5.out
  have C8 := B7.below hb B7.1
  have F8 := (F7.below hb).other (c := w5.heap.size) (by omega) (by omega) (by omega) (.bool g3) (.slice (some ⟨b3, 0, none⟩) 6 6)
  have A8 := (A7.below hb A7.1).other (c := w5.heap.size) (by omega) (.bool g3) (.slice (some ⟨b3, 0, none⟩) 6 6)
  have B8 := C8.set (.bool g3) (.slice (some ⟨b3, 0, none⟩) 6 6)
  have N1 : Hid (IsW _ _ A) := (M1.out.below hb).other C8.2.1 (.bool g3) (.slice (some ⟨b3, 0, none⟩) 6 6)
  have N2 : Hid (IsW _ _ (-B)) := I3.other C8.2.1 (.bool g3) (.slice (some ⟨b3, 0, none⟩) 6 6)
  have HB8 : Hid (Below w.heap.size w ((w8.setCell ⟨w5.heap.size, 0, none⟩ (.bool g3)).setCell ⟨w5.heap.size, 1, none⟩ (.slice (some ⟨b3, 0, none⟩) 6 6))) := ((HB7.out.trans (hb.mono HB7.out.size)).setCell (by show w.heap.size ≤ w5.heap.size; omega) (.bool g3)).setCell (by show w.heap.size ≤ w5.heap.size; omega) (.slice (some ⟨b3, 0, none⟩) 6 6)
  obtain ⟨c1, c2, c3, c4, c5⟩ := id C8
  clear F7 A7 B7 M1 M2 HB7 hb I3 z4 z5 C8
  obtain ⟨a1, a2, a3, a4, a5⟩ := id A8
  obtain ⟨d1, d2, d3, d4, d5⟩ := id B8
  go_wp2_with fail
  refine (HP.out _ _ _ N1.out N2.out).mono ?_
  rintro e w9 ⟨v4, rfl, I4, hb⟩
  clear c1 c2 c3 c4 c5 a1 a2 a3 a4 a5 d1 d2 d3 d4 d5
  have F9 := F8.below hb
  have HB9 : Hid (Below w.heap.size w w9) := HB8.out.trans (hb.mono HB8.out.size)
  clear F8 A8 B8 N1 N2 HB8 hb
  go_wp2_with fail
  refine (HC.out _ _ I4).mono ?_
  rintro e w10 ⟨rfl, hb⟩
  obtain ⟨_, _, ⟨z1, z2, z3, z4, z5⟩⟩ := F9.below hb
  have HB10 : Hid (Below w.heap.size w w10) := HB9.out.trans (hb.mono HB9.out.size)
  clear F9 HB9 hb I4
  go_wp2_with fail
  exact bodyPost_ret (v := .tuple #[.agg #[.int .i64 sv, .int .i64 m], .int .i64 0]) (by simp [results, Tryd.results61, go_sem, z2, z3]) rfl ⟨rfl, (HB10.out.setCell (by simp; omega) _).setCell (by simp; omega) _⟩

set_option maxRecDepth 100000 in
set_option maxHeartbeats 4000000 in
theorem esum_a_t (xn xs yn ys m A B C av bv sv eb eg : Int) (rx : rt xs = true) (ry : rt ys = true)
    (HM : Hid (∀ w : World, Calls Tryd.prog 85 #[.agg #[.int .i64 xn, .int .i64 xs], .agg #[.int .i64 yn, .int .i64 ys]] w fun e w' => e = .returned (.int .i64 m) ∧ Below w.heap.size w w'))
    (H1 : Hid (∀ w : World, Calls Tryd.prog 67 #[.agg #[.int .i64 xn, .int .i64 xs], .int .i64 m] w fun e w' => ∃ v, e = .returned v ∧ IsW w' v A ∧ Below w.heap.size w w'))
    (H2 : Hid (∀ w : World, Calls Tryd.prog 67 #[.agg #[.int .i64 yn, .int .i64 ys], .int .i64 m] w fun e w' => ∃ v, e = .returned v ∧ IsW w' v B ∧ Below w.heap.size w w'))
    (HA : Hid (∀ (v : Value) (w : World), IsW w v A → Calls Tryd.prog 73 #[v] w fun e w' => e = .returned (.tuple #[.int .i64 av, .int .i64 10]) ∧ Below w.heap.size w w'))
    (HB0 : Hid (∀ (v : Value) (w : World), IsW w v B → Calls Tryd.prog 73 #[v] w fun e w' => e = .returned (.tuple #[.int .i64 bv, .int .i64 eb]) ∧ Below w.heap.size w w'))
    (HN : Hid (∀ (v : Value) (w : World), IsW w v B → Calls Tryd.prog 68 #[v] w fun e w' => ∃ v', e = .returned v' ∧ IsW w' v' (-B) ∧ Below w.heap.size w w'))
    (HP : Hid (∀ (v u : Value) (w : World), IsW w v A → IsW w u (-B) → Calls Tryd.prog 66 #[v, u] w fun e w' => ∃ v', e = .returned v' ∧ IsW w' v' C ∧ Below w.heap.size w w'))
    (HC : Hid (∀ (v : Value) (w : World), IsW w v C → Calls Tryd.prog 73 #[v] w fun e w' => e = .returned (.tuple #[.int .i64 sv, .int .i64 eg]) ∧ Below w.heap.size w w')) (w : World) :
    Calls Tryd.prog 61 #[.agg #[.int .i64 xn, .int .i64 xs], .agg #[.int .i64 yn, .int .i64 ys], .bool true] w fun e w' => e = .returned (.tuple #[d0, .int .i64 10]) ∧ Below w.heap.size w w' := by
  have F := rv3_three w xn xs yn ys
  have HB : Hid (Below w.heap.size w (rv3 w xn xs yn ys)) := rv3_below _ _ _ _ _
  go_enter Tryd.func61, Tryd.ntmps61
  go_wp2_with fail
  refine (eright_yes _ _ rx _).mono ?_
  rintro e w1 ⟨rfl, hb⟩
  have F1 := F.below hb
  obtain ⟨_, ⟨y1, y2, y3, y4, y5⟩, _⟩ := id F1
  have HB1 : Hid (Below w.heap.size w w1) := HB.out.trans (hb.mono HB.out.size)
  clear F HB hb
  go_wp2_with fail
  refine (eright_yes _ _ ry _).mono ?_
  rintro e w2 ⟨rfl, hb⟩
  clear y1 y2 y3 y4 y5
  have F2 := F1.below hb
  obtain ⟨⟨x1, x2, x3, x4, x5⟩, ⟨y1, y2, y3, y4, y5⟩, _⟩ := id F2
  have HB2 : Hid (Below w.heap.size w w2) := HB1.out.trans (hb.mono HB1.out.size)
  clear F1 HB1 hb
  go_wp2_with fail
  refine (HM.out _).mono ?_
  rintro e w3 ⟨rfl, hb⟩
  clear x1 x2 x3 x4 x5 y1 y2 y3 y4 y5
  have F3 := F2.below hb
  have HB3 : Hid (Below w.heap.size w w3) := HB2.out.trans (hb.mono HB2.out.size)
  clear F2 HB2 hb
  obtain ⟨⟨x1, x2, x3, x4, x5⟩, _, _⟩ := id F3
  go_wp2_with fail
  refine (H1.out _).mono ?_
  rintro e w4 ⟨v1, rfl, I1, hb⟩
  clear x1 x2 x3 x4 x5
  obtain ⟨g1, b1, rfl⟩ := I1.split
  have F4 := (F3.below hb).alloc (.cells #[.bool g1, .slice (some ⟨b1, 0, none⟩) 6 6] 84)
  have A4 := VBox.new w4 (.bool g1) (.slice (some ⟨b1, 0, none⟩) 6 6) 84
  have J1 : Hid (IsW (w4.alloc (.cells #[.bool g1, .slice (some ⟨b1, 0, none⟩) 6 6] 84)) (.agg #[.bool g1, .slice (some ⟨b1, 0, none⟩) 6 6]) A) := I1.alloc _
  have HB4 : Hid (Below w.heap.size w (w4.alloc (.cells #[.bool g1, .slice (some ⟨b1, 0, none⟩) 6 6] 84))) := (HB3.out.trans (hb.mono HB3.out.size)).alloc (HB3.out.trans (hb.mono HB3.out.size)).size _
  have Z4 : Hid (w.heap.size + 2 < w4.heap.size) := (F3.below hb).2.2.1
  clear F3 HB3 hb I1
  obtain ⟨_, ⟨y1, y2, y3, y4, y5⟩, _⟩ := id F4
  go_wp2_with fail
  refine (H2.out _).mono ?_
  rintro e w5 ⟨v2, rfl, I2, hb⟩
  clear y1 y2 y3 y4 y5
  obtain ⟨g2, b2, rfl⟩ := I2.split
  have F5 := (F4.below hb).alloc (.cells #[.bool g2, .slice (some ⟨b2, 0, none⟩) 6 6] 84)
  have A5 := (A4.below hb A4.1).alloc (.cells #[.bool g2, .slice (some ⟨b2, 0, none⟩) 6 6] 84)
  have B5 := VBox.new w5 (.bool g2) (.slice (some ⟨b2, 0, none⟩) 6 6) 84
  have K1 : Hid (IsW (w5.alloc (.cells #[.bool g2, .slice (some ⟨b2, 0, none⟩) 6 6] 84)) (.agg #[.bool g1, .slice (some ⟨b1, 0, none⟩) 6 6]) A) := (J1.out.below hb).alloc _
  have K2 : Hid (IsW (w5.alloc (.cells #[.bool g2, .slice (some ⟨b2, 0, none⟩) 6 6] 84)) (.agg #[.bool g2, .slice (some ⟨b2, 0, none⟩) 6 6]) B) := I2.alloc _
  have HB5 : Hid (Below w.heap.size w (w5.alloc (.cells #[.bool g2, .slice (some ⟨b2, 0, none⟩) 6 6] 84))) := (HB4.out.trans (hb.mono HB4.out.size)).alloc (HB4.out.trans (hb.mono HB4.out.size)).size _
  have Z5 : Hid (w4.heap.size < w5.heap.size) := (A4.below hb A4.1).1
  clear F4 HB4 hb I2 J1 A4
  obtain ⟨a1, a2, a3, a4, a5⟩ := id A5
  go_wp2_with fail
  refine (HA.out _ _ K1.out).mono ?_
  rintro e w6 ⟨rfl, hb⟩
  clear a1 a2 a3 a4 a5
  have F6 := F5.below hb
  have A6 := A5.below hb A5.1
  have B6 := B5.below hb B5.1
  have L1 : Hid (IsW w6 _ A) := K1.out.below hb
  have L2 : Hid (IsW w6 _ B) := K2.out.below hb
  have HB6 : Hid (Below w.heap.size w w6) := HB5.out.trans (hb.mono HB5.out.size)
  clear F5 A5 B5 K1 K2 HB5 hb
  obtain ⟨c1, c2, c3, c4, c5⟩ := id B6
  go_wp2_with fail
  refine (HB0.out _ _ L2.out).mono ?_
  rintro e w7 ⟨rfl, hb⟩
  clear c1 c2 c3 c4 c5
  have F7 := F6.below hb
  have A7 := A6.below hb A6.1
  have B7 := B6.below hb B6.1
  have M1 : Hid (IsW w7 _ A) := L1.out.below hb
  have M2 : Hid (IsW w7 _ B) := L2.out.below hb
  have HB7 : Hid (Below w.heap.size w w7) := HB6.out.trans (hb.mono HB6.out.size)
  clear F6 A6 B6 L1 L2 HB6 hb
  obtain ⟨c1, c2, c3, c4, c5⟩ := id B7
  go_wp2_with fail
  refine (HN.out _ _ M2.out).mono ?_
  rintro e w8 ⟨v3, rfl, I3, hb⟩
  clear c1 c2 c3 c4 c5
  obtain ⟨g3, b3, rfl⟩ := I3.split
  have z4 := Z4.out
  have z5 := Z5.out
  have C8 := B7.below hb B7.1
  have F8 := (F7.below hb).other (c := w5.heap.size) (by omega) (by omega) (by omega) (.bool g3) (.slice (some ⟨b3, 0, none⟩) 6 6)
  have A8 := (A7.below hb A7.1).other (c := w5.heap.size) (by omega) (.bool g3) (.slice (some ⟨b3, 0, none⟩) 6 6)
  have B8 := C8.set (.bool g3) (.slice (some ⟨b3, 0, none⟩) 6 6)
  have N1 : Hid (IsW _ _ A) := (M1.out.below hb).other C8.2.1 (.bool g3) (.slice (some ⟨b3, 0, none⟩) 6 6)
  have N2 : Hid (IsW _ _ (-B)) := I3.other C8.2.1 (.bool g3) (.slice (some ⟨b3, 0, none⟩) 6 6)
  have HB8 : Hid (Below w.heap.size w ((w8.setCell ⟨w5.heap.size, 0, none⟩ (.bool g3)).setCell ⟨w5.heap.size, 1, none⟩ (.slice (some ⟨b3, 0, none⟩) 6 6))) := ((HB7.out.trans (hb.mono HB7.out.size)).setCell (by show w.heap.size ≤ w5.heap.size; omega) (.bool g3)).setCell (by show w.heap.size ≤ w5.heap.size; omega) (.slice (some ⟨b3, 0, none⟩) 6 6)
  obtain ⟨c1, c2, c3, c4, c5⟩ := id C8
  clear F7 A7 B7 M1 M2 HB7 hb I3 z4 z5 C8
  obtain ⟨a1, a2, a3, a4, a5⟩ := id A8
  obtain ⟨d1, d2, d3, d4, d5⟩ := id B8
  go_wp2_with fail
  refine (HP.out _ _ _ N1.out N2.out).mono ?_
  rintro e w9 ⟨v4, rfl, I4, hb⟩
  clear c1 c2 c3 c4 c5 a1 a2 a3 a4 a5 d1 d2 d3 d4 d5
  have F9 := F8.below hb
  have HB9 : Hid (Below w.heap.size w w9) := HB8.out.trans (hb.mono HB8.out.size)
  clear F8 A8 B8 N1 N2 HB8 hb
  go_wp2_with fail
  refine (HC.out _ _ I4).mono ?_
  rintro e w10 ⟨rfl, hb⟩
  obtain ⟨_, _, ⟨z1, z2, z3, z4, z5⟩⟩ := F9.below hb
  have HB10 : Hid (Below w.heap.size w w10) := HB9.out.trans (hb.mono HB9.out.size)
  clear F9 HB9 hb I4
  go_wp2_with fail
  exact bodyPost_ret (v := .tuple #[d0, .int .i64 10]) (by simp [results, Tryd.results61, go_sem, z2, z3]) rfl ⟨rfl, (HB10.out.setCell (by simp; omega) _).setCell (by simp; omega) _⟩

set_option maxRecDepth 100000 in
set_option maxHeartbeats 4000000 in
theorem esum_b_t (xn xs yn ys m A B C av bv sv eg : Int) (rx : rt xs = true) (ry : rt ys = true)
    (HM : Hid (∀ w : World, Calls Tryd.prog 85 #[.agg #[.int .i64 xn, .int .i64 xs], .agg #[.int .i64 yn, .int .i64 ys]] w fun e w' => e = .returned (.int .i64 m) ∧ Below w.heap.size w w'))
    (H1 : Hid (∀ w : World, Calls Tryd.prog 67 #[.agg #[.int .i64 xn, .int .i64 xs], .int .i64 m] w fun e w' => ∃ v, e = .returned v ∧ IsW w' v A ∧ Below w.heap.size w w'))
    (H2 : Hid (∀ w : World, Calls Tryd.prog 67 #[.agg #[.int .i64 yn, .int .i64 ys], .int .i64 m] w fun e w' => ∃ v, e = .returned v ∧ IsW w' v B ∧ Below w.heap.size w w'))
    (HA : Hid (∀ (v : Value) (w : World), IsW w v A → Calls Tryd.prog 73 #[v] w fun e w' => e = .returned (.tuple #[.int .i64 av, .int .i64 0]) ∧ Below w.heap.size w w'))
    (HB0 : Hid (∀ (v : Value) (w : World), IsW w v B → Calls Tryd.prog 73 #[v] w fun e w' => e = .returned (.tuple #[.int .i64 bv, .int .i64 10]) ∧ Below w.heap.size w w'))
    (HN : Hid (∀ (v : Value) (w : World), IsW w v B → Calls Tryd.prog 68 #[v] w fun e w' => ∃ v', e = .returned v' ∧ IsW w' v' (-B) ∧ Below w.heap.size w w'))
    (HP : Hid (∀ (v u : Value) (w : World), IsW w v A → IsW w u (-B) → Calls Tryd.prog 66 #[v, u] w fun e w' => ∃ v', e = .returned v' ∧ IsW w' v' C ∧ Below w.heap.size w w'))
    (HC : Hid (∀ (v : Value) (w : World), IsW w v C → Calls Tryd.prog 73 #[v] w fun e w' => e = .returned (.tuple #[.int .i64 sv, .int .i64 eg]) ∧ Below w.heap.size w w')) (w : World) :
    Calls Tryd.prog 61 #[.agg #[.int .i64 xn, .int .i64 xs], .agg #[.int .i64 yn, .int .i64 ys], .bool true] w fun e w' => e = .returned (.tuple #[d0, .int .i64 10]) ∧ Below w.heap.size w w' := by
  have F := rv3_three w xn xs yn ys
  have HB : Hid (Below w.heap.size w (rv3 w xn xs yn ys)) := rv3_below _ _ _ _ _
  go_enter Tryd.func61, Tryd.ntmps61
  go_wp2_with fail
  refine (eright_yes _ _ rx _).mono ?_
  rintro e w1 ⟨rfl, hb⟩
  have F1 := F.below hb
  obtain ⟨_, ⟨y1, y2, y3, y4, y5⟩, _⟩ := id F1
  have HB1 : Hid (Below w.heap.size w w1) := HB.out.trans (hb.mono HB.out.size)
  clear F HB hb
  go_wp2_with fail
  refine (eright_yes _ _ ry _).mono ?_
  rintro e w2 ⟨rfl, hb⟩
  clear y1 y2 y3 y4 y5
  have F2 := F1.below hb
  obtain ⟨⟨x1, x2, x3, x4, x5⟩, ⟨y1, y2, y3, y4, y5⟩, _⟩ := id F2
  have HB2 : Hid (Below w.heap.size w w2) := HB1.out.trans (hb.mono HB1.out.size)
  clear F1 HB1 hb
  go_wp2_with fail
  refine (HM.out _).mono ?_
  rintro e w3 ⟨rfl, hb⟩
  clear x1 x2 x3 x4 x5 y1 y2 y3 y4 y5
  have F3 := F2.below hb
  have HB3 : Hid (Below w.heap.size w w3) := HB2.out.trans (hb.mono HB2.out.size)
  clear F2 HB2 hb
  obtain ⟨⟨x1, x2, x3, x4, x5⟩, _, _⟩ := id F3
  go_wp2_with fail
  refine (H1.out _).mono ?_
  rintro e w4 ⟨v1, rfl, I1, hb⟩
  clear x1 x2 x3 x4 x5
  obtain ⟨g1, b1, rfl⟩ := I1.split
  have F4 := (F3.below hb).alloc (.cells #[.bool g1, .slice (some ⟨b1, 0, none⟩) 6 6] 84)
  have A4 := VBox.new w4 (.bool g1) (.slice (some ⟨b1, 0, none⟩) 6 6) 84
  have J1 : Hid (IsW (w4.alloc (.cells #[.bool g1, .slice (some ⟨b1, 0, none⟩) 6 6] 84)) (.agg #[.bool g1, .slice (some ⟨b1, 0, none⟩) 6 6]) A) := I1.alloc _
  have HB4 : Hid (Below w.heap.size w (w4.alloc (.cells #[.bool g1, .slice (some ⟨b1, 0, none⟩) 6 6] 84))) := (HB3.out.trans (hb.mono HB3.out.size)).alloc (HB3.out.trans (hb.mono HB3.out.size)).size _
  have Z4 : Hid (w.heap.size + 2 < w4.heap.size) := (F3.below hb).2.2.1
  clear F3 HB3 hb I1
  obtain ⟨_, ⟨y1, y2, y3, y4, y5⟩, _⟩ := id F4
  go_wp2_with fail
  refine (H2.out _).mono ?_
  rintro e w5 ⟨v2, rfl, I2, hb⟩
  clear y1 y2 y3 y4 y5
  obtain ⟨g2, b2, rfl⟩ := I2.split
  have F5 := (F4.below hb).alloc (.cells #[.bool g2, .slice (some ⟨b2, 0, none⟩) 6 6] 84)
  have A5 := (A4.below hb A4.1).alloc (.cells #[.bool g2, .slice (some ⟨b2, 0, none⟩) 6 6] 84)
  have B5 := VBox.new w5 (.bool g2) (.slice (some ⟨b2, 0, none⟩) 6 6) 84
  have K1 : Hid (IsW (w5.alloc (.cells #[.bool g2, .slice (some ⟨b2, 0, none⟩) 6 6] 84)) (.agg #[.bool g1, .slice (some ⟨b1, 0, none⟩) 6 6]) A) := (J1.out.below hb).alloc _
  have K2 : Hid (IsW (w5.alloc (.cells #[.bool g2, .slice (some ⟨b2, 0, none⟩) 6 6] 84)) (.agg #[.bool g2, .slice (some ⟨b2, 0, none⟩) 6 6]) B) := I2.alloc _
  have HB5 : Hid (Below w.heap.size w (w5.alloc (.cells #[.bool g2, .slice (some ⟨b2, 0, none⟩) 6 6] 84))) := (HB4.out.trans (hb.mono HB4.out.size)).alloc (HB4.out.trans (hb.mono HB4.out.size)).size _
  have Z5 : Hid (w4.heap.size < w5.heap.size) := (A4.below hb A4.1).1
  clear F4 HB4 hb I2 J1 A4
  obtain ⟨a1, a2, a3, a4, a5⟩ := id A5
  go_wp2_with fail
  refine (HA.out _ _ K1.out).mono ?_
  rintro e w6 ⟨rfl, hb⟩
  clear a1 a2 a3 a4 a5
  have F6 := F5.below hb
  have A6 := A5.below hb A5.1
  have B6 := B5.below hb B5.1
  have L1 : Hid (IsW w6 _ A) := K1.out.below hb
  have L2 : Hid (IsW w6 _ B) := K2.out.below hb
  have HB6 : Hid (Below w.heap.size w w6) := HB5.out.trans (hb.mono HB5.out.size)
  clear F5 A5 B5 K1 K2 HB5 hb
  obtain ⟨c1, c2, c3, c4, c5⟩ := id B6
  go_wp2_with fail
  refine (HB0.out _ _ L2.out).mono ?_
  rintro e w7 ⟨rfl, hb⟩
  clear c1 c2 c3 c4 c5
  have F7 := F6.below hb
  have A7 := A6.below hb A6.1
  have B7 := B6.below hb B6.1
  have M1 : Hid (IsW w7 _ A) := L1.out.below hb
  have M2 : Hid (IsW w7 _ B) := L2.out.below hb
  have HB7 : Hid (Below w.heap.size w w7) := HB6.out.trans (hb.mono HB6.out.size)
  clear F6 A6 B6 L1 L2 HB6 hb
  obtain ⟨c1, c2, c3, c4, c5⟩ := id B7
  go_wp2_with fail
  refine (HN.out _ _ M2.out).mono ?_
  rintro e w8 ⟨v3, rfl, I3, hb⟩
  clear c1 c2 c3 c4 c5
  obtain ⟨g3, b3, rfl⟩ := I3.split
  have z4 := Z4.out
  have z5 := Z5.out
  have C8 := B7.below hb B7.1
  have F8 := (F7.below hb).other (c := w5.heap.size) (by omega) (by omega) (by omega) (.bool g3) (.slice (some ⟨b3, 0, none⟩) 6 6)
  have A8 := (A7.below hb A7.1).other (c := w5.heap.size) (by omega) (.bool g3) (.slice (some ⟨b3, 0, none⟩) 6 6)
  have B8 := C8.set (.bool g3) (.slice (some ⟨b3, 0, none⟩) 6 6)
  have N1 : Hid (IsW _ _ A) := (M1.out.below hb).other C8.2.1 (.bool g3) (.slice (some ⟨b3, 0, none⟩) 6 6)
  have N2 : Hid (IsW _ _ (-B)) := I3.other C8.2.1 (.bool g3) (.slice (some ⟨b3, 0, none⟩) 6 6)
  have HB8 : Hid (Below w.heap.size w ((w8.setCell ⟨w5.heap.size, 0, none⟩ (.bool g3)).setCell ⟨w5.heap.size, 1, none⟩ (.slice (some ⟨b3, 0, none⟩) 6 6))) := ((HB7.out.trans (hb.mono HB7.out.size)).setCell (by show w.heap.size ≤ w5.heap.size; omega) (.bool g3)).setCell (by show w.heap.size ≤ w5.heap.size; omega) (.slice (some ⟨b3, 0, none⟩) 6 6)
  obtain ⟨c1, c2, c3, c4, c5⟩ := id C8
  clear F7 A7 B7 M1 M2 HB7 hb I3 z4 z5 C8
  obtain ⟨a1, a2, a3, a4, a5⟩ := id A8
  obtain ⟨d1, d2, d3, d4, d5⟩ := id B8
  go_wp2_with fail
  refine (HP.out _ _ _ N1.out N2.out).mono ?_
  rintro e w9 ⟨v4, rfl, I4, hb⟩
  clear c1 c2 c3 c4 c5 a1 a2 a3 a4 a5 d1 d2 d3 d4 d5
  have F9 := F8.below hb
  have HB9 : Hid (Below w.heap.size w w9) := HB8.out.trans (hb.mono HB8.out.size)
  clear F8 A8 B8 N1 N2 HB8 hb
  go_wp2_with fail
  refine (HC.out _ _ I4).mono ?_
  rintro e w10 ⟨rfl, hb⟩
  obtain ⟨_, _, ⟨z1, z2, z3, z4, z5⟩⟩ := F9.below hb
  have HB10 : Hid (Below w.heap.size w w10) := HB9.out.trans (hb.mono HB9.out.size)
  clear F9 HB9 hb I4
  go_wp2_with fail
  exact bodyPost_ret (v := .tuple #[d0, .int .i64 10]) (by simp [results, Tryd.results61, go_sem, z2, z3]) rfl ⟨rfl, (HB10.out.setCell (by simp; omega) _).setCell (by simp; omega) _⟩

set_option maxRecDepth 100000 in
set_option maxHeartbeats 4000000 in
theorem esum_c_t (xn xs yn ys m A B C av bv sv : Int) (rx : rt xs = true) (ry : rt ys = true)
    (HM : Hid (∀ w : World, Calls Tryd.prog 85 #[.agg #[.int .i64 xn, .int .i64 xs], .agg #[.int .i64 yn, .int .i64 ys]] w fun e w' => e = .returned (.int .i64 m) ∧ Below w.heap.size w w'))
    (H1 : Hid (∀ w : World, Calls Tryd.prog 67 #[.agg #[.int .i64 xn, .int .i64 xs], .int .i64 m] w fun e w' => ∃ v, e = .returned v ∧ IsW w' v A ∧ Below w.heap.size w w'))
    (H2 : Hid (∀ w : World, Calls Tryd.prog 67 #[.agg #[.int .i64 yn, .int .i64 ys], .int .i64 m] w fun e w' => ∃ v, e = .returned v ∧ IsW w' v B ∧ Below w.heap.size w w'))
    (HA : Hid (∀ (v : Value) (w : World), IsW w v A → Calls Tryd.prog 73 #[v] w fun e w' => e = .returned (.tuple #[.int .i64 av, .int .i64 0]) ∧ Below w.heap.size w w'))
    (HB0 : Hid (∀ (v : Value) (w : World), IsW w v B → Calls Tryd.prog 73 #[v] w fun e w' => e = .returned (.tuple #[.int .i64 bv, .int .i64 0]) ∧ Below w.heap.size w w'))
    (HN : Hid (∀ (v : Value) (w : World), IsW w v B → Calls Tryd.prog 68 #[v] w fun e w' => ∃ v', e = .returned v' ∧ IsW w' v' (-B) ∧ Below w.heap.size w w'))
    (HP : Hid (∀ (v u : Value) (w : World), IsW w v A → IsW w u (-B) → Calls Tryd.prog 66 #[v, u] w fun e w' => ∃ v', e = .returned v' ∧ IsW w' v' C ∧ Below w.heap.size w w'))
    (HC : Hid (∀ (v : Value) (w : World), IsW w v C → Calls Tryd.prog 73 #[v] w fun e w' => e = .returned (.tuple #[.int .i64 sv, .int .i64 10]) ∧ Below w.heap.size w w')) (w : World) :
    Calls Tryd.prog 61 #[.agg #[.int .i64 xn, .int .i64 xs], .agg #[.int .i64 yn, .int .i64 ys], .bool true] w fun e w' => e = .returned (.tuple #[d0, .int .i64 10]) ∧ Below w.heap.size w w' := by
  have F := rv3_three w xn xs yn ys
  have HB : Hid (Below w.heap.size w (rv3 w xn xs yn ys)) := rv3_below _ _ _ _ _
  go_enter Tryd.func61, Tryd.ntmps61
  go_wp2_with fail
  refine (eright_yes _ _ rx _).mono ?_
  rintro e w1 ⟨rfl, hb⟩
  have F1 := F.below hb
  obtain ⟨_, ⟨y1, y2, y3, y4, y5⟩, _⟩ := id F1
  have HB1 : Hid (Below w.heap.size w w1) := HB.out.trans (hb.mono HB.out.size)
  clear F HB hb
  go_wp2_with fail
  refine (eright_yes _ _ ry _).mono ?_
  rintro e w2 ⟨rfl, hb⟩
  clear y1 y2 y3 y4 y5
  have F2 := F1.below hb
  obtain ⟨⟨x1, x2, x3, x4, x5⟩, ⟨y1, y2, y3, y4, y5⟩, _⟩ := id F2
  have HB2 : Hid (Below w.heap.size w w2) := HB1.out.trans (hb.mono HB1.out.size)
  clear F1 HB1 hb
  go_wp2_with fail
  refine (HM.out _).mono ?_
  rintro e w3 ⟨rfl, hb⟩
  clear x1 x2 x3 x4 x5 y1 y2 y3 y4 y5
  have F3 := F2.below hb
  have HB3 : Hid (Below w.heap.size w w3) := HB2.out.trans (hb.mono HB2.out.size)
  clear F2 HB2 hb
  obtain ⟨⟨x1, x2, x3, x4, x5⟩, _, _⟩ := id F3
  go_wp2_with fail
  refine (H1.out _).mono ?_
  rintro e w4 ⟨v1, rfl, I1, hb⟩
  clear x1 x2 x3 x4 x5
  obtain ⟨g1, b1, rfl⟩ := I1.split
  have F4 := (F3.below hb).alloc (.cells #[.bool g1, .slice (some ⟨b1, 0, none⟩) 6 6] 84)
  have A4 := VBox.new w4 (.bool g1) (.slice (some ⟨b1, 0, none⟩) 6 6) 84
  have J1 : Hid (IsW (w4.alloc (.cells #[.bool g1, .slice (some ⟨b1, 0, none⟩) 6 6] 84)) (.agg #[.bool g1, .slice (some ⟨b1, 0, none⟩) 6 6]) A) := I1.alloc _
  have HB4 : Hid (Below w.heap.size w (w4.alloc (.cells #[.bool g1, .slice (some ⟨b1, 0, none⟩) 6 6] 84))) := (HB3.out.trans (hb.mono HB3.out.size)).alloc (HB3.out.trans (hb.mono HB3.out.size)).size _
  have Z4 : Hid (w.heap.size + 2 < w4.heap.size) := (F3.below hb).2.2.1
  clear F3 HB3 hb I1
  obtain ⟨_, ⟨y1, y2, y3, y4, y5⟩, _⟩ := id F4
  go_wp2_with fail
  refine (H2.out _).mono ?_
  rintro e w5 ⟨v2, rfl, I2, hb⟩
  clear y1 y2 y3 y4 y5
  obtain ⟨g2, b2, rfl⟩ := I2.split
  have F5 := (F4.below hb).alloc (.cells #[.bool g2, .slice (some ⟨b2, 0, none⟩) 6 6] 84)
  have A5 := (A4.below hb A4.1).alloc (.cells #[.bool g2, .slice (some ⟨b2, 0, none⟩) 6 6] 84)
  have B5 := VBox.new w5 (.bool g2) (.slice (some ⟨b2, 0, none⟩) 6 6) 84
  have K1 : Hid (IsW (w5.alloc (.cells #[.bool g2, .slice (some ⟨b2, 0, none⟩) 6 6] 84)) (.agg #[.bool g1, .slice (some ⟨b1, 0, none⟩) 6 6]) A) := (J1.out.below hb).alloc _
  have K2 : Hid (IsW (w5.alloc (.cells #[.bool g2, .slice (some ⟨b2, 0, none⟩) 6 6] 84)) (.agg #[.bool g2, .slice (some ⟨b2, 0, none⟩) 6 6]) B) := I2.alloc _
  have HB5 : Hid (Below w.heap.size w (w5.alloc (.cells #[.bool g2, .slice (some ⟨b2, 0, none⟩) 6 6] 84))) := (HB4.out.trans (hb.mono HB4.out.size)).alloc (HB4.out.trans (hb.mono HB4.out.size)).size _
  have Z5 : Hid (w4.heap.size < w5.heap.size) := (A4.below hb A4.1).1
  clear F4 HB4 hb I2 J1 A4
  obtain ⟨a1, a2, a3, a4, a5⟩ := id A5
  go_wp2_with fail
  refine (HA.out _ _ K1.out).mono ?_
  rintro e w6 ⟨rfl, hb⟩
  clear a1 a2 a3 a4 a5
  have F6 := F5.below hb
  have A6 := A5.below hb A5.1
  have B6 := B5.below hb B5.1
  have L1 : Hid (IsW w6 _ A) := K1.out.below hb
  have L2 : Hid (IsW w6 _ B) := K2.out.below hb
  have HB6 : Hid (Below w.heap.size w w6) := HB5.out.trans (hb.mono HB5.out.size)
  clear F5 A5 B5 K1 K2 HB5 hb
  obtain ⟨c1, c2, c3, c4, c5⟩ := id B6
  go_wp2_with fail
  refine (HB0.out _ _ L2.out).mono ?_
  rintro e w7 ⟨rfl, hb⟩
  clear c1 c2 c3 c4 c5
  have F7 := F6.below hb
  have A7 := A6.below hb A6.1
  have B7 := B6.below hb B6.1
  have M1 : Hid (IsW w7 _ A) := L1.out.below hb
  have M2 : Hid (IsW w7 _ B) := L2.out.below hb
  have HB7 : Hid (Below w.heap.size w w7) := HB6.out.trans (hb.mono HB6.out.size)
  clear F6 A6 B6 L1 L2 HB6 hb
  obtain ⟨c1, c2, c3, c4, c5⟩ := id B7
  go_wp2_with fail
  refine (HN.out _ _ M2.out).mono ?_
  rintro e w8 ⟨v3, rfl, I3, hb⟩
  clear c1 c2 c3 c4 c5
  obtain ⟨g3, b3, rfl⟩ := I3.split
  have z4 := Z4.out
  have z5 := Z5.out
  have C8 := B7.below hb B7.1
  have F8 := (F7.below hb).other (c := w5.heap.size) (by omega) (by omega) (by omega) (.bool g3) (.slice (some ⟨b3, 0, none⟩) 6 6)
  have A8 := (A7.below hb A7.1).other (c := w5.heap.size) (by omega) (.bool g3) (.slice (some ⟨b3, 0, none⟩) 6 6)
  have B8 := C8.set (.bool g3) (.slice (some ⟨b3, 0, none⟩) 6 6)
  have N1 : Hid (IsW _ _ A) := (M1.out.below hb).other C8.2.1 (.bool g3) (.slice (some ⟨b3, 0, none⟩) 6 6)
  have N2 : Hid (IsW _ _ (-B)) := I3.other C8.2.1 (.bool g3) (.slice (some ⟨b3, 0, none⟩) 6 6)
  have HB8 : Hid (Below w.heap.size w ((w8.setCell ⟨w5.heap.size, 0, none⟩ (.bool g3)).setCell ⟨w5.heap.size, 1, none⟩ (.slice (some ⟨b3, 0, none⟩) 6 6))) := ((HB7.out.trans (hb.mono HB7.out.size)).setCell (by show w.heap.size ≤ w5.heap.size; omega) (.bool g3)).setCell (by show w.heap.size ≤ w5.heap.size; omega) (.slice (some ⟨b3, 0, none⟩) 6 6)
  obtain ⟨c1, c2, c3, c4, c5⟩ := id C8
  clear F7 A7 B7 M1 M2 HB7 hb I3 z4 z5 C8
  obtain ⟨a1, a2, a3, a4, a5⟩ := id A8
  obtain ⟨d1, d2, d3, d4, d5⟩ := id B8
  go_wp2_with fail
  refine (HP.out _ _ _ N1.out N2.out).mono ?_
  rintro e w9 ⟨v4, rfl, I4, hb⟩
  clear c1 c2 c3 c4 c5 a1 a2 a3 a4 a5 d1 d2 d3 d4 d5
  have F9 := F8.below hb
  have HB9 : Hid (Below w.heap.size w w9) := HB8.out.trans (hb.mono HB8.out.size)
  clear F8 A8 B8 N1 N2 HB8 hb
  go_wp2_with fail
  refine (HC.out _ _ I4).mono ?_
  rintro e w10 ⟨rfl, hb⟩
  obtain ⟨_, _, ⟨z1, z2, z3, z4, z5⟩⟩ := F9.below hb
  have HB10 : Hid (Below w.heap.size w w10) := HB9.out.trans (hb.mono HB9.out.size)
  clear F9 HB9 hb I4
  go_wp2_with fail
  exact bodyPost_ret (v := .tuple #[d0, .int .i64 10]) (by simp [results, Tryd.results61, go_sem, z2, z3]) rfl ⟨rfl, (HB10.out.setCell (by simp; omega) _).setCell (by simp; omega) _⟩

end Go.Proofs.YtlhlanekklonmaaDoor
