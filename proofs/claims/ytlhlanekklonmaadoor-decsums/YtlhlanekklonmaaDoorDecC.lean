/- Contracts of dec.level in one, dec.Add, dec.Sub, dec.Mul: sums, differences, products. -/
import Derived.Test.YtlhlanekklonmaaDoorDecB
namespace Go.Proofs.YtlhlanekklonmaaDoor
open Go.RowKit
set_option linter.unusedVariables false

theorem sm_ok {x : Int} (h : smE x = 0) : (-9223372036854775808 ≤ x ∧ x ≤ 9223372036854775807) ∧ smV x = x := by
  unfold smE at h
  by_cases l : -9223372036854775808 ≤ x ∧ x ≤ 9223372036854775807
  · exact ⟨l, if_pos l⟩
  · rw [if_neg l] at h; exact absurd h (by decide)
theorem sm_bad {x : Int} (h : smE x ≠ 0) : smE x = 10 ∧ smV x = 0 := by
  unfold smE smV at *
  by_cases l : -9223372036854775808 ≤ x ∧ x ≤ 9223372036854775807
  · rw [if_pos l] at h; exact absurd rfl h
  · rw [if_neg l, if_neg l]; exact ⟨rfl, rfl⟩
theorem sm_of (x : Int) : ofN (smV x) (smE x) = ofN x (smE x) := by
  by_cases h : smE x = 0
  · rw [(sm_ok h).2]
  · rw [(of_err h (smV x) 0).1, (of_err h x 0).1]

/-- both at the greater Scale. -/
def la (xn xs yn ys : Int) : Int := xn * Dm.ten (max xs ys - xs).toNat
def lb (xn xs yn ys : Int) : Int := yn * Dm.ten (max xs ys - ys).toNat
def levE (xn xs yn ys : Int) : Int := if rt xs = true ∧ rt ys = true then (if smE (la xn xs yn ys) = 0 ∧ smE (lb xn xs yn ys) = 0 then 0 else 10) else 1

theorem lift_at (n s c : Int) (h1 : -9223372036854775808 ≤ n) (h2 : n ≤ 9223372036854775807) (hs : rt s = true) (hc : rt c = true) (hsc : s ≤ c) (w : World) :
    Calls Tryd.prog 71 #[.agg #[.int .i64 n, .int .i64 s], .int .i64 c] w fun e w' =>
      e = .returned (.tuple #[.agg #[.int .i64 (ofN (n * Dm.ten (c - s).toNat) (smE (n * Dm.ten (c - s).toNat))), .int .i64 (ofS c (smE (n * Dm.ten (c - s).toNat)))], .int .i64 (smE (n * Dm.ten (c - s).toNat))]) ∧ Below w.heap.size w w' := by
  obtain ⟨a, ha, rfl⟩ := nat_of_rt hs
  obtain ⟨b, hb, rfl⟩ := nat_of_rt hc
  have h := lift_any n a b h1 h2 (by omega) hb w
  rw [sm_of, show b - a = ((b : Int) - (a : Int)).toNat by omega] at h
  exact h

theorem rt_max {x y : Int} (hx : rt x = true) (hy : rt y = true) : rt (max x y) = true := by
  rcases Int.le_total x y with h | h
  · rw [Int.max_eq_right h]; exact hy
  · rw [Int.max_eq_left h]; exact hx

/-- dec.level, whatever it is given. -/
theorem level_any (xn xs yn ys : Int) (x1 : -9223372036854775808 ≤ xn) (x2 : xn ≤ 9223372036854775807) (y1 : -9223372036854775808 ≤ yn) (y2 : yn ≤ 9223372036854775807) (w : World) :
    Calls Tryd.prog 58 #[.agg #[.int .i64 xn, .int .i64 xs], .agg #[.int .i64 yn, .int .i64 ys]] w fun e w' =>
      e = .returned (.tuple #[.agg #[.int .i64 (ofN (la xn xs yn ys) (levE xn xs yn ys)), .int .i64 (ofN (max xs ys) (levE xn xs yn ys))], .agg #[.int .i64 (ofN (lb xn xs yn ys) (levE xn xs yn ys)), .int .i64 (ofN (max xs ys) (levE xn xs yn ys))], .int .i64 (levE xn xs yn ys)]) ∧ Below w.heap.size w w' := by
  by_cases hr : rt xs = true ∧ rt ys = true
  · obtain ⟨hx, hy⟩ := hr
    have C1 := lift_at xn xs (max xs ys) x1 x2 hx (rt_max hx hy) (Int.le_max_left _ _)
    have C2 := lift_at yn ys (max xs ys) y1 y2 hy (rt_max hx hy) (Int.le_max_right _ _)
    by_cases ha : smE (la xn xs yn ys) = 0
    · have ea : smE (xn * Dm.ten (max xs ys - xs).toNat) = 0 := ha
      rw [ea] at C1
      by_cases hb : smE (lb xn xs yn ys) = 0
      · have eb : smE (yn * Dm.ten (max xs ys - ys).toNat) = 0 := hb
        rw [eb] at C2
        have e : levE xn xs yn ys = 0 := by unfold levE; rw [if_pos ⟨hx, hy⟩, if_pos ⟨ha, hb⟩]
        rw [e]
        exact level_ok xn xs yn ys _ _ hx hy C1 C2 w
      · have eb : smE (yn * Dm.ten (max xs ys - ys).toNat) = 10 := (sm_bad hb).1
        rw [eb] at C2
        have e : levE xn xs yn ys = 10 := by unfold levE; rw [if_pos ⟨hx, hy⟩, if_neg (fun h => hb h.2)]
        rw [e]
        exact level_e2 xn xs yn ys _ hx hy C1 C2 w
    · have ea : smE (xn * Dm.ten (max xs ys - xs).toNat) = 10 := (sm_bad ha).1
      rw [ea] at C1
      have e : levE xn xs yn ys = 10 := by unfold levE; rw [if_pos ⟨hx, hy⟩, if_neg (fun h => ha h.1)]
      rw [e]
      exact level_e1 xn xs yn ys 0 0 hx hy C1 w
  · have e : levE xn xs yn ys = 1 := by unfold levE; rw [if_neg hr]
    rw [e]
    cases hx : rt xs
    · exact level_bad1 xn xs yn ys hx w
    · cases hy : rt ys
      · exact level_bad2 xn xs yn ys hx hy w
      · exact absurd ⟨hx, hy⟩ hr

/-- the three blocks of a function of two numbers that answers one. -/
abbrev lv3 (w : World) (xn xs yn ys : Int) : World := ((w.alloc (dbox xn xs)).alloc (dbox yn ys)).alloc (dbox 0 0)
def Three (w : World) (B : Nat) (xn xs yn ys : Int) : Prop := Box w B xn xs ∧ Box w (B + 1) yn ys ∧ Box w (B + 1 + 1) 0 0
theorem Three.new (w : World) (xn xs yn ys : Int) : Three (lv3 w xn xs yn ys) w.heap.size xn xs yn ys :=
  ⟨by have := ((Box.new w xn xs).alloc (dbox yn ys)).alloc (dbox 0 0); simpa using this,
   by have := (Box.new (w.alloc (dbox xn xs)) yn ys).alloc (dbox 0 0); simpa using this,
   by have := Box.new ((w.alloc (dbox xn xs)).alloc (dbox yn ys)) 0 0; simpa using this⟩
theorem Three.below {w w1 : World} {B : Nat} {xn xs yn ys : Int} (h : Three w B xn xs yn ys) (hb : Below w.heap.size w w1) : Three w1 B xn xs yn ys :=
  ⟨h.1.below hb h.1.1, h.2.1.below hb h.2.1.1, h.2.2.below hb h.2.2.1⟩
theorem lv3_below (w : World) (xn xs yn ys : Int) : Below w.heap.size w (lv3 w xn xs yn ys) := (by repeat' (first | assumption | exact Below.refl _ _ | exact Nat.le_refl _ | refine Below.alloc ?_ ?_ _ | (simp; done) | (simp; omega) | omega))

/-- a store into another block leaves it a box. -/
theorem Box.other {w : World} {b c : Nat} {n s : Int} (h : Box w b n s) (hc : c ≠ b) (x y : Value) : Box ((w.setCell ⟨c, 0, none⟩ x).setCell ⟨c, 1, none⟩ y) b n s := by
  obtain ⟨h1, h2, h3, h4, h5⟩ := h
  exact ⟨by simpa [World.setCell] using h1, (keep2 hc _ _ _).trans h2, (keep2 hc _ _ _).trans h3, by simpa using h4, by simpa using h5⟩

set_option maxHeartbeats 400000 in
theorem sub_in (a b : Int) (h1 : -9223372036854775808 ≤ a) (h2 : a ≤ 9223372036854775807) (h3 : -9223372036854775808 ≤ b) (h4 : b ≤ 9223372036854775807)
    (l1 : -9223372036854775808 ≤ a - b) (l2 : a - b ≤ 9223372036854775807) (w : World) :
    Calls Tryd.prog 62 #[.int .i64 a, .int .i64 b] w fun e w' => e = .returned (.tuple #[.int .i64 (a - b), .int .i64 0]) ∧ w' = w := by
  by_cases h : b < 0
  · have hs : a < a - b := by omega
    go_enter Tryd.func62, Tryd.ntmps62
    go_wp2
    go_ret2
    exact ⟨rfl, rfl⟩
  · have hs : ¬ a < a - b := by omega
    go_enter Tryd.func62, Tryd.ntmps62
    go_wp2
    go_ret2
    exact ⟨rfl, rfl⟩

set_option maxHeartbeats 400000 in
theorem sub_out (a b : Int) (h1 : -9223372036854775808 ≤ a) (h2 : a ≤ 9223372036854775807) (h3 : -9223372036854775808 ≤ b) (h4 : b ≤ 9223372036854775807)
    (l : a - b < -9223372036854775808 ∨ 9223372036854775807 < a - b) (w : World) :
    Calls Tryd.prog 62 #[.int .i64 a, .int .i64 b] w fun e w' => e = .returned (.tuple #[.int .i64 0, .int .i64 10]) ∧ w' = w := by
  rcases l with l | l
  · have h : ¬ b < 0 := by omega
    have hs : a < wrap64 (a - b) := by unfold wrap64; omega
    clear l
    go_enter Tryd.func62, Tryd.ntmps62
    go_wp2
    go_ret2
    exact ⟨rfl, rfl⟩
  · have h : b < 0 := by omega
    have hs : ¬ a < wrap64 (a - b) := by unfold wrap64; omega
    clear l
    go_enter Tryd.func62, Tryd.ntmps62
    go_wp2
    go_ret2
    exact ⟨rfl, rfl⟩

theorem sub_any (a b : Int) (h1 : -9223372036854775808 ≤ a) (h2 : a ≤ 9223372036854775807) (h3 : -9223372036854775808 ≤ b) (h4 : b ≤ 9223372036854775807) (w : World) :
    Calls Tryd.prog 62 #[.int .i64 a, .int .i64 b] w fun e w' => e = .returned (.tuple #[.int .i64 (smV (a - b)), .int .i64 (smE (a - b))]) ∧ w' = w := by
  by_cases l : -9223372036854775808 ≤ a - b ∧ a - b ≤ 9223372036854775807
  · rw [smV_in l.1 l.2, smE_in l.1 l.2]; exact sub_in a b h1 h2 h3 h4 l.1 l.2 w
  · rw [smV_out (by omega), smE_out (by omega)]; exact sub_out a b h1 h2 h3 h4 (by omega) w

/-- its error. -/
def addE (xn xs yn ys : Int) : Int := if levE xn xs yn ys = 0 then smE (la xn xs yn ys + lb xn xs yn ys) else levE xn xs yn ys

set_option maxRecDepth 100000 in
set_option maxHeartbeats 1000000 in
theorem dadd_err (xn xs yn ys x : Int) (hx : x ≠ 0)
    (H1 : Hid (∀ w : World, Calls Tryd.prog 58 #[.agg #[.int .i64 xn, .int .i64 xs], .agg #[.int .i64 yn, .int .i64 ys]] w fun e w' => e = .returned (.tuple #[d0, d0, .int .i64 x]) ∧ Below w.heap.size w w'))
    (w : World) :
    Calls Tryd.prog 23 #[.agg #[.int .i64 xn, .int .i64 xs], .agg #[.int .i64 yn, .int .i64 ys]] w fun e w' => e = .returned (.tuple #[d0, .int .i64 x]) ∧ Below w.heap.size w w' := by
  have hx' : (x != 0) = true := by rw [bne_iff_ne]; exact hx
  have F := Three.new w xn xs yn ys
  have HB : Hid (Below w.heap.size w (lv3 w xn xs yn ys)) := lv3_below _ _ _ _ _
  go_enter Tryd.func23, Tryd.ntmps23
  go_wp2_with fail
  refine (H1.out _).mono ?_
  rintro e w1 ⟨rfl, hb⟩
  obtain ⟨⟨x1, x2, x3, x4, x5⟩, ⟨y1, y2, y3, y4, y5⟩, ⟨z1, z2, z3, z4, z5⟩⟩ := F.below hb
  have HB1 : Hid (Below w.heap.size w w1) := HB.out.trans (hb.mono HB.out.size)
  clear F HB hb
  go_wp2_with fail
  exact bodyPost_ret (v := .tuple #[d0, .int .i64 x]) (by simp [results, Tryd.results23, go_sem, z2, z3]) rfl ⟨rfl, (((((HB1.out.setCell (by simp) _).setCell (by simp) _).setCell (by simp) _).setCell (by simp) _).setCell (by simp; omega) _).setCell (by simp; omega) _⟩

set_option maxRecDepth 100000 in
set_option maxHeartbeats 1000000 in
theorem dadd_ok (xn xs yn ys a b c v x : Int)
    (H1 : Hid (∀ w : World, Calls Tryd.prog 58 #[.agg #[.int .i64 xn, .int .i64 xs], .agg #[.int .i64 yn, .int .i64 ys]] w fun e w' => e = .returned (.tuple #[.agg #[.int .i64 a, .int .i64 c], .agg #[.int .i64 b, .int .i64 c], .int .i64 0]) ∧ Below w.heap.size w w'))
    (H2 : Hid (∀ w : World, Calls Tryd.prog 59 #[.int .i64 a, .int .i64 b] w fun e w' => e = .returned (.tuple #[.int .i64 v, .int .i64 x]) ∧ w' = w))
    (w : World) :
    Calls Tryd.prog 23 #[.agg #[.int .i64 xn, .int .i64 xs], .agg #[.int .i64 yn, .int .i64 ys]] w fun e w' => e = .returned (.tuple #[.agg #[.int .i64 (ofN v x), .int .i64 (ofS c x)], .int .i64 x]) ∧ Below w.heap.size w w' := by
  have H3 : Hid (∀ w : World, Calls Tryd.prog 60 #[.int .i64 v, .int .i64 c, .int .i64 x] w fun e w' => e = .returned (.tuple #[.agg #[.int .i64 (ofN v x), .int .i64 (ofS c x)], .int .i64 x]) ∧ Below w.heap.size w w') := of_any v c x
  have F := Three.new w xn xs yn ys
  have HB : Hid (Below w.heap.size w (lv3 w xn xs yn ys)) := lv3_below _ _ _ _ _
  go_enter Tryd.func23, Tryd.ntmps23
  go_wp2_with fail
  refine (H1.out _).mono ?_
  rintro e w1 ⟨rfl, hb⟩
  have F1 := F.below hb
  obtain ⟨⟨x1, x2, x3, x4, x5⟩, ⟨y1, y2, y3, y4, y5⟩, _⟩ := id F1
  have HB1 : Hid (Below w.heap.size w w1) := HB.out.trans (hb.mono HB.out.size)
  clear F HB hb
  go_wp2_with fail
  refine (H2.out _).mono ?_
  rintro e w2 ⟨rfl, rfl⟩
  go_wp2_with fail
  refine (H3.out _).mono ?_
  rintro e w3 ⟨rfl, hb⟩
  obtain ⟨z1, z2, z3, z4, z5⟩ := ((F1.2.2.other (c := w.heap.size) (by omega) _ _).other (c := w.heap.size + 1) (by omega) _ _).below hb (by simp [World.setCell]; exact F1.2.2.1)
  have HB3 : Hid (Below w.heap.size w w3) := ((((HB1.out.setCell (by simp) _).setCell (by simp) _).setCell (by simp) _).setCell (by simp) _).trans (hb.mono (by have := HB1.out.size; simpa [World.setCell] using this))
  clear F1 HB1 hb x2 x3 x4 x5 y2 y3 y4 y5
  go_wp2_with fail
  exact bodyPost_ret (v := .tuple #[.agg #[.int .i64 (ofN v x), .int .i64 (ofS c x)], .int .i64 x]) (by simp [results, Tryd.results23, go_sem, z2, z3]) rfl ⟨rfl, (HB3.out.setCell (by simp; omega) _).setCell (by simp; omega) _⟩

/-- dec.Add, whatever it is given. -/
theorem dadd_any (xn xs yn ys : Int) (x1 : -9223372036854775808 ≤ xn) (x2 : xn ≤ 9223372036854775807) (y1 : -9223372036854775808 ≤ yn) (y2 : yn ≤ 9223372036854775807) (w : World) :
    Calls Tryd.prog 23 #[.agg #[.int .i64 xn, .int .i64 xs], .agg #[.int .i64 yn, .int .i64 ys]] w fun e w' => e = .returned (.tuple #[.agg #[.int .i64 (ofN (la xn xs yn ys + lb xn xs yn ys) (addE xn xs yn ys)), .int .i64 (ofN (max xs ys) (addE xn xs yn ys))], .int .i64 (addE xn xs yn ys)]) ∧ Below w.heap.size w w' := by
  have L := level_any xn xs yn ys x1 x2 y1 y2
  by_cases h : levE xn xs yn ys = 0
  · have e : addE xn xs yn ys = smE (la xn xs yn ys + lb xn xs yn ys) := if_pos h
    rw [h] at L
    have hh := h
    unfold levE at hh
    have ab : smE (la xn xs yn ys) = 0 ∧ smE (lb xn xs yn ys) = 0 := by
      split at hh
      · split at hh
        · assumption
        · exact absurd hh (by decide)
      · exact absurd hh (by decide)
    obtain ⟨⟨a1, a2⟩, _⟩ := sm_ok ab.1
    obtain ⟨⟨b1, b2⟩, _⟩ := sm_ok ab.2
    have R := dadd_ok xn xs yn ys _ _ _ _ _ L (add_any _ _ a1 a2 b1 b2) w
    rw [sm_of] at R
    rw [e]
    exact R
  · have e : addE xn xs yn ys = levE xn xs yn ys := if_neg h
    rw [e, (of_err h _ 0).1, (of_err h _ 0).1]
    rw [(of_err h _ 0).1, (of_err h _ 0).1, (of_err h _ 0).1] at L
    exact dadd_err xn xs yn ys _ h L w

/-- its error. -/
def subE (xn xs yn ys : Int) : Int := if levE xn xs yn ys = 0 then smE (la xn xs yn ys - lb xn xs yn ys) else levE xn xs yn ys

set_option maxRecDepth 100000 in
set_option maxHeartbeats 1000000 in
theorem dsub_err (xn xs yn ys x : Int) (hx : x ≠ 0)
    (H1 : Hid (∀ w : World, Calls Tryd.prog 58 #[.agg #[.int .i64 xn, .int .i64 xs], .agg #[.int .i64 yn, .int .i64 ys]] w fun e w' => e = .returned (.tuple #[d0, d0, .int .i64 x]) ∧ Below w.heap.size w w'))
    (w : World) :
    Calls Tryd.prog 26 #[.agg #[.int .i64 xn, .int .i64 xs], .agg #[.int .i64 yn, .int .i64 ys]] w fun e w' => e = .returned (.tuple #[d0, .int .i64 x]) ∧ Below w.heap.size w w' := by
  have hx' : (x != 0) = true := by rw [bne_iff_ne]; exact hx
  have F := Three.new w xn xs yn ys
  have HB : Hid (Below w.heap.size w (lv3 w xn xs yn ys)) := lv3_below _ _ _ _ _
  go_enter Tryd.func26, Tryd.ntmps26
  go_wp2_with fail
  refine (H1.out _).mono ?_
  rintro e w1 ⟨rfl, hb⟩
  obtain ⟨⟨x1, x2, x3, x4, x5⟩, ⟨y1, y2, y3, y4, y5⟩, ⟨z1, z2, z3, z4, z5⟩⟩ := F.below hb
  have HB1 : Hid (Below w.heap.size w w1) := HB.out.trans (hb.mono HB.out.size)
  clear F HB hb
  go_wp2_with fail
  exact bodyPost_ret (v := .tuple #[d0, .int .i64 x]) (by simp [results, Tryd.results26, go_sem, z2, z3]) rfl ⟨rfl, (((((HB1.out.setCell (by simp) _).setCell (by simp) _).setCell (by simp) _).setCell (by simp) _).setCell (by simp; omega) _).setCell (by simp; omega) _⟩

set_option maxRecDepth 100000 in
set_option maxHeartbeats 1000000 in
theorem dsub_ok (xn xs yn ys a b c v x : Int)
    (H1 : Hid (∀ w : World, Calls Tryd.prog 58 #[.agg #[.int .i64 xn, .int .i64 xs], .agg #[.int .i64 yn, .int .i64 ys]] w fun e w' => e = .returned (.tuple #[.agg #[.int .i64 a, .int .i64 c], .agg #[.int .i64 b, .int .i64 c], .int .i64 0]) ∧ Below w.heap.size w w'))
    (H2 : Hid (∀ w : World, Calls Tryd.prog 62 #[.int .i64 a, .int .i64 b] w fun e w' => e = .returned (.tuple #[.int .i64 v, .int .i64 x]) ∧ w' = w))
    (w : World) :
    Calls Tryd.prog 26 #[.agg #[.int .i64 xn, .int .i64 xs], .agg #[.int .i64 yn, .int .i64 ys]] w fun e w' => e = .returned (.tuple #[.agg #[.int .i64 (ofN v x), .int .i64 (ofS c x)], .int .i64 x]) ∧ Below w.heap.size w w' := by
  have H3 : Hid (∀ w : World, Calls Tryd.prog 60 #[.int .i64 v, .int .i64 c, .int .i64 x] w fun e w' => e = .returned (.tuple #[.agg #[.int .i64 (ofN v x), .int .i64 (ofS c x)], .int .i64 x]) ∧ Below w.heap.size w w') := of_any v c x
  have F := Three.new w xn xs yn ys
  have HB : Hid (Below w.heap.size w (lv3 w xn xs yn ys)) := lv3_below _ _ _ _ _
  go_enter Tryd.func26, Tryd.ntmps26
  go_wp2_with fail
  refine (H1.out _).mono ?_
  rintro e w1 ⟨rfl, hb⟩
  have F1 := F.below hb
  obtain ⟨⟨x1, x2, x3, x4, x5⟩, ⟨y1, y2, y3, y4, y5⟩, _⟩ := id F1
  have HB1 : Hid (Below w.heap.size w w1) := HB.out.trans (hb.mono HB.out.size)
  clear F HB hb
  go_wp2_with fail
  refine (H2.out _).mono ?_
  rintro e w2 ⟨rfl, rfl⟩
  go_wp2_with fail
  refine (H3.out _).mono ?_
  rintro e w3 ⟨rfl, hb⟩
  obtain ⟨z1, z2, z3, z4, z5⟩ := ((F1.2.2.other (c := w.heap.size) (by omega) _ _).other (c := w.heap.size + 1) (by omega) _ _).below hb (by simp [World.setCell]; exact F1.2.2.1)
  have HB3 : Hid (Below w.heap.size w w3) := ((((HB1.out.setCell (by simp) _).setCell (by simp) _).setCell (by simp) _).setCell (by simp) _).trans (hb.mono (by have := HB1.out.size; simpa [World.setCell] using this))
  clear F1 HB1 hb x2 x3 x4 x5 y2 y3 y4 y5
  go_wp2_with fail
  exact bodyPost_ret (v := .tuple #[.agg #[.int .i64 (ofN v x), .int .i64 (ofS c x)], .int .i64 x]) (by simp [results, Tryd.results26, go_sem, z2, z3]) rfl ⟨rfl, (HB3.out.setCell (by simp; omega) _).setCell (by simp; omega) _⟩

/-- dec.Sub, whatever it is given. -/
theorem dsub_any (xn xs yn ys : Int) (x1 : -9223372036854775808 ≤ xn) (x2 : xn ≤ 9223372036854775807) (y1 : -9223372036854775808 ≤ yn) (y2 : yn ≤ 9223372036854775807) (w : World) :
    Calls Tryd.prog 26 #[.agg #[.int .i64 xn, .int .i64 xs], .agg #[.int .i64 yn, .int .i64 ys]] w fun e w' => e = .returned (.tuple #[.agg #[.int .i64 (ofN (la xn xs yn ys - lb xn xs yn ys) (subE xn xs yn ys)), .int .i64 (ofN (max xs ys) (subE xn xs yn ys))], .int .i64 (subE xn xs yn ys)]) ∧ Below w.heap.size w w' := by
  have L := level_any xn xs yn ys x1 x2 y1 y2
  by_cases h : levE xn xs yn ys = 0
  · have e : subE xn xs yn ys = smE (la xn xs yn ys - lb xn xs yn ys) := if_pos h
    rw [h] at L
    have hh := h
    unfold levE at hh
    have ab : smE (la xn xs yn ys) = 0 ∧ smE (lb xn xs yn ys) = 0 := by
      split at hh
      · split at hh
        · assumption
        · exact absurd hh (by decide)
      · exact absurd hh (by decide)
    obtain ⟨⟨a1, a2⟩, _⟩ := sm_ok ab.1
    obtain ⟨⟨b1, b2⟩, _⟩ := sm_ok ab.2
    have R := dsub_ok xn xs yn ys _ _ _ _ _ L (sub_any _ _ a1 a2 b1 b2) w
    rw [sm_of] at R
    rw [e]
    exact R
  · have e : subE xn xs yn ys = levE xn xs yn ys := if_neg h
    rw [e, (of_err h _ 0).1, (of_err h _ 0).1]
    rw [(of_err h _ 0).1, (of_err h _ 0).1, (of_err h _ 0).1] at L
    exact dsub_err xn xs yn ys _ h L w

end Go.Proofs.YtlhlanekklonmaaDoor
