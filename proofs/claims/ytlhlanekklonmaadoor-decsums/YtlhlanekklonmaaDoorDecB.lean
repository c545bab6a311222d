/- Contracts of dec.level, dec.Add, dec.Sub, dec.Mul, dec.Cmp: sums, differences, products, order. -/
import Derived.Test.YtlhlanekklonmaaDoorDecA
import Derived.BigRegion
namespace Go.Proofs.YtlhlanekklonmaaDoor
open Go.RowKit
set_option linter.unusedVariables false

/-- no number, and an error. -/
abbrev d0 : Value := .agg #[.int .i64 0, .int .i64 0]

set_option maxRecDepth 100000 in
set_option maxHeartbeats 1000000 in
theorem level_bad1 (xn xs yn ys : Int) (h : rt xs = false) (w : World) :
    Calls Tryd.prog 58 #[.agg #[.int .i64 xn, .int .i64 xs], .agg #[.int .i64 yn, .int .i64 ys]] w fun e w' => e = .returned (.tuple #[d0, d0, .int .i64 1]) ∧ Below w.heap.size w w' := by
  have K0 : Box ((((w.alloc (dbox xn xs)).alloc (dbox yn ys)).alloc (dbox 0 0)).alloc (dbox 0 0)) (w.heap.size + 1 + 1) 0 0 := by have := (Box.new ((w.alloc (dbox xn xs)).alloc (dbox yn ys)) 0 0).alloc (dbox 0 0); simpa using this
  have K1 : Box ((((w.alloc (dbox xn xs)).alloc (dbox yn ys)).alloc (dbox 0 0)).alloc (dbox 0 0)) (w.heap.size + 1 + 1 + 1) 0 0 := by have := (Box.new (((w.alloc (dbox xn xs)).alloc (dbox yn ys)).alloc (dbox 0 0)) 0 0); simpa using this
  have HB : Hid (Below w.heap.size w ((((w.alloc (dbox xn xs)).alloc (dbox yn ys)).alloc (dbox 0 0)).alloc (dbox 0 0))) := (by repeat' (first | assumption | exact Below.refl _ _ | exact Nat.le_refl _ | refine Below.alloc ?_ ?_ _ | (simp; done) | (simp; omega) | omega))
  go_enter Tryd.func58, Tryd.ntmps58
  go_wp2_with fail
  refine (dright_no _ _ h _).mono ?_
  rintro e w1 ⟨rfl, hb⟩
  obtain ⟨q1, q2, q3, q4, q5⟩ := K0.below hb K0.1
  obtain ⟨r1, r2, r3, r4, r5⟩ := K1.below hb K1.1
  have HB1 : Hid (Below w.heap.size w w1) := HB.out.trans (hb.mono HB.out.size)
  clear K0 K1 HB hb
  go_wp2_with fail
  exact bodyPost_ret (v := .tuple #[d0, d0, .int .i64 1]) (by simp [results, Tryd.results58, go_sem, q2, q3, r2, r3]) rfl ⟨rfl, (((HB1.out.setCell (by simp; omega) _).setCell (by simp; omega) _).setCell (by simp; omega) _).setCell (by simp; omega) _⟩

set_option maxRecDepth 100000 in
set_option maxHeartbeats 1000000 in
theorem level_bad2 (xn xs yn ys : Int) (h0 : rt xs = true) (h : rt ys = false) (w : World) :
    Calls Tryd.prog 58 #[.agg #[.int .i64 xn, .int .i64 xs], .agg #[.int .i64 yn, .int .i64 ys]] w fun e w' => e = .returned (.tuple #[d0, d0, .int .i64 1]) ∧ Below w.heap.size w w' := by
  have KY : Box ((((w.alloc (dbox xn xs)).alloc (dbox yn ys)).alloc (dbox 0 0)).alloc (dbox 0 0)) (w.heap.size + 1) yn ys := by have := ((Box.new (w.alloc (dbox xn xs)) yn ys).alloc (dbox 0 0)).alloc (dbox 0 0); simpa using this
  have K0 : Box ((((w.alloc (dbox xn xs)).alloc (dbox yn ys)).alloc (dbox 0 0)).alloc (dbox 0 0)) (w.heap.size + 1 + 1) 0 0 := by have := (Box.new ((w.alloc (dbox xn xs)).alloc (dbox yn ys)) 0 0).alloc (dbox 0 0); simpa using this
  have K1 : Box ((((w.alloc (dbox xn xs)).alloc (dbox yn ys)).alloc (dbox 0 0)).alloc (dbox 0 0)) (w.heap.size + 1 + 1 + 1) 0 0 := by have := (Box.new (((w.alloc (dbox xn xs)).alloc (dbox yn ys)).alloc (dbox 0 0)) 0 0); simpa using this
  have HB : Hid (Below w.heap.size w ((((w.alloc (dbox xn xs)).alloc (dbox yn ys)).alloc (dbox 0 0)).alloc (dbox 0 0))) := (by repeat' (first | assumption | exact Below.refl _ _ | exact Nat.le_refl _ | refine Below.alloc ?_ ?_ _ | (simp; done) | (simp; omega) | omega))
  go_enter Tryd.func58, Tryd.ntmps58
  go_wp2_with fail
  refine (dright_yes _ _ h0 _).mono ?_
  rintro e w1 ⟨rfl, hb⟩
  obtain ⟨y1, y2, y3, y4, y5⟩ := KY.below hb KY.1
  have K0' := K0.below hb K0.1
  have K1' := K1.below hb K1.1
  have HB1 : Hid (Below w.heap.size w w1) := HB.out.trans (hb.mono HB.out.size)
  clear K0 K1 HB hb KY
  go_wp2_with fail
  refine (dright_no _ _ h _).mono ?_
  rintro e w2 ⟨rfl, hb⟩
  obtain ⟨q1, q2, q3, q4, q5⟩ := K0'.below hb K0'.1
  obtain ⟨r1, r2, r3, r4, r5⟩ := K1'.below hb K1'.1
  have HB2 : Hid (Below w.heap.size w w2) := HB1.out.trans (hb.mono HB1.out.size)
  clear K0' K1' HB1 hb y2 y3 y4 y5
  go_wp2_with fail
  exact bodyPost_ret (v := .tuple #[d0, d0, .int .i64 1]) (by simp [results, Tryd.results58, go_sem, q2, q3, r2, r3]) rfl ⟨rfl, (((HB2.out.setCell (by simp; omega) _).setCell (by simp; omega) _).setCell (by simp; omega) _).setCell (by simp; omega) _⟩

/-- the four blocks of dec.level. -/
abbrev lv4 (w : World) (xn xs yn ys : Int) : World := (((w.alloc (dbox xn xs)).alloc (dbox yn ys)).alloc (dbox 0 0)).alloc (dbox 0 0)
def Four (w : World) (B : Nat) (xn xs yn ys : Int) : Prop := Box w B xn xs ∧ Box w (B + 1) yn ys ∧ Box w (B + 1 + 1) 0 0 ∧ Box w (B + 1 + 1 + 1) 0 0
theorem Four.new (w : World) (xn xs yn ys : Int) : Four (lv4 w xn xs yn ys) w.heap.size xn xs yn ys :=
  ⟨by have := (((Box.new w xn xs).alloc (dbox yn ys)).alloc (dbox 0 0)).alloc (dbox 0 0); simpa using this,
   by have := ((Box.new (w.alloc (dbox xn xs)) yn ys).alloc (dbox 0 0)).alloc (dbox 0 0); simpa using this,
   by have := (Box.new ((w.alloc (dbox xn xs)).alloc (dbox yn ys)) 0 0).alloc (dbox 0 0); simpa using this,
   by have := Box.new (((w.alloc (dbox xn xs)).alloc (dbox yn ys)).alloc (dbox 0 0)) 0 0; simpa using this⟩
theorem Four.below {w w1 : World} {B : Nat} {xn xs yn ys : Int} (h : Four w B xn xs yn ys) (hb : Below w.heap.size w w1) : Four w1 B xn xs yn ys :=
  ⟨h.1.below hb h.1.1, h.2.1.below hb h.2.1.1, h.2.2.1.below hb h.2.2.1.1, h.2.2.2.below hb h.2.2.2.1⟩
theorem Four.alloc {w : World} {B : Nat} {xn xs yn ys : Int} (h : Four w B xn xs yn ys) (o : Obj) : Four (w.alloc o) B xn xs yn ys :=
  ⟨h.1.alloc o, h.2.1.alloc o, h.2.2.1.alloc o, h.2.2.2.alloc o⟩
theorem gen_world {P : Program} {c : Code} {Q : Exit → Act → World → Prop} {a : Act} {w1 : World} (S : World → Prop) (h : S w1) (k : ∀ w2, S w2 → Code.wp P c Q a w2) : Code.wp P c Q a w1 := k _ h
theorem keep2 {w1 : World} {N M : Nat} (h : M ≠ N) (x y : Value) (o : Nat) : ((w1.setCell ⟨M, 0, none⟩ x).setCell ⟨M, 1, none⟩ y).cell? ⟨N, o, none⟩ = w1.cell? ⟨N, o, none⟩ :=
  (World.cell?_setCell_other _ _ _ _ (fun e => h (by cases e; rfl))).trans (World.cell?_setCell_other _ _ _ _ (fun e => h (by cases e; rfl)))
theorem lv4_below (w : World) (xn xs yn ys : Int) : Below w.heap.size w (lv4 w xn xs yn ys) := (by repeat' (first | assumption | exact Below.refl _ _ | exact Nat.le_refl _ | refine Below.alloc ?_ ?_ _ | (simp; done) | (simp; omega) | omega))

set_option maxRecDepth 100000 in
set_option maxHeartbeats 1000000 in
theorem level_ok (xn xs yn ys a b : Int) (rx : rt xs = true) (ry : rt ys = true)
    (H1 : Hid (∀ w : World, Calls Tryd.prog 71 #[.agg #[.int .i64 xn, .int .i64 xs], .int .i64 (max xs ys)] w fun e w' => e = .returned (.tuple #[.agg #[.int .i64 a, .int .i64 (max xs ys)], .int .i64 0]) ∧ Below w.heap.size w w'))
    (H2 : Hid (∀ w : World, Calls Tryd.prog 71 #[.agg #[.int .i64 yn, .int .i64 ys], .int .i64 (max xs ys)] w fun e w' => e = .returned (.tuple #[.agg #[.int .i64 b, .int .i64 (max xs ys)], .int .i64 0]) ∧ Below w.heap.size w w'))
    (w : World) :
    Calls Tryd.prog 58 #[.agg #[.int .i64 xn, .int .i64 xs], .agg #[.int .i64 yn, .int .i64 ys]] w fun e w' => e = .returned (.tuple #[.agg #[.int .i64 a, .int .i64 (max xs ys)], .agg #[.int .i64 b, .int .i64 (max xs ys)], .int .i64 0]) ∧ Below w.heap.size w w' := by
  have F := Four.new w xn xs yn ys
  have HB : Hid (Below w.heap.size w (lv4 w xn xs yn ys)) := lv4_below _ _ _ _ _
  go_enter Tryd.func58, Tryd.ntmps58
  go_wp2_with fail
  refine (dright_yes _ _ rx _).mono ?_
  rintro e w1 ⟨rfl, hb⟩
  have F1 := F.below hb
  have HB1 : Hid (Below w.heap.size w w1) := HB.out.trans (hb.mono HB.out.size)
  clear F HB hb
  obtain ⟨⟨x1, x2, x3, x4, x5⟩, ⟨y1, y2, y3, y4, y5⟩, _⟩ := id F1
  go_wp2_with fail
  refine (dright_yes _ _ ry _).mono ?_
  rintro e w2 ⟨rfl, hb⟩
  have F2 := F1.below hb
  have HB2 : Hid (Below w.heap.size w w2) := HB1.out.trans (hb.mono HB1.out.size)
  clear F1 HB1 hb x1 x2 x3 x4 x5 y1 y2 y3 y4 y5
  obtain ⟨⟨x1, x2, x3, x4, x5⟩, ⟨y1, y2, y3, y4, y5⟩, _⟩ := id F2
  go_wp2_with fail
  refine (H1.out _).mono ?_
  rintro e w3 ⟨rfl, hb⟩
  have F3 := F2.below hb
  have HB3 : Hid (Below w.heap.size w w3) := HB2.out.trans (hb.mono HB2.out.size)
  clear F2 HB2 hb x1 x2 x3 x4 x5 y1 y2 y3 y4 y5
  have y2 : ∀ o, (w3.alloc o).cell? ⟨w.heap.size + 1, 0, none⟩ = some (.int .i64 yn) := fun o => (F3.alloc o).2.1.2.1
  have y3 : ∀ o, (w3.alloc o).cell? ⟨w.heap.size + 1, 1, none⟩ = some (.int .i64 ys) := fun o => (F3.alloc o).2.1.2.2.1
  generalize hcm : max xs ys = c at *
  have HC0 : Hid (max xs ys = c) := hcm
  clear hcm
  go_wp2_with fail
  refine (H2.out _).mono ?_
  rintro e w4 ⟨rfl, hb⟩
  have F4 := (F3.alloc _).below hb
  have A4 := (Box.new w3 a c).below hb (by simp)
  have HB4 : Hid (Below w.heap.size w w4) := (HB3.out.alloc HB3.out.size _).trans (hb.mono (Nat.le_trans HB3.out.size (by simp)))
  have n1 : w.heap.size + 1 + 1 ≠ w3.heap.size := by have := F3.2.2.1.1; omega
  have n3 : w.heap.size + 1 + 1 + 1 ≠ w3.heap.size := by have := F3.2.2.2.1; omega
  clear F3 hb y2 y3
  have HA : Hid (Box (w4.alloc (dbox b c)) w3.heap.size a c) := A4.alloc _
  have HC : Hid (Box (w4.alloc (dbox b c)) w4.heap.size b c) := Box.new w4 b c
  have HF : Hid (Four (w4.alloc (dbox b c)) w.heap.size xn xs yn ys) := F4.alloc _
  have HD : Hid (Below w.heap.size w (w4.alloc (dbox b c))) := HB4.out.alloc HB4.out.size _
  have n2 : w.heap.size + 1 + 1 ≠ w4.heap.size := by have := F4.2.2.1.1; omega
  have n4 : w.heap.size + 1 + 1 + 1 ≠ w4.heap.size := by have := F4.2.2.2.1; omega
  clear F4 A4 HB4 HB3
  go_wp2_with fail
  refine gen_world (fun W => Box W w3.heap.size a c ∧ Box W w4.heap.size b c ∧ Four W w.heap.size xn xs yn ys ∧ Below w.heap.size w W) ⟨HA.out, HC.out, HF.out, HD.out⟩ ?_
  clear HA HC HF HD
  rintro W ⟨⟨_, a2, a3, _, _⟩, ⟨_, b2, b3, _, _⟩, ⟨_, _, ⟨_, p2, p3, p4, p5⟩, ⟨_, q2, q3, q4, q5⟩⟩, hD⟩
  have HD : Hid (Below w.heap.size w W.drew) := hD.drew
  clear hD
  refine wp_region_held_drew (S := (fun w' => w'.cell? ⟨w3.heap.size, 0, none⟩ = some (.int .i64 a) ∧ w'.cell? ⟨w3.heap.size, 1, none⟩ = some (.int .i64 c) ∧ w'.cell? ⟨w4.heap.size, 0, none⟩ = some (.int .i64 b) ∧ w'.cell? ⟨w4.heap.size, 1, none⟩ = some (.int .i64 c))) (by kernel_rfl) ⟨a2, a3, b2, b3⟩ (fun hHeld => ?_)
  refine wpAnyH_take (i := 0) (v := ?_) rfl (by kernel_rfl) (by kernel_rfl) (by kernel_rfl) (fun _ _ _ h => h) (Or.inl ⟨by kernel_rfl, ?_⟩) (by assumption) ?_
  case refine_2 => (intro w9 hSw; (try dsimp only at hSw); obtain ⟨s0, s1, s2, s3⟩ := hSw; go_simp; try with_reducible rfl)
  refine wpAnyH_take (i := 1) (v := ?_) rfl (by kernel_rfl) (by kernel_rfl) (by kernel_rfl) (fun _ _ _ h => h) (Or.inl ⟨by kernel_rfl, ?_⟩) (by assumption) ?_
  case refine_2 => (intro w9 hSw; (try dsimp only at hSw); obtain ⟨s0, s1, s2, s3⟩ := hSw; go_simp; try with_reducible rfl)
  refine wpAnyH_ready (rs := [2]) (by kernel_rfl) (by simp) (AllReadyH.cons (o := { dst := none, op := _, type := _, pos := _, after := _, guard := none }) rfl (fun K hK => ?_) AllReadyH.nil)
  go_simp
  refine hK.out _ _ ⟨(keep2 n1 _ _ _).trans a2, (keep2 n1 _ _ _).trans a3, (keep2 n2 _ _ _).trans b2, (keep2 n2 _ _ _).trans b3⟩ (fun hHeld => ?_)
  clear hK K
  refine wpAnyH_ready (rs := [3]) (by kernel_rfl) (by simp) (AllReadyH.cons (o := { dst := none, op := _, type := _, pos := _, after := _, guard := none }) rfl (fun K hK => ?_) AllReadyH.nil)
  go_simp
  refine hK.out _ _ ⟨(keep2 n3 _ _ _).trans ((keep2 n1 _ _ _).trans a2), (keep2 n3 _ _ _).trans ((keep2 n1 _ _ _).trans a3), (keep2 n4 _ _ _).trans ((keep2 n2 _ _ _).trans b2), (keep2 n4 _ _ _).trans ((keep2 n2 _ _ _).trans b3)⟩ (fun hHeld => ?_)
  clear hK K
  refine wpAnyH_take (i := 4) (v := ?_) rfl (by kernel_rfl) (by kernel_rfl) (by kernel_rfl) (fun _ _ _ h => h) (Or.inl ⟨by kernel_rfl, ?_⟩) (by assumption) ?_
  case refine_2 => (intro w9 hSw; (try dsimp only at hSw); obtain ⟨s0, s1, s2, s3⟩ := hSw; go_simp; try with_reducible rfl)
  refine wpAnyH_done (by kernel_rfl) ?_ _
  go_wp2
  exact bodyPost_ret (v := .tuple #[.agg #[.int .i64 a, .int .i64 c], .agg #[.int .i64 b, .int .i64 c], .int .i64 0]) (by simp [results, Tryd.results58, go_sem, p2, p3, q2, q3]) rfl ⟨by rw [HC0.out], (((HD.out.setCell (by simp; omega) _).setCell (by simp; omega) _).setCell (by simp; omega) _).setCell (by simp; omega) _⟩

set_option maxRecDepth 100000 in
set_option maxHeartbeats 1000000 in
theorem level_e1 (xn xs yn ys a b : Int) (rx : rt xs = true) (ry : rt ys = true)
    (H1 : Hid (∀ w : World, Calls Tryd.prog 71 #[.agg #[.int .i64 xn, .int .i64 xs], .int .i64 (max xs ys)] w fun e w' => e = .returned (.tuple #[d0, .int .i64 10]) ∧ Below w.heap.size w w'))
    (w : World) :
    Calls Tryd.prog 58 #[.agg #[.int .i64 xn, .int .i64 xs], .agg #[.int .i64 yn, .int .i64 ys]] w fun e w' => e = .returned (.tuple #[d0, d0, .int .i64 10]) ∧ Below w.heap.size w w' := by
  have F := Four.new w xn xs yn ys
  have HB : Hid (Below w.heap.size w (lv4 w xn xs yn ys)) := lv4_below _ _ _ _ _
  go_enter Tryd.func58, Tryd.ntmps58
  go_wp2_with fail
  refine (dright_yes _ _ rx _).mono ?_
  rintro e w1 ⟨rfl, hb⟩
  have F1 := F.below hb
  have HB1 : Hid (Below w.heap.size w w1) := HB.out.trans (hb.mono HB.out.size)
  clear F HB hb
  obtain ⟨⟨x1, x2, x3, x4, x5⟩, ⟨y1, y2, y3, y4, y5⟩, _⟩ := id F1
  go_wp2_with fail
  refine (dright_yes _ _ ry _).mono ?_
  rintro e w2 ⟨rfl, hb⟩
  have F2 := F1.below hb
  have HB2 : Hid (Below w.heap.size w w2) := HB1.out.trans (hb.mono HB1.out.size)
  clear F1 HB1 hb x1 x2 x3 x4 x5 y1 y2 y3 y4 y5
  obtain ⟨⟨x1, x2, x3, x4, x5⟩, ⟨y1, y2, y3, y4, y5⟩, _⟩ := id F2
  go_wp2_with fail
  refine (H1.out _).mono ?_
  rintro e w3 ⟨rfl, hb⟩
  have F3 := F2.below hb
  have HB3 : Hid (Below w.heap.size w w3) := HB2.out.trans (hb.mono HB2.out.size)
  clear F2 HB2 hb x1 x2 x3 x4 x5 y1 y2 y3 y4 y5
  obtain ⟨_, _, ⟨p1, p2, p3, p4, p5⟩, ⟨q1, q2, q3, q4, q5⟩⟩ := id F3
  have p2' : ∀ o, (w3.alloc o).cell? ⟨w.heap.size + 1 + 1, 0, none⟩ = some (.int .i64 0) := fun o => (F3.alloc o).2.2.1.2.1
  have p3' : ∀ o, (w3.alloc o).cell? ⟨w.heap.size + 1 + 1, 1, none⟩ = some (.int .i64 0) := fun o => (F3.alloc o).2.2.1.2.2.1
  have p4' : ∀ o, (w3.alloc o).frozen? ⟨w.heap.size + 1 + 1, 0, none⟩ = false := fun o => (F3.alloc o).2.2.1.2.2.2.1
  have p5' : ∀ o, (w3.alloc o).frozen? ⟨w.heap.size + 1 + 1, 1, none⟩ = false := fun o => (F3.alloc o).2.2.1.2.2.2.2
  have q2' : ∀ o, (w3.alloc o).cell? ⟨w.heap.size + 1 + 1 + 1, 0, none⟩ = some (.int .i64 0) := fun o => (F3.alloc o).2.2.2.2.1
  have q3' : ∀ o, (w3.alloc o).cell? ⟨w.heap.size + 1 + 1 + 1, 1, none⟩ = some (.int .i64 0) := fun o => (F3.alloc o).2.2.2.2.2.1
  have q4' : ∀ o, (w3.alloc o).frozen? ⟨w.heap.size + 1 + 1 + 1, 0, none⟩ = false := fun o => (F3.alloc o).2.2.2.2.2.2.1
  have q5' : ∀ o, (w3.alloc o).frozen? ⟨w.heap.size + 1 + 1 + 1, 1, none⟩ = false := fun o => (F3.alloc o).2.2.2.2.2.2.2
  go_wp2_with fail
  exact bodyPost_ret (v := .tuple #[d0, d0, .int .i64 10]) (by simp [results, Tryd.results58, go_sem, World.cell?_alloc_lt, p1, q1, p2, p3, q2, q3]) rfl ⟨rfl, ((((HB3.out.setCell (by simp; omega) _).setCell (by simp; omega) _).setCell (by simp; omega) _).setCell (by simp; omega) _).alloc (by have := HB3.out.size; simpa [World.setCell] using this) _⟩

set_option maxRecDepth 100000 in
set_option maxHeartbeats 1000000 in
theorem level_e2 (xn xs yn ys a : Int) (rx : rt xs = true) (ry : rt ys = true)
    (H1 : Hid (∀ w : World, Calls Tryd.prog 71 #[.agg #[.int .i64 xn, .int .i64 xs], .int .i64 (max xs ys)] w fun e w' => e = .returned (.tuple #[.agg #[.int .i64 a, .int .i64 (max xs ys)], .int .i64 0]) ∧ Below w.heap.size w w'))
    (H2 : Hid (∀ w : World, Calls Tryd.prog 71 #[.agg #[.int .i64 yn, .int .i64 ys], .int .i64 (max xs ys)] w fun e w' => e = .returned (.tuple #[d0, .int .i64 10]) ∧ Below w.heap.size w w'))
    (w : World) :
    Calls Tryd.prog 58 #[.agg #[.int .i64 xn, .int .i64 xs], .agg #[.int .i64 yn, .int .i64 ys]] w fun e w' => e = .returned (.tuple #[d0, d0, .int .i64 10]) ∧ Below w.heap.size w w' := by
  have F := Four.new w xn xs yn ys
  have HB : Hid (Below w.heap.size w (lv4 w xn xs yn ys)) := lv4_below _ _ _ _ _
  go_enter Tryd.func58, Tryd.ntmps58
  go_wp2_with fail
  refine (dright_yes _ _ rx _).mono ?_
  rintro e w1 ⟨rfl, hb⟩
  have F1 := F.below hb
  have HB1 : Hid (Below w.heap.size w w1) := HB.out.trans (hb.mono HB.out.size)
  clear F HB hb
  obtain ⟨⟨x1, x2, x3, x4, x5⟩, ⟨y1, y2, y3, y4, y5⟩, _⟩ := id F1
  go_wp2_with fail
  refine (dright_yes _ _ ry _).mono ?_
  rintro e w2 ⟨rfl, hb⟩
  have F2 := F1.below hb
  have HB2 : Hid (Below w.heap.size w w2) := HB1.out.trans (hb.mono HB1.out.size)
  clear F1 HB1 hb x1 x2 x3 x4 x5 y1 y2 y3 y4 y5
  obtain ⟨⟨x1, x2, x3, x4, x5⟩, ⟨y1, y2, y3, y4, y5⟩, _⟩ := id F2
  go_wp2_with fail
  refine (H1.out _).mono ?_
  rintro e w3 ⟨rfl, hb⟩
  have F3 := F2.below hb
  have HB3 : Hid (Below w.heap.size w w3) := HB2.out.trans (hb.mono HB2.out.size)
  clear F2 HB2 hb x1 x2 x3 x4 x5 y1 y2 y3 y4 y5
  have y2 : ∀ o, (w3.alloc o).cell? ⟨w.heap.size + 1, 0, none⟩ = some (.int .i64 yn) := fun o => (F3.alloc o).2.1.2.1
  have y3 : ∀ o, (w3.alloc o).cell? ⟨w.heap.size + 1, 1, none⟩ = some (.int .i64 ys) := fun o => (F3.alloc o).2.1.2.2.1
  generalize max xs ys = c at *
  go_wp2_with fail
  refine (H2.out _).mono ?_
  rintro e w4 ⟨rfl, hb⟩
  have F4 := (F3.alloc _).below hb
  have HB4 : Hid (Below w.heap.size w w4) := (HB3.out.alloc HB3.out.size _).trans (hb.mono (Nat.le_trans HB3.out.size (by simp)))
  clear F3 hb y2 y3 HB3
  obtain ⟨_, _, ⟨p1, p2, p3, p4, p5⟩, ⟨q1, q2, q3, q4, q5⟩⟩ := id F4
  have p2' : ∀ o, (w4.alloc o).cell? ⟨w.heap.size + 1 + 1, 0, none⟩ = some (.int .i64 0) := fun o => (F4.alloc o).2.2.1.2.1
  have p3' : ∀ o, (w4.alloc o).cell? ⟨w.heap.size + 1 + 1, 1, none⟩ = some (.int .i64 0) := fun o => (F4.alloc o).2.2.1.2.2.1
  have p4' : ∀ o, (w4.alloc o).frozen? ⟨w.heap.size + 1 + 1, 0, none⟩ = false := fun o => (F4.alloc o).2.2.1.2.2.2.1
  have p5' : ∀ o, (w4.alloc o).frozen? ⟨w.heap.size + 1 + 1, 1, none⟩ = false := fun o => (F4.alloc o).2.2.1.2.2.2.2
  have q2' : ∀ o, (w4.alloc o).cell? ⟨w.heap.size + 1 + 1 + 1, 0, none⟩ = some (.int .i64 0) := fun o => (F4.alloc o).2.2.2.2.1
  have q3' : ∀ o, (w4.alloc o).cell? ⟨w.heap.size + 1 + 1 + 1, 1, none⟩ = some (.int .i64 0) := fun o => (F4.alloc o).2.2.2.2.2.1
  have q4' : ∀ o, (w4.alloc o).frozen? ⟨w.heap.size + 1 + 1 + 1, 0, none⟩ = false := fun o => (F4.alloc o).2.2.2.2.2.2.1
  have q5' : ∀ o, (w4.alloc o).frozen? ⟨w.heap.size + 1 + 1 + 1, 1, none⟩ = false := fun o => (F4.alloc o).2.2.2.2.2.2.2
  go_wp2_with fail
  exact bodyPost_ret (v := .tuple #[d0, d0, .int .i64 10]) (by simp [results, Tryd.results58, go_sem, World.cell?_alloc_lt, p1, q1, p2, p3, q2, q3]) rfl ⟨rfl, ((((HB4.out.setCell (by simp; omega) _).setCell (by simp; omega) _).setCell (by simp; omega) _).setCell (by simp; omega) _).alloc (by have := HB4.out.size; simpa [World.setCell] using this) _⟩

end Go.Proofs.YtlhlanekklonmaaDoor
