/- The walk of FootOrder. -/
import Derived.Test.YthbcicjkmgoliaaDoorFtN
namespace Go.Proofs.YthbcicjkmgoliaaDoor
open Go.RowKit
set_option linter.unusedVariables false

/-- what is held: two rows of shifts. -/
def OS (w : World) (g g' : Nat) (l l' : List Value) (W : World) : Prop := Below w.heap.size w W ∧ Cvl.Lens W ∧ Clk.Tab W ∧ Bx W g l ∧ Bx W g' l'
theorem OS.below {w W V : World} {g g' : Nat} {l l' : List Value} (h : OS w g g' l l' W) (hb : Below W.heap.size W V) : OS w g g' l l' V :=
  ⟨h.1.trans (hb.mono h.1.size), bel_lens hb h.2.1, h.2.2.1.below hb, h.2.2.2.1.below hb, h.2.2.2.2.below hb⟩

set_option maxRecDepth 100000 in
set_option maxHeartbeats 8000000 in
theorem core_FootOrder0 (f : Ft) (y : Int) (er : Int) (he : er ≠ 0)
    (GV : Hid (∀ w : World, Calls Tryd.prog 10 #[.agg #[.bool f.h, .int .i64 f.fr, .int .i64 f.off, .int .i64 f.A.m, .int .i64 f.A.k, .int .i64 f.A.d, .int .i64 f.A.n, .int .i64 f.A.s, .int .u8 f.A.z, .int .i64 f.A.v, .string f.A.t, .int .i64 f.B.m, .int .i64 f.B.k, .int .i64 f.B.d, .int .i64 f.B.n, .int .i64 f.B.s, .int .u8 f.B.z, .int .i64 f.B.v, .string f.B.t]] w fun e w' => e = .returned (.agg #[.bool f.h, .int .i64 f.fr, .int .i64 f.off, .int .i64 f.A.m, .int .i64 f.A.k, .int .i64 f.A.d, .int .i64 f.A.n, .int .i64 f.A.s, .int .u8 f.A.z, .int .i64 f.A.v, .string f.A.t, .int .i64 f.B.m, .int .i64 f.B.k, .int .i64 f.B.d, .int .i64 f.B.n, .int .i64 f.B.s, .int .u8 f.B.z, .int .i64 f.B.v, .string f.B.t]) ∧ Below w.heap.size w w'))
    (YR : Hid (∀ w : World, Cvl.Lens w → Clk.Tab w → Calls Tryd.prog 9 #[.agg #[.bool f.h, .int .i64 f.fr, .int .i64 f.off, .int .i64 f.A.m, .int .i64 f.A.k, .int .i64 f.A.d, .int .i64 f.A.n, .int .i64 f.A.s, .int .u8 f.A.z, .int .i64 f.A.v, .string f.A.t, .int .i64 f.B.m, .int .i64 f.B.k, .int .i64 f.B.d, .int .i64 f.B.n, .int .i64 f.B.s, .int .u8 f.B.z, .int .i64 f.B.v, .string f.B.t], .int .i64 y] w fun e w' => e = .returned (.tuple #[.slice none 0 0, .int .i64 er]) ∧ Below w.heap.size w w'))
    (KN : Hid (∀ w : World, Cvl.Lens w → Clk.Tab w → Calls Tryd.prog 13 #[] w fun e w' => e = .returned (.bool true) ∧ Below w.heap.size w w'))
    (w : World) (hL0 : Hid (Cvl.Lens w)) (hT0 : Hid (Clk.Tab w)) :
    Calls Tryd.prog 7 #[.agg #[.bool f.h, .int .i64 f.fr, .int .i64 f.off, .int .i64 f.A.m, .int .i64 f.A.k, .int .i64 f.A.d, .int .i64 f.A.n, .int .i64 f.A.s, .int .u8 f.A.z, .int .i64 f.A.v, .string f.A.t, .int .i64 f.B.m, .int .i64 f.B.k, .int .i64 f.B.d, .int .i64 f.B.n, .int .i64 f.B.s, .int .u8 f.B.z, .int .i64 f.B.v, .string f.B.t], .int .i64 y] w fun e w' => e = .returned (.bool true) ∧ Below w.heap.size w w' := by
  have B0 : Hid (Below w.heap.size w (w.alloc (.cells #[.bool f.h, .int .i64 f.fr, .int .i64 f.off, .int .i64 f.A.m, .int .i64 f.A.k, .int .i64 f.A.d, .int .i64 f.A.n, .int .i64 f.A.s, .int .u8 f.A.z, .int .i64 f.A.v, .string f.A.t, .int .i64 f.B.m, .int .i64 f.B.k, .int .i64 f.B.d, .int .i64 f.B.n, .int .i64 f.B.s, .int .u8 f.B.z, .int .i64 f.B.v, .string f.B.t] 29))) := (Below.refl _ _).alloc (Nat.le_refl _) _
  have X0 : Hid (Bx (w.alloc (.cells #[.bool f.h, .int .i64 f.fr, .int .i64 f.off, .int .i64 f.A.m, .int .i64 f.A.k, .int .i64 f.A.d, .int .i64 f.A.n, .int .i64 f.A.s, .int .u8 f.A.z, .int .i64 f.A.v, .string f.A.t, .int .i64 f.B.m, .int .i64 f.B.k, .int .i64 f.B.d, .int .i64 f.B.n, .int .i64 f.B.s, .int .u8 f.B.z, .int .i64 f.B.v, .string f.B.t] 29)) w.heap.size [.bool f.h, .int .i64 f.fr, .int .i64 f.off, .int .i64 f.A.m, .int .i64 f.A.k, .int .i64 f.A.d, .int .i64 f.A.n, .int .i64 f.A.s, .int .u8 f.A.z, .int .i64 f.A.v, .string f.A.t, .int .i64 f.B.m, .int .i64 f.B.k, .int .i64 f.B.d, .int .i64 f.B.n, .int .i64 f.B.s, .int .u8 f.B.z, .int .i64 f.B.v, .string f.B.t]) := Bx.new w [.bool f.h, .int .i64 f.fr, .int .i64 f.off, .int .i64 f.A.m, .int .i64 f.A.k, .int .i64 f.A.d, .int .i64 f.A.n, .int .i64 f.A.s, .int .u8 f.A.z, .int .i64 f.A.v, .string f.A.t, .int .i64 f.B.m, .int .i64 f.B.k, .int .i64 f.B.d, .int .i64 f.B.n, .int .i64 f.B.s, .int .u8 f.B.z, .int .i64 f.B.v, .string f.B.t] _
  go_enter Tryd.func7, Tryd.ntmps7
  go_wp2_with (first | (refine wpList_load_mid rfl 29 _ rfl w.heap.size 0 rfl [.bool f.h, .int .i64 f.fr, .int .i64 f.off, .int .i64 f.A.m, .int .i64 f.A.k, .int .i64 f.A.d, .int .i64 f.A.n, .int .i64 f.A.s, .int .u8 f.A.z, .int .i64 f.A.v, .string f.A.t, .int .i64 f.B.m, .int .i64 f.B.k, .int .i64 f.B.d, .int .i64 f.B.n, .int .i64 f.B.s, .int .u8 f.B.z, .int .i64 f.B.v, .string f.B.t] _ X0.out.all Tryd.underlying29 rfl (by kernel_rfl) ?_) | fail)
  refine (GV.out _).mono ?_
  rintro e w1 ⟨rfl, hb⟩
  have B1 : Hid (Below w.heap.size w w1) := B0.out.trans (hb.mono B0.out.size)
  have X1 : Hid (Bx w1 w.heap.size [.bool f.h, .int .i64 f.fr, .int .i64 f.off, .int .i64 f.A.m, .int .i64 f.A.k, .int .i64 f.A.d, .int .i64 f.A.n, .int .i64 f.A.s, .int .u8 f.A.z, .int .i64 f.A.v, .string f.A.t, .int .i64 f.B.m, .int .i64 f.B.k, .int .i64 f.B.d, .int .i64 f.B.n, .int .i64 f.B.s, .int .u8 f.B.z, .int .i64 f.B.v, .string f.B.t]) := X0.out.below hb
  clear hb B0 X0
  go_wp2_with fail
  refine (YR.out _ (bel_lens B1.out hL0.out) (hT0.out.below B1.out)).mono ?_
  rintro e w2 ⟨rfl, hb⟩
  have B2 : Hid (Below w.heap.size w w2) := B1.out.trans (hb.mono B1.out.size)
  clear hb B1 X1 GV YR
  go_wp2_with fail
  refine (KN.out _ (bel_lens B2.out hL0.out) (hT0.out.below B2.out)).mono ?_
  rintro e w3 ⟨rfl, hb⟩
  have B3 : Hid (Below w.heap.size w w3) := B2.out.trans (hb.mono B2.out.size)
  clear hb B2
  go_wp2
  go_ret
  exact ⟨rfl, B3.out⟩

set_option maxRecDepth 100000 in
set_option maxHeartbeats 8000000 in
theorem core_FootOrder1 (f : Ft) (y : Int) (p q : Tr) (hy : 294281 ≤ y)
    (GV : Hid (∀ w : World, Calls Tryd.prog 10 #[.agg #[.bool f.h, .int .i64 f.fr, .int .i64 f.off, .int .i64 f.A.m, .int .i64 f.A.k, .int .i64 f.A.d, .int .i64 f.A.n, .int .i64 f.A.s, .int .u8 f.A.z, .int .i64 f.A.v, .string f.A.t, .int .i64 f.B.m, .int .i64 f.B.k, .int .i64 f.B.d, .int .i64 f.B.n, .int .i64 f.B.s, .int .u8 f.B.z, .int .i64 f.B.v, .string f.B.t]] w fun e w' => e = .returned (.agg #[.bool f.h, .int .i64 f.fr, .int .i64 f.off, .int .i64 f.A.m, .int .i64 f.A.k, .int .i64 f.A.d, .int .i64 f.A.n, .int .i64 f.A.s, .int .u8 f.A.z, .int .i64 f.A.v, .string f.A.t, .int .i64 f.B.m, .int .i64 f.B.k, .int .i64 f.B.d, .int .i64 f.B.n, .int .i64 f.B.s, .int .u8 f.B.z, .int .i64 f.B.v, .string f.B.t]) ∧ Below w.heap.size w w'))
    (YR : Hid (∀ w : World, Cvl.Lens w → Clk.Tab w → Calls Tryd.prog 9 #[.agg #[.bool f.h, .int .i64 f.fr, .int .i64 f.off, .int .i64 f.A.m, .int .i64 f.A.k, .int .i64 f.A.d, .int .i64 f.A.n, .int .i64 f.A.s, .int .u8 f.A.z, .int .i64 f.A.v, .string f.A.t, .int .i64 f.B.m, .int .i64 f.B.k, .int .i64 f.B.d, .int .i64 f.B.n, .int .i64 f.B.s, .int .u8 f.B.z, .int .i64 f.B.v, .string f.B.t], .int .i64 y] w fun e w' => ∃ g cap, e = .returned (.tuple #[.slice (some ⟨g, 0, none⟩) 2 cap, .int .i64 0]) ∧ Bx w' g [.int .i64 p.t, .int .i64 p.o, .bool p.d, .string p.a, .int .i64 q.t, .int .i64 q.o, .bool q.d, .string q.a] ∧ Below w.heap.size w w'))
    (KN : Hid (∀ w : World, Cvl.Lens w → Clk.Tab w → Calls Tryd.prog 13 #[] w fun e w' => e = .returned (.bool true) ∧ Below w.heap.size w w'))
    (w : World) (hL0 : Hid (Cvl.Lens w)) (hT0 : Hid (Clk.Tab w)) :
    Calls Tryd.prog 7 #[.agg #[.bool f.h, .int .i64 f.fr, .int .i64 f.off, .int .i64 f.A.m, .int .i64 f.A.k, .int .i64 f.A.d, .int .i64 f.A.n, .int .i64 f.A.s, .int .u8 f.A.z, .int .i64 f.A.v, .string f.A.t, .int .i64 f.B.m, .int .i64 f.B.k, .int .i64 f.B.d, .int .i64 f.B.n, .int .i64 f.B.s, .int .u8 f.B.z, .int .i64 f.B.v, .string f.B.t], .int .i64 y] w fun e w' => e = .returned (.bool true) ∧ Below w.heap.size w w' := by
  have B0 : Hid (Below w.heap.size w (w.alloc (.cells #[.bool f.h, .int .i64 f.fr, .int .i64 f.off, .int .i64 f.A.m, .int .i64 f.A.k, .int .i64 f.A.d, .int .i64 f.A.n, .int .i64 f.A.s, .int .u8 f.A.z, .int .i64 f.A.v, .string f.A.t, .int .i64 f.B.m, .int .i64 f.B.k, .int .i64 f.B.d, .int .i64 f.B.n, .int .i64 f.B.s, .int .u8 f.B.z, .int .i64 f.B.v, .string f.B.t] 29))) := (Below.refl _ _).alloc (Nat.le_refl _) _
  have X0 : Hid (Bx (w.alloc (.cells #[.bool f.h, .int .i64 f.fr, .int .i64 f.off, .int .i64 f.A.m, .int .i64 f.A.k, .int .i64 f.A.d, .int .i64 f.A.n, .int .i64 f.A.s, .int .u8 f.A.z, .int .i64 f.A.v, .string f.A.t, .int .i64 f.B.m, .int .i64 f.B.k, .int .i64 f.B.d, .int .i64 f.B.n, .int .i64 f.B.s, .int .u8 f.B.z, .int .i64 f.B.v, .string f.B.t] 29)) w.heap.size [.bool f.h, .int .i64 f.fr, .int .i64 f.off, .int .i64 f.A.m, .int .i64 f.A.k, .int .i64 f.A.d, .int .i64 f.A.n, .int .i64 f.A.s, .int .u8 f.A.z, .int .i64 f.A.v, .string f.A.t, .int .i64 f.B.m, .int .i64 f.B.k, .int .i64 f.B.d, .int .i64 f.B.n, .int .i64 f.B.s, .int .u8 f.B.z, .int .i64 f.B.v, .string f.B.t]) := Bx.new w [.bool f.h, .int .i64 f.fr, .int .i64 f.off, .int .i64 f.A.m, .int .i64 f.A.k, .int .i64 f.A.d, .int .i64 f.A.n, .int .i64 f.A.s, .int .u8 f.A.z, .int .i64 f.A.v, .string f.A.t, .int .i64 f.B.m, .int .i64 f.B.k, .int .i64 f.B.d, .int .i64 f.B.n, .int .i64 f.B.s, .int .u8 f.B.z, .int .i64 f.B.v, .string f.B.t] _
  go_enter Tryd.func7, Tryd.ntmps7
  go_wp2_with (first | (refine wpList_load_mid rfl 29 _ rfl w.heap.size 0 rfl [.bool f.h, .int .i64 f.fr, .int .i64 f.off, .int .i64 f.A.m, .int .i64 f.A.k, .int .i64 f.A.d, .int .i64 f.A.n, .int .i64 f.A.s, .int .u8 f.A.z, .int .i64 f.A.v, .string f.A.t, .int .i64 f.B.m, .int .i64 f.B.k, .int .i64 f.B.d, .int .i64 f.B.n, .int .i64 f.B.s, .int .u8 f.B.z, .int .i64 f.B.v, .string f.B.t] _ X0.out.all Tryd.underlying29 rfl (by kernel_rfl) ?_) | fail)
  refine (GV.out _).mono ?_
  rintro e w1 ⟨rfl, hb⟩
  have B1 : Hid (Below w.heap.size w w1) := B0.out.trans (hb.mono B0.out.size)
  have X1 : Hid (Bx w1 w.heap.size [.bool f.h, .int .i64 f.fr, .int .i64 f.off, .int .i64 f.A.m, .int .i64 f.A.k, .int .i64 f.A.d, .int .i64 f.A.n, .int .i64 f.A.s, .int .u8 f.A.z, .int .i64 f.A.v, .string f.A.t, .int .i64 f.B.m, .int .i64 f.B.k, .int .i64 f.B.d, .int .i64 f.B.n, .int .i64 f.B.s, .int .u8 f.B.z, .int .i64 f.B.v, .string f.B.t]) := X0.out.below hb
  clear hb B0 X0
  go_wp2_with fail
  refine (YR.out _ (bel_lens B1.out hL0.out) (hT0.out.below B1.out)).mono ?_
  rintro e w2 ⟨g, cap, rfl, R2, hb⟩
  have B2 : Hid (Below w.heap.size w w2) := B1.out.trans (hb.mono B1.out.size)
  clear hb B1 X1 GV YR R2
  go_wp2_with fail
  refine (KN.out _ (bel_lens B2.out hL0.out) (hT0.out.below B2.out)).mono ?_
  rintro e w3 ⟨rfl, hb⟩
  have B3 : Hid (Below w.heap.size w w3) := B2.out.trans (hb.mono B2.out.size)
  clear hb B2
  go_wp2
  go_ret
  exact ⟨rfl, B3.out⟩

set_option maxRecDepth 100000 in
set_option maxHeartbeats 8000000 in
theorem core_FootOrder2 (f : Ft) (y : Int) (p q r s : Tr) (hy1 : ¬ 294281 ≤ y) (hy2 : -4718 < y) (h12 : p.t < q.t) (h23 : q.t < r.t)
    (GV : Hid (∀ w : World, Calls Tryd.prog 10 #[.agg #[.bool f.h, .int .i64 f.fr, .int .i64 f.off, .int .i64 f.A.m, .int .i64 f.A.k, .int .i64 f.A.d, .int .i64 f.A.n, .int .i64 f.A.s, .int .u8 f.A.z, .int .i64 f.A.v, .string f.A.t, .int .i64 f.B.m, .int .i64 f.B.k, .int .i64 f.B.d, .int .i64 f.B.n, .int .i64 f.B.s, .int .u8 f.B.z, .int .i64 f.B.v, .string f.B.t]] w fun e w' => e = .returned (.agg #[.bool f.h, .int .i64 f.fr, .int .i64 f.off, .int .i64 f.A.m, .int .i64 f.A.k, .int .i64 f.A.d, .int .i64 f.A.n, .int .i64 f.A.s, .int .u8 f.A.z, .int .i64 f.A.v, .string f.A.t, .int .i64 f.B.m, .int .i64 f.B.k, .int .i64 f.B.d, .int .i64 f.B.n, .int .i64 f.B.s, .int .u8 f.B.z, .int .i64 f.B.v, .string f.B.t]) ∧ Below w.heap.size w w'))
    (YR : Hid (∀ w : World, Cvl.Lens w → Clk.Tab w → Calls Tryd.prog 9 #[.agg #[.bool f.h, .int .i64 f.fr, .int .i64 f.off, .int .i64 f.A.m, .int .i64 f.A.k, .int .i64 f.A.d, .int .i64 f.A.n, .int .i64 f.A.s, .int .u8 f.A.z, .int .i64 f.A.v, .string f.A.t, .int .i64 f.B.m, .int .i64 f.B.k, .int .i64 f.B.d, .int .i64 f.B.n, .int .i64 f.B.s, .int .u8 f.B.z, .int .i64 f.B.v, .string f.B.t], .int .i64 y] w fun e w' => ∃ g cap, e = .returned (.tuple #[.slice (some ⟨g, 0, none⟩) 2 cap, .int .i64 0]) ∧ Bx w' g [.int .i64 p.t, .int .i64 p.o, .bool p.d, .string p.a, .int .i64 q.t, .int .i64 q.o, .bool q.d, .string q.a] ∧ Below w.heap.size w w'))
    (YS : Hid (∀ w : World, Cvl.Lens w → Clk.Tab w → Calls Tryd.prog 9 #[.agg #[.bool f.h, .int .i64 f.fr, .int .i64 f.off, .int .i64 f.A.m, .int .i64 f.A.k, .int .i64 f.A.d, .int .i64 f.A.n, .int .i64 f.A.s, .int .u8 f.A.z, .int .i64 f.A.v, .string f.A.t, .int .i64 f.B.m, .int .i64 f.B.k, .int .i64 f.B.d, .int .i64 f.B.n, .int .i64 f.B.s, .int .u8 f.B.z, .int .i64 f.B.v, .string f.B.t], .int .i64 (y + 1)] w fun e w' => ∃ g cap, e = .returned (.tuple #[.slice (some ⟨g, 0, none⟩) 2 cap, .int .i64 0]) ∧ Bx w' g [.int .i64 r.t, .int .i64 r.o, .bool r.d, .string r.a, .int .i64 s.t, .int .i64 s.o, .bool s.d, .string s.a] ∧ Below w.heap.size w w'))
    (KN : Hid (∀ w : World, Cvl.Lens w → Clk.Tab w → Calls Tryd.prog 13 #[] w fun e w' => e = .returned (.bool true) ∧ Below w.heap.size w w'))
    (w : World) (hL0 : Hid (Cvl.Lens w)) (hT0 : Hid (Clk.Tab w)) :
    Calls Tryd.prog 7 #[.agg #[.bool f.h, .int .i64 f.fr, .int .i64 f.off, .int .i64 f.A.m, .int .i64 f.A.k, .int .i64 f.A.d, .int .i64 f.A.n, .int .i64 f.A.s, .int .u8 f.A.z, .int .i64 f.A.v, .string f.A.t, .int .i64 f.B.m, .int .i64 f.B.k, .int .i64 f.B.d, .int .i64 f.B.n, .int .i64 f.B.s, .int .u8 f.B.z, .int .i64 f.B.v, .string f.B.t], .int .i64 y] w fun e w' => e = .returned (.bool true) ∧ Below w.heap.size w w' := by
  have B0 : Hid (Below w.heap.size w (w.alloc (.cells #[.bool f.h, .int .i64 f.fr, .int .i64 f.off, .int .i64 f.A.m, .int .i64 f.A.k, .int .i64 f.A.d, .int .i64 f.A.n, .int .i64 f.A.s, .int .u8 f.A.z, .int .i64 f.A.v, .string f.A.t, .int .i64 f.B.m, .int .i64 f.B.k, .int .i64 f.B.d, .int .i64 f.B.n, .int .i64 f.B.s, .int .u8 f.B.z, .int .i64 f.B.v, .string f.B.t] 29))) := (Below.refl _ _).alloc (Nat.le_refl _) _
  have X0 : Hid (Bx (w.alloc (.cells #[.bool f.h, .int .i64 f.fr, .int .i64 f.off, .int .i64 f.A.m, .int .i64 f.A.k, .int .i64 f.A.d, .int .i64 f.A.n, .int .i64 f.A.s, .int .u8 f.A.z, .int .i64 f.A.v, .string f.A.t, .int .i64 f.B.m, .int .i64 f.B.k, .int .i64 f.B.d, .int .i64 f.B.n, .int .i64 f.B.s, .int .u8 f.B.z, .int .i64 f.B.v, .string f.B.t] 29)) w.heap.size [.bool f.h, .int .i64 f.fr, .int .i64 f.off, .int .i64 f.A.m, .int .i64 f.A.k, .int .i64 f.A.d, .int .i64 f.A.n, .int .i64 f.A.s, .int .u8 f.A.z, .int .i64 f.A.v, .string f.A.t, .int .i64 f.B.m, .int .i64 f.B.k, .int .i64 f.B.d, .int .i64 f.B.n, .int .i64 f.B.s, .int .u8 f.B.z, .int .i64 f.B.v, .string f.B.t]) := Bx.new w [.bool f.h, .int .i64 f.fr, .int .i64 f.off, .int .i64 f.A.m, .int .i64 f.A.k, .int .i64 f.A.d, .int .i64 f.A.n, .int .i64 f.A.s, .int .u8 f.A.z, .int .i64 f.A.v, .string f.A.t, .int .i64 f.B.m, .int .i64 f.B.k, .int .i64 f.B.d, .int .i64 f.B.n, .int .i64 f.B.s, .int .u8 f.B.z, .int .i64 f.B.v, .string f.B.t] _
  go_enter Tryd.func7, Tryd.ntmps7
  go_wp2_with (first | (refine wpList_load_mid rfl 29 _ rfl w.heap.size 0 rfl [.bool f.h, .int .i64 f.fr, .int .i64 f.off, .int .i64 f.A.m, .int .i64 f.A.k, .int .i64 f.A.d, .int .i64 f.A.n, .int .i64 f.A.s, .int .u8 f.A.z, .int .i64 f.A.v, .string f.A.t, .int .i64 f.B.m, .int .i64 f.B.k, .int .i64 f.B.d, .int .i64 f.B.n, .int .i64 f.B.s, .int .u8 f.B.z, .int .i64 f.B.v, .string f.B.t] _ X0.out.all Tryd.underlying29 rfl (by kernel_rfl) ?_) | fail)
  refine (GV.out _).mono ?_
  rintro e w1 ⟨rfl, hb⟩
  have B1 : Hid (Below w.heap.size w w1) := B0.out.trans (hb.mono B0.out.size)
  have X1 : Hid (Bx w1 w.heap.size [.bool f.h, .int .i64 f.fr, .int .i64 f.off, .int .i64 f.A.m, .int .i64 f.A.k, .int .i64 f.A.d, .int .i64 f.A.n, .int .i64 f.A.s, .int .u8 f.A.z, .int .i64 f.A.v, .string f.A.t, .int .i64 f.B.m, .int .i64 f.B.k, .int .i64 f.B.d, .int .i64 f.B.n, .int .i64 f.B.s, .int .u8 f.B.z, .int .i64 f.B.v, .string f.B.t]) := X0.out.below hb
  clear hb B0 X0
  go_wp2_with fail
  refine (YR.out _ (bel_lens B1.out hL0.out) (hT0.out.below B1.out)).mono ?_
  rintro e w2 ⟨g, cap, rfl, R2, hb⟩
  have B2 : Hid (Below w.heap.size w w2) := B1.out.trans (hb.mono B1.out.size)
  have X2 : Hid (Bx w2 w.heap.size [.bool f.h, .int .i64 f.fr, .int .i64 f.off, .int .i64 f.A.m, .int .i64 f.A.k, .int .i64 f.A.d, .int .i64 f.A.n, .int .i64 f.A.s, .int .u8 f.A.z, .int .i64 f.A.v, .string f.A.t, .int .i64 f.B.m, .int .i64 f.B.k, .int .i64 f.B.d, .int .i64 f.B.n, .int .i64 f.B.s, .int .u8 f.B.z, .int .i64 f.B.v, .string f.B.t]) := X1.out.below hb
  have H2 : Hid (Bx w2 g [.int .i64 p.t, .int .i64 p.o, .bool p.d, .string p.a, .int .i64 q.t, .int .i64 q.o, .bool q.d, .string q.a]) := R2
  clear hb B1 X1 YR R2
  go_wp2_with (first | (refine wpList_load_mid rfl 29 _ rfl w.heap.size 0 rfl [.bool f.h, .int .i64 f.fr, .int .i64 f.off, .int .i64 f.A.m, .int .i64 f.A.k, .int .i64 f.A.d, .int .i64 f.A.n, .int .i64 f.A.s, .int .u8 f.A.z, .int .i64 f.A.v, .string f.A.t, .int .i64 f.B.m, .int .i64 f.B.k, .int .i64 f.B.d, .int .i64 f.B.n, .int .i64 f.B.s, .int .u8 f.B.z, .int .i64 f.B.v, .string f.B.t] _ X2.out.all Tryd.underlying29 rfl (by kernel_rfl) ?_) | fail)
  refine (GV.out _).mono ?_
  rintro e w3 ⟨rfl, hb⟩
  have B3 : Hid (Below w.heap.size w w3) := B2.out.trans (hb.mono B2.out.size)
  have H3 : Hid (Bx w3 g [.int .i64 p.t, .int .i64 p.o, .bool p.d, .string p.a, .int .i64 q.t, .int .i64 q.o, .bool q.d, .string q.a]) := H2.out.below hb
  clear hb B2 X2 H2 GV
  go_wp2_with fail
  refine (YS.out _ (bel_lens B3.out hL0.out) (hT0.out.below B3.out)).mono ?_
  rintro e w4 ⟨g', cap', rfl, R4, hb⟩
  have B4 : Hid (Below w.heap.size w w4) := B3.out.trans (hb.mono B3.out.size)
  have H4 : Hid (Bx w4 g [.int .i64 p.t, .int .i64 p.o, .bool p.d, .string p.a, .int .i64 q.t, .int .i64 q.o, .bool q.d, .string q.a]) := H3.out.below hb
  have J4 : Hid (Bx w4 g' [.int .i64 r.t, .int .i64 r.o, .bool r.d, .string r.a, .int .i64 s.t, .int .i64 s.o, .bool s.d, .string s.a]) := R4
  clear hb B3 H3 R4 YS
  have S0 : OS w g g' [.int .i64 p.t, .int .i64 p.o, .bool p.d, .string p.a, .int .i64 q.t, .int .i64 q.o, .bool q.d, .string q.a] [.int .i64 r.t, .int .i64 r.o, .bool r.d, .string r.a, .int .i64 s.t, .int .i64 s.o, .bool s.d, .string s.a] w4.drew := ⟨B4.out.drew, bel_lens B4.out.drew hL0.out, hT0.out.below B4.out.drew, H4.out, J4.out⟩
  clear B4 H4 J4
  go_wp2_with fail
  refine wp_region_held_drew (S := (OS w g g' [.int .i64 p.t, .int .i64 p.o, .bool p.d, .string p.a, .int .i64 q.t, .int .i64 q.o, .bool q.d, .string q.a] [.int .i64 r.t, .int .i64 r.o, .bool r.d, .string r.a, .int .i64 s.t, .int .i64 s.o, .bool s.d, .string s.a])) (by kernel_rfl) S0 (fun hHeld => ?_)
  refine gen_any ((OS w g g' [.int .i64 p.t, .int .i64 p.o, .bool p.d, .string p.a, .int .i64 q.t, .int .i64 q.o, .bool q.d, .string q.a] [.int .i64 r.t, .int .i64 r.o, .bool r.d, .string r.a, .int .i64 s.t, .int .i64 s.o, .bool s.d, .string s.a])) hHeld ?_
  clear hHeld
  rintro v0 hHeld
  refine wpAnyH_take (i := 0) (v := ?_) (oi := { dst := some 31, op := _, type := _, pos := _, after := _, guard := none }) rfl (by kernel_rfl) (by kernel_rfl) (by kernel_rfl) (fun _ _ _ h => h) (Or.inl ⟨by kernel_rfl, ?_⟩) (by assumption) ?_
  case refine_2 => (intro w9 hSw; clear hSw; go_simp; try with_reducible rfl)
  simp only [Act.put, List.setIfInBounds_toArray, List.set_cons_zero, List.set_cons_succ]
  refine wpAnyH_take (i := 1) (v := ?_) (oi := { dst := some 32, op := _, type := _, pos := _, after := _, guard := none }) rfl (by kernel_rfl) (by kernel_rfl) (by kernel_rfl) (fun _ _ _ h => h) (Or.inl ⟨by kernel_rfl, ?_⟩) (by assumption) ?_
  case refine_2 => (intro w9 hSw; clear hSw; go_simp; try with_reducible rfl)
  simp only [Act.put, List.setIfInBounds_toArray, List.set_cons_zero, List.set_cons_succ]
  refine wpAnyH_take (i := 2) (v := ?_) (oi := { dst := some 33, op := _, type := _, pos := _, after := _, guard := none }) rfl (by kernel_rfl) (by kernel_rfl) (by kernel_rfl) (fun _ _ _ h => h) (Or.inl ⟨by kernel_rfl, ?_⟩) (by assumption) ?_
  case refine_2 => (intro w9 hSw; clear hSw; go_simp; try with_reducible rfl)
  simp only [Act.put, List.setIfInBounds_toArray, List.set_cons_zero, List.set_cons_succ]
  refine wpAnyH_take (i := 3) (v := ?_) (oi := { dst := some 34, op := _, type := _, pos := _, after := _, guard := some (2, true) }) rfl (by kernel_rfl) (by kernel_rfl) (by kernel_rfl) (fun _ _ _ h => h) (Or.inl ⟨by kernel_rfl, ?_⟩) (by assumption) ?_
  case refine_2 => (intro w9 hSw; clear hSw; go_simp; try with_reducible rfl)
  simp only [Act.put, List.setIfInBounds_toArray, List.set_cons_zero, List.set_cons_succ]
  refine wpAnyH_take (i := 4) (v := ?_) (oi := { dst := some 35, op := _, type := _, pos := _, after := _, guard := some (2, true) }) rfl (by kernel_rfl) (by kernel_rfl) (by kernel_rfl) (fun _ _ _ h => h) (Or.inl ⟨by kernel_rfl, ?_⟩) (by assumption) ?_
  case refine_2 => (intro w9 hSw; clear hSw; go_simp; try with_reducible rfl)
  simp only [Act.put, List.setIfInBounds_toArray, List.set_cons_zero, List.set_cons_succ]
  refine wpAnyH_take (i := 5) (v := ?_) (oi := { dst := some 36, op := _, type := _, pos := _, after := _, guard := some (2, true) }) rfl (by kernel_rfl) (by kernel_rfl) (by kernel_rfl) (fun _ _ _ h => h) (Or.inl ⟨by kernel_rfl, ?_⟩) (by assumption) ?_
  case refine_2 => (intro w9 hSw; clear hSw; go_simp; try with_reducible rfl)
  simp only [Act.put, List.setIfInBounds_toArray, List.set_cons_zero, List.set_cons_succ]
  refine wpAnyH_take (i := 6) (v := ?_) (oi := { dst := some 37, op := _, type := _, pos := _, after := _, guard := none }) rfl (by kernel_rfl) (by kernel_rfl) (by kernel_rfl) (fun _ _ _ h => h) (Or.inl ⟨by kernel_rfl, ?_⟩) (by assumption) ?_
  case refine_2 => (intro w9 hSw; clear hSw; go_simp; try with_reducible rfl)
  simp only [Act.put, List.setIfInBounds_toArray, List.set_cons_zero, List.set_cons_succ]
  refine wpAnyH_take (i := 7) (v := ?_) (oi := { dst := some 38, op := _, type := _, pos := _, after := _, guard := none }) rfl (by kernel_rfl) (by kernel_rfl) (by kernel_rfl) (fun _ _ _ h => h) (Or.inl ⟨by kernel_rfl, ?_⟩) (by assumption) ?_
  case refine_2 => (intro w9 hSw; clear hSw; go_simp; try with_reducible rfl)
  simp only [Act.put, List.setIfInBounds_toArray, List.set_cons_zero, List.set_cons_succ]
  refine wpAnyH_take (i := 8) (v := ?_) (oi := { dst := some 39, op := _, type := _, pos := _, after := _, guard := some (7, true) }) rfl (by kernel_rfl) (by kernel_rfl) (by kernel_rfl) (fun _ _ _ h => h) (Or.inl ⟨by kernel_rfl, ?_⟩) (by assumption) ?_
  case refine_2 => (intro w9 hSw; clear hSw; go_simp; try with_reducible rfl)
  simp only [Act.put, List.setIfInBounds_toArray, List.set_cons_zero, List.set_cons_succ]
  refine wpAnyH_take (i := 9) (v := ?_) (oi := { dst := some 40, op := _, type := _, pos := _, after := _, guard := some (7, true) }) rfl (by kernel_rfl) (by kernel_rfl) (by kernel_rfl) (fun _ _ _ h => h) (Or.inl ⟨by kernel_rfl, ?_⟩) (by assumption) ?_
  case refine_2 => (intro w9 hSw; clear hSw; go_simp; try with_reducible rfl)
  simp only [Act.put, List.setIfInBounds_toArray, List.set_cons_zero, List.set_cons_succ]
  refine wpAnyH_take (i := 10) (v := ?_) (oi := { dst := some 41, op := _, type := _, pos := _, after := _, guard := some (7, true) }) rfl (by kernel_rfl) (by kernel_rfl) (by kernel_rfl) (fun _ _ _ h => h) (Or.inl ⟨by kernel_rfl, ?_⟩) (by assumption) ?_
  case refine_2 => (intro w9 hSw; clear hSw; go_simp; try with_reducible rfl)
  simp only [Act.put, List.setIfInBounds_toArray, List.set_cons_zero, List.set_cons_succ]
  refine wpAnyH_take (i := 11) (v := ?_) (oi := { dst := some 42, op := _, type := _, pos := _, after := _, guard := none }) rfl (by kernel_rfl) (by kernel_rfl) (by kernel_rfl) (fun _ _ _ h => h) (Or.inl ⟨by kernel_rfl, ?_⟩) (by assumption) ?_
  case refine_2 => (intro w9 hSw; clear hSw; go_simp; try with_reducible rfl)
  simp only [Act.put, List.setIfInBounds_toArray, List.set_cons_zero, List.set_cons_succ]
  refine wpAnyH_take (i := 12) (v := ?_) (oi := { dst := some 43, op := _, type := _, pos := _, after := _, guard := none }) rfl (by kernel_rfl) (by kernel_rfl) (by kernel_rfl) (fun _ _ _ h => h) (Or.inl ⟨by kernel_rfl, ?_⟩) (by assumption) ?_
  case refine_2 => (intro w9 hSw; clear hSw; go_simp; try with_reducible rfl)
  simp only [Act.put, List.setIfInBounds_toArray, List.set_cons_zero, List.set_cons_succ]
  refine wpAnyH_take (i := 13) (v := ?_) (oi := { dst := some 44, op := _, type := _, pos := _, after := _, guard := some (12, true) }) rfl (by kernel_rfl) (by kernel_rfl) (by kernel_rfl) (fun _ _ _ h => h) (Or.inl ⟨by kernel_rfl, ?_⟩) (by assumption) ?_
  case refine_2 => (intro w9 hSw; clear hSw; go_simp; try with_reducible rfl)
  simp only [Act.put, List.setIfInBounds_toArray, List.set_cons_zero, List.set_cons_succ]
  refine wpAnyH_take (i := 14) (v := ?_) (oi := { dst := some 45, op := _, type := _, pos := _, after := _, guard := some (12, true) }) rfl (by kernel_rfl) (by kernel_rfl) (by kernel_rfl) (fun _ _ _ h => h) (Or.inl ⟨by kernel_rfl, ?_⟩) (by assumption) ?_
  case refine_2 => (intro w9 hSw; clear hSw; go_simp; try with_reducible rfl)
  simp only [Act.put, List.setIfInBounds_toArray, List.set_cons_zero, List.set_cons_succ]
  refine wpAnyH_take (i := 15) (v := ?_) (oi := { dst := some 46, op := _, type := _, pos := _, after := _, guard := some (12, true) }) rfl (by kernel_rfl) (by kernel_rfl) (by kernel_rfl) (fun _ _ _ h => h) (Or.inl ⟨by kernel_rfl, ?_⟩) (by assumption) ?_
  case refine_2 => (intro w9 hSw; clear hSw; go_simp; try with_reducible rfl)
  simp only [Act.put, List.setIfInBounds_toArray, List.set_cons_zero, List.set_cons_succ]
  refine wpAnyH_take (i := 16) (v := ?_) (oi := { dst := some 47, op := _, type := _, pos := _, after := _, guard := some (12, true) }) rfl (by kernel_rfl) (by kernel_rfl) (by kernel_rfl) (fun _ _ _ h => h) (Or.inl ⟨by kernel_rfl, ?_⟩) (by assumption) ?_
  case refine_2 => (intro w9 hSw; have s0 := hSw.2.2.2.1.c 0 rfl; have s4 := hSw.2.2.2.1.c 4 rfl; have s5 := hSw.2.2.2.2.c 0 rfl; clear hSw; go_simp; try with_reducible rfl)
  simp only [Act.put, List.setIfInBounds_toArray, List.set_cons_zero, List.set_cons_succ]
  refine wpAnyH_take (i := 17) (v := ?_) (oi := { dst := some 48, op := _, type := _, pos := _, after := _, guard := some (12, true) }) rfl (by kernel_rfl) (by kernel_rfl) (by kernel_rfl) (fun _ _ _ h => h) (Or.inl ⟨by kernel_rfl, ?_⟩) (by assumption) ?_
  case refine_2 => (intro w9 hSw; clear hSw; go_simp; try with_reducible rfl)
  simp only [Act.put, List.setIfInBounds_toArray, List.set_cons_zero, List.set_cons_succ]
  refine wpAnyH_take (i := 18) (v := ?_) (oi := { dst := some 49, op := _, type := _, pos := _, after := _, guard := some (12, true) }) rfl (by kernel_rfl) (by kernel_rfl) (by kernel_rfl) (fun _ _ _ h => h) (Or.inl ⟨by kernel_rfl, ?_⟩) (by assumption) ?_
  case refine_2 => (intro w9 hSw; clear hSw; go_simp; try with_reducible rfl)
  simp only [Act.put, List.setIfInBounds_toArray, List.set_cons_zero, List.set_cons_succ]
  refine wpAnyH_take (i := 19) (v := ?_) (oi := { dst := some 50, op := _, type := _, pos := _, after := _, guard := some (12, true) }) rfl (by kernel_rfl) (by kernel_rfl) (by kernel_rfl) (fun _ _ _ h => h) (Or.inl ⟨by kernel_rfl, ?_⟩) (by assumption) ?_
  case refine_2 => (intro w9 hSw; clear hSw; go_simp; try with_reducible rfl)
  simp only [Act.put, List.setIfInBounds_toArray, List.set_cons_zero, List.set_cons_succ]
  refine wpAnyH_take (i := 20) (v := ?_) (oi := { dst := some 51, op := _, type := _, pos := _, after := _, guard := some (12, true) }) rfl (by kernel_rfl) (by kernel_rfl) (by kernel_rfl) (fun _ _ _ h => h) (Or.inl ⟨by kernel_rfl, ?_⟩) (by assumption) ?_
  case refine_2 => (intro w9 hSw; have s0 := hSw.2.2.2.1.c 0 rfl; have s4 := hSw.2.2.2.1.c 4 rfl; have s5 := hSw.2.2.2.2.c 0 rfl; clear hSw; go_simp; try with_reducible rfl)
  simp only [Act.put, List.setIfInBounds_toArray, List.set_cons_zero, List.set_cons_succ]
  refine wpAnyH_take (i := 21) (v := ?_) (oi := { dst := some 52, op := _, type := _, pos := _, after := _, guard := some (12, true) }) rfl (by kernel_rfl) (by kernel_rfl) (by kernel_rfl) (fun _ _ _ h => h) (Or.inl ⟨by kernel_rfl, ?_⟩) (by assumption) ?_
  case refine_2 => (intro w9 hSw; clear hSw; go_simp; try with_reducible rfl)
  simp only [Act.put, List.setIfInBounds_toArray, List.set_cons_zero, List.set_cons_succ]
  refine wpAnyH_take (i := 22) (v := ?_) (oi := { dst := some 53, op := _, type := _, pos := _, after := _, guard := none }) rfl (by kernel_rfl) (by kernel_rfl) (by kernel_rfl) (fun _ _ _ h => h) (Or.inl ⟨by kernel_rfl, ?_⟩) (by assumption) ?_
  case refine_2 => (intro w9 hSw; clear hSw; go_simp; try with_reducible rfl)
  simp only [Act.put, List.setIfInBounds_toArray, List.set_cons_zero, List.set_cons_succ]
  refine wpAnyH_take (i := 23) (v := ?_) (oi := { dst := some 54, op := _, type := _, pos := _, after := _, guard := none }) rfl (by kernel_rfl) (by kernel_rfl) (by kernel_rfl) (fun _ _ _ h => h) (Or.inl ⟨by kernel_rfl, ?_⟩) (by assumption) ?_
  case refine_2 => (intro w9 hSw; clear hSw; go_simp; try with_reducible rfl)
  simp only [Act.put, List.setIfInBounds_toArray, List.set_cons_zero, List.set_cons_succ]
  refine wpAnyH_take (i := 24) (v := ?_) (oi := { dst := some 55, op := _, type := _, pos := _, after := _, guard := some (23, true) }) rfl (by kernel_rfl) (by kernel_rfl) (by kernel_rfl) (fun _ _ _ h => h) (Or.inl ⟨by kernel_rfl, ?_⟩) (by assumption) ?_
  case refine_2 => (intro w9 hSw; clear hSw; go_simp; try with_reducible rfl)
  simp only [Act.put, List.setIfInBounds_toArray, List.set_cons_zero, List.set_cons_succ]
  refine wpAnyH_take (i := 25) (v := ?_) (oi := { dst := some 56, op := _, type := _, pos := _, after := _, guard := some (23, true) }) rfl (by kernel_rfl) (by kernel_rfl) (by kernel_rfl) (fun _ _ _ h => h) (Or.inl ⟨by kernel_rfl, ?_⟩) (by assumption) ?_
  case refine_2 => (intro w9 hSw; clear hSw; go_simp; try with_reducible rfl)
  simp only [Act.put, List.setIfInBounds_toArray, List.set_cons_zero, List.set_cons_succ]
  refine wpAnyH_take (i := 26) (v := ?_) (oi := { dst := some 57, op := _, type := _, pos := _, after := _, guard := some (23, true) }) rfl (by kernel_rfl) (by kernel_rfl) (by kernel_rfl) (fun _ _ _ h => h) (Or.inl ⟨by kernel_rfl, ?_⟩) (by assumption) ?_
  case refine_2 => (intro w9 hSw; clear hSw; go_simp; try with_reducible rfl)
  simp only [Act.put, List.setIfInBounds_toArray, List.set_cons_zero, List.set_cons_succ]
  refine wpAnyH_take (i := 27) (v := ?_) (oi := { dst := some 58, op := _, type := _, pos := _, after := _, guard := some (23, true) }) rfl (by kernel_rfl) (by kernel_rfl) (by kernel_rfl) (fun _ _ _ h => h) (Or.inl ⟨by kernel_rfl, ?_⟩) (by assumption) ?_
  case refine_2 => (intro w9 hSw; have s0 := hSw.2.2.2.1.c 0 rfl; have s4 := hSw.2.2.2.1.c 4 rfl; have s5 := hSw.2.2.2.2.c 0 rfl; clear hSw; go_simp; try with_reducible rfl)
  simp only [Act.put, List.setIfInBounds_toArray, List.set_cons_zero, List.set_cons_succ]
  refine wpAnyH_take (i := 28) (v := ?_) (oi := { dst := some 59, op := _, type := _, pos := _, after := _, guard := some (23, true) }) rfl (by kernel_rfl) (by kernel_rfl) (by kernel_rfl) (fun _ _ _ h => h) (Or.inl ⟨by kernel_rfl, ?_⟩) (by assumption) ?_
  case refine_2 => (intro w9 hSw; clear hSw; go_simp; try with_reducible rfl)
  simp only [Act.put, List.setIfInBounds_toArray, List.set_cons_zero, List.set_cons_succ]
  refine wpAnyH_take (i := 29) (v := ?_) (oi := { dst := some 60, op := _, type := _, pos := _, after := _, guard := some (23, true) }) rfl (by kernel_rfl) (by kernel_rfl) (by kernel_rfl) (fun _ _ _ h => h) (Or.inl ⟨by kernel_rfl, ?_⟩) (by assumption) ?_
  case refine_2 => (intro w9 hSw; clear hSw; go_simp; try with_reducible rfl)
  simp only [Act.put, List.setIfInBounds_toArray, List.set_cons_zero, List.set_cons_succ]
  refine wpAnyH_take (i := 30) (v := ?_) (oi := { dst := some 61, op := _, type := _, pos := _, after := _, guard := some (23, true) }) rfl (by kernel_rfl) (by kernel_rfl) (by kernel_rfl) (fun _ _ _ h => h) (Or.inl ⟨by kernel_rfl, ?_⟩) (by assumption) ?_
  case refine_2 => (intro w9 hSw; clear hSw; go_simp; try with_reducible rfl)
  simp only [Act.put, List.setIfInBounds_toArray, List.set_cons_zero, List.set_cons_succ]
  refine wpAnyH_take (i := 31) (v := ?_) (oi := { dst := some 62, op := _, type := _, pos := _, after := _, guard := some (23, true) }) rfl (by kernel_rfl) (by kernel_rfl) (by kernel_rfl) (fun _ _ _ h => h) (Or.inl ⟨by kernel_rfl, ?_⟩) (by assumption) ?_
  case refine_2 => (intro w9 hSw; have s0 := hSw.2.2.2.1.c 0 rfl; have s4 := hSw.2.2.2.1.c 4 rfl; have s5 := hSw.2.2.2.2.c 0 rfl; clear hSw; go_simp; try with_reducible rfl)
  simp only [Act.put, List.setIfInBounds_toArray, List.set_cons_zero, List.set_cons_succ]
  refine wpAnyH_take (i := 32) (v := ?_) (oi := { dst := some 63, op := _, type := _, pos := _, after := _, guard := some (23, true) }) rfl (by kernel_rfl) (by kernel_rfl) (by kernel_rfl) (fun _ _ _ h => h) (Or.inl ⟨by kernel_rfl, ?_⟩) (by assumption) ?_
  case refine_2 => (intro w9 hSw; clear hSw; go_simp; try with_reducible rfl)
  simp only [Act.put, List.setIfInBounds_toArray, List.set_cons_zero, List.set_cons_succ]
  refine wpAnyH_take (i := 33) (v := ?_) (oi := { dst := some 64, op := _, type := _, pos := _, after := _, guard := none }) rfl (by kernel_rfl) (by kernel_rfl) (by kernel_rfl) (fun _ _ _ h => h) (Or.inl ⟨by kernel_rfl, ?_⟩) (by assumption) ?_
  case refine_2 => (intro w9 hSw; clear hSw; go_simp; try with_reducible rfl)
  simp only [Act.put, List.setIfInBounds_toArray, List.set_cons_zero, List.set_cons_succ]
  refine wpAnyH_take (i := 34) (v := ?_) (oi := { dst := some 65, op := _, type := _, pos := _, after := _, guard := none }) rfl (by kernel_rfl) (by kernel_rfl) (by kernel_rfl) (fun _ _ _ h => h) (Or.inl ⟨by kernel_rfl, ?_⟩) (by assumption) ?_
  case refine_2 => (intro w9 hSw; clear hSw; go_simp; try with_reducible rfl)
  simp only [Act.put, List.setIfInBounds_toArray, List.set_cons_zero, List.set_cons_succ]
  refine wpAnyH_ready (rs := [35]) (by kernel_rfl) (by simp) (AllReadyH.cons (o := { dst := some 66, op := _, type := _, pos := _, after := _, guard := some (34, true) }) rfl (fun K hK => ?_) AllReadyH.nil)
  go_simp
  refine (KN.out _ hHeld.2.1 hHeld.2.2.1).mono ?_
  rintro e v1 ⟨rfl, hb1⟩
  have hH1 := hHeld.below hb1
  refine hK.out _ _ hH1 (fun _ => ?_)
  clear hK K hb1 hHeld
  have hHeld := hH1; clear hH1
  refine wpAnyH_take (i := 36) (v := ?_) (oi := { dst := some 67, op := _, type := _, pos := _, after := _, guard := none }) rfl (by kernel_rfl) (by kernel_rfl) (by kernel_rfl) (fun _ _ _ h => h) (Or.inl ⟨by kernel_rfl, ?_⟩) (by assumption) ?_
  case refine_2 => (intro w9 hSw; clear hSw; go_simp; try with_reducible rfl)
  simp only [Act.put, List.setIfInBounds_toArray, List.set_cons_zero, List.set_cons_succ]
  refine wpAnyH_take (i := 37) (v := ?_) (oi := { dst := some 4, op := _, type := _, pos := _, after := _, guard := none }) rfl (by kernel_rfl) (by kernel_rfl) (by kernel_rfl) (fun _ _ _ h => h) (Or.inl ⟨by kernel_rfl, ?_⟩) (by assumption) ?_
  case refine_2 => (intro w9 hSw; clear hSw; go_simp; try with_reducible rfl)
  simp only [Act.put, List.setIfInBounds_toArray, List.set_cons_zero, List.set_cons_succ]
  refine wpAnyH_done (by kernel_rfl) ?_ _
  have BH : Hid (Below w.heap.size w v1) := hHeld.1
  clear hHeld
  go_wp2
  go_ret
  exact ⟨rfl, BH.out⟩

end Go.Proofs.YthbcicjkmgoliaaDoor
