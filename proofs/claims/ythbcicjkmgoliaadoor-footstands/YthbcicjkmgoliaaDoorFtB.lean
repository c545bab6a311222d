/- Halves and feet; foot.isHalf, canBe. -/
import Derived.Test.YthbcicjkmgoliaaDoorFtA
import Derived.Test.YthbcicjkmgoliaaDoorFtE
namespace Go.Proofs.YthbcicjkmgoliaaDoor
open Go.RowKit
set_option linter.unusedVariables false

structure Hf where
  (m k d n s z v : Int)
  (t : ByteArray)
structure Ft where
  (h : Bool)
  (fr off : Int)
  (A B : Hf)
structure Tr where
  (t o : Int)
  (d : Bool)
  (a : ByteArray)

/-- the cells of a half, of a foot, of a tran. -/
def hL (a : Hf) : List Value := [.int .i64 a.m, .int .i64 a.k, .int .i64 a.d, .int .i64 a.n, .int .i64 a.s, .int .u8 a.z, .int .i64 a.v, .string a.t]
def fL (f : Ft) : List Value := [.bool f.h, .int .i64 f.fr, .int .i64 f.off, .int .i64 f.A.m, .int .i64 f.A.k, .int .i64 f.A.d, .int .i64 f.A.n, .int .i64 f.A.s, .int .u8 f.A.z, .int .i64 f.A.v, .string f.A.t, .int .i64 f.B.m, .int .i64 f.B.k, .int .i64 f.B.d, .int .i64 f.B.n, .int .i64 f.B.s, .int .u8 f.B.z, .int .i64 f.B.v, .string f.B.t]
def tL (x : Tr) : List Value := [.int .i64 x.t, .int .i64 x.o, .bool x.d, .string x.a]

/-- block b holds these cells, and may be written. -/
def Bx (W : World) (b : Nat) (l : List Value) : Prop := b < W.heap.size ∧ ∀ i v, l[i]? = some v → W.cell? ⟨b, i, none⟩ = some v ∧ W.frozen? ⟨b, i, none⟩ = false
theorem Bx.below {W W' : World} {b : Nat} {l : List Value} (h : Bx W b l) (hb : Below W.heap.size W W') : Bx W' b l :=
  ⟨Nat.lt_of_lt_of_le h.1 hb.size, fun i v e => ⟨(hb.cell (p := ⟨b, i, none⟩) h.1).trans (h.2 i v e).1, (hb.frozen (p := ⟨b, i, none⟩) h.1).trans (h.2 i v e).2⟩⟩
theorem Bx.alloc {W : World} {b : Nat} {l : List Value} (h : Bx W b l) (o : Obj) : Bx (W.alloc o) b l := h.below ((Below.refl _ W).alloc (Nat.le_refl _) o)
theorem Bx.new (w : World) (l : List Value) (t : TypeId) : Bx (w.alloc (.cells l.toArray t)) w.heap.size l :=
  ⟨by simp, fun i v e => ⟨by rw [World.cell?_alloc_at _ _ _ _ rfl]; simpa using e, by rw [World.frozen?_alloc_at _ _ _ _ rfl]⟩⟩
theorem Bx.newAt (w : World) (l : List Value) (t : TypeId) (b : Nat) (hb : w.heap.size = b) : Bx (w.alloc (.cells l.toArray t)) b l := hb ▸ Bx.new w l t
theorem Bx.c {W : World} {b : Nat} {l : List Value} (h : Bx W b l) (i : Nat) {v : Value} (e : l[i]? = some v) : W.cell? ⟨b, i, none⟩ = some v := (h.2 i v e).1
theorem Bx.f {W : World} {b : Nat} {l : List Value} (h : Bx W b l) (i : Nat) {v : Value} (e : l[i]? = some v) : W.frozen? ⟨b, i, none⟩ = false := (h.2 i v e).2

/-- can a half be? -/
def okH (a : Hf) : Bool := decide (dyA a.m a.k a.d a.n ∧ okAt a.s a.z ∧ 0 ≤ a.v ∧ a.v ≤ 7200)
def okF (f : Ft) : Bool := f.h && decide (-50400 ≤ f.off) && decide (f.off ≤ 50400) && okH f.A && okH f.B && far f.A.m f.B.m

set_option maxRecDepth 100000 in
set_option maxHeartbeats 8000000 in
theorem half_run (a : Hf) (V E1 E2 : Int) (TT : ByteArray) (h1 : E1 = 0 ∨ E1 = 1) (h2 : E2 = 0 ∨ E2 = 1)
    (DY : Hid (∀ w : World, Cvl.Lens w → Calls Tryd.prog 37 #[.int .i64 2000, .int .i64 a.m, .agg #[.int .i64 a.k, .int .i64 a.d, .int .i64 a.n]] w fun e w' => e = .returned (.tuple #[.int .i64 V, .int .i64 E1]) ∧ Below w.heap.size w w'))
    (TA : Hid (∀ w : World, Clk.Tab w → Calls Tryd.prog 38 #[.agg #[.int .i64 a.s, .int .u8 a.z]] w fun e w' => e = .returned (.tuple #[.string TT, .int .i64 E2]) ∧ Below w.heap.size w w'))
    (w : World) (hL0 : Hid (Cvl.Lens w)) (hT0 : Hid (Clk.Tab w)) :
    Calls Tryd.prog 28 #[.agg #[.int .i64 a.m, .int .i64 a.k, .int .i64 a.d, .int .i64 a.n, .int .i64 a.s, .int .u8 a.z, .int .i64 a.v, .string a.t]] w fun e w' => e = .returned (.bool (decide (E1 = 0 ∧ E2 = 0 ∧ 0 ≤ a.v ∧ a.v ≤ 7200))) ∧ Below w.heap.size w w' := by
  have HB : Hid (Below w.heap.size w (w.alloc (.cells #[.int .i64 a.m, .int .i64 a.k, .int .i64 a.d, .int .i64 a.n, .int .i64 a.s, .int .u8 a.z, .int .i64 a.v, .string a.t] 37))) := (Below.refl _ _).alloc (Nat.le_refl _) _
  have X0 : Hid (Bx (w.alloc (.cells #[.int .i64 a.m, .int .i64 a.k, .int .i64 a.d, .int .i64 a.n, .int .i64 a.s, .int .u8 a.z, .int .i64 a.v, .string a.t] 37)) w.heap.size (hL a)) := Bx.new w (hL a) _
  have L1 : Hid (Cvl.Lens (w.alloc (.cells #[.int .i64 a.m, .int .i64 a.k, .int .i64 a.d, .int .i64 a.n, .int .i64 a.s, .int .u8 a.z, .int .i64 a.v, .string a.t] 37))) := Lens_below hL0.out HB.out (Lens_lt hL0.out)
  have T1 : Hid (Clk.Tab (w.alloc (.cells #[.int .i64 a.m, .int .i64 a.k, .int .i64 a.d, .int .i64 a.n, .int .i64 a.s, .int .u8 a.z, .int .i64 a.v, .string a.t] 37))) := hT0.out.below HB.out
  go_enter Tryd.func28, Tryd.ntmps28
  go_wp2_with fail
  refine (DY.out _ L1.out).mono ?_
  rintro e w1 ⟨rfl, hb⟩
  have X1 : Hid (Bx w1 w.heap.size (hL a)) := X0.out.below hb
  have HB1 : Hid (Below w.heap.size w w1) := HB.out.trans (hb.mono HB.out.size)
  have T2 : Hid (Clk.Tab w1) := T1.out.below hb
  clear hb X0 HB L1 T1
  have c4 : w1.cell? ⟨w.heap.size, 4, none⟩ = some (.int .i64 a.s) := X1.out.c 4 rfl
  have c5 : w1.cell? ⟨w.heap.size, 5, none⟩ = some (.int .u8 a.z) := X1.out.c 5 rfl
  go_wp2_with fail
  refine (TA.out _ T2.out).mono ?_
  rintro e w2 ⟨rfl, hb⟩
  have c6 : w2.cell? ⟨w.heap.size, 6, none⟩ = some (.int .i64 a.v) := (X1.out.below hb).c 6 rfl
  have HB2 : Hid (Below w.heap.size w w2) := HB1.out.trans (hb.mono HB1.out.size)
  clear hb X1 HB1 T2 c4 c5
  rcases h1 with rfl | rfl
  · rcases h2 with rfl | rfl
    · go_wp2
      all_goals (go_ret; refine ⟨Cvl.ret_bool ?_, HB2.out⟩)
      all_goals (clear DY TA; first | (simp; done) | (simp; omega))
    · go_wp2
      go_ret
      exact ⟨rfl, HB2.out⟩
  · go_wp2
    go_ret
    exact ⟨rfl, HB2.out⟩

theorem half_any (a : Hf) (w : World) (hL0 : Cvl.Lens w) (hT0 : Clk.Tab w) :
    Calls Tryd.prog 28 #[.agg #[.int .i64 a.m, .int .i64 a.k, .int .i64 a.d, .int .i64 a.n, .int .i64 a.s, .int .u8 a.z, .int .i64 a.v, .string a.t]] w fun e w' => e = .returned (.bool (okH a)) ∧ Below w.heap.size w w' := by
  by_cases h1 : dyA a.m a.k a.d a.n
  · have DY : Hid (∀ w : World, Cvl.Lens w → Calls Tryd.prog 37 #[.int .i64 2000, .int .i64 a.m, .agg #[.int .i64 a.k, .int .i64 a.d, .int .i64 a.n]] w fun e w' => e = .returned (.tuple #[.int .i64 (dyV 2000 a.m a.k a.d a.n), .int .i64 0]) ∧ Below w.heap.size w w') := fun w hw => by
      have R := day_any 2000 a.m a.k a.d a.n w hw
      rw [show dyE 2000 a.m a.k a.d a.n = 0 by unfold dyE; rw [if_pos h1, if_pos (by unfold dyY; omega)]] at R
      exact R
    by_cases h2 : okAt a.s a.z
    · have R := half_run a _ 0 0 _ (.inl rfl) (.inl rfl) DY (fun w hw => tat_yes a.s a.z h2 w hw) w hL0 hT0
      rw [show okH a = decide ((0 : Int) = 0 ∧ (0 : Int) = 0 ∧ 0 ≤ a.v ∧ a.v ≤ 7200) by unfold okH; simp [h1, h2]]
      exact R
    · have R := half_run a _ 0 1 _ (.inl rfl) (.inr rfl) DY (fun w hw => tat_no a.s a.z h2 w hw) w hL0 hT0
      rw [show okH a = decide ((0 : Int) = 0 ∧ (1 : Int) = 0 ∧ 0 ≤ a.v ∧ a.v ≤ 7200) by unfold okH; simp [h2]]
      exact R
  · have DY : Hid (∀ w : World, Cvl.Lens w → Calls Tryd.prog 37 #[.int .i64 2000, .int .i64 a.m, .agg #[.int .i64 a.k, .int .i64 a.d, .int .i64 a.n]] w fun e w' => e = .returned (.tuple #[.int .i64 (dyV 2000 a.m a.k a.d a.n), .int .i64 1]) ∧ Below w.heap.size w w') := fun w hw => by
      have R := day_any 2000 a.m a.k a.d a.n w hw
      rw [show dyE 2000 a.m a.k a.d a.n = 1 by unfold dyE; rw [if_neg h1]] at R
      exact R
    have e0 : okH a = false := by unfold okH; simp [h1]
    by_cases h2 : okAt a.s a.z
    · have R := half_run a _ 1 0 _ (.inr rfl) (.inl rfl) DY (fun w hw => tat_yes a.s a.z h2 w hw) w hL0 hT0
      rw [e0]; simpa using R
    · have R := half_run a _ 1 1 _ (.inr rfl) (.inr rfl) DY (fun w hw => tat_no a.s a.z h2 w hw) w hL0 hT0
      rw [e0]; simpa using R

theorem okH_of {a : Hf} (h : okH a = true) : dyA a.m a.k a.d a.n ∧ okAt a.s a.z ∧ 0 ≤ a.v ∧ a.v ≤ 7200 := of_decide_eq_true h

set_option maxRecDepth 100000 in
set_option maxHeartbeats 8000000 in
theorem can_run (f : Ft) (bA bB c : Bool)
    (IA : Hid (∀ w : World, Cvl.Lens w → Clk.Tab w → Calls Tryd.prog 28 #[.agg #[.int .i64 f.A.m, .int .i64 f.A.k, .int .i64 f.A.d, .int .i64 f.A.n, .int .i64 f.A.s, .int .u8 f.A.z, .int .i64 f.A.v, .string f.A.t]] w fun e w' => e = .returned (.bool bA) ∧ Below w.heap.size w w'))
    (IB : Hid (∀ w : World, Cvl.Lens w → Clk.Tab w → Calls Tryd.prog 28 #[.agg #[.int .i64 f.B.m, .int .i64 f.B.k, .int .i64 f.B.d, .int .i64 f.B.n, .int .i64 f.B.s, .int .u8 f.B.z, .int .i64 f.B.v, .string f.B.t]] w fun e w' => e = .returned (.bool bB) ∧ Below w.heap.size w w'))
    (AP : Hid (bA = true → bB = true → ∀ w : World, Calls Tryd.prog 29 #[.int .i64 f.A.m, .int .i64 f.B.m] w fun e w' => e = .returned (.bool c) ∧ w' = w))
    (w : World) (hL0 : Hid (Cvl.Lens w)) (hT0 : Hid (Clk.Tab w)) :
    Calls Tryd.prog 19 #[.agg #[.bool f.h, .int .i64 f.fr, .int .i64 f.off, .int .i64 f.A.m, .int .i64 f.A.k, .int .i64 f.A.d, .int .i64 f.A.n, .int .i64 f.A.s, .int .u8 f.A.z, .int .i64 f.A.v, .string f.A.t, .int .i64 f.B.m, .int .i64 f.B.k, .int .i64 f.B.d, .int .i64 f.B.n, .int .i64 f.B.s, .int .u8 f.B.z, .int .i64 f.B.v, .string f.B.t]] w fun e w' => e = .returned (.bool (f.h && decide (-50400 ≤ f.off) && decide (f.off ≤ 50400) && bA && bB && c)) ∧ Below w.heap.size w w' := by
  have HB : Hid (Below w.heap.size w (w.alloc (.cells #[.bool f.h, .int .i64 f.fr, .int .i64 f.off, .int .i64 f.A.m, .int .i64 f.A.k, .int .i64 f.A.d, .int .i64 f.A.n, .int .i64 f.A.s, .int .u8 f.A.z, .int .i64 f.A.v, .string f.A.t, .int .i64 f.B.m, .int .i64 f.B.k, .int .i64 f.B.d, .int .i64 f.B.n, .int .i64 f.B.s, .int .u8 f.B.z, .int .i64 f.B.v, .string f.B.t] 39))) := (Below.refl _ _).alloc (Nat.le_refl _) _
  have X0 : Hid (Bx (w.alloc (.cells #[.bool f.h, .int .i64 f.fr, .int .i64 f.off, .int .i64 f.A.m, .int .i64 f.A.k, .int .i64 f.A.d, .int .i64 f.A.n, .int .i64 f.A.s, .int .u8 f.A.z, .int .i64 f.A.v, .string f.A.t, .int .i64 f.B.m, .int .i64 f.B.k, .int .i64 f.B.d, .int .i64 f.B.n, .int .i64 f.B.s, .int .u8 f.B.z, .int .i64 f.B.v, .string f.B.t] 39)) w.heap.size (fL f)) := Bx.new w (fL f) _
  have L1 : Hid (Cvl.Lens (w.alloc (.cells #[.bool f.h, .int .i64 f.fr, .int .i64 f.off, .int .i64 f.A.m, .int .i64 f.A.k, .int .i64 f.A.d, .int .i64 f.A.n, .int .i64 f.A.s, .int .u8 f.A.z, .int .i64 f.A.v, .string f.A.t, .int .i64 f.B.m, .int .i64 f.B.k, .int .i64 f.B.d, .int .i64 f.B.n, .int .i64 f.B.s, .int .u8 f.B.z, .int .i64 f.B.v, .string f.B.t] 39))) := Lens_below hL0.out HB.out (Lens_lt hL0.out)
  have T1 : Hid (Clk.Tab (w.alloc (.cells #[.bool f.h, .int .i64 f.fr, .int .i64 f.off, .int .i64 f.A.m, .int .i64 f.A.k, .int .i64 f.A.d, .int .i64 f.A.n, .int .i64 f.A.s, .int .u8 f.A.z, .int .i64 f.A.v, .string f.A.t, .int .i64 f.B.m, .int .i64 f.B.k, .int .i64 f.B.d, .int .i64 f.B.n, .int .i64 f.B.s, .int .u8 f.B.z, .int .i64 f.B.v, .string f.B.t] 39))) := hT0.out.below HB.out
  cases hh : f.h
  · rw [hh] at HB X0 L1 T1
    go_enter Tryd.func19, Tryd.ntmps19
    go_wp2
    go_ret
    exact ⟨rfl, HB.out⟩
  rw [hh] at HB X0 L1 T1
  by_cases o1 : -50400 ≤ f.off
  case neg =>
    have e1 : decide (-50400 ≤ f.off) = false := decide_eq_false o1
    rw [e1]
    go_enter Tryd.func19, Tryd.ntmps19
    go_wp2
    go_ret
    exact ⟨rfl, HB.out⟩
  by_cases o2 : f.off ≤ 50400
  case neg =>
    have e1 : decide (f.off ≤ 50400) = false := decide_eq_false o2
    rw [e1, decide_eq_true o1]
    go_enter Tryd.func19, Tryd.ntmps19
    go_wp2
    go_ret
    exact ⟨rfl, HB.out⟩
  rw [decide_eq_true o1, decide_eq_true o2]
  go_enter Tryd.func19, Tryd.ntmps19
  go_wp2_with fail
  refine (IA.out _ L1.out T1.out).mono ?_
  rintro e w1 ⟨rfl, hb⟩
  have X1 : Hid (Bx w1 w.heap.size (fL f)) := by have := X0.out.below hb; exact this
  have HB1 : Hid (Below w.heap.size w w1) := HB.out.trans (hb.mono HB.out.size)
  have T2 : Hid (Clk.Tab w1) := T1.out.below hb
  have L2 : Hid (Cvl.Lens w1) := Lens_below hL0.out HB1.out (Lens_lt hL0.out)
  clear hb X0 HB L1 T1 IA
  cases bA
  · go_wp2
    go_ret
    exact ⟨rfl, HB1.out⟩
  have c11 : w1.cell? ⟨w.heap.size, 11, none⟩ = some (.int .i64 f.B.m) := X1.out.c 11 rfl
  have c12 : w1.cell? ⟨w.heap.size, 12, none⟩ = some (.int .i64 f.B.k) := X1.out.c 12 rfl
  have c13 : w1.cell? ⟨w.heap.size, 13, none⟩ = some (.int .i64 f.B.d) := X1.out.c 13 rfl
  have c14 : w1.cell? ⟨w.heap.size, 14, none⟩ = some (.int .i64 f.B.n) := X1.out.c 14 rfl
  have c15 : w1.cell? ⟨w.heap.size, 15, none⟩ = some (.int .i64 f.B.s) := X1.out.c 15 rfl
  have c16 : w1.cell? ⟨w.heap.size, 16, none⟩ = some (.int .u8 f.B.z) := X1.out.c 16 rfl
  have c17 : w1.cell? ⟨w.heap.size, 17, none⟩ = some (.int .i64 f.B.v) := X1.out.c 17 rfl
  have c18 : w1.cell? ⟨w.heap.size, 18, none⟩ = some (.string f.B.t) := X1.out.c 18 rfl
  go_wp2_with fail
  refine (IB.out _ L2.out T2.out).mono ?_
  rintro e w2 ⟨rfl, hb⟩
  have X2 : Hid (Bx w2 w.heap.size (fL f)) := by have := X1.out.below hb; exact this
  have HB2 : Hid (Below w.heap.size w w2) := HB1.out.trans (hb.mono HB1.out.size)
  clear hb X1 HB1 T2 L2 IB c11 c12 c13 c14 c15 c16 c17 c18
  cases bB
  · go_wp2
    go_ret
    exact ⟨rfl, HB2.out⟩
  have AP' : Hid (∀ w : World, Calls Tryd.prog 29 #[.int .i64 f.A.m, .int .i64 f.B.m] w fun e w' => e = .returned (.bool c) ∧ w' = w) := by first | exact AP.out rfl rfl | exact AP.out trivial trivial | exact AP.out trivial rfl | exact AP.out rfl trivial | exact AP.out trivial | exact AP.out rfl | exact AP.out
  clear AP
  have c3 : w2.cell? ⟨w.heap.size, 3, none⟩ = some (.int .i64 f.A.m) := X2.out.c 3 rfl
  have c11 : w2.cell? ⟨w.heap.size, 11, none⟩ = some (.int .i64 f.B.m) := X2.out.c 11 rfl
  go_wp2_with fail
  refine (AP'.out _).mono ?_
  rintro e w3 ⟨rfl, rfl⟩
  go_wp2
  all_goals go_ret
  all_goals exact ⟨rfl, HB2.out⟩

theorem can_any (f : Ft) (w : World) (hL0 : Cvl.Lens w) (hT0 : Clk.Tab w) :
    Calls Tryd.prog 19 #[.agg #[.bool f.h, .int .i64 f.fr, .int .i64 f.off, .int .i64 f.A.m, .int .i64 f.A.k, .int .i64 f.A.d, .int .i64 f.A.n, .int .i64 f.A.s, .int .u8 f.A.z, .int .i64 f.A.v, .string f.A.t, .int .i64 f.B.m, .int .i64 f.B.k, .int .i64 f.B.d, .int .i64 f.B.n, .int .i64 f.B.s, .int .u8 f.B.z, .int .i64 f.B.v, .string f.B.t]] w fun e w' => e = .returned (.bool (okF f)) ∧ Below w.heap.size w w' :=
  can_run f (okH f.A) (okH f.B) (far f.A.m f.B.m) (fun w a b => half_any f.A w a b) (fun w a b => half_any f.B w a b)
    (fun ha hb w => by
      have A := (okH_of ha).1
      have B := (okH_of hb).1
      exact apart_any f.A.m f.B.m A.2.1 A.2.2 B.2.1 B.2.2 w) w hL0 hT0

end Go.Proofs.YthbcicjkmgoliaaDoor
