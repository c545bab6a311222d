import Derived.Test.YtcgcljfdfimfgaaDoorR11
/- The shift to a half: calendar.to; reckon. -/
namespace Go.Proofs.YtcgcljfdfimfgaaDoor.Fn
open Go.RowKit
set_option linter.unusedVariables false

/-- the cells of a calendar. -/
def cL (f : Ft) (m : Nat) : List Value := [.bool f.h, .int .i64 f.fr, .int .i64 f.off, .int .i64 f.A.m, .int .i64 f.A.k, .int .i64 f.A.d, .int .i64 f.A.n, .int .i64 f.A.s, .int .u8 f.A.z, .int .i64 f.A.v, .string f.A.t, .int .i64 f.B.m, .int .i64 f.B.k, .int .i64 f.B.d, .int .i64 f.B.n, .int .i64 f.B.s, .int .u8 f.B.z, .int .i64 f.B.v, .string f.B.t, .map (some m)]
def z4 : List Value := [.int .i64 0, .int .i64 0, .bool false, .string ⟨#[]⟩]
/-- the shift to a half from the other one, in a year. -/
def trOf (off : Int) (h g : Hf) (y : Int) : Tr := ⟨inst (dyV y h.m h.k h.d h.n) h.s h.z off g.v, off + h.v, h.v != 0, h.t⟩

/-- four cells are written. -/
theorem adr_ne {b i j : Nat} (h : i ≠ j) : (⟨b, i, none⟩ : Addr) ≠ ⟨b, j, none⟩ := fun e => h (by cases e; rfl)
def set4 (W : World) (b : Nat) (i : Nat) (x y z u : Value) : World := (((W.setCell ⟨b, i, none⟩ x).setCell ⟨b, i + 1, none⟩ y).setCell ⟨b, i + 2, none⟩ z).setCell ⟨b, i + 3, none⟩ u
theorem four_set {W : World} {b i : Nat} {a c e d x y z u : Value} (h0 : W.cell? ⟨b, i, none⟩ = some a) (h1 : W.cell? ⟨b, i + 1, none⟩ = some c) (h2 : W.cell? ⟨b, i + 2, none⟩ = some e) (h3 : W.cell? ⟨b, i + 3, none⟩ = some d) :
    (set4 W b i x y z u).cell? ⟨b, i, none⟩ = some x ∧ (set4 W b i x y z u).cell? ⟨b, i + 1, none⟩ = some y ∧ (set4 W b i x y z u).cell? ⟨b, i + 2, none⟩ = some z ∧ (set4 W b i x y z u).cell? ⟨b, i + 3, none⟩ = some u := by
  have n : ∀ {p q : Nat}, p ≠ q → ∀ (V : World) (v : Value), (V.setCell ⟨b, p, none⟩ v).cell? ⟨b, q, none⟩ = V.cell? ⟨b, q, none⟩ := fun h V v => World.cell?_setCell_other _ _ _ _ (adr_ne h)
  unfold set4
  refine ⟨?_, ?_, ?_, ?_⟩
  · rw [n (by omega), n (by omega), n (by omega)]; exact World.cell?_setCell_same _ _ _ h0
  · rw [n (by omega), n (by omega)]; exact World.cell?_setCell_same _ _ _ ((n (by omega) _ _).trans h1)
  · rw [n (by omega)]; exact World.cell?_setCell_same _ _ _ ((n (by omega) _ _).trans ((n (by omega) _ _).trans h2))
  · exact World.cell?_setCell_same _ _ _ ((n (by omega) _ _).trans ((n (by omega) _ _).trans ((n (by omega) _ _).trans h3)))
theorem below_set4 {w W : World} {b i : Nat} (h : Below w.heap.size w W) (hb : w.heap.size ≤ b) (x y z u : Value) : Below w.heap.size w (set4 W b i x y z u) :=
  (((h.setCell (p := ⟨b, i, none⟩) hb x).setCell (p := ⟨b, i + 1, none⟩) hb y).setCell (p := ⟨b, i + 2, none⟩) hb z).setCell (p := ⟨b, i + 3, none⟩) hb u

set_option maxRecDepth 100000 in
set_option maxHeartbeats 8000000 in
theorem to_run (f : Ft) (m : Nat) (h g : Hf) (y V E R : Int)
    (DY : Hid (∀ w : World, Cvl.Lens w → Calls Tryd.prog 65 #[.int .i64 y, .int .i64 h.m, .agg #[.int .i64 h.k, .int .i64 h.d, .int .i64 h.n]] w fun e w' => e = .returned (.tuple #[.int .i64 V, .int .i64 E]) ∧ Below w.heap.size w w'))
    (IN : Hid (∀ w : World, Calls Tryd.prog 79 #[.int .i64 V, .int .i64 h.s, .int .u8 h.z, .int .i64 f.off, .int .i64 g.v] w fun e w' => e = .returned (.int .i64 R) ∧ w' = w))
    (o1 : -50400 ≤ f.off) (o2 : f.off ≤ 50400) (v1 : 0 ≤ h.v) (v2 : h.v ≤ 7200) (w : World) (hL0 : Hid (Cvl.Lens w)) :
    Calls Tryd.prog 74 #[.agg #[.bool f.h, .int .i64 f.fr, .int .i64 f.off, .int .i64 f.A.m, .int .i64 f.A.k, .int .i64 f.A.d, .int .i64 f.A.n, .int .i64 f.A.s, .int .u8 f.A.z, .int .i64 f.A.v, .string f.A.t, .int .i64 f.B.m, .int .i64 f.B.k, .int .i64 f.B.d, .int .i64 f.B.n, .int .i64 f.B.s, .int .u8 f.B.z, .int .i64 f.B.v, .string f.B.t, .map (some m)], .agg #[.int .i64 h.m, .int .i64 h.k, .int .i64 h.d, .int .i64 h.n, .int .i64 h.s, .int .u8 h.z, .int .i64 h.v, .string h.t], .agg #[.int .i64 g.m, .int .i64 g.k, .int .i64 g.d, .int .i64 g.n, .int .i64 g.s, .int .u8 g.z, .int .i64 g.v, .string g.t], .int .i64 y] w fun e w' => e = .returned (.agg #[.int .i64 R, .int .i64 (f.off + h.v), .bool (h.v != 0), .string h.t]) ∧ Below w.heap.size w w' := by
  have HB : Hid (Below w.heap.size w ((((w.alloc (.cells #[.bool f.h, .int .i64 f.fr, .int .i64 f.off, .int .i64 f.A.m, .int .i64 f.A.k, .int .i64 f.A.d, .int .i64 f.A.n, .int .i64 f.A.s, .int .u8 f.A.z, .int .i64 f.A.v, .string f.A.t, .int .i64 f.B.m, .int .i64 f.B.k, .int .i64 f.B.d, .int .i64 f.B.n, .int .i64 f.B.s, .int .u8 f.B.z, .int .i64 f.B.v, .string f.B.t, .map (some m)] 107)).alloc (.cells #[.int .i64 h.m, .int .i64 h.k, .int .i64 h.d, .int .i64 h.n, .int .i64 h.s, .int .u8 h.z, .int .i64 h.v, .string h.t] 42)).alloc (.cells #[.int .i64 g.m, .int .i64 g.k, .int .i64 g.d, .int .i64 g.n, .int .i64 g.s, .int .u8 g.z, .int .i64 g.v, .string g.t] 42)).alloc (.cells #[.int .i64 0, .int .i64 0, .bool false, .string ⟨#[]⟩] 23))) := (((((Below.refl _ _).alloc (by simp <;> omega) _).alloc (by simp <;> omega) _).alloc (by simp <;> omega) _).alloc (by simp <;> omega) _)
  have X0 : Hid (Bx ((((w.alloc (.cells #[.bool f.h, .int .i64 f.fr, .int .i64 f.off, .int .i64 f.A.m, .int .i64 f.A.k, .int .i64 f.A.d, .int .i64 f.A.n, .int .i64 f.A.s, .int .u8 f.A.z, .int .i64 f.A.v, .string f.A.t, .int .i64 f.B.m, .int .i64 f.B.k, .int .i64 f.B.d, .int .i64 f.B.n, .int .i64 f.B.s, .int .u8 f.B.z, .int .i64 f.B.v, .string f.B.t, .map (some m)] 107)).alloc (.cells #[.int .i64 h.m, .int .i64 h.k, .int .i64 h.d, .int .i64 h.n, .int .i64 h.s, .int .u8 h.z, .int .i64 h.v, .string h.t] 42)).alloc (.cells #[.int .i64 g.m, .int .i64 g.k, .int .i64 g.d, .int .i64 g.n, .int .i64 g.s, .int .u8 g.z, .int .i64 g.v, .string g.t] 42)).alloc (.cells #[.int .i64 0, .int .i64 0, .bool false, .string ⟨#[]⟩] 23)) (w.heap.size) (cL f m)) := ((((Bx.newAt w (cL f m) _ _ (by simp)).alloc _).alloc _).alloc _)
  have X1 : Hid (Bx ((((w.alloc (.cells #[.bool f.h, .int .i64 f.fr, .int .i64 f.off, .int .i64 f.A.m, .int .i64 f.A.k, .int .i64 f.A.d, .int .i64 f.A.n, .int .i64 f.A.s, .int .u8 f.A.z, .int .i64 f.A.v, .string f.A.t, .int .i64 f.B.m, .int .i64 f.B.k, .int .i64 f.B.d, .int .i64 f.B.n, .int .i64 f.B.s, .int .u8 f.B.z, .int .i64 f.B.v, .string f.B.t, .map (some m)] 107)).alloc (.cells #[.int .i64 h.m, .int .i64 h.k, .int .i64 h.d, .int .i64 h.n, .int .i64 h.s, .int .u8 h.z, .int .i64 h.v, .string h.t] 42)).alloc (.cells #[.int .i64 g.m, .int .i64 g.k, .int .i64 g.d, .int .i64 g.n, .int .i64 g.s, .int .u8 g.z, .int .i64 g.v, .string g.t] 42)).alloc (.cells #[.int .i64 0, .int .i64 0, .bool false, .string ⟨#[]⟩] 23)) (w.heap.size + 1) (hL h)) := (((Bx.newAt (w.alloc (.cells #[.bool f.h, .int .i64 f.fr, .int .i64 f.off, .int .i64 f.A.m, .int .i64 f.A.k, .int .i64 f.A.d, .int .i64 f.A.n, .int .i64 f.A.s, .int .u8 f.A.z, .int .i64 f.A.v, .string f.A.t, .int .i64 f.B.m, .int .i64 f.B.k, .int .i64 f.B.d, .int .i64 f.B.n, .int .i64 f.B.s, .int .u8 f.B.z, .int .i64 f.B.v, .string f.B.t, .map (some m)] 107)) (hL h) _ _ (by simp)).alloc _).alloc _)
  have X2 : Hid (Bx ((((w.alloc (.cells #[.bool f.h, .int .i64 f.fr, .int .i64 f.off, .int .i64 f.A.m, .int .i64 f.A.k, .int .i64 f.A.d, .int .i64 f.A.n, .int .i64 f.A.s, .int .u8 f.A.z, .int .i64 f.A.v, .string f.A.t, .int .i64 f.B.m, .int .i64 f.B.k, .int .i64 f.B.d, .int .i64 f.B.n, .int .i64 f.B.s, .int .u8 f.B.z, .int .i64 f.B.v, .string f.B.t, .map (some m)] 107)).alloc (.cells #[.int .i64 h.m, .int .i64 h.k, .int .i64 h.d, .int .i64 h.n, .int .i64 h.s, .int .u8 h.z, .int .i64 h.v, .string h.t] 42)).alloc (.cells #[.int .i64 g.m, .int .i64 g.k, .int .i64 g.d, .int .i64 g.n, .int .i64 g.s, .int .u8 g.z, .int .i64 g.v, .string g.t] 42)).alloc (.cells #[.int .i64 0, .int .i64 0, .bool false, .string ⟨#[]⟩] 23)) (w.heap.size + 2) (hL g)) := ((Bx.newAt ((w.alloc (.cells #[.bool f.h, .int .i64 f.fr, .int .i64 f.off, .int .i64 f.A.m, .int .i64 f.A.k, .int .i64 f.A.d, .int .i64 f.A.n, .int .i64 f.A.s, .int .u8 f.A.z, .int .i64 f.A.v, .string f.A.t, .int .i64 f.B.m, .int .i64 f.B.k, .int .i64 f.B.d, .int .i64 f.B.n, .int .i64 f.B.s, .int .u8 f.B.z, .int .i64 f.B.v, .string f.B.t, .map (some m)] 107)).alloc (.cells #[.int .i64 h.m, .int .i64 h.k, .int .i64 h.d, .int .i64 h.n, .int .i64 h.s, .int .u8 h.z, .int .i64 h.v, .string h.t] 42)) (hL g) _ _ (by simp)).alloc _)
  have X3 : Hid (Bx ((((w.alloc (.cells #[.bool f.h, .int .i64 f.fr, .int .i64 f.off, .int .i64 f.A.m, .int .i64 f.A.k, .int .i64 f.A.d, .int .i64 f.A.n, .int .i64 f.A.s, .int .u8 f.A.z, .int .i64 f.A.v, .string f.A.t, .int .i64 f.B.m, .int .i64 f.B.k, .int .i64 f.B.d, .int .i64 f.B.n, .int .i64 f.B.s, .int .u8 f.B.z, .int .i64 f.B.v, .string f.B.t, .map (some m)] 107)).alloc (.cells #[.int .i64 h.m, .int .i64 h.k, .int .i64 h.d, .int .i64 h.n, .int .i64 h.s, .int .u8 h.z, .int .i64 h.v, .string h.t] 42)).alloc (.cells #[.int .i64 g.m, .int .i64 g.k, .int .i64 g.d, .int .i64 g.n, .int .i64 g.s, .int .u8 g.z, .int .i64 g.v, .string g.t] 42)).alloc (.cells #[.int .i64 0, .int .i64 0, .bool false, .string ⟨#[]⟩] 23)) (w.heap.size + 3) (z4)) := (Bx.newAt (((w.alloc (.cells #[.bool f.h, .int .i64 f.fr, .int .i64 f.off, .int .i64 f.A.m, .int .i64 f.A.k, .int .i64 f.A.d, .int .i64 f.A.n, .int .i64 f.A.s, .int .u8 f.A.z, .int .i64 f.A.v, .string f.A.t, .int .i64 f.B.m, .int .i64 f.B.k, .int .i64 f.B.d, .int .i64 f.B.n, .int .i64 f.B.s, .int .u8 f.B.z, .int .i64 f.B.v, .string f.B.t, .map (some m)] 107)).alloc (.cells #[.int .i64 h.m, .int .i64 h.k, .int .i64 h.d, .int .i64 h.n, .int .i64 h.s, .int .u8 h.z, .int .i64 h.v, .string h.t] 42)).alloc (.cells #[.int .i64 g.m, .int .i64 g.k, .int .i64 g.d, .int .i64 g.n, .int .i64 g.s, .int .u8 g.z, .int .i64 g.v, .string g.t] 42)) (z4) _ _ (by simp))
  have L1 : Hid (Cvl.Lens ((((w.alloc (.cells #[.bool f.h, .int .i64 f.fr, .int .i64 f.off, .int .i64 f.A.m, .int .i64 f.A.k, .int .i64 f.A.d, .int .i64 f.A.n, .int .i64 f.A.s, .int .u8 f.A.z, .int .i64 f.A.v, .string f.A.t, .int .i64 f.B.m, .int .i64 f.B.k, .int .i64 f.B.d, .int .i64 f.B.n, .int .i64 f.B.s, .int .u8 f.B.z, .int .i64 f.B.v, .string f.B.t, .map (some m)] 107)).alloc (.cells #[.int .i64 h.m, .int .i64 h.k, .int .i64 h.d, .int .i64 h.n, .int .i64 h.s, .int .u8 h.z, .int .i64 h.v, .string h.t] 42)).alloc (.cells #[.int .i64 g.m, .int .i64 g.k, .int .i64 g.d, .int .i64 g.n, .int .i64 g.s, .int .u8 g.z, .int .i64 g.v, .string g.t] 42)).alloc (.cells #[.int .i64 0, .int .i64 0, .bool false, .string ⟨#[]⟩] 23))) := Lens_below hL0.out HB.out (Lens_lt hL0.out)
  go_enter Tryd.func74, Tryd.ntmps74
  go_wp2_with fail
  refine (DY.out _ L1.out).mono ?_
  rintro e w1 ⟨rfl, hb⟩
  have HB1 : Hid (Below w.heap.size w w1) := HB.out.trans (hb.mono HB.out.size)
  have Y0 := X0.out.below hb
  have Y1 := X1.out.below hb
  have Y2 := X2.out.below hb
  have Y3 := X3.out.below hb
  clear hb HB L1 X0 X1 X2 X3
  have c1 : w1.cell? ⟨w.heap.size + 1, 4, none⟩ = some (.int .i64 h.s) := Y1.c 4 rfl
  have c2 : w1.cell? ⟨w.heap.size + 1, 5, none⟩ = some (.int .u8 h.z) := Y1.c 5 rfl
  have c3 : w1.cell? ⟨w.heap.size, 2, none⟩ = some (.int .i64 f.off) := Y0.c 2 rfl
  have c4 : w1.cell? ⟨w.heap.size + 2, 6, none⟩ = some (.int .i64 g.v) := Y2.c 6 rfl
  have c5 : w1.cell? ⟨w.heap.size + 1, 6, none⟩ = some (.int .i64 h.v) := Y1.c 6 rfl
  have c6 : w1.cell? ⟨w.heap.size + 1, 7, none⟩ = some (.string h.t) := Y1.c 7 rfl
  have d0 := Y3.c 0 rfl
  have d1 := Y3.c 1 rfl
  have d2 := Y3.c 2 rfl
  have d3 := Y3.c 3 rfl
  have f0 := Y3.f 0 rfl
  have f1 := Y3.f 1 rfl
  have f2 := Y3.f 2 rfl
  have f3 := Y3.f 3 rfl
  clear Y0 Y1 Y2 Y3
  go_wp2_with fail
  refine (IN.out _).mono ?_
  rintro e w2 ⟨rfl, rfl⟩
  obtain ⟨y1, y2, y3, y4⟩ := four_set (x := .int .i64 R) (y := .int .i64 (f.off + h.v)) (z := .bool (h.v != 0)) (u := .string h.t) d0 d1 d2 d3
  unfold set4 at y1 y2 y3 y4
  simp only [Nat.zero_add] at y1 y2 y3 y4
  go_wp2
  refine bodyPost_ret (v := .agg #[.int .i64 R, .int .i64 (f.off + h.v), .bool (h.v != 0), .string h.t]) (by simp [results, Tryd.results74, go_sem, y1, y2, y3, y4]) rfl ⟨rfl, ?_⟩
  exact below_set4 (i := 0) HB1.out (by omega) _ _ _ _

theorem dyV_bd {y m k d n : Int} (h : dyA m k d n) (hy : dyY y) : -1000000000 ≤ dyV y m k d n ∧ dyV y m k d n ≤ 1000000000 := by
  have b := fst1_bd hy h.2.1 h.2.2
  have l := Cv.len_bd y m
  unfold dyV
  rw [if_pos h, if_pos hy]
  unfold dayN
  have b1 := bk_bd (fst1 y m + Cv.len y m - 1) d
  have b2 := bk_bd (fst1 y m + n - 1) d
  have b3 := bk_bd (fst1 y m + n - 1 + 7 - 1) d
  have hn : -1 ≤ n ∧ n ≤ 31 := by rcases h.1 with a | a | a <;> omega
  split
  · omega
  · split
    · omega
    · split <;> omega

theorem to_any (f : Ft) (m : Nat) (h g : Hf) (y : Int) (hh : okH h = true) (hg : okH g = true) (o1 : -50400 ≤ f.off) (o2 : f.off ≤ 50400) (hy : dyY y) (w : World) (hL0 : Cvl.Lens w) :
    Calls Tryd.prog 74 #[.agg #[.bool f.h, .int .i64 f.fr, .int .i64 f.off, .int .i64 f.A.m, .int .i64 f.A.k, .int .i64 f.A.d, .int .i64 f.A.n, .int .i64 f.A.s, .int .u8 f.A.z, .int .i64 f.A.v, .string f.A.t, .int .i64 f.B.m, .int .i64 f.B.k, .int .i64 f.B.d, .int .i64 f.B.n, .int .i64 f.B.s, .int .u8 f.B.z, .int .i64 f.B.v, .string f.B.t, .map (some m)], .agg #[.int .i64 h.m, .int .i64 h.k, .int .i64 h.d, .int .i64 h.n, .int .i64 h.s, .int .u8 h.z, .int .i64 h.v, .string h.t], .agg #[.int .i64 g.m, .int .i64 g.k, .int .i64 g.d, .int .i64 g.n, .int .i64 g.s, .int .u8 g.z, .int .i64 g.v, .string g.t], .int .i64 y] w fun e w' => e = .returned (.agg #[.int .i64 (trOf f.off h g y).t, .int .i64 (trOf f.off h g y).o, .bool (trOf f.off h g y).d, .string (trOf f.off h g y).a]) ∧ Below w.heap.size w w' := by
  obtain ⟨a1, a2, a3, a4⟩ := okH_of hh
  obtain ⟨b1, b2, b3, b4⟩ := okH_of hg
  obtain ⟨v1, v2⟩ := dyV_bd a1 hy
  obtain ⟨s1, s2, s3⟩ := a2
  exact to_run f m h g y _ _ _ (fun w hw => day_any y h.m h.k h.d h.n w hw) (fun w => inst_any _ h.s h.z f.off g.v v1 v2 s1 s2 o1 o2 b3 b4 w) o1 o2 a3 a4 w hL0

end Go.Proofs.YtcgcljfdfimfgaaDoor.Fn
