/- Justify. -/
import Derived.Test.YtghfgabajdghiabSpC
import Derived.Test.YtghfgabajdghiabSpF
import Derived.Deep.Cut
import Derived.Deep.CutRange
import Derived.Deep.DeepCutAuto
namespace Go.Proofs.Ytghfgabajdghiab
open Go.RowKit
set_option linter.unusedVariables false

/-- what lay stays, and one cell holds this. -/
def BC (w : World) (b i : Nat) (v : Value) (W : World) : Prop := Below w.heap.size w W ∧ b < W.heap.size ∧ W.cell? ⟨b, i, none⟩ = some v
theorem BC.below {w W V : World} {b i : Nat} {v : Value} (h : BC w b i v W) (hb : Below W.heap.size W V) : BC w b i v V := ⟨h.1.trans (hb.mono h.1.size), Nat.lt_of_lt_of_le h.2.1 hb.size, (hb.cell (p := ⟨b, i, none⟩) h.2.1).trans h.2.2⟩
theorem BC.of {w W : World} {b i : Nat} {v : Value} {cs : List Value} (h : Below w.heap.size w W) (hx : Bx W b cs) (e : cs[i]? = some v) : BC w b i v W := ⟨h, hx.1, hx.c i e⟩
theorem BC.drew {w W : World} {b i : Nat} {v : Value} (h : BC w b i v W) : BC w b i v W.drew := ⟨h.1.drew, h.2.1, h.2.2⟩

set_option maxRecDepth 100000 in
set_option maxHeartbeats 4000000 in
theorem pjus_no (i m d u : Int)
    (R : Hid (∀ w : World, Calls Try.prog 15 #[.agg #[.int .i64 i, .int .i64 m, .int .i64 d, .int .i64 u]] w fun r' w' => r' = .returned (.bool false) ∧ Below w.heap.size w w'))
    (w : World) :
    Calls Try.prog 26 #[.agg #[.int .i64 i, .int .i64 m, .int .i64 d, .int .i64 u]] w fun r' w' => r' = .returned (.tuple #[.agg #[.int .i64 0, .int .i64 0, .int .i64 0, .int .i64 0], .int .i64 1]) ∧ Below w.heap.size w w' := by
  have K0 : Hid (BS w [(w.heap.size + 1, [.int .i64 0, .int .i64 0, .int .i64 0, .int .i64 0]), (w.heap.size, [.int .i64 i, .int .i64 m, .int .i64 d, .int .i64 u])] ((w.alloc (.cells #[.int .i64 i, .int .i64 m, .int .i64 d, .int .i64 u] 23)).alloc (.cells #[.int .i64 0, .int .i64 0, .int .i64 0, .int .i64 0] 23))) := (((BS.start w).new [.int .i64 i, .int .i64 m, .int .i64 d, .int .i64 u] 23 rfl).new [.int .i64 0, .int .i64 0, .int .i64 0, .int .i64 0] 23 (by simp))
  go_enter Try.func26, Try.ntmps26
  go_wp2_with fail
  refine (R.out _).mono ?_
  rintro e W1 ⟨rfl, hb⟩
  have K1 : Hid (BS w [(w.heap.size + 1, [.int .i64 0, .int .i64 0, .int .i64 0, .int .i64 0]), (w.heap.size, [.int .i64 i, .int .i64 m, .int .i64 d, .int .i64 u])] W1) := K0.out.below hb
  clear hb K0
  have c1_0_0 : W1.cell? ⟨w.heap.size + 1, 0, none⟩ = some (.int .i64 0) := (K1.out.at (w.heap.size + 1) [.int .i64 0, .int .i64 0, .int .i64 0, .int .i64 0] (by simp)).c 0 rfl
  have z1_0_0 : W1.frozen? ⟨w.heap.size + 1, 0, none⟩ = false := (K1.out.at (w.heap.size + 1) [.int .i64 0, .int .i64 0, .int .i64 0, .int .i64 0] (by simp)).f 0 rfl
  have c1_0_1 : W1.cell? ⟨w.heap.size + 1, 1, none⟩ = some (.int .i64 0) := (K1.out.at (w.heap.size + 1) [.int .i64 0, .int .i64 0, .int .i64 0, .int .i64 0] (by simp)).c 1 rfl
  have z1_0_1 : W1.frozen? ⟨w.heap.size + 1, 1, none⟩ = false := (K1.out.at (w.heap.size + 1) [.int .i64 0, .int .i64 0, .int .i64 0, .int .i64 0] (by simp)).f 1 rfl
  have c1_0_2 : W1.cell? ⟨w.heap.size + 1, 2, none⟩ = some (.int .i64 0) := (K1.out.at (w.heap.size + 1) [.int .i64 0, .int .i64 0, .int .i64 0, .int .i64 0] (by simp)).c 2 rfl
  have z1_0_2 : W1.frozen? ⟨w.heap.size + 1, 2, none⟩ = false := (K1.out.at (w.heap.size + 1) [.int .i64 0, .int .i64 0, .int .i64 0, .int .i64 0] (by simp)).f 2 rfl
  have c1_0_3 : W1.cell? ⟨w.heap.size + 1, 3, none⟩ = some (.int .i64 0) := (K1.out.at (w.heap.size + 1) [.int .i64 0, .int .i64 0, .int .i64 0, .int .i64 0] (by simp)).c 3 rfl
  have z1_0_3 : W1.frozen? ⟨w.heap.size + 1, 3, none⟩ = false := (K1.out.at (w.heap.size + 1) [.int .i64 0, .int .i64 0, .int .i64 0, .int .i64 0] (by simp)).f 3 rfl
  have c1_1_0 : W1.cell? ⟨w.heap.size, 0, none⟩ = some (.int .i64 i) := (K1.out.at (w.heap.size) [.int .i64 i, .int .i64 m, .int .i64 d, .int .i64 u] (by simp)).c 0 rfl
  have c1_1_1 : W1.cell? ⟨w.heap.size, 1, none⟩ = some (.int .i64 m) := (K1.out.at (w.heap.size) [.int .i64 i, .int .i64 m, .int .i64 d, .int .i64 u] (by simp)).c 1 rfl
  have c1_1_2 : W1.cell? ⟨w.heap.size, 2, none⟩ = some (.int .i64 d) := (K1.out.at (w.heap.size) [.int .i64 i, .int .i64 m, .int .i64 d, .int .i64 u] (by simp)).c 2 rfl
  have c1_1_3 : W1.cell? ⟨w.heap.size, 3, none⟩ = some (.int .i64 u) := (K1.out.at (w.heap.size) [.int .i64 i, .int .i64 m, .int .i64 d, .int .i64 u] (by simp)).c 3 rfl
  have XF : Hid (Bx (W1.setCells (w.heap.size + 1) 0 [.int .i64 0, .int .i64 0, .int .i64 0, .int .i64 0]) (w.heap.size + 1) [.int .i64 0, .int .i64 0, .int .i64 0, .int .i64 0]) := (K1.out.at (w.heap.size + 1) [.int .i64 0, .int .i64 0, .int .i64 0, .int .i64 0] (by simp)).setAll _ rfl
  have BF : Hid (Below w.heap.size w (W1.setCells (w.heap.size + 1) 0 [.int .i64 0, .int .i64 0, .int .i64 0, .int .i64 0])) := below_setCells (by omega) _ _ _ K1.out.1
  have y0 := XF.out.c 0 rfl
  have y1 := XF.out.c 1 rfl
  have y2 := XF.out.c 2 rfl
  have y3 := XF.out.c 3 rfl
  simp only [World.setCells, Nat.zero_add, Nat.reduceAdd] at y0 y1 y2 y3
  clear XF
  go_wp2
  exact bodyPost_ret (v := .tuple #[.agg #[.int .i64 0, .int .i64 0, .int .i64 0, .int .i64 0], .int .i64 1]) (by simp [results, Try.results26, go_sem, y0, y1, y2, y3]) rfl ⟨rfl, BF.out⟩

set_option maxRecDepth 100000 in
set_option maxHeartbeats 4000000 in
theorem pjus_inf (i m d u : Int) (hi : i ≠ 0)
    (R : Hid (∀ w : World, Calls Try.prog 15 #[.agg #[.int .i64 i, .int .i64 m, .int .i64 d, .int .i64 u]] w fun r' w' => r' = .returned (.bool true) ∧ Below w.heap.size w w'))
    (w : World) :
    Calls Try.prog 26 #[.agg #[.int .i64 i, .int .i64 m, .int .i64 d, .int .i64 u]] w fun r' w' => r' = .returned (.tuple #[.agg #[.int .i64 i, .int .i64 m, .int .i64 d, .int .i64 u], .int .i64 0]) ∧ Below w.heap.size w w' := by
  have i1 : (i != 0) = true := bne_iff_ne.2 hi
  have K0 : Hid (BS w [(w.heap.size + 1, [.int .i64 0, .int .i64 0, .int .i64 0, .int .i64 0]), (w.heap.size, [.int .i64 i, .int .i64 m, .int .i64 d, .int .i64 u])] ((w.alloc (.cells #[.int .i64 i, .int .i64 m, .int .i64 d, .int .i64 u] 23)).alloc (.cells #[.int .i64 0, .int .i64 0, .int .i64 0, .int .i64 0] 23))) := (((BS.start w).new [.int .i64 i, .int .i64 m, .int .i64 d, .int .i64 u] 23 rfl).new [.int .i64 0, .int .i64 0, .int .i64 0, .int .i64 0] 23 (by simp))
  go_enter Try.func26, Try.ntmps26
  go_wp2_with fail
  refine (R.out _).mono ?_
  rintro e W1 ⟨rfl, hb⟩
  have K1 : Hid (BS w [(w.heap.size + 1, [.int .i64 0, .int .i64 0, .int .i64 0, .int .i64 0]), (w.heap.size, [.int .i64 i, .int .i64 m, .int .i64 d, .int .i64 u])] W1) := K0.out.below hb
  clear hb K0
  have c1_0_0 : W1.cell? ⟨w.heap.size + 1, 0, none⟩ = some (.int .i64 0) := (K1.out.at (w.heap.size + 1) [.int .i64 0, .int .i64 0, .int .i64 0, .int .i64 0] (by simp)).c 0 rfl
  have z1_0_0 : W1.frozen? ⟨w.heap.size + 1, 0, none⟩ = false := (K1.out.at (w.heap.size + 1) [.int .i64 0, .int .i64 0, .int .i64 0, .int .i64 0] (by simp)).f 0 rfl
  have c1_0_1 : W1.cell? ⟨w.heap.size + 1, 1, none⟩ = some (.int .i64 0) := (K1.out.at (w.heap.size + 1) [.int .i64 0, .int .i64 0, .int .i64 0, .int .i64 0] (by simp)).c 1 rfl
  have z1_0_1 : W1.frozen? ⟨w.heap.size + 1, 1, none⟩ = false := (K1.out.at (w.heap.size + 1) [.int .i64 0, .int .i64 0, .int .i64 0, .int .i64 0] (by simp)).f 1 rfl
  have c1_0_2 : W1.cell? ⟨w.heap.size + 1, 2, none⟩ = some (.int .i64 0) := (K1.out.at (w.heap.size + 1) [.int .i64 0, .int .i64 0, .int .i64 0, .int .i64 0] (by simp)).c 2 rfl
  have z1_0_2 : W1.frozen? ⟨w.heap.size + 1, 2, none⟩ = false := (K1.out.at (w.heap.size + 1) [.int .i64 0, .int .i64 0, .int .i64 0, .int .i64 0] (by simp)).f 2 rfl
  have c1_0_3 : W1.cell? ⟨w.heap.size + 1, 3, none⟩ = some (.int .i64 0) := (K1.out.at (w.heap.size + 1) [.int .i64 0, .int .i64 0, .int .i64 0, .int .i64 0] (by simp)).c 3 rfl
  have z1_0_3 : W1.frozen? ⟨w.heap.size + 1, 3, none⟩ = false := (K1.out.at (w.heap.size + 1) [.int .i64 0, .int .i64 0, .int .i64 0, .int .i64 0] (by simp)).f 3 rfl
  have c1_1_0 : W1.cell? ⟨w.heap.size, 0, none⟩ = some (.int .i64 i) := (K1.out.at (w.heap.size) [.int .i64 i, .int .i64 m, .int .i64 d, .int .i64 u] (by simp)).c 0 rfl
  have c1_1_1 : W1.cell? ⟨w.heap.size, 1, none⟩ = some (.int .i64 m) := (K1.out.at (w.heap.size) [.int .i64 i, .int .i64 m, .int .i64 d, .int .i64 u] (by simp)).c 1 rfl
  have c1_1_2 : W1.cell? ⟨w.heap.size, 2, none⟩ = some (.int .i64 d) := (K1.out.at (w.heap.size) [.int .i64 i, .int .i64 m, .int .i64 d, .int .i64 u] (by simp)).c 2 rfl
  have c1_1_3 : W1.cell? ⟨w.heap.size, 3, none⟩ = some (.int .i64 u) := (K1.out.at (w.heap.size) [.int .i64 i, .int .i64 m, .int .i64 d, .int .i64 u] (by simp)).c 3 rfl
  have XF : Hid (Bx (W1.setCells (w.heap.size + 1) 0 [.int .i64 i, .int .i64 m, .int .i64 d, .int .i64 u]) (w.heap.size + 1) [.int .i64 i, .int .i64 m, .int .i64 d, .int .i64 u]) := (K1.out.at (w.heap.size + 1) [.int .i64 0, .int .i64 0, .int .i64 0, .int .i64 0] (by simp)).setAll _ rfl
  have BF : Hid (Below w.heap.size w (W1.setCells (w.heap.size + 1) 0 [.int .i64 i, .int .i64 m, .int .i64 d, .int .i64 u])) := below_setCells (by omega) _ _ _ K1.out.1
  have y0 := XF.out.c 0 rfl
  have y1 := XF.out.c 1 rfl
  have y2 := XF.out.c 2 rfl
  have y3 := XF.out.c 3 rfl
  simp only [World.setCells, Nat.zero_add, Nat.reduceAdd] at y0 y1 y2 y3
  clear XF
  go_wp2
  exact bodyPost_ret (v := .tuple #[.agg #[.int .i64 i, .int .i64 m, .int .i64 d, .int .i64 u], .int .i64 0]) (by simp [results, Try.results26, go_sem, y0, y1, y2, y3]) rfl ⟨rfl, BF.out⟩

set_option maxRecDepth 100000 in
set_option maxHeartbeats 4000000 in
theorem pjus_far (m d u D1 U1 : Int) (m1 : -2147483647 ≤ m) (m2 : m ≤ 2147483647) (d1 : -2147483647 ≤ d) (d2 : d ≤ 2147483647) (q1 : -1000000000 ≤ u.tdiv 86400000000) (q2 : u.tdiv 86400000000 ≤ 1000000000) (hd : d + u.tdiv 86400000000 = D1) (hu : u.tmod 86400000000 = U1)
    (R : Hid (∀ w : World, Calls Try.prog 15 #[.agg #[.int .i64 0, .int .i64 m, .int .i64 d, .int .i64 u]] w fun r' w' => r' = .returned (.bool true) ∧ Below w.heap.size w w'))
    (C : Hid (∀ w : World, Calls Try.prog 33 #[.int .i64 D1] w fun r' w' => r' = .returned (.bool false) ∧ w' = w))
    (w : World) :
    Calls Try.prog 26 #[.agg #[.int .i64 0, .int .i64 m, .int .i64 d, .int .i64 u]] w fun r' w' => r' = .returned (.tuple #[.agg #[.int .i64 0, .int .i64 0, .int .i64 0, .int .i64 0], .int .i64 10]) ∧ Below w.heap.size w w' := by
  have w1 : IntKind.i64.wrap (u.tdiv 86400000000) = u.tdiv 86400000000 := by rw [IntKind.wrap_i64]; omega
  have w2 : IntKind.i64.wrap (d + u.tdiv 86400000000) = D1 := by rw [IntKind.wrap_i64]; omega
  have K0 : Hid (BS w [(w.heap.size + 1, [.int .i64 0, .int .i64 0, .int .i64 0, .int .i64 0]), (w.heap.size, [.int .i64 0, .int .i64 m, .int .i64 d, .int .i64 u])] ((w.alloc (.cells #[.int .i64 0, .int .i64 m, .int .i64 d, .int .i64 u] 23)).alloc (.cells #[.int .i64 0, .int .i64 0, .int .i64 0, .int .i64 0] 23))) := (((BS.start w).new [.int .i64 0, .int .i64 m, .int .i64 d, .int .i64 u] 23 rfl).new [.int .i64 0, .int .i64 0, .int .i64 0, .int .i64 0] 23 (by simp))
  go_enter Try.func26, Try.ntmps26
  go_wp2_with fail
  refine (R.out _).mono ?_
  rintro e W1 ⟨rfl, hb⟩
  have K1 : Hid (BS w [(w.heap.size + 1, [.int .i64 0, .int .i64 0, .int .i64 0, .int .i64 0]), (w.heap.size, [.int .i64 0, .int .i64 m, .int .i64 d, .int .i64 u])] W1) := K0.out.below hb
  clear hb K0
  have c1_0_0 : W1.cell? ⟨w.heap.size + 1, 0, none⟩ = some (.int .i64 0) := (K1.out.at (w.heap.size + 1) [.int .i64 0, .int .i64 0, .int .i64 0, .int .i64 0] (by simp)).c 0 rfl
  have z1_0_0 : W1.frozen? ⟨w.heap.size + 1, 0, none⟩ = false := (K1.out.at (w.heap.size + 1) [.int .i64 0, .int .i64 0, .int .i64 0, .int .i64 0] (by simp)).f 0 rfl
  have c1_0_1 : W1.cell? ⟨w.heap.size + 1, 1, none⟩ = some (.int .i64 0) := (K1.out.at (w.heap.size + 1) [.int .i64 0, .int .i64 0, .int .i64 0, .int .i64 0] (by simp)).c 1 rfl
  have z1_0_1 : W1.frozen? ⟨w.heap.size + 1, 1, none⟩ = false := (K1.out.at (w.heap.size + 1) [.int .i64 0, .int .i64 0, .int .i64 0, .int .i64 0] (by simp)).f 1 rfl
  have c1_0_2 : W1.cell? ⟨w.heap.size + 1, 2, none⟩ = some (.int .i64 0) := (K1.out.at (w.heap.size + 1) [.int .i64 0, .int .i64 0, .int .i64 0, .int .i64 0] (by simp)).c 2 rfl
  have z1_0_2 : W1.frozen? ⟨w.heap.size + 1, 2, none⟩ = false := (K1.out.at (w.heap.size + 1) [.int .i64 0, .int .i64 0, .int .i64 0, .int .i64 0] (by simp)).f 2 rfl
  have c1_0_3 : W1.cell? ⟨w.heap.size + 1, 3, none⟩ = some (.int .i64 0) := (K1.out.at (w.heap.size + 1) [.int .i64 0, .int .i64 0, .int .i64 0, .int .i64 0] (by simp)).c 3 rfl
  have z1_0_3 : W1.frozen? ⟨w.heap.size + 1, 3, none⟩ = false := (K1.out.at (w.heap.size + 1) [.int .i64 0, .int .i64 0, .int .i64 0, .int .i64 0] (by simp)).f 3 rfl
  have c1_1_0 : W1.cell? ⟨w.heap.size, 0, none⟩ = some (.int .i64 0) := (K1.out.at (w.heap.size) [.int .i64 0, .int .i64 m, .int .i64 d, .int .i64 u] (by simp)).c 0 rfl
  have z1_1_0 : W1.frozen? ⟨w.heap.size, 0, none⟩ = false := (K1.out.at (w.heap.size) [.int .i64 0, .int .i64 m, .int .i64 d, .int .i64 u] (by simp)).f 0 rfl
  have c1_1_1 : W1.cell? ⟨w.heap.size, 1, none⟩ = some (.int .i64 m) := (K1.out.at (w.heap.size) [.int .i64 0, .int .i64 m, .int .i64 d, .int .i64 u] (by simp)).c 1 rfl
  have z1_1_1 : W1.frozen? ⟨w.heap.size, 1, none⟩ = false := (K1.out.at (w.heap.size) [.int .i64 0, .int .i64 m, .int .i64 d, .int .i64 u] (by simp)).f 1 rfl
  have c1_1_2 : W1.cell? ⟨w.heap.size, 2, none⟩ = some (.int .i64 d) := (K1.out.at (w.heap.size) [.int .i64 0, .int .i64 m, .int .i64 d, .int .i64 u] (by simp)).c 2 rfl
  have z1_1_2 : W1.frozen? ⟨w.heap.size, 2, none⟩ = false := (K1.out.at (w.heap.size) [.int .i64 0, .int .i64 m, .int .i64 d, .int .i64 u] (by simp)).f 2 rfl
  have c1_1_3 : W1.cell? ⟨w.heap.size, 3, none⟩ = some (.int .i64 u) := (K1.out.at (w.heap.size) [.int .i64 0, .int .i64 m, .int .i64 d, .int .i64 u] (by simp)).c 3 rfl
  have z1_1_3 : W1.frozen? ⟨w.heap.size, 3, none⟩ = false := (K1.out.at (w.heap.size) [.int .i64 0, .int .i64 m, .int .i64 d, .int .i64 u] (by simp)).f 3 rfl
  have Mz1 : Hid (BS w [(w.heap.size, [.int .i64 0, .int .i64 m, .int .i64 D1, .int .i64 U1]), (w.heap.size + 1, [.int .i64 0, .int .i64 0, .int .i64 0, .int .i64 0])] ((W1.setCell ⟨w.heap.size, 2, none⟩ (.int .i64 D1)).setCell ⟨w.heap.size, 3, none⟩ (.int .i64 U1))) := ((K1.out.swap.set1 2 (.int .i64 D1) (by simp) (by intro x hx; simp only [List.mem_singleton] at hx; subst hx; simp)).set1 3 (.int .i64 U1) (by simp) (by intro x hx; simp only [List.mem_singleton] at hx; subst hx; simp))
  go_upto_region 6 with fail
  refine gen_to (BS w [(w.heap.size, [.int .i64 0, .int .i64 m, .int .i64 D1, .int .i64 U1]), (w.heap.size + 1, [.int .i64 0, .int .i64 0, .int .i64 0, .int .i64 0])]) Mz1.out ?_
  clear c1_0_0 z1_0_0 c1_0_1 z1_0_1 c1_0_2 z1_0_2 c1_0_3 z1_0_3 c1_1_0 z1_1_0 c1_1_1 z1_1_1 c1_1_2 z1_1_2 c1_1_3 z1_1_3
  intro W2 K2'
  have K2 : Hid (BS w [(w.heap.size, [.int .i64 0, .int .i64 m, .int .i64 D1, .int .i64 U1]), (w.heap.size + 1, [.int .i64 0, .int .i64 0, .int .i64 0, .int .i64 0])] W2) := K2'
  clear K2' Mz1 K1
  have c2_0_0 : W2.cell? ⟨w.heap.size, 0, none⟩ = some (.int .i64 0) := (K2.out.at (w.heap.size) [.int .i64 0, .int .i64 m, .int .i64 D1, .int .i64 U1] (by simp)).c 0 rfl
  have c2_0_1 : W2.cell? ⟨w.heap.size, 1, none⟩ = some (.int .i64 m) := (K2.out.at (w.heap.size) [.int .i64 0, .int .i64 m, .int .i64 D1, .int .i64 U1] (by simp)).c 1 rfl
  have c2_0_2 : W2.cell? ⟨w.heap.size, 2, none⟩ = some (.int .i64 D1) := (K2.out.at (w.heap.size) [.int .i64 0, .int .i64 m, .int .i64 D1, .int .i64 U1] (by simp)).c 2 rfl
  have c2_0_3 : W2.cell? ⟨w.heap.size, 3, none⟩ = some (.int .i64 U1) := (K2.out.at (w.heap.size) [.int .i64 0, .int .i64 m, .int .i64 D1, .int .i64 U1] (by simp)).c 3 rfl
  have c2_1_0 : W2.cell? ⟨w.heap.size + 1, 0, none⟩ = some (.int .i64 0) := (K2.out.at (w.heap.size + 1) [.int .i64 0, .int .i64 0, .int .i64 0, .int .i64 0] (by simp)).c 0 rfl
  have z2_1_0 : W2.frozen? ⟨w.heap.size + 1, 0, none⟩ = false := (K2.out.at (w.heap.size + 1) [.int .i64 0, .int .i64 0, .int .i64 0, .int .i64 0] (by simp)).f 0 rfl
  have c2_1_1 : W2.cell? ⟨w.heap.size + 1, 1, none⟩ = some (.int .i64 0) := (K2.out.at (w.heap.size + 1) [.int .i64 0, .int .i64 0, .int .i64 0, .int .i64 0] (by simp)).c 1 rfl
  have z2_1_1 : W2.frozen? ⟨w.heap.size + 1, 1, none⟩ = false := (K2.out.at (w.heap.size + 1) [.int .i64 0, .int .i64 0, .int .i64 0, .int .i64 0] (by simp)).f 1 rfl
  have c2_1_2 : W2.cell? ⟨w.heap.size + 1, 2, none⟩ = some (.int .i64 0) := (K2.out.at (w.heap.size + 1) [.int .i64 0, .int .i64 0, .int .i64 0, .int .i64 0] (by simp)).c 2 rfl
  have z2_1_2 : W2.frozen? ⟨w.heap.size + 1, 2, none⟩ = false := (K2.out.at (w.heap.size + 1) [.int .i64 0, .int .i64 0, .int .i64 0, .int .i64 0] (by simp)).f 2 rfl
  have c2_1_3 : W2.cell? ⟨w.heap.size + 1, 3, none⟩ = some (.int .i64 0) := (K2.out.at (w.heap.size + 1) [.int .i64 0, .int .i64 0, .int .i64 0, .int .i64 0] (by simp)).c 3 rfl
  have z2_1_3 : W2.frozen? ⟨w.heap.size + 1, 3, none⟩ = false := (K2.out.at (w.heap.size + 1) [.int .i64 0, .int .i64 0, .int .i64 0, .int .i64 0] (by simp)).f 3 rfl
  go_wp2_with fail
  refine (C.out _).mono ?_
  rintro e W3 ⟨rfl, hw⟩
  rw [hw]
  clear hw W3
  have XF : Hid (Bx (W2.setCells (w.heap.size + 1) 0 [.int .i64 0, .int .i64 0, .int .i64 0, .int .i64 0]) (w.heap.size + 1) [.int .i64 0, .int .i64 0, .int .i64 0, .int .i64 0]) := (K2.out.at (w.heap.size + 1) [.int .i64 0, .int .i64 0, .int .i64 0, .int .i64 0] (by simp)).setAll _ rfl
  have BF : Hid (Below w.heap.size w (W2.setCells (w.heap.size + 1) 0 [.int .i64 0, .int .i64 0, .int .i64 0, .int .i64 0])) := below_setCells (by omega) _ _ _ K2.out.1
  have y0 := XF.out.c 0 rfl
  have y1 := XF.out.c 1 rfl
  have y2 := XF.out.c 2 rfl
  have y3 := XF.out.c 3 rfl
  simp only [World.setCells, Nat.zero_add, Nat.reduceAdd] at y0 y1 y2 y3
  clear XF
  go_wp2
  exact bodyPost_ret (v := .tuple #[.agg #[.int .i64 0, .int .i64 0, .int .i64 0, .int .i64 0], .int .i64 10]) (by simp [results, Try.results26, go_sem, y0, y1, y2, y3]) rfl ⟨rfl, BF.out⟩

set_option maxRecDepth 100000 in
set_option maxHeartbeats 4000000 in
theorem pjus_run (m d u D1 U1 M1 D2 sg M2 D3 t D4 U2 I M D U E : Int) (m1 : -2147483647 ≤ m) (m2 : m ≤ 2147483647) (d1 : -2147483647 ≤ d) (d2 : d ≤ 2147483647) (q1 : -1000000000 ≤ u.tdiv 86400000000) (q2 : u.tdiv 86400000000 ≤ 1000000000) (hd : d + u.tdiv 86400000000 = D1) (hu : u.tmod 86400000000 = U1) (hm : m + D1.tdiv 30 = M1) (he : D1.tmod 30 = D2) (q3 : -100000000 ≤ D1.tdiv 30) (q4 : D1.tdiv 30 ≤ 100000000)
    (R : Hid (∀ w : World, Calls Try.prog 15 #[.agg #[.int .i64 0, .int .i64 m, .int .i64 d, .int .i64 u]] w fun r' w' => r' = .returned (.bool true) ∧ Below w.heap.size w w'))
    (C : Hid (∀ w : World, Calls Try.prog 33 #[.int .i64 D1] w fun r' w' => r' = .returned (.bool true) ∧ w' = w))
    (SG : Hid (∀ w : World, Calls Try.prog 24 #[.agg #[.int .i64 0, .int .i64 0, .int .i64 D2, .int .i64 U1]] w fun r' w' => r' = .returned (.int .i64 sg) ∧ Below w.heap.size w w'))
    (LD : Hid (∀ w : World, Calls Try.prog 45 #[.int .i64 M1, .int .i64 D2, .int .i64 30, .int .i64 sg] w fun r' w' => r' = .returned (.tuple #[.int .i64 M2, .int .i64 D3]) ∧ w' = w))
    (CM : Hid (∀ w : World, Calls Try.prog 36 #[.int .i64 U1, .int .i64 0] w fun r' w' => r' = .returned (.int .i64 t) ∧ w' = w))
    (LE : Hid (∀ w : World, Calls Try.prog 45 #[.int .i64 D3, .int .i64 U1, .int .i64 86400000000, .int .i64 t] w fun r' w' => r' = .returned (.tuple #[.int .i64 D4, .int .i64 U2]) ∧ w' = w))
    (MK : Hid (∀ w : World, Calls Try.prog 20 #[.int .i64 M2, .int .i64 D4, .int .i64 U2] w fun r' w' => r' = .returned (.tuple #[.agg #[.int .i64 I, .int .i64 M, .int .i64 D, .int .i64 U], .int .i64 E]) ∧ Below w.heap.size w w'))
    (w : World) :
    Calls Try.prog 26 #[.agg #[.int .i64 0, .int .i64 m, .int .i64 d, .int .i64 u]] w fun r' w' => r' = .returned (.tuple #[.agg #[.int .i64 I, .int .i64 M, .int .i64 D, .int .i64 U], .int .i64 E]) ∧ Below w.heap.size w w' := by
  have w1 : IntKind.i64.wrap (u.tdiv 86400000000) = u.tdiv 86400000000 := by rw [IntKind.wrap_i64]; omega
  have w2 : IntKind.i64.wrap (d + u.tdiv 86400000000) = D1 := by rw [IntKind.wrap_i64]; omega
  have w3 : IntKind.i64.wrap (D1.tdiv 30) = D1.tdiv 30 := by rw [IntKind.wrap_i64]; omega
  have w4 : IntKind.i64.wrap (m + D1.tdiv 30) = M1 := by rw [IntKind.wrap_i64]; omega
  have K0 : Hid (BS w [(w.heap.size + 1, [.int .i64 0, .int .i64 0, .int .i64 0, .int .i64 0]), (w.heap.size, [.int .i64 0, .int .i64 m, .int .i64 d, .int .i64 u])] ((w.alloc (.cells #[.int .i64 0, .int .i64 m, .int .i64 d, .int .i64 u] 23)).alloc (.cells #[.int .i64 0, .int .i64 0, .int .i64 0, .int .i64 0] 23))) := (((BS.start w).new [.int .i64 0, .int .i64 m, .int .i64 d, .int .i64 u] 23 rfl).new [.int .i64 0, .int .i64 0, .int .i64 0, .int .i64 0] 23 (by simp))
  go_enter Try.func26, Try.ntmps26
  go_wp2_with fail
  refine (R.out _).mono ?_
  rintro e W1 ⟨rfl, hb⟩
  have K1 : Hid (BS w [(w.heap.size + 1, [.int .i64 0, .int .i64 0, .int .i64 0, .int .i64 0]), (w.heap.size, [.int .i64 0, .int .i64 m, .int .i64 d, .int .i64 u])] W1) := K0.out.below hb
  clear hb K0
  have c1_0_0 : W1.cell? ⟨w.heap.size + 1, 0, none⟩ = some (.int .i64 0) := (K1.out.at (w.heap.size + 1) [.int .i64 0, .int .i64 0, .int .i64 0, .int .i64 0] (by simp)).c 0 rfl
  have z1_0_0 : W1.frozen? ⟨w.heap.size + 1, 0, none⟩ = false := (K1.out.at (w.heap.size + 1) [.int .i64 0, .int .i64 0, .int .i64 0, .int .i64 0] (by simp)).f 0 rfl
  have c1_0_1 : W1.cell? ⟨w.heap.size + 1, 1, none⟩ = some (.int .i64 0) := (K1.out.at (w.heap.size + 1) [.int .i64 0, .int .i64 0, .int .i64 0, .int .i64 0] (by simp)).c 1 rfl
  have z1_0_1 : W1.frozen? ⟨w.heap.size + 1, 1, none⟩ = false := (K1.out.at (w.heap.size + 1) [.int .i64 0, .int .i64 0, .int .i64 0, .int .i64 0] (by simp)).f 1 rfl
  have c1_0_2 : W1.cell? ⟨w.heap.size + 1, 2, none⟩ = some (.int .i64 0) := (K1.out.at (w.heap.size + 1) [.int .i64 0, .int .i64 0, .int .i64 0, .int .i64 0] (by simp)).c 2 rfl
  have z1_0_2 : W1.frozen? ⟨w.heap.size + 1, 2, none⟩ = false := (K1.out.at (w.heap.size + 1) [.int .i64 0, .int .i64 0, .int .i64 0, .int .i64 0] (by simp)).f 2 rfl
  have c1_0_3 : W1.cell? ⟨w.heap.size + 1, 3, none⟩ = some (.int .i64 0) := (K1.out.at (w.heap.size + 1) [.int .i64 0, .int .i64 0, .int .i64 0, .int .i64 0] (by simp)).c 3 rfl
  have z1_0_3 : W1.frozen? ⟨w.heap.size + 1, 3, none⟩ = false := (K1.out.at (w.heap.size + 1) [.int .i64 0, .int .i64 0, .int .i64 0, .int .i64 0] (by simp)).f 3 rfl
  have c1_1_0 : W1.cell? ⟨w.heap.size, 0, none⟩ = some (.int .i64 0) := (K1.out.at (w.heap.size) [.int .i64 0, .int .i64 m, .int .i64 d, .int .i64 u] (by simp)).c 0 rfl
  have z1_1_0 : W1.frozen? ⟨w.heap.size, 0, none⟩ = false := (K1.out.at (w.heap.size) [.int .i64 0, .int .i64 m, .int .i64 d, .int .i64 u] (by simp)).f 0 rfl
  have c1_1_1 : W1.cell? ⟨w.heap.size, 1, none⟩ = some (.int .i64 m) := (K1.out.at (w.heap.size) [.int .i64 0, .int .i64 m, .int .i64 d, .int .i64 u] (by simp)).c 1 rfl
  have z1_1_1 : W1.frozen? ⟨w.heap.size, 1, none⟩ = false := (K1.out.at (w.heap.size) [.int .i64 0, .int .i64 m, .int .i64 d, .int .i64 u] (by simp)).f 1 rfl
  have c1_1_2 : W1.cell? ⟨w.heap.size, 2, none⟩ = some (.int .i64 d) := (K1.out.at (w.heap.size) [.int .i64 0, .int .i64 m, .int .i64 d, .int .i64 u] (by simp)).c 2 rfl
  have z1_1_2 : W1.frozen? ⟨w.heap.size, 2, none⟩ = false := (K1.out.at (w.heap.size) [.int .i64 0, .int .i64 m, .int .i64 d, .int .i64 u] (by simp)).f 2 rfl
  have c1_1_3 : W1.cell? ⟨w.heap.size, 3, none⟩ = some (.int .i64 u) := (K1.out.at (w.heap.size) [.int .i64 0, .int .i64 m, .int .i64 d, .int .i64 u] (by simp)).c 3 rfl
  have z1_1_3 : W1.frozen? ⟨w.heap.size, 3, none⟩ = false := (K1.out.at (w.heap.size) [.int .i64 0, .int .i64 m, .int .i64 d, .int .i64 u] (by simp)).f 3 rfl
  have Mz1 : Hid (BS w [(w.heap.size, [.int .i64 0, .int .i64 m, .int .i64 D1, .int .i64 U1]), (w.heap.size + 1, [.int .i64 0, .int .i64 0, .int .i64 0, .int .i64 0])] ((W1.setCell ⟨w.heap.size, 2, none⟩ (.int .i64 D1)).setCell ⟨w.heap.size, 3, none⟩ (.int .i64 U1))) := ((K1.out.swap.set1 2 (.int .i64 D1) (by simp) (by intro x hx; simp only [List.mem_singleton] at hx; subst hx; simp)).set1 3 (.int .i64 U1) (by simp) (by intro x hx; simp only [List.mem_singleton] at hx; subst hx; simp))
  go_upto_region 6 with fail
  refine gen_to (BS w [(w.heap.size, [.int .i64 0, .int .i64 m, .int .i64 D1, .int .i64 U1]), (w.heap.size + 1, [.int .i64 0, .int .i64 0, .int .i64 0, .int .i64 0])]) Mz1.out ?_
  clear c1_0_0 z1_0_0 c1_0_1 z1_0_1 c1_0_2 z1_0_2 c1_0_3 z1_0_3 c1_1_0 z1_1_0 c1_1_1 z1_1_1 c1_1_2 z1_1_2 c1_1_3 z1_1_3
  intro W2 K2'
  have K2 : Hid (BS w [(w.heap.size, [.int .i64 0, .int .i64 m, .int .i64 D1, .int .i64 U1]), (w.heap.size + 1, [.int .i64 0, .int .i64 0, .int .i64 0, .int .i64 0])] W2) := K2'
  clear K2' Mz1 K1
  have c2_0_0 : W2.cell? ⟨w.heap.size, 0, none⟩ = some (.int .i64 0) := (K2.out.at (w.heap.size) [.int .i64 0, .int .i64 m, .int .i64 D1, .int .i64 U1] (by simp)).c 0 rfl
  have z2_0_0 : W2.frozen? ⟨w.heap.size, 0, none⟩ = false := (K2.out.at (w.heap.size) [.int .i64 0, .int .i64 m, .int .i64 D1, .int .i64 U1] (by simp)).f 0 rfl
  have c2_0_1 : W2.cell? ⟨w.heap.size, 1, none⟩ = some (.int .i64 m) := (K2.out.at (w.heap.size) [.int .i64 0, .int .i64 m, .int .i64 D1, .int .i64 U1] (by simp)).c 1 rfl
  have z2_0_1 : W2.frozen? ⟨w.heap.size, 1, none⟩ = false := (K2.out.at (w.heap.size) [.int .i64 0, .int .i64 m, .int .i64 D1, .int .i64 U1] (by simp)).f 1 rfl
  have c2_0_2 : W2.cell? ⟨w.heap.size, 2, none⟩ = some (.int .i64 D1) := (K2.out.at (w.heap.size) [.int .i64 0, .int .i64 m, .int .i64 D1, .int .i64 U1] (by simp)).c 2 rfl
  have z2_0_2 : W2.frozen? ⟨w.heap.size, 2, none⟩ = false := (K2.out.at (w.heap.size) [.int .i64 0, .int .i64 m, .int .i64 D1, .int .i64 U1] (by simp)).f 2 rfl
  have c2_0_3 : W2.cell? ⟨w.heap.size, 3, none⟩ = some (.int .i64 U1) := (K2.out.at (w.heap.size) [.int .i64 0, .int .i64 m, .int .i64 D1, .int .i64 U1] (by simp)).c 3 rfl
  have z2_0_3 : W2.frozen? ⟨w.heap.size, 3, none⟩ = false := (K2.out.at (w.heap.size) [.int .i64 0, .int .i64 m, .int .i64 D1, .int .i64 U1] (by simp)).f 3 rfl
  have c2_1_0 : W2.cell? ⟨w.heap.size + 1, 0, none⟩ = some (.int .i64 0) := (K2.out.at (w.heap.size + 1) [.int .i64 0, .int .i64 0, .int .i64 0, .int .i64 0] (by simp)).c 0 rfl
  have c2_1_1 : W2.cell? ⟨w.heap.size + 1, 1, none⟩ = some (.int .i64 0) := (K2.out.at (w.heap.size + 1) [.int .i64 0, .int .i64 0, .int .i64 0, .int .i64 0] (by simp)).c 1 rfl
  have c2_1_2 : W2.cell? ⟨w.heap.size + 1, 2, none⟩ = some (.int .i64 0) := (K2.out.at (w.heap.size + 1) [.int .i64 0, .int .i64 0, .int .i64 0, .int .i64 0] (by simp)).c 2 rfl
  have c2_1_3 : W2.cell? ⟨w.heap.size + 1, 3, none⟩ = some (.int .i64 0) := (K2.out.at (w.heap.size + 1) [.int .i64 0, .int .i64 0, .int .i64 0, .int .i64 0] (by simp)).c 3 rfl
  go_wp2_with fail
  refine (C.out _).mono ?_
  rintro e W3 ⟨rfl, hw⟩
  rw [hw]
  clear hw W3
  have Mz3 : Hid (BS w [(w.heap.size, [.int .i64 0, .int .i64 M1, .int .i64 D2, .int .i64 U1]), (w.heap.size + 1, [.int .i64 0, .int .i64 0, .int .i64 0, .int .i64 0])] ((W2.setCell ⟨w.heap.size, 1, none⟩ (.int .i64 M1)).setCell ⟨w.heap.size, 2, none⟩ (.int .i64 D2))) := ((K2.out.set1 1 (.int .i64 M1) (by simp) (by intro x hx; simp only [List.mem_singleton] at hx; subst hx; simp)).set1 2 (.int .i64 D2) (by simp) (by intro x hx; simp only [List.mem_singleton] at hx; subst hx; simp))
  go_upto_region 9 with fail
  refine gen_to (BS w [(w.heap.size, [.int .i64 0, .int .i64 M1, .int .i64 D2, .int .i64 U1]), (w.heap.size + 1, [.int .i64 0, .int .i64 0, .int .i64 0, .int .i64 0])]) Mz3.out ?_
  clear c2_0_0 z2_0_0 c2_0_1 z2_0_1 c2_0_2 z2_0_2 c2_0_3 z2_0_3 c2_1_0 c2_1_1 c2_1_2 c2_1_3
  intro W4 K4'
  have K4 : Hid (BS w [(w.heap.size, [.int .i64 0, .int .i64 M1, .int .i64 D2, .int .i64 U1]), (w.heap.size + 1, [.int .i64 0, .int .i64 0, .int .i64 0, .int .i64 0])] W4) := K4'
  clear K4' Mz3 K2
  go_wp2_with fail
  have KK := K4
  go_cut [] from 39 to 54 (fun wx => BS w [(w.heap.size, [.int .i64 0, .int .i64 M2, .int .i64 D3, .int .i64 U1]), (w.heap.size + 1, [.int .i64 0, .int .i64 0, .int .i64 0, .int .i64 0])] wx)
  case first =>
    refine wp_region_held_drew (S := BC w (w.heap.size) 3 (.int .i64 U1)) (by kernel_rfl) (BC.of K4.out.1 K4.out.first (i := 3) rfl).drew (fun hHeld => ?_)
    refine wpAnyH_take (i := 0) (v := ?_) (oi := { dst := some 40, op := _, type := _, pos := _, after := _, guard := none }) rfl (by kernel_rfl) (by kernel_rfl) (by kernel_rfl) (fun _ _ _ h => h) (Or.inl ⟨by kernel_rfl, ?_⟩) (by assumption) ?_
    case refine_2 => (intro w9 hSw; clear hSw; go_simp; try with_reducible rfl)
    simp only [Act.put, List.setIfInBounds_toArray, List.set_cons_zero, List.set_cons_succ]
    refine wpAnyH_take (i := 2) (v := ?_) (oi := { dst := some 42, op := _, type := _, pos := _, after := _, guard := none }) rfl (by kernel_rfl) (by kernel_rfl) (by kernel_rfl) (fun _ _ _ h => h) (Or.inl ⟨by kernel_rfl, ?_⟩) (by assumption) ?_
    case refine_2 => (intro w9 hSw; clear hSw; go_simp; try with_reducible rfl)
    simp only [Act.put, List.setIfInBounds_toArray, List.set_cons_zero, List.set_cons_succ]
    refine wpAnyH_take (i := 4) (v := ?_) (oi := { dst := some 44, op := _, type := _, pos := _, after := _, guard := none }) rfl (by kernel_rfl) (by kernel_rfl) (by kernel_rfl) (fun _ _ _ h => h) (Or.inl ⟨by kernel_rfl, ?_⟩) (by assumption) ?_
    case refine_2 => (intro w9 hSw; clear hSw; go_simp; try with_reducible rfl)
    simp only [Act.put, List.setIfInBounds_toArray, List.set_cons_zero, List.set_cons_succ]
    refine wpAnyH_take (i := 6) (v := ?_) (oi := { dst := some 46, op := _, type := _, pos := _, after := _, guard := none }) rfl (by kernel_rfl) (by kernel_rfl) (by kernel_rfl) (fun _ _ _ h => h) (Or.inl ⟨by kernel_rfl, ?_⟩) (by assumption) ?_
    case refine_2 => (intro w9 hSw; clear hSw; go_simp; try with_reducible rfl)
    simp only [Act.put, List.setIfInBounds_toArray, List.set_cons_zero, List.set_cons_succ]
    refine wpAnyH_take (i := 7) (v := ?_) (oi := { dst := some 47, op := _, type := _, pos := _, after := _, guard := none }) rfl (by kernel_rfl) (by kernel_rfl) (by kernel_rfl) (fun _ _ _ h => h) (Or.inl ⟨by kernel_rfl, ?_⟩) (by assumption) ?_
    case refine_2 => (intro w9 hSw; obtain ⟨_, _, l9⟩ := hSw; go_simp; try with_reducible rfl)
    simp only [Act.put, List.setIfInBounds_toArray, List.set_cons_zero, List.set_cons_succ]
    refine wpAnyH_ready (rs := [1, 3, 5]) (by kernel_rfl) (by simp) (AllReadyH.cons (o := { dst := some 41, op := _, type := _, pos := _, after := _, guard := none }) rfl (fun K hK => ?_) (AllReadyH.cons (o := { dst := some 43, op := _, type := _, pos := _, after := _, guard := none }) rfl (fun K hK => ?_) (AllReadyH.cons (o := { dst := some 45, op := _, type := _, pos := _, after := _, guard := none }) rfl (fun K hK => ?_) AllReadyH.nil)))
    ·
      have l_0 := KK.out.first.c 1 rfl
      go_simp
      refine hK.out _ _ hHeld (fun hHeld => ?_)
      clear hK K l_0
      refine wpAnyH_ready (rs := [3, 5]) (by kernel_rfl) (by simp) (AllReadyH.cons (o := { dst := some 43, op := _, type := _, pos := _, after := _, guard := none }) rfl (fun K hK => ?_) (AllReadyH.cons (o := { dst := some 45, op := _, type := _, pos := _, after := _, guard := none }) rfl (fun K hK => ?_) AllReadyH.nil))
      ·
        have l_0 := KK.out.first.c 2 rfl
        go_simp
        refine hK.out _ _ hHeld (fun hHeld => ?_)
        clear hK K l_0
        refine wpAnyH_ready (rs := [5]) (by kernel_rfl) (by simp) (AllReadyH.cons (o := { dst := some 45, op := _, type := _, pos := _, after := _, guard := none }) rfl (fun K hK => ?_) AllReadyH.nil)
        have l_0 := KK.out.first.c 2 rfl
        go_simp
        refine hK.out _ _ hHeld (fun hHeld => ?_)
        clear hK K l_0
        refine wpAnyH_take (i := 8) (v := ?_) (oi := { dst := some 48, op := _, type := _, pos := _, after := _, guard := none }) rfl (by kernel_rfl) (by kernel_rfl) (by kernel_rfl) (fun _ _ _ h => h) (Or.inl ⟨by kernel_rfl, ?_⟩) (by assumption) ?_
        case refine_2 => (intro w9 hSw; clear hSw; go_simp; try with_reducible rfl)
        simp only [Act.put, List.setIfInBounds_toArray, List.set_cons_zero, List.set_cons_succ]
        refine wpAnyH_ready (rs := [9]) (by kernel_rfl) (by simp) (AllReadyH.cons (o := { dst := some 49, op := _, type := _, pos := _, after := _, guard := none }) rfl (fun K hK => ?_) AllReadyH.nil)
        go_simp
        refine (SG.out _).mono ?_
        rintro e v4 ⟨rfl, hb4⟩
        refine hK.out _ _ (hHeld.below hb4) (fun hHeld => ?_)
        replace KK : Hid (BS w [(w.heap.size, [.int .i64 0, .int .i64 M1, .int .i64 D2, .int .i64 U1]), (w.heap.size + 1, [.int .i64 0, .int .i64 0, .int .i64 0, .int .i64 0])] v4) := by first | exact KK.out.below hb4 | exact KK.out.drew.below hb4
        clear hK K hb4
        refine wpAnyH_ready (rs := [10]) (by kernel_rfl) (by simp) (AllReadyH.cons (o := { dst := some 50, op := _, type := _, pos := _, after := _, guard := none }) rfl (fun K hK => ?_) AllReadyH.nil)
        go_simp
        refine (LD.out _).mono ?_
        rintro e v5 ⟨rfl, hw⟩
        rw [hw]
        refine hK.out _ _ hHeld (fun hHeld => ?_)
        clear hK K hw v5
        refine wpAnyH_take (i := 11) (v := ?_) (oi := { dst := some 39, op := _, type := _, pos := _, after := _, guard := none }) rfl (by kernel_rfl) (by kernel_rfl) (by kernel_rfl) (fun _ _ _ h => h) (Or.inl ⟨by kernel_rfl, ?_⟩) (by assumption) ?_
        case refine_2 => (intro w9 hSw; clear hSw; go_simp; try with_reducible rfl)
        simp only [Act.put, List.setIfInBounds_toArray, List.set_cons_zero, List.set_cons_succ]
        refine wpAnyH_take (i := 12) (v := ?_) (oi := { dst := some 51, op := _, type := _, pos := _, after := _, guard := none }) rfl (by kernel_rfl) (by kernel_rfl) (by kernel_rfl) (fun _ _ _ h => h) (Or.inl ⟨by kernel_rfl, ?_⟩) (by assumption) ?_
        case refine_2 => (intro w9 hSw; clear hSw; go_simp; try with_reducible rfl)
        simp only [Act.put, List.setIfInBounds_toArray, List.set_cons_zero, List.set_cons_succ]
        refine wpAnyH_take (i := 13) (v := ?_) (oi := { dst := some 52, op := _, type := _, pos := _, after := _, guard := none }) rfl (by kernel_rfl) (by kernel_rfl) (by kernel_rfl) (fun _ _ _ h => h) (Or.inl ⟨by kernel_rfl, ?_⟩) (by assumption) ?_
        case refine_2 => (intro w9 hSw; clear hSw; go_simp; try with_reducible rfl)
        simp only [Act.put, List.setIfInBounds_toArray, List.set_cons_zero, List.set_cons_succ]
        refine wpAnyH_take (i := 14) (v := ?_) (oi := { dst := some 53, op := _, type := _, pos := _, after := _, guard := none }) rfl (by kernel_rfl) (by kernel_rfl) (by kernel_rfl) (fun _ _ _ h => h) (Or.inl ⟨by kernel_rfl, ?_⟩) (by assumption) ?_
        case refine_2 => (intro w9 hSw; clear hSw; go_simp; try with_reducible rfl)
        simp only [Act.put, List.setIfInBounds_toArray, List.set_cons_zero, List.set_cons_succ]
        refine wpAnyH_ready (rs := [15]) (by kernel_rfl) (by simp) (AllReadyH.cons (o := { dst := none, op := _, type := _, pos := _, after := _, guard := none }) rfl (fun K hK => ?_) AllReadyH.nil)
        have l_0 := KK.out.first.c 1 rfl
        have z_0 := KK.out.first.f 1 rfl
        go_simp
        have KN : Hid (BS w [(w.heap.size, [.int .i64 0, .int .i64 M2, .int .i64 D2, .int .i64 U1]), (w.heap.size + 1, [.int .i64 0, .int .i64 0, .int .i64 0, .int .i64 0])] _) := KK.out.set1 1 (.int .i64 M2) (by simp) (by intro x hx; simp only [List.mem_singleton] at hx; subst hx; simp)
        refine hK.out _ _ (BC.of KN.out.1 KN.out.first (i := 3) rfl) (fun hHeld => ?_)
        refine gen_anyH (BS w [(w.heap.size, [.int .i64 0, .int .i64 M2, .int .i64 D2, .int .i64 U1]), (w.heap.size + 1, [.int .i64 0, .int .i64 0, .int .i64 0, .int .i64 0])]) (by first | exact KN.out | exact KN.out.drew) ?_
        clear hHeld hK K KK KN l_0 z_0
        intro v6 KK'
        have KK : Hid (BS w [(w.heap.size, [.int .i64 0, .int .i64 M2, .int .i64 D2, .int .i64 U1]), (w.heap.size + 1, [.int .i64 0, .int .i64 0, .int .i64 0, .int .i64 0])] v6) := KK'
        have hHeld : BC w (w.heap.size) 3 (.int .i64 U1) v6 := BC.of KK'.1 KK'.first (i := 3) rfl
        clear KK'
        refine wpAnyH_take (i := 16) (v := ?_) (oi := { dst := some 54, op := _, type := _, pos := _, after := _, guard := none }) rfl (by kernel_rfl) (by kernel_rfl) (by kernel_rfl) (fun _ _ _ h => h) (Or.inl ⟨by kernel_rfl, ?_⟩) (by assumption) ?_
        case refine_2 => (intro w9 hSw; clear hSw; go_simp; try with_reducible rfl)
        simp only [Act.put, List.setIfInBounds_toArray, List.set_cons_zero, List.set_cons_succ]
        refine wpAnyH_ready (rs := [17]) (by kernel_rfl) (by simp) (AllReadyH.cons (o := { dst := none, op := _, type := _, pos := _, after := _, guard := none }) rfl (fun K hK => ?_) AllReadyH.nil)
        have l_0 := KK.out.first.c 2 rfl
        have z_0 := KK.out.first.f 2 rfl
        go_simp
        have KN : Hid (BS w [(w.heap.size, [.int .i64 0, .int .i64 M2, .int .i64 D3, .int .i64 U1]), (w.heap.size + 1, [.int .i64 0, .int .i64 0, .int .i64 0, .int .i64 0])] _) := KK.out.set1 2 (.int .i64 D3) (by simp) (by intro x hx; simp only [List.mem_singleton] at hx; subst hx; simp)
        refine hK.out _ _ (BC.of KN.out.1 KN.out.first (i := 3) rfl) (fun hHeld => ?_)
        refine gen_anyH (BS w [(w.heap.size, [.int .i64 0, .int .i64 M2, .int .i64 D3, .int .i64 U1]), (w.heap.size + 1, [.int .i64 0, .int .i64 0, .int .i64 0, .int .i64 0])]) (by first | exact KN.out | exact KN.out.drew) ?_
        clear hHeld hK K KK KN l_0 z_0
        intro v7 KK'
        have KK : Hid (BS w [(w.heap.size, [.int .i64 0, .int .i64 M2, .int .i64 D3, .int .i64 U1]), (w.heap.size + 1, [.int .i64 0, .int .i64 0, .int .i64 0, .int .i64 0])] v7) := KK'
        have hHeld : BC w (w.heap.size) 3 (.int .i64 U1) v7 := BC.of KK'.1 KK'.first (i := 3) rfl
        clear KK'
        refine wpAnyH_done (by kernel_rfl) ?_ _
        go_wp2_with fail
        go_meet
        case rel => exact KK.out
      ·
        have l_0 := KK.out.first.c 2 rfl
        go_simp
        refine hK.out _ _ hHeld (fun hHeld => ?_)
        clear hK K l_0
        refine wpAnyH_take (i := 8) (v := ?_) (oi := { dst := some 48, op := _, type := _, pos := _, after := _, guard := none }) rfl (by kernel_rfl) (by kernel_rfl) (by kernel_rfl) (fun _ _ _ h => h) (Or.inl ⟨by kernel_rfl, ?_⟩) (by assumption) ?_
        case refine_2 => (intro w9 hSw; clear hSw; go_simp; try with_reducible rfl)
        simp only [Act.put, List.setIfInBounds_toArray, List.set_cons_zero, List.set_cons_succ]
        refine wpAnyH_ready (rs := [3, 9]) (by kernel_rfl) (by simp) (AllReadyH.cons (o := { dst := some 43, op := _, type := _, pos := _, after := _, guard := none }) rfl (fun K hK => ?_) (AllReadyH.cons (o := { dst := some 49, op := _, type := _, pos := _, after := _, guard := none }) rfl (fun K hK => ?_) AllReadyH.nil))
        ·
          have l_0 := KK.out.first.c 2 rfl
          go_simp
          refine hK.out _ _ hHeld (fun hHeld => ?_)
          clear hK K l_0
          refine wpAnyH_ready (rs := [9]) (by kernel_rfl) (by simp) (AllReadyH.cons (o := { dst := some 49, op := _, type := _, pos := _, after := _, guard := none }) rfl (fun K hK => ?_) AllReadyH.nil)
          go_simp
          refine (SG.out _).mono ?_
          rintro e v10 ⟨rfl, hb10⟩
          refine hK.out _ _ (hHeld.below hb10) (fun hHeld => ?_)
          replace KK : Hid (BS w [(w.heap.size, [.int .i64 0, .int .i64 M1, .int .i64 D2, .int .i64 U1]), (w.heap.size + 1, [.int .i64 0, .int .i64 0, .int .i64 0, .int .i64 0])] v10) := by first | exact KK.out.below hb10 | exact KK.out.drew.below hb10
          clear hK K hb10
          refine wpAnyH_ready (rs := [10]) (by kernel_rfl) (by simp) (AllReadyH.cons (o := { dst := some 50, op := _, type := _, pos := _, after := _, guard := none }) rfl (fun K hK => ?_) AllReadyH.nil)
          go_simp
          refine (LD.out _).mono ?_
          rintro e v11 ⟨rfl, hw⟩
          rw [hw]
          refine hK.out _ _ hHeld (fun hHeld => ?_)
          clear hK K hw v11
          refine wpAnyH_take (i := 11) (v := ?_) (oi := { dst := some 39, op := _, type := _, pos := _, after := _, guard := none }) rfl (by kernel_rfl) (by kernel_rfl) (by kernel_rfl) (fun _ _ _ h => h) (Or.inl ⟨by kernel_rfl, ?_⟩) (by assumption) ?_
          case refine_2 => (intro w9 hSw; clear hSw; go_simp; try with_reducible rfl)
          simp only [Act.put, List.setIfInBounds_toArray, List.set_cons_zero, List.set_cons_succ]
          refine wpAnyH_take (i := 12) (v := ?_) (oi := { dst := some 51, op := _, type := _, pos := _, after := _, guard := none }) rfl (by kernel_rfl) (by kernel_rfl) (by kernel_rfl) (fun _ _ _ h => h) (Or.inl ⟨by kernel_rfl, ?_⟩) (by assumption) ?_
          case refine_2 => (intro w9 hSw; clear hSw; go_simp; try with_reducible rfl)
          simp only [Act.put, List.setIfInBounds_toArray, List.set_cons_zero, List.set_cons_succ]
          refine wpAnyH_take (i := 13) (v := ?_) (oi := { dst := some 52, op := _, type := _, pos := _, after := _, guard := none }) rfl (by kernel_rfl) (by kernel_rfl) (by kernel_rfl) (fun _ _ _ h => h) (Or.inl ⟨by kernel_rfl, ?_⟩) (by assumption) ?_
          case refine_2 => (intro w9 hSw; clear hSw; go_simp; try with_reducible rfl)
          simp only [Act.put, List.setIfInBounds_toArray, List.set_cons_zero, List.set_cons_succ]
          refine wpAnyH_take (i := 14) (v := ?_) (oi := { dst := some 53, op := _, type := _, pos := _, after := _, guard := none }) rfl (by kernel_rfl) (by kernel_rfl) (by kernel_rfl) (fun _ _ _ h => h) (Or.inl ⟨by kernel_rfl, ?_⟩) (by assumption) ?_
          case refine_2 => (intro w9 hSw; clear hSw; go_simp; try with_reducible rfl)
          simp only [Act.put, List.setIfInBounds_toArray, List.set_cons_zero, List.set_cons_succ]
          refine wpAnyH_ready (rs := [15]) (by kernel_rfl) (by simp) (AllReadyH.cons (o := { dst := none, op := _, type := _, pos := _, after := _, guard := none }) rfl (fun K hK => ?_) AllReadyH.nil)
          have l_0 := KK.out.first.c 1 rfl
          have z_0 := KK.out.first.f 1 rfl
          go_simp
          have KN : Hid (BS w [(w.heap.size, [.int .i64 0, .int .i64 M2, .int .i64 D2, .int .i64 U1]), (w.heap.size + 1, [.int .i64 0, .int .i64 0, .int .i64 0, .int .i64 0])] _) := KK.out.set1 1 (.int .i64 M2) (by simp) (by intro x hx; simp only [List.mem_singleton] at hx; subst hx; simp)
          refine hK.out _ _ (BC.of KN.out.1 KN.out.first (i := 3) rfl) (fun hHeld => ?_)
          refine gen_anyH (BS w [(w.heap.size, [.int .i64 0, .int .i64 M2, .int .i64 D2, .int .i64 U1]), (w.heap.size + 1, [.int .i64 0, .int .i64 0, .int .i64 0, .int .i64 0])]) (by first | exact KN.out | exact KN.out.drew) ?_
          clear hHeld hK K KK KN l_0 z_0
          intro v12 KK'
          have KK : Hid (BS w [(w.heap.size, [.int .i64 0, .int .i64 M2, .int .i64 D2, .int .i64 U1]), (w.heap.size + 1, [.int .i64 0, .int .i64 0, .int .i64 0, .int .i64 0])] v12) := KK'
          have hHeld : BC w (w.heap.size) 3 (.int .i64 U1) v12 := BC.of KK'.1 KK'.first (i := 3) rfl
          clear KK'
          refine wpAnyH_take (i := 16) (v := ?_) (oi := { dst := some 54, op := _, type := _, pos := _, after := _, guard := none }) rfl (by kernel_rfl) (by kernel_rfl) (by kernel_rfl) (fun _ _ _ h => h) (Or.inl ⟨by kernel_rfl, ?_⟩) (by assumption) ?_
          case refine_2 => (intro w9 hSw; clear hSw; go_simp; try with_reducible rfl)
          simp only [Act.put, List.setIfInBounds_toArray, List.set_cons_zero, List.set_cons_succ]
          refine wpAnyH_ready (rs := [17]) (by kernel_rfl) (by simp) (AllReadyH.cons (o := { dst := none, op := _, type := _, pos := _, after := _, guard := none }) rfl (fun K hK => ?_) AllReadyH.nil)
          have l_0 := KK.out.first.c 2 rfl
          have z_0 := KK.out.first.f 2 rfl
          go_simp
          have KN : Hid (BS w [(w.heap.size, [.int .i64 0, .int .i64 M2, .int .i64 D3, .int .i64 U1]), (w.heap.size + 1, [.int .i64 0, .int .i64 0, .int .i64 0, .int .i64 0])] _) := KK.out.set1 2 (.int .i64 D3) (by simp) (by intro x hx; simp only [List.mem_singleton] at hx; subst hx; simp)
          refine hK.out _ _ (BC.of KN.out.1 KN.out.first (i := 3) rfl) (fun hHeld => ?_)
          refine gen_anyH (BS w [(w.heap.size, [.int .i64 0, .int .i64 M2, .int .i64 D3, .int .i64 U1]), (w.heap.size + 1, [.int .i64 0, .int .i64 0, .int .i64 0, .int .i64 0])]) (by first | exact KN.out | exact KN.out.drew) ?_
          clear hHeld hK K KK KN l_0 z_0
          intro v13 KK'
          have KK : Hid (BS w [(w.heap.size, [.int .i64 0, .int .i64 M2, .int .i64 D3, .int .i64 U1]), (w.heap.size + 1, [.int .i64 0, .int .i64 0, .int .i64 0, .int .i64 0])] v13) := KK'
          have hHeld : BC w (w.heap.size) 3 (.int .i64 U1) v13 := BC.of KK'.1 KK'.first (i := 3) rfl
          clear KK'
          refine wpAnyH_done (by kernel_rfl) ?_ _
          go_wp2_with fail
          go_meet
          case rel => exact KK.out
        ·
          go_simp
          refine (SG.out _).mono ?_
          rintro e v14 ⟨rfl, hb14⟩
          refine hK.out _ _ (hHeld.below hb14) (fun hHeld => ?_)
          replace KK : Hid (BS w [(w.heap.size, [.int .i64 0, .int .i64 M1, .int .i64 D2, .int .i64 U1]), (w.heap.size + 1, [.int .i64 0, .int .i64 0, .int .i64 0, .int .i64 0])] v14) := by first | exact KK.out.below hb14 | exact KK.out.drew.below hb14
          clear hK K hb14
          refine wpAnyH_ready (rs := [3]) (by kernel_rfl) (by simp) (AllReadyH.cons (o := { dst := some 43, op := _, type := _, pos := _, after := _, guard := none }) rfl (fun K hK => ?_) AllReadyH.nil)
          have l_0 := KK.out.first.c 2 rfl
          go_simp
          refine hK.out _ _ hHeld (fun hHeld => ?_)
          clear hK K l_0
          refine wpAnyH_ready (rs := [10]) (by kernel_rfl) (by simp) (AllReadyH.cons (o := { dst := some 50, op := _, type := _, pos := _, after := _, guard := none }) rfl (fun K hK => ?_) AllReadyH.nil)
          go_simp
          refine (LD.out _).mono ?_
          rintro e v16 ⟨rfl, hw⟩
          rw [hw]
          refine hK.out _ _ hHeld (fun hHeld => ?_)
          clear hK K hw v16
          refine wpAnyH_take (i := 11) (v := ?_) (oi := { dst := some 39, op := _, type := _, pos := _, after := _, guard := none }) rfl (by kernel_rfl) (by kernel_rfl) (by kernel_rfl) (fun _ _ _ h => h) (Or.inl ⟨by kernel_rfl, ?_⟩) (by assumption) ?_
          case refine_2 => (intro w9 hSw; clear hSw; go_simp; try with_reducible rfl)
          simp only [Act.put, List.setIfInBounds_toArray, List.set_cons_zero, List.set_cons_succ]
          refine wpAnyH_take (i := 12) (v := ?_) (oi := { dst := some 51, op := _, type := _, pos := _, after := _, guard := none }) rfl (by kernel_rfl) (by kernel_rfl) (by kernel_rfl) (fun _ _ _ h => h) (Or.inl ⟨by kernel_rfl, ?_⟩) (by assumption) ?_
          case refine_2 => (intro w9 hSw; clear hSw; go_simp; try with_reducible rfl)
          simp only [Act.put, List.setIfInBounds_toArray, List.set_cons_zero, List.set_cons_succ]
          refine wpAnyH_take (i := 13) (v := ?_) (oi := { dst := some 52, op := _, type := _, pos := _, after := _, guard := none }) rfl (by kernel_rfl) (by kernel_rfl) (by kernel_rfl) (fun _ _ _ h => h) (Or.inl ⟨by kernel_rfl, ?_⟩) (by assumption) ?_
          case refine_2 => (intro w9 hSw; clear hSw; go_simp; try with_reducible rfl)
          simp only [Act.put, List.setIfInBounds_toArray, List.set_cons_zero, List.set_cons_succ]
          refine wpAnyH_take (i := 14) (v := ?_) (oi := { dst := some 53, op := _, type := _, pos := _, after := _, guard := none }) rfl (by kernel_rfl) (by kernel_rfl) (by kernel_rfl) (fun _ _ _ h => h) (Or.inl ⟨by kernel_rfl, ?_⟩) (by assumption) ?_
          case refine_2 => (intro w9 hSw; clear hSw; go_simp; try with_reducible rfl)
          simp only [Act.put, List.setIfInBounds_toArray, List.set_cons_zero, List.set_cons_succ]
          refine wpAnyH_ready (rs := [15]) (by kernel_rfl) (by simp) (AllReadyH.cons (o := { dst := none, op := _, type := _, pos := _, after := _, guard := none }) rfl (fun K hK => ?_) AllReadyH.nil)
          have l_0 := KK.out.first.c 1 rfl
          have z_0 := KK.out.first.f 1 rfl
          go_simp
          have KN : Hid (BS w [(w.heap.size, [.int .i64 0, .int .i64 M2, .int .i64 D2, .int .i64 U1]), (w.heap.size + 1, [.int .i64 0, .int .i64 0, .int .i64 0, .int .i64 0])] _) := KK.out.set1 1 (.int .i64 M2) (by simp) (by intro x hx; simp only [List.mem_singleton] at hx; subst hx; simp)
          refine hK.out _ _ (BC.of KN.out.1 KN.out.first (i := 3) rfl) (fun hHeld => ?_)
          refine gen_anyH (BS w [(w.heap.size, [.int .i64 0, .int .i64 M2, .int .i64 D2, .int .i64 U1]), (w.heap.size + 1, [.int .i64 0, .int .i64 0, .int .i64 0, .int .i64 0])]) (by first | exact KN.out | exact KN.out.drew) ?_
          clear hHeld hK K KK KN l_0 z_0
          intro v17 KK'
          have KK : Hid (BS w [(w.heap.size, [.int .i64 0, .int .i64 M2, .int .i64 D2, .int .i64 U1]), (w.heap.size + 1, [.int .i64 0, .int .i64 0, .int .i64 0, .int .i64 0])] v17) := KK'
          have hHeld : BC w (w.heap.size) 3 (.int .i64 U1) v17 := BC.of KK'.1 KK'.first (i := 3) rfl
          clear KK'
          refine wpAnyH_take (i := 16) (v := ?_) (oi := { dst := some 54, op := _, type := _, pos := _, after := _, guard := none }) rfl (by kernel_rfl) (by kernel_rfl) (by kernel_rfl) (fun _ _ _ h => h) (Or.inl ⟨by kernel_rfl, ?_⟩) (by assumption) ?_
          case refine_2 => (intro w9 hSw; clear hSw; go_simp; try with_reducible rfl)
          simp only [Act.put, List.setIfInBounds_toArray, List.set_cons_zero, List.set_cons_succ]
          refine wpAnyH_ready (rs := [17]) (by kernel_rfl) (by simp) (AllReadyH.cons (o := { dst := none, op := _, type := _, pos := _, after := _, guard := none }) rfl (fun K hK => ?_) AllReadyH.nil)
          have l_0 := KK.out.first.c 2 rfl
          have z_0 := KK.out.first.f 2 rfl
          go_simp
          have KN : Hid (BS w [(w.heap.size, [.int .i64 0, .int .i64 M2, .int .i64 D3, .int .i64 U1]), (w.heap.size + 1, [.int .i64 0, .int .i64 0, .int .i64 0, .int .i64 0])] _) := KK.out.set1 2 (.int .i64 D3) (by simp) (by intro x hx; simp only [List.mem_singleton] at hx; subst hx; simp)
          refine hK.out _ _ (BC.of KN.out.1 KN.out.first (i := 3) rfl) (fun hHeld => ?_)
          refine gen_anyH (BS w [(w.heap.size, [.int .i64 0, .int .i64 M2, .int .i64 D3, .int .i64 U1]), (w.heap.size + 1, [.int .i64 0, .int .i64 0, .int .i64 0, .int .i64 0])]) (by first | exact KN.out | exact KN.out.drew) ?_
          clear hHeld hK K KK KN l_0 z_0
          intro v18 KK'
          have KK : Hid (BS w [(w.heap.size, [.int .i64 0, .int .i64 M2, .int .i64 D3, .int .i64 U1]), (w.heap.size + 1, [.int .i64 0, .int .i64 0, .int .i64 0, .int .i64 0])] v18) := KK'
          have hHeld : BC w (w.heap.size) 3 (.int .i64 U1) v18 := BC.of KK'.1 KK'.first (i := 3) rfl
          clear KK'
          refine wpAnyH_done (by kernel_rfl) ?_ _
          go_wp2_with fail
          go_meet
          case rel => exact KK.out
    ·
      have l_0 := KK.out.first.c 2 rfl
      go_simp
      refine hK.out _ _ hHeld (fun hHeld => ?_)
      clear hK K l_0
      refine wpAnyH_ready (rs := [1, 5]) (by kernel_rfl) (by simp) (AllReadyH.cons (o := { dst := some 41, op := _, type := _, pos := _, after := _, guard := none }) rfl (fun K hK => ?_) (AllReadyH.cons (o := { dst := some 45, op := _, type := _, pos := _, after := _, guard := none }) rfl (fun K hK => ?_) AllReadyH.nil))
      ·
        have l_0 := KK.out.first.c 1 rfl
        go_simp
        refine hK.out _ _ hHeld (fun hHeld => ?_)
        clear hK K l_0
        refine wpAnyH_ready (rs := [5]) (by kernel_rfl) (by simp) (AllReadyH.cons (o := { dst := some 45, op := _, type := _, pos := _, after := _, guard := none }) rfl (fun K hK => ?_) AllReadyH.nil)
        have l_0 := KK.out.first.c 2 rfl
        go_simp
        refine hK.out _ _ hHeld (fun hHeld => ?_)
        clear hK K l_0
        refine wpAnyH_take (i := 8) (v := ?_) (oi := { dst := some 48, op := _, type := _, pos := _, after := _, guard := none }) rfl (by kernel_rfl) (by kernel_rfl) (by kernel_rfl) (fun _ _ _ h => h) (Or.inl ⟨by kernel_rfl, ?_⟩) (by assumption) ?_
        case refine_2 => (intro w9 hSw; clear hSw; go_simp; try with_reducible rfl)
        simp only [Act.put, List.setIfInBounds_toArray, List.set_cons_zero, List.set_cons_succ]
        refine wpAnyH_ready (rs := [9]) (by kernel_rfl) (by simp) (AllReadyH.cons (o := { dst := some 49, op := _, type := _, pos := _, after := _, guard := none }) rfl (fun K hK => ?_) AllReadyH.nil)
        go_simp
        refine (SG.out _).mono ?_
        rintro e v22 ⟨rfl, hb22⟩
        refine hK.out _ _ (hHeld.below hb22) (fun hHeld => ?_)
        replace KK : Hid (BS w [(w.heap.size, [.int .i64 0, .int .i64 M1, .int .i64 D2, .int .i64 U1]), (w.heap.size + 1, [.int .i64 0, .int .i64 0, .int .i64 0, .int .i64 0])] v22) := by first | exact KK.out.below hb22 | exact KK.out.drew.below hb22
        clear hK K hb22
        refine wpAnyH_ready (rs := [10]) (by kernel_rfl) (by simp) (AllReadyH.cons (o := { dst := some 50, op := _, type := _, pos := _, after := _, guard := none }) rfl (fun K hK => ?_) AllReadyH.nil)
        go_simp
        refine (LD.out _).mono ?_
        rintro e v23 ⟨rfl, hw⟩
        rw [hw]
        refine hK.out _ _ hHeld (fun hHeld => ?_)
        clear hK K hw v23
        refine wpAnyH_take (i := 11) (v := ?_) (oi := { dst := some 39, op := _, type := _, pos := _, after := _, guard := none }) rfl (by kernel_rfl) (by kernel_rfl) (by kernel_rfl) (fun _ _ _ h => h) (Or.inl ⟨by kernel_rfl, ?_⟩) (by assumption) ?_
        case refine_2 => (intro w9 hSw; clear hSw; go_simp; try with_reducible rfl)
        simp only [Act.put, List.setIfInBounds_toArray, List.set_cons_zero, List.set_cons_succ]
        refine wpAnyH_take (i := 12) (v := ?_) (oi := { dst := some 51, op := _, type := _, pos := _, after := _, guard := none }) rfl (by kernel_rfl) (by kernel_rfl) (by kernel_rfl) (fun _ _ _ h => h) (Or.inl ⟨by kernel_rfl, ?_⟩) (by assumption) ?_
        case refine_2 => (intro w9 hSw; clear hSw; go_simp; try with_reducible rfl)
        simp only [Act.put, List.setIfInBounds_toArray, List.set_cons_zero, List.set_cons_succ]
        refine wpAnyH_take (i := 13) (v := ?_) (oi := { dst := some 52, op := _, type := _, pos := _, after := _, guard := none }) rfl (by kernel_rfl) (by kernel_rfl) (by kernel_rfl) (fun _ _ _ h => h) (Or.inl ⟨by kernel_rfl, ?_⟩) (by assumption) ?_
        case refine_2 => (intro w9 hSw; clear hSw; go_simp; try with_reducible rfl)
        simp only [Act.put, List.setIfInBounds_toArray, List.set_cons_zero, List.set_cons_succ]
        refine wpAnyH_take (i := 14) (v := ?_) (oi := { dst := some 53, op := _, type := _, pos := _, after := _, guard := none }) rfl (by kernel_rfl) (by kernel_rfl) (by kernel_rfl) (fun _ _ _ h => h) (Or.inl ⟨by kernel_rfl, ?_⟩) (by assumption) ?_
        case refine_2 => (intro w9 hSw; clear hSw; go_simp; try with_reducible rfl)
        simp only [Act.put, List.setIfInBounds_toArray, List.set_cons_zero, List.set_cons_succ]
        refine wpAnyH_ready (rs := [15]) (by kernel_rfl) (by simp) (AllReadyH.cons (o := { dst := none, op := _, type := _, pos := _, after := _, guard := none }) rfl (fun K hK => ?_) AllReadyH.nil)
        have l_0 := KK.out.first.c 1 rfl
        have z_0 := KK.out.first.f 1 rfl
        go_simp
        have KN : Hid (BS w [(w.heap.size, [.int .i64 0, .int .i64 M2, .int .i64 D2, .int .i64 U1]), (w.heap.size + 1, [.int .i64 0, .int .i64 0, .int .i64 0, .int .i64 0])] _) := KK.out.set1 1 (.int .i64 M2) (by simp) (by intro x hx; simp only [List.mem_singleton] at hx; subst hx; simp)
        refine hK.out _ _ (BC.of KN.out.1 KN.out.first (i := 3) rfl) (fun hHeld => ?_)
        refine gen_anyH (BS w [(w.heap.size, [.int .i64 0, .int .i64 M2, .int .i64 D2, .int .i64 U1]), (w.heap.size + 1, [.int .i64 0, .int .i64 0, .int .i64 0, .int .i64 0])]) (by first | exact KN.out | exact KN.out.drew) ?_
        clear hHeld hK K KK KN l_0 z_0
        intro v24 KK'
        have KK : Hid (BS w [(w.heap.size, [.int .i64 0, .int .i64 M2, .int .i64 D2, .int .i64 U1]), (w.heap.size + 1, [.int .i64 0, .int .i64 0, .int .i64 0, .int .i64 0])] v24) := KK'
        have hHeld : BC w (w.heap.size) 3 (.int .i64 U1) v24 := BC.of KK'.1 KK'.first (i := 3) rfl
        clear KK'
        refine wpAnyH_take (i := 16) (v := ?_) (oi := { dst := some 54, op := _, type := _, pos := _, after := _, guard := none }) rfl (by kernel_rfl) (by kernel_rfl) (by kernel_rfl) (fun _ _ _ h => h) (Or.inl ⟨by kernel_rfl, ?_⟩) (by assumption) ?_
        case refine_2 => (intro w9 hSw; clear hSw; go_simp; try with_reducible rfl)
        simp only [Act.put, List.setIfInBounds_toArray, List.set_cons_zero, List.set_cons_succ]
        refine wpAnyH_ready (rs := [17]) (by kernel_rfl) (by simp) (AllReadyH.cons (o := { dst := none, op := _, type := _, pos := _, after := _, guard := none }) rfl (fun K hK => ?_) AllReadyH.nil)
        have l_0 := KK.out.first.c 2 rfl
        have z_0 := KK.out.first.f 2 rfl
        go_simp
        have KN : Hid (BS w [(w.heap.size, [.int .i64 0, .int .i64 M2, .int .i64 D3, .int .i64 U1]), (w.heap.size + 1, [.int .i64 0, .int .i64 0, .int .i64 0, .int .i64 0])] _) := KK.out.set1 2 (.int .i64 D3) (by simp) (by intro x hx; simp only [List.mem_singleton] at hx; subst hx; simp)
        refine hK.out _ _ (BC.of KN.out.1 KN.out.first (i := 3) rfl) (fun hHeld => ?_)
        refine gen_anyH (BS w [(w.heap.size, [.int .i64 0, .int .i64 M2, .int .i64 D3, .int .i64 U1]), (w.heap.size + 1, [.int .i64 0, .int .i64 0, .int .i64 0, .int .i64 0])]) (by first | exact KN.out | exact KN.out.drew) ?_
        clear hHeld hK K KK KN l_0 z_0
        intro v25 KK'
        have KK : Hid (BS w [(w.heap.size, [.int .i64 0, .int .i64 M2, .int .i64 D3, .int .i64 U1]), (w.heap.size + 1, [.int .i64 0, .int .i64 0, .int .i64 0, .int .i64 0])] v25) := KK'
        have hHeld : BC w (w.heap.size) 3 (.int .i64 U1) v25 := BC.of KK'.1 KK'.first (i := 3) rfl
        clear KK'
        refine wpAnyH_done (by kernel_rfl) ?_ _
        go_wp2_with fail
        go_meet
        case rel => exact KK.out
      ·
        have l_0 := KK.out.first.c 2 rfl
        go_simp
        refine hK.out _ _ hHeld (fun hHeld => ?_)
        clear hK K l_0
        refine wpAnyH_take (i := 8) (v := ?_) (oi := { dst := some 48, op := _, type := _, pos := _, after := _, guard := none }) rfl (by kernel_rfl) (by kernel_rfl) (by kernel_rfl) (fun _ _ _ h => h) (Or.inl ⟨by kernel_rfl, ?_⟩) (by assumption) ?_
        case refine_2 => (intro w9 hSw; clear hSw; go_simp; try with_reducible rfl)
        simp only [Act.put, List.setIfInBounds_toArray, List.set_cons_zero, List.set_cons_succ]
        refine wpAnyH_ready (rs := [1, 9]) (by kernel_rfl) (by simp) (AllReadyH.cons (o := { dst := some 41, op := _, type := _, pos := _, after := _, guard := none }) rfl (fun K hK => ?_) (AllReadyH.cons (o := { dst := some 49, op := _, type := _, pos := _, after := _, guard := none }) rfl (fun K hK => ?_) AllReadyH.nil))
        ·
          have l_0 := KK.out.first.c 1 rfl
          go_simp
          refine hK.out _ _ hHeld (fun hHeld => ?_)
          clear hK K l_0
          refine wpAnyH_ready (rs := [9]) (by kernel_rfl) (by simp) (AllReadyH.cons (o := { dst := some 49, op := _, type := _, pos := _, after := _, guard := none }) rfl (fun K hK => ?_) AllReadyH.nil)
          go_simp
          refine (SG.out _).mono ?_
          rintro e v28 ⟨rfl, hb28⟩
          refine hK.out _ _ (hHeld.below hb28) (fun hHeld => ?_)
          replace KK : Hid (BS w [(w.heap.size, [.int .i64 0, .int .i64 M1, .int .i64 D2, .int .i64 U1]), (w.heap.size + 1, [.int .i64 0, .int .i64 0, .int .i64 0, .int .i64 0])] v28) := by first | exact KK.out.below hb28 | exact KK.out.drew.below hb28
          clear hK K hb28
          refine wpAnyH_ready (rs := [10]) (by kernel_rfl) (by simp) (AllReadyH.cons (o := { dst := some 50, op := _, type := _, pos := _, after := _, guard := none }) rfl (fun K hK => ?_) AllReadyH.nil)
          go_simp
          refine (LD.out _).mono ?_
          rintro e v29 ⟨rfl, hw⟩
          rw [hw]
          refine hK.out _ _ hHeld (fun hHeld => ?_)
          clear hK K hw v29
          refine wpAnyH_take (i := 11) (v := ?_) (oi := { dst := some 39, op := _, type := _, pos := _, after := _, guard := none }) rfl (by kernel_rfl) (by kernel_rfl) (by kernel_rfl) (fun _ _ _ h => h) (Or.inl ⟨by kernel_rfl, ?_⟩) (by assumption) ?_
          case refine_2 => (intro w9 hSw; clear hSw; go_simp; try with_reducible rfl)
          simp only [Act.put, List.setIfInBounds_toArray, List.set_cons_zero, List.set_cons_succ]
          refine wpAnyH_take (i := 12) (v := ?_) (oi := { dst := some 51, op := _, type := _, pos := _, after := _, guard := none }) rfl (by kernel_rfl) (by kernel_rfl) (by kernel_rfl) (fun _ _ _ h => h) (Or.inl ⟨by kernel_rfl, ?_⟩) (by assumption) ?_
          case refine_2 => (intro w9 hSw; clear hSw; go_simp; try with_reducible rfl)
          simp only [Act.put, List.setIfInBounds_toArray, List.set_cons_zero, List.set_cons_succ]
          refine wpAnyH_take (i := 13) (v := ?_) (oi := { dst := some 52, op := _, type := _, pos := _, after := _, guard := none }) rfl (by kernel_rfl) (by kernel_rfl) (by kernel_rfl) (fun _ _ _ h => h) (Or.inl ⟨by kernel_rfl, ?_⟩) (by assumption) ?_
          case refine_2 => (intro w9 hSw; clear hSw; go_simp; try with_reducible rfl)
          simp only [Act.put, List.setIfInBounds_toArray, List.set_cons_zero, List.set_cons_succ]
          refine wpAnyH_take (i := 14) (v := ?_) (oi := { dst := some 53, op := _, type := _, pos := _, after := _, guard := none }) rfl (by kernel_rfl) (by kernel_rfl) (by kernel_rfl) (fun _ _ _ h => h) (Or.inl ⟨by kernel_rfl, ?_⟩) (by assumption) ?_
          case refine_2 => (intro w9 hSw; clear hSw; go_simp; try with_reducible rfl)
          simp only [Act.put, List.setIfInBounds_toArray, List.set_cons_zero, List.set_cons_succ]
          refine wpAnyH_ready (rs := [15]) (by kernel_rfl) (by simp) (AllReadyH.cons (o := { dst := none, op := _, type := _, pos := _, after := _, guard := none }) rfl (fun K hK => ?_) AllReadyH.nil)
          have l_0 := KK.out.first.c 1 rfl
          have z_0 := KK.out.first.f 1 rfl
          go_simp
          have KN : Hid (BS w [(w.heap.size, [.int .i64 0, .int .i64 M2, .int .i64 D2, .int .i64 U1]), (w.heap.size + 1, [.int .i64 0, .int .i64 0, .int .i64 0, .int .i64 0])] _) := KK.out.set1 1 (.int .i64 M2) (by simp) (by intro x hx; simp only [List.mem_singleton] at hx; subst hx; simp)
          refine hK.out _ _ (BC.of KN.out.1 KN.out.first (i := 3) rfl) (fun hHeld => ?_)
          refine gen_anyH (BS w [(w.heap.size, [.int .i64 0, .int .i64 M2, .int .i64 D2, .int .i64 U1]), (w.heap.size + 1, [.int .i64 0, .int .i64 0, .int .i64 0, .int .i64 0])]) (by first | exact KN.out | exact KN.out.drew) ?_
          clear hHeld hK K KK KN l_0 z_0
          intro v30 KK'
          have KK : Hid (BS w [(w.heap.size, [.int .i64 0, .int .i64 M2, .int .i64 D2, .int .i64 U1]), (w.heap.size + 1, [.int .i64 0, .int .i64 0, .int .i64 0, .int .i64 0])] v30) := KK'
          have hHeld : BC w (w.heap.size) 3 (.int .i64 U1) v30 := BC.of KK'.1 KK'.first (i := 3) rfl
          clear KK'
          refine wpAnyH_take (i := 16) (v := ?_) (oi := { dst := some 54, op := _, type := _, pos := _, after := _, guard := none }) rfl (by kernel_rfl) (by kernel_rfl) (by kernel_rfl) (fun _ _ _ h => h) (Or.inl ⟨by kernel_rfl, ?_⟩) (by assumption) ?_
          case refine_2 => (intro w9 hSw; clear hSw; go_simp; try with_reducible rfl)
          simp only [Act.put, List.setIfInBounds_toArray, List.set_cons_zero, List.set_cons_succ]
          refine wpAnyH_ready (rs := [17]) (by kernel_rfl) (by simp) (AllReadyH.cons (o := { dst := none, op := _, type := _, pos := _, after := _, guard := none }) rfl (fun K hK => ?_) AllReadyH.nil)
          have l_0 := KK.out.first.c 2 rfl
          have z_0 := KK.out.first.f 2 rfl
          go_simp
          have KN : Hid (BS w [(w.heap.size, [.int .i64 0, .int .i64 M2, .int .i64 D3, .int .i64 U1]), (w.heap.size + 1, [.int .i64 0, .int .i64 0, .int .i64 0, .int .i64 0])] _) := KK.out.set1 2 (.int .i64 D3) (by simp) (by intro x hx; simp only [List.mem_singleton] at hx; subst hx; simp)
          refine hK.out _ _ (BC.of KN.out.1 KN.out.first (i := 3) rfl) (fun hHeld => ?_)
          refine gen_anyH (BS w [(w.heap.size, [.int .i64 0, .int .i64 M2, .int .i64 D3, .int .i64 U1]), (w.heap.size + 1, [.int .i64 0, .int .i64 0, .int .i64 0, .int .i64 0])]) (by first | exact KN.out | exact KN.out.drew) ?_
          clear hHeld hK K KK KN l_0 z_0
          intro v31 KK'
          have KK : Hid (BS w [(w.heap.size, [.int .i64 0, .int .i64 M2, .int .i64 D3, .int .i64 U1]), (w.heap.size + 1, [.int .i64 0, .int .i64 0, .int .i64 0, .int .i64 0])] v31) := KK'
          have hHeld : BC w (w.heap.size) 3 (.int .i64 U1) v31 := BC.of KK'.1 KK'.first (i := 3) rfl
          clear KK'
          refine wpAnyH_done (by kernel_rfl) ?_ _
          go_wp2_with fail
          go_meet
          case rel => exact KK.out
        ·
          go_simp
          refine (SG.out _).mono ?_
          rintro e v32 ⟨rfl, hb32⟩
          refine hK.out _ _ (hHeld.below hb32) (fun hHeld => ?_)
          replace KK : Hid (BS w [(w.heap.size, [.int .i64 0, .int .i64 M1, .int .i64 D2, .int .i64 U1]), (w.heap.size + 1, [.int .i64 0, .int .i64 0, .int .i64 0, .int .i64 0])] v32) := by first | exact KK.out.below hb32 | exact KK.out.drew.below hb32
          clear hK K hb32
          refine wpAnyH_ready (rs := [1]) (by kernel_rfl) (by simp) (AllReadyH.cons (o := { dst := some 41, op := _, type := _, pos := _, after := _, guard := none }) rfl (fun K hK => ?_) AllReadyH.nil)
          have l_0 := KK.out.first.c 1 rfl
          go_simp
          refine hK.out _ _ hHeld (fun hHeld => ?_)
          clear hK K l_0
          refine wpAnyH_ready (rs := [10]) (by kernel_rfl) (by simp) (AllReadyH.cons (o := { dst := some 50, op := _, type := _, pos := _, after := _, guard := none }) rfl (fun K hK => ?_) AllReadyH.nil)
          go_simp
          refine (LD.out _).mono ?_
          rintro e v34 ⟨rfl, hw⟩
          rw [hw]
          refine hK.out _ _ hHeld (fun hHeld => ?_)
          clear hK K hw v34
          refine wpAnyH_take (i := 11) (v := ?_) (oi := { dst := some 39, op := _, type := _, pos := _, after := _, guard := none }) rfl (by kernel_rfl) (by kernel_rfl) (by kernel_rfl) (fun _ _ _ h => h) (Or.inl ⟨by kernel_rfl, ?_⟩) (by assumption) ?_
          case refine_2 => (intro w9 hSw; clear hSw; go_simp; try with_reducible rfl)
          simp only [Act.put, List.setIfInBounds_toArray, List.set_cons_zero, List.set_cons_succ]
          refine wpAnyH_take (i := 12) (v := ?_) (oi := { dst := some 51, op := _, type := _, pos := _, after := _, guard := none }) rfl (by kernel_rfl) (by kernel_rfl) (by kernel_rfl) (fun _ _ _ h => h) (Or.inl ⟨by kernel_rfl, ?_⟩) (by assumption) ?_
          case refine_2 => (intro w9 hSw; clear hSw; go_simp; try with_reducible rfl)
          simp only [Act.put, List.setIfInBounds_toArray, List.set_cons_zero, List.set_cons_succ]
          refine wpAnyH_take (i := 13) (v := ?_) (oi := { dst := some 52, op := _, type := _, pos := _, after := _, guard := none }) rfl (by kernel_rfl) (by kernel_rfl) (by kernel_rfl) (fun _ _ _ h => h) (Or.inl ⟨by kernel_rfl, ?_⟩) (by assumption) ?_
          case refine_2 => (intro w9 hSw; clear hSw; go_simp; try with_reducible rfl)
          simp only [Act.put, List.setIfInBounds_toArray, List.set_cons_zero, List.set_cons_succ]
          refine wpAnyH_take (i := 14) (v := ?_) (oi := { dst := some 53, op := _, type := _, pos := _, after := _, guard := none }) rfl (by kernel_rfl) (by kernel_rfl) (by kernel_rfl) (fun _ _ _ h => h) (Or.inl ⟨by kernel_rfl, ?_⟩) (by assumption) ?_
          case refine_2 => (intro w9 hSw; clear hSw; go_simp; try with_reducible rfl)
          simp only [Act.put, List.setIfInBounds_toArray, List.set_cons_zero, List.set_cons_succ]
          refine wpAnyH_ready (rs := [15]) (by kernel_rfl) (by simp) (AllReadyH.cons (o := { dst := none, op := _, type := _, pos := _, after := _, guard := none }) rfl (fun K hK => ?_) AllReadyH.nil)
          have l_0 := KK.out.first.c 1 rfl
          have z_0 := KK.out.first.f 1 rfl
          go_simp
          have KN : Hid (BS w [(w.heap.size, [.int .i64 0, .int .i64 M2, .int .i64 D2, .int .i64 U1]), (w.heap.size + 1, [.int .i64 0, .int .i64 0, .int .i64 0, .int .i64 0])] _) := KK.out.set1 1 (.int .i64 M2) (by simp) (by intro x hx; simp only [List.mem_singleton] at hx; subst hx; simp)
          refine hK.out _ _ (BC.of KN.out.1 KN.out.first (i := 3) rfl) (fun hHeld => ?_)
          refine gen_anyH (BS w [(w.heap.size, [.int .i64 0, .int .i64 M2, .int .i64 D2, .int .i64 U1]), (w.heap.size + 1, [.int .i64 0, .int .i64 0, .int .i64 0, .int .i64 0])]) (by first | exact KN.out | exact KN.out.drew) ?_
          clear hHeld hK K KK KN l_0 z_0
          intro v35 KK'
          have KK : Hid (BS w [(w.heap.size, [.int .i64 0, .int .i64 M2, .int .i64 D2, .int .i64 U1]), (w.heap.size + 1, [.int .i64 0, .int .i64 0, .int .i64 0, .int .i64 0])] v35) := KK'
          have hHeld : BC w (w.heap.size) 3 (.int .i64 U1) v35 := BC.of KK'.1 KK'.first (i := 3) rfl
          clear KK'
          refine wpAnyH_take (i := 16) (v := ?_) (oi := { dst := some 54, op := _, type := _, pos := _, after := _, guard := none }) rfl (by kernel_rfl) (by kernel_rfl) (by kernel_rfl) (fun _ _ _ h => h) (Or.inl ⟨by kernel_rfl, ?_⟩) (by assumption) ?_
          case refine_2 => (intro w9 hSw; clear hSw; go_simp; try with_reducible rfl)
          simp only [Act.put, List.setIfInBounds_toArray, List.set_cons_zero, List.set_cons_succ]
          refine wpAnyH_ready (rs := [17]) (by kernel_rfl) (by simp) (AllReadyH.cons (o := { dst := none, op := _, type := _, pos := _, after := _, guard := none }) rfl (fun K hK => ?_) AllReadyH.nil)
          have l_0 := KK.out.first.c 2 rfl
          have z_0 := KK.out.first.f 2 rfl
          go_simp
          have KN : Hid (BS w [(w.heap.size, [.int .i64 0, .int .i64 M2, .int .i64 D3, .int .i64 U1]), (w.heap.size + 1, [.int .i64 0, .int .i64 0, .int .i64 0, .int .i64 0])] _) := KK.out.set1 2 (.int .i64 D3) (by simp) (by intro x hx; simp only [List.mem_singleton] at hx; subst hx; simp)
          refine hK.out _ _ (BC.of KN.out.1 KN.out.first (i := 3) rfl) (fun hHeld => ?_)
          refine gen_anyH (BS w [(w.heap.size, [.int .i64 0, .int .i64 M2, .int .i64 D3, .int .i64 U1]), (w.heap.size + 1, [.int .i64 0, .int .i64 0, .int .i64 0, .int .i64 0])]) (by first | exact KN.out | exact KN.out.drew) ?_
          clear hHeld hK K KK KN l_0 z_0
          intro v36 KK'
          have KK : Hid (BS w [(w.heap.size, [.int .i64 0, .int .i64 M2, .int .i64 D3, .int .i64 U1]), (w.heap.size + 1, [.int .i64 0, .int .i64 0, .int .i64 0, .int .i64 0])] v36) := KK'
          have hHeld : BC w (w.heap.size) 3 (.int .i64 U1) v36 := BC.of KK'.1 KK'.first (i := 3) rfl
          clear KK'
          refine wpAnyH_done (by kernel_rfl) ?_ _
          go_wp2_with fail
          go_meet
          case rel => exact KK.out
    ·
      have l_0 := KK.out.first.c 2 rfl
      go_simp
      refine hK.out _ _ hHeld (fun hHeld => ?_)
      clear hK K l_0
      refine wpAnyH_take (i := 8) (v := ?_) (oi := { dst := some 48, op := _, type := _, pos := _, after := _, guard := none }) rfl (by kernel_rfl) (by kernel_rfl) (by kernel_rfl) (fun _ _ _ h => h) (Or.inl ⟨by kernel_rfl, ?_⟩) (by assumption) ?_
      case refine_2 => (intro w9 hSw; clear hSw; go_simp; try with_reducible rfl)
      simp only [Act.put, List.setIfInBounds_toArray, List.set_cons_zero, List.set_cons_succ]
      refine wpAnyH_ready (rs := [1, 3, 9]) (by kernel_rfl) (by simp) (AllReadyH.cons (o := { dst := some 41, op := _, type := _, pos := _, after := _, guard := none }) rfl (fun K hK => ?_) (AllReadyH.cons (o := { dst := some 43, op := _, type := _, pos := _, after := _, guard := none }) rfl (fun K hK => ?_) (AllReadyH.cons (o := { dst := some 49, op := _, type := _, pos := _, after := _, guard := none }) rfl (fun K hK => ?_) AllReadyH.nil)))
      ·
        have l_0 := KK.out.first.c 1 rfl
        go_simp
        refine hK.out _ _ hHeld (fun hHeld => ?_)
        clear hK K l_0
        refine wpAnyH_ready (rs := [3, 9]) (by kernel_rfl) (by simp) (AllReadyH.cons (o := { dst := some 43, op := _, type := _, pos := _, after := _, guard := none }) rfl (fun K hK => ?_) (AllReadyH.cons (o := { dst := some 49, op := _, type := _, pos := _, after := _, guard := none }) rfl (fun K hK => ?_) AllReadyH.nil))
        ·
          have l_0 := KK.out.first.c 2 rfl
          go_simp
          refine hK.out _ _ hHeld (fun hHeld => ?_)
          clear hK K l_0
          refine wpAnyH_ready (rs := [9]) (by kernel_rfl) (by simp) (AllReadyH.cons (o := { dst := some 49, op := _, type := _, pos := _, after := _, guard := none }) rfl (fun K hK => ?_) AllReadyH.nil)
          go_simp
          refine (SG.out _).mono ?_
          rintro e v40 ⟨rfl, hb40⟩
          refine hK.out _ _ (hHeld.below hb40) (fun hHeld => ?_)
          replace KK : Hid (BS w [(w.heap.size, [.int .i64 0, .int .i64 M1, .int .i64 D2, .int .i64 U1]), (w.heap.size + 1, [.int .i64 0, .int .i64 0, .int .i64 0, .int .i64 0])] v40) := by first | exact KK.out.below hb40 | exact KK.out.drew.below hb40
          clear hK K hb40
          refine wpAnyH_ready (rs := [10]) (by kernel_rfl) (by simp) (AllReadyH.cons (o := { dst := some 50, op := _, type := _, pos := _, after := _, guard := none }) rfl (fun K hK => ?_) AllReadyH.nil)
          go_simp
          refine (LD.out _).mono ?_
          rintro e v41 ⟨rfl, hw⟩
          rw [hw]
          refine hK.out _ _ hHeld (fun hHeld => ?_)
          clear hK K hw v41
          refine wpAnyH_take (i := 11) (v := ?_) (oi := { dst := some 39, op := _, type := _, pos := _, after := _, guard := none }) rfl (by kernel_rfl) (by kernel_rfl) (by kernel_rfl) (fun _ _ _ h => h) (Or.inl ⟨by kernel_rfl, ?_⟩) (by assumption) ?_
          case refine_2 => (intro w9 hSw; clear hSw; go_simp; try with_reducible rfl)
          simp only [Act.put, List.setIfInBounds_toArray, List.set_cons_zero, List.set_cons_succ]
          refine wpAnyH_take (i := 12) (v := ?_) (oi := { dst := some 51, op := _, type := _, pos := _, after := _, guard := none }) rfl (by kernel_rfl) (by kernel_rfl) (by kernel_rfl) (fun _ _ _ h => h) (Or.inl ⟨by kernel_rfl, ?_⟩) (by assumption) ?_
          case refine_2 => (intro w9 hSw; clear hSw; go_simp; try with_reducible rfl)
          simp only [Act.put, List.setIfInBounds_toArray, List.set_cons_zero, List.set_cons_succ]
          refine wpAnyH_take (i := 13) (v := ?_) (oi := { dst := some 52, op := _, type := _, pos := _, after := _, guard := none }) rfl (by kernel_rfl) (by kernel_rfl) (by kernel_rfl) (fun _ _ _ h => h) (Or.inl ⟨by kernel_rfl, ?_⟩) (by assumption) ?_
          case refine_2 => (intro w9 hSw; clear hSw; go_simp; try with_reducible rfl)
          simp only [Act.put, List.setIfInBounds_toArray, List.set_cons_zero, List.set_cons_succ]
          refine wpAnyH_take (i := 14) (v := ?_) (oi := { dst := some 53, op := _, type := _, pos := _, after := _, guard := none }) rfl (by kernel_rfl) (by kernel_rfl) (by kernel_rfl) (fun _ _ _ h => h) (Or.inl ⟨by kernel_rfl, ?_⟩) (by assumption) ?_
          case refine_2 => (intro w9 hSw; clear hSw; go_simp; try with_reducible rfl)
          simp only [Act.put, List.setIfInBounds_toArray, List.set_cons_zero, List.set_cons_succ]
          refine wpAnyH_ready (rs := [15]) (by kernel_rfl) (by simp) (AllReadyH.cons (o := { dst := none, op := _, type := _, pos := _, after := _, guard := none }) rfl (fun K hK => ?_) AllReadyH.nil)
          have l_0 := KK.out.first.c 1 rfl
          have z_0 := KK.out.first.f 1 rfl
          go_simp
          have KN : Hid (BS w [(w.heap.size, [.int .i64 0, .int .i64 M2, .int .i64 D2, .int .i64 U1]), (w.heap.size + 1, [.int .i64 0, .int .i64 0, .int .i64 0, .int .i64 0])] _) := KK.out.set1 1 (.int .i64 M2) (by simp) (by intro x hx; simp only [List.mem_singleton] at hx; subst hx; simp)
          refine hK.out _ _ (BC.of KN.out.1 KN.out.first (i := 3) rfl) (fun hHeld => ?_)
          refine gen_anyH (BS w [(w.heap.size, [.int .i64 0, .int .i64 M2, .int .i64 D2, .int .i64 U1]), (w.heap.size + 1, [.int .i64 0, .int .i64 0, .int .i64 0, .int .i64 0])]) (by first | exact KN.out | exact KN.out.drew) ?_
          clear hHeld hK K KK KN l_0 z_0
          intro v42 KK'
          have KK : Hid (BS w [(w.heap.size, [.int .i64 0, .int .i64 M2, .int .i64 D2, .int .i64 U1]), (w.heap.size + 1, [.int .i64 0, .int .i64 0, .int .i64 0, .int .i64 0])] v42) := KK'
          have hHeld : BC w (w.heap.size) 3 (.int .i64 U1) v42 := BC.of KK'.1 KK'.first (i := 3) rfl
          clear KK'
          refine wpAnyH_take (i := 16) (v := ?_) (oi := { dst := some 54, op := _, type := _, pos := _, after := _, guard := none }) rfl (by kernel_rfl) (by kernel_rfl) (by kernel_rfl) (fun _ _ _ h => h) (Or.inl ⟨by kernel_rfl, ?_⟩) (by assumption) ?_
          case refine_2 => (intro w9 hSw; clear hSw; go_simp; try with_reducible rfl)
          simp only [Act.put, List.setIfInBounds_toArray, List.set_cons_zero, List.set_cons_succ]
          refine wpAnyH_ready (rs := [17]) (by kernel_rfl) (by simp) (AllReadyH.cons (o := { dst := none, op := _, type := _, pos := _, after := _, guard := none }) rfl (fun K hK => ?_) AllReadyH.nil)
          have l_0 := KK.out.first.c 2 rfl
          have z_0 := KK.out.first.f 2 rfl
          go_simp
          have KN : Hid (BS w [(w.heap.size, [.int .i64 0, .int .i64 M2, .int .i64 D3, .int .i64 U1]), (w.heap.size + 1, [.int .i64 0, .int .i64 0, .int .i64 0, .int .i64 0])] _) := KK.out.set1 2 (.int .i64 D3) (by simp) (by intro x hx; simp only [List.mem_singleton] at hx; subst hx; simp)
          refine hK.out _ _ (BC.of KN.out.1 KN.out.first (i := 3) rfl) (fun hHeld => ?_)
          refine gen_anyH (BS w [(w.heap.size, [.int .i64 0, .int .i64 M2, .int .i64 D3, .int .i64 U1]), (w.heap.size + 1, [.int .i64 0, .int .i64 0, .int .i64 0, .int .i64 0])]) (by first | exact KN.out | exact KN.out.drew) ?_
          clear hHeld hK K KK KN l_0 z_0
          intro v43 KK'
          have KK : Hid (BS w [(w.heap.size, [.int .i64 0, .int .i64 M2, .int .i64 D3, .int .i64 U1]), (w.heap.size + 1, [.int .i64 0, .int .i64 0, .int .i64 0, .int .i64 0])] v43) := KK'
          have hHeld : BC w (w.heap.size) 3 (.int .i64 U1) v43 := BC.of KK'.1 KK'.first (i := 3) rfl
          clear KK'
          refine wpAnyH_done (by kernel_rfl) ?_ _
          go_wp2_with fail
          go_meet
          case rel => exact KK.out
        ·
          go_simp
          refine (SG.out _).mono ?_
          rintro e v44 ⟨rfl, hb44⟩
          refine hK.out _ _ (hHeld.below hb44) (fun hHeld => ?_)
          replace KK : Hid (BS w [(w.heap.size, [.int .i64 0, .int .i64 M1, .int .i64 D2, .int .i64 U1]), (w.heap.size + 1, [.int .i64 0, .int .i64 0, .int .i64 0, .int .i64 0])] v44) := by first | exact KK.out.below hb44 | exact KK.out.drew.below hb44
          clear hK K hb44
          refine wpAnyH_ready (rs := [3]) (by kernel_rfl) (by simp) (AllReadyH.cons (o := { dst := some 43, op := _, type := _, pos := _, after := _, guard := none }) rfl (fun K hK => ?_) AllReadyH.nil)
          have l_0 := KK.out.first.c 2 rfl
          go_simp
          refine hK.out _ _ hHeld (fun hHeld => ?_)
          clear hK K l_0
          refine wpAnyH_ready (rs := [10]) (by kernel_rfl) (by simp) (AllReadyH.cons (o := { dst := some 50, op := _, type := _, pos := _, after := _, guard := none }) rfl (fun K hK => ?_) AllReadyH.nil)
          go_simp
          refine (LD.out _).mono ?_
          rintro e v46 ⟨rfl, hw⟩
          rw [hw]
          refine hK.out _ _ hHeld (fun hHeld => ?_)
          clear hK K hw v46
          refine wpAnyH_take (i := 11) (v := ?_) (oi := { dst := some 39, op := _, type := _, pos := _, after := _, guard := none }) rfl (by kernel_rfl) (by kernel_rfl) (by kernel_rfl) (fun _ _ _ h => h) (Or.inl ⟨by kernel_rfl, ?_⟩) (by assumption) ?_
          case refine_2 => (intro w9 hSw; clear hSw; go_simp; try with_reducible rfl)
          simp only [Act.put, List.setIfInBounds_toArray, List.set_cons_zero, List.set_cons_succ]
          refine wpAnyH_take (i := 12) (v := ?_) (oi := { dst := some 51, op := _, type := _, pos := _, after := _, guard := none }) rfl (by kernel_rfl) (by kernel_rfl) (by kernel_rfl) (fun _ _ _ h => h) (Or.inl ⟨by kernel_rfl, ?_⟩) (by assumption) ?_
          case refine_2 => (intro w9 hSw; clear hSw; go_simp; try with_reducible rfl)
          simp only [Act.put, List.setIfInBounds_toArray, List.set_cons_zero, List.set_cons_succ]
          refine wpAnyH_take (i := 13) (v := ?_) (oi := { dst := some 52, op := _, type := _, pos := _, after := _, guard := none }) rfl (by kernel_rfl) (by kernel_rfl) (by kernel_rfl) (fun _ _ _ h => h) (Or.inl ⟨by kernel_rfl, ?_⟩) (by assumption) ?_
          case refine_2 => (intro w9 hSw; clear hSw; go_simp; try with_reducible rfl)
          simp only [Act.put, List.setIfInBounds_toArray, List.set_cons_zero, List.set_cons_succ]
          refine wpAnyH_take (i := 14) (v := ?_) (oi := { dst := some 53, op := _, type := _, pos := _, after := _, guard := none }) rfl (by kernel_rfl) (by kernel_rfl) (by kernel_rfl) (fun _ _ _ h => h) (Or.inl ⟨by kernel_rfl, ?_⟩) (by assumption) ?_
          case refine_2 => (intro w9 hSw; clear hSw; go_simp; try with_reducible rfl)
          simp only [Act.put, List.setIfInBounds_toArray, List.set_cons_zero, List.set_cons_succ]
          refine wpAnyH_ready (rs := [15]) (by kernel_rfl) (by simp) (AllReadyH.cons (o := { dst := none, op := _, type := _, pos := _, after := _, guard := none }) rfl (fun K hK => ?_) AllReadyH.nil)
          have l_0 := KK.out.first.c 1 rfl
          have z_0 := KK.out.first.f 1 rfl
          go_simp
          have KN : Hid (BS w [(w.heap.size, [.int .i64 0, .int .i64 M2, .int .i64 D2, .int .i64 U1]), (w.heap.size + 1, [.int .i64 0, .int .i64 0, .int .i64 0, .int .i64 0])] _) := KK.out.set1 1 (.int .i64 M2) (by simp) (by intro x hx; simp only [List.mem_singleton] at hx; subst hx; simp)
          refine hK.out _ _ (BC.of KN.out.1 KN.out.first (i := 3) rfl) (fun hHeld => ?_)
          refine gen_anyH (BS w [(w.heap.size, [.int .i64 0, .int .i64 M2, .int .i64 D2, .int .i64 U1]), (w.heap.size + 1, [.int .i64 0, .int .i64 0, .int .i64 0, .int .i64 0])]) (by first | exact KN.out | exact KN.out.drew) ?_
          clear hHeld hK K KK KN l_0 z_0
          intro v47 KK'
          have KK : Hid (BS w [(w.heap.size, [.int .i64 0, .int .i64 M2, .int .i64 D2, .int .i64 U1]), (w.heap.size + 1, [.int .i64 0, .int .i64 0, .int .i64 0, .int .i64 0])] v47) := KK'
          have hHeld : BC w (w.heap.size) 3 (.int .i64 U1) v47 := BC.of KK'.1 KK'.first (i := 3) rfl
          clear KK'
          refine wpAnyH_take (i := 16) (v := ?_) (oi := { dst := some 54, op := _, type := _, pos := _, after := _, guard := none }) rfl (by kernel_rfl) (by kernel_rfl) (by kernel_rfl) (fun _ _ _ h => h) (Or.inl ⟨by kernel_rfl, ?_⟩) (by assumption) ?_
          case refine_2 => (intro w9 hSw; clear hSw; go_simp; try with_reducible rfl)
          simp only [Act.put, List.setIfInBounds_toArray, List.set_cons_zero, List.set_cons_succ]
          refine wpAnyH_ready (rs := [17]) (by kernel_rfl) (by simp) (AllReadyH.cons (o := { dst := none, op := _, type := _, pos := _, after := _, guard := none }) rfl (fun K hK => ?_) AllReadyH.nil)
          have l_0 := KK.out.first.c 2 rfl
          have z_0 := KK.out.first.f 2 rfl
          go_simp
          have KN : Hid (BS w [(w.heap.size, [.int .i64 0, .int .i64 M2, .int .i64 D3, .int .i64 U1]), (w.heap.size + 1, [.int .i64 0, .int .i64 0, .int .i64 0, .int .i64 0])] _) := KK.out.set1 2 (.int .i64 D3) (by simp) (by intro x hx; simp only [List.mem_singleton] at hx; subst hx; simp)
          refine hK.out _ _ (BC.of KN.out.1 KN.out.first (i := 3) rfl) (fun hHeld => ?_)
          refine gen_anyH (BS w [(w.heap.size, [.int .i64 0, .int .i64 M2, .int .i64 D3, .int .i64 U1]), (w.heap.size + 1, [.int .i64 0, .int .i64 0, .int .i64 0, .int .i64 0])]) (by first | exact KN.out | exact KN.out.drew) ?_
          clear hHeld hK K KK KN l_0 z_0
          intro v48 KK'
          have KK : Hid (BS w [(w.heap.size, [.int .i64 0, .int .i64 M2, .int .i64 D3, .int .i64 U1]), (w.heap.size + 1, [.int .i64 0, .int .i64 0, .int .i64 0, .int .i64 0])] v48) := KK'
          have hHeld : BC w (w.heap.size) 3 (.int .i64 U1) v48 := BC.of KK'.1 KK'.first (i := 3) rfl
          clear KK'
          refine wpAnyH_done (by kernel_rfl) ?_ _
          go_wp2_with fail
          go_meet
          case rel => exact KK.out
      ·
        have l_0 := KK.out.first.c 2 rfl
        go_simp
        refine hK.out _ _ hHeld (fun hHeld => ?_)
        clear hK K l_0
        refine wpAnyH_ready (rs := [1, 9]) (by kernel_rfl) (by simp) (AllReadyH.cons (o := { dst := some 41, op := _, type := _, pos := _, after := _, guard := none }) rfl (fun K hK => ?_) (AllReadyH.cons (o := { dst := some 49, op := _, type := _, pos := _, after := _, guard := none }) rfl (fun K hK => ?_) AllReadyH.nil))
        ·
          have l_0 := KK.out.first.c 1 rfl
          go_simp
          refine hK.out _ _ hHeld (fun hHeld => ?_)
          clear hK K l_0
          refine wpAnyH_ready (rs := [9]) (by kernel_rfl) (by simp) (AllReadyH.cons (o := { dst := some 49, op := _, type := _, pos := _, after := _, guard := none }) rfl (fun K hK => ?_) AllReadyH.nil)
          go_simp
          refine (SG.out _).mono ?_
          rintro e v51 ⟨rfl, hb51⟩
          refine hK.out _ _ (hHeld.below hb51) (fun hHeld => ?_)
          replace KK : Hid (BS w [(w.heap.size, [.int .i64 0, .int .i64 M1, .int .i64 D2, .int .i64 U1]), (w.heap.size + 1, [.int .i64 0, .int .i64 0, .int .i64 0, .int .i64 0])] v51) := by first | exact KK.out.below hb51 | exact KK.out.drew.below hb51
          clear hK K hb51
          refine wpAnyH_ready (rs := [10]) (by kernel_rfl) (by simp) (AllReadyH.cons (o := { dst := some 50, op := _, type := _, pos := _, after := _, guard := none }) rfl (fun K hK => ?_) AllReadyH.nil)
          go_simp
          refine (LD.out _).mono ?_
          rintro e v52 ⟨rfl, hw⟩
          rw [hw]
          refine hK.out _ _ hHeld (fun hHeld => ?_)
          clear hK K hw v52
          refine wpAnyH_take (i := 11) (v := ?_) (oi := { dst := some 39, op := _, type := _, pos := _, after := _, guard := none }) rfl (by kernel_rfl) (by kernel_rfl) (by kernel_rfl) (fun _ _ _ h => h) (Or.inl ⟨by kernel_rfl, ?_⟩) (by assumption) ?_
          case refine_2 => (intro w9 hSw; clear hSw; go_simp; try with_reducible rfl)
          simp only [Act.put, List.setIfInBounds_toArray, List.set_cons_zero, List.set_cons_succ]
          refine wpAnyH_take (i := 12) (v := ?_) (oi := { dst := some 51, op := _, type := _, pos := _, after := _, guard := none }) rfl (by kernel_rfl) (by kernel_rfl) (by kernel_rfl) (fun _ _ _ h => h) (Or.inl ⟨by kernel_rfl, ?_⟩) (by assumption) ?_
          case refine_2 => (intro w9 hSw; clear hSw; go_simp; try with_reducible rfl)
          simp only [Act.put, List.setIfInBounds_toArray, List.set_cons_zero, List.set_cons_succ]
          refine wpAnyH_take (i := 13) (v := ?_) (oi := { dst := some 52, op := _, type := _, pos := _, after := _, guard := none }) rfl (by kernel_rfl) (by kernel_rfl) (by kernel_rfl) (fun _ _ _ h => h) (Or.inl ⟨by kernel_rfl, ?_⟩) (by assumption) ?_
          case refine_2 => (intro w9 hSw; clear hSw; go_simp; try with_reducible rfl)
          simp only [Act.put, List.setIfInBounds_toArray, List.set_cons_zero, List.set_cons_succ]
          refine wpAnyH_take (i := 14) (v := ?_) (oi := { dst := some 53, op := _, type := _, pos := _, after := _, guard := none }) rfl (by kernel_rfl) (by kernel_rfl) (by kernel_rfl) (fun _ _ _ h => h) (Or.inl ⟨by kernel_rfl, ?_⟩) (by assumption) ?_
          case refine_2 => (intro w9 hSw; clear hSw; go_simp; try with_reducible rfl)
          simp only [Act.put, List.setIfInBounds_toArray, List.set_cons_zero, List.set_cons_succ]
          refine wpAnyH_ready (rs := [15]) (by kernel_rfl) (by simp) (AllReadyH.cons (o := { dst := none, op := _, type := _, pos := _, after := _, guard := none }) rfl (fun K hK => ?_) AllReadyH.nil)
          have l_0 := KK.out.first.c 1 rfl
          have z_0 := KK.out.first.f 1 rfl
          go_simp
          have KN : Hid (BS w [(w.heap.size, [.int .i64 0, .int .i64 M2, .int .i64 D2, .int .i64 U1]), (w.heap.size + 1, [.int .i64 0, .int .i64 0, .int .i64 0, .int .i64 0])] _) := KK.out.set1 1 (.int .i64 M2) (by simp) (by intro x hx; simp only [List.mem_singleton] at hx; subst hx; simp)
          refine hK.out _ _ (BC.of KN.out.1 KN.out.first (i := 3) rfl) (fun hHeld => ?_)
          refine gen_anyH (BS w [(w.heap.size, [.int .i64 0, .int .i64 M2, .int .i64 D2, .int .i64 U1]), (w.heap.size + 1, [.int .i64 0, .int .i64 0, .int .i64 0, .int .i64 0])]) (by first | exact KN.out | exact KN.out.drew) ?_
          clear hHeld hK K KK KN l_0 z_0
          intro v53 KK'
          have KK : Hid (BS w [(w.heap.size, [.int .i64 0, .int .i64 M2, .int .i64 D2, .int .i64 U1]), (w.heap.size + 1, [.int .i64 0, .int .i64 0, .int .i64 0, .int .i64 0])] v53) := KK'
          have hHeld : BC w (w.heap.size) 3 (.int .i64 U1) v53 := BC.of KK'.1 KK'.first (i := 3) rfl
          clear KK'
          refine wpAnyH_take (i := 16) (v := ?_) (oi := { dst := some 54, op := _, type := _, pos := _, after := _, guard := none }) rfl (by kernel_rfl) (by kernel_rfl) (by kernel_rfl) (fun _ _ _ h => h) (Or.inl ⟨by kernel_rfl, ?_⟩) (by assumption) ?_
          case refine_2 => (intro w9 hSw; clear hSw; go_simp; try with_reducible rfl)
          simp only [Act.put, List.setIfInBounds_toArray, List.set_cons_zero, List.set_cons_succ]
          refine wpAnyH_ready (rs := [17]) (by kernel_rfl) (by simp) (AllReadyH.cons (o := { dst := none, op := _, type := _, pos := _, after := _, guard := none }) rfl (fun K hK => ?_) AllReadyH.nil)
          have l_0 := KK.out.first.c 2 rfl
          have z_0 := KK.out.first.f 2 rfl
          go_simp
          have KN : Hid (BS w [(w.heap.size, [.int .i64 0, .int .i64 M2, .int .i64 D3, .int .i64 U1]), (w.heap.size + 1, [.int .i64 0, .int .i64 0, .int .i64 0, .int .i64 0])] _) := KK.out.set1 2 (.int .i64 D3) (by simp) (by intro x hx; simp only [List.mem_singleton] at hx; subst hx; simp)
          refine hK.out _ _ (BC.of KN.out.1 KN.out.first (i := 3) rfl) (fun hHeld => ?_)
          refine gen_anyH (BS w [(w.heap.size, [.int .i64 0, .int .i64 M2, .int .i64 D3, .int .i64 U1]), (w.heap.size + 1, [.int .i64 0, .int .i64 0, .int .i64 0, .int .i64 0])]) (by first | exact KN.out | exact KN.out.drew) ?_
          clear hHeld hK K KK KN l_0 z_0
          intro v54 KK'
          have KK : Hid (BS w [(w.heap.size, [.int .i64 0, .int .i64 M2, .int .i64 D3, .int .i64 U1]), (w.heap.size + 1, [.int .i64 0, .int .i64 0, .int .i64 0, .int .i64 0])] v54) := KK'
          have hHeld : BC w (w.heap.size) 3 (.int .i64 U1) v54 := BC.of KK'.1 KK'.first (i := 3) rfl
          clear KK'
          refine wpAnyH_done (by kernel_rfl) ?_ _
          go_wp2_with fail
          go_meet
          case rel => exact KK.out
        ·
          go_simp
          refine (SG.out _).mono ?_
          rintro e v55 ⟨rfl, hb55⟩
          refine hK.out _ _ (hHeld.below hb55) (fun hHeld => ?_)
          replace KK : Hid (BS w [(w.heap.size, [.int .i64 0, .int .i64 M1, .int .i64 D2, .int .i64 U1]), (w.heap.size + 1, [.int .i64 0, .int .i64 0, .int .i64 0, .int .i64 0])] v55) := by first | exact KK.out.below hb55 | exact KK.out.drew.below hb55
          clear hK K hb55
          refine wpAnyH_ready (rs := [1]) (by kernel_rfl) (by simp) (AllReadyH.cons (o := { dst := some 41, op := _, type := _, pos := _, after := _, guard := none }) rfl (fun K hK => ?_) AllReadyH.nil)
          have l_0 := KK.out.first.c 1 rfl
          go_simp
          refine hK.out _ _ hHeld (fun hHeld => ?_)
          clear hK K l_0
          refine wpAnyH_ready (rs := [10]) (by kernel_rfl) (by simp) (AllReadyH.cons (o := { dst := some 50, op := _, type := _, pos := _, after := _, guard := none }) rfl (fun K hK => ?_) AllReadyH.nil)
          go_simp
          refine (LD.out _).mono ?_
          rintro e v57 ⟨rfl, hw⟩
          rw [hw]
          refine hK.out _ _ hHeld (fun hHeld => ?_)
          clear hK K hw v57
          refine wpAnyH_take (i := 11) (v := ?_) (oi := { dst := some 39, op := _, type := _, pos := _, after := _, guard := none }) rfl (by kernel_rfl) (by kernel_rfl) (by kernel_rfl) (fun _ _ _ h => h) (Or.inl ⟨by kernel_rfl, ?_⟩) (by assumption) ?_
          case refine_2 => (intro w9 hSw; clear hSw; go_simp; try with_reducible rfl)
          simp only [Act.put, List.setIfInBounds_toArray, List.set_cons_zero, List.set_cons_succ]
          refine wpAnyH_take (i := 12) (v := ?_) (oi := { dst := some 51, op := _, type := _, pos := _, after := _, guard := none }) rfl (by kernel_rfl) (by kernel_rfl) (by kernel_rfl) (fun _ _ _ h => h) (Or.inl ⟨by kernel_rfl, ?_⟩) (by assumption) ?_
          case refine_2 => (intro w9 hSw; clear hSw; go_simp; try with_reducible rfl)
          simp only [Act.put, List.setIfInBounds_toArray, List.set_cons_zero, List.set_cons_succ]
          refine wpAnyH_take (i := 13) (v := ?_) (oi := { dst := some 52, op := _, type := _, pos := _, after := _, guard := none }) rfl (by kernel_rfl) (by kernel_rfl) (by kernel_rfl) (fun _ _ _ h => h) (Or.inl ⟨by kernel_rfl, ?_⟩) (by assumption) ?_
          case refine_2 => (intro w9 hSw; clear hSw; go_simp; try with_reducible rfl)
          simp only [Act.put, List.setIfInBounds_toArray, List.set_cons_zero, List.set_cons_succ]
          refine wpAnyH_take (i := 14) (v := ?_) (oi := { dst := some 53, op := _, type := _, pos := _, after := _, guard := none }) rfl (by kernel_rfl) (by kernel_rfl) (by kernel_rfl) (fun _ _ _ h => h) (Or.inl ⟨by kernel_rfl, ?_⟩) (by assumption) ?_
          case refine_2 => (intro w9 hSw; clear hSw; go_simp; try with_reducible rfl)
          simp only [Act.put, List.setIfInBounds_toArray, List.set_cons_zero, List.set_cons_succ]
          refine wpAnyH_ready (rs := [15]) (by kernel_rfl) (by simp) (AllReadyH.cons (o := { dst := none, op := _, type := _, pos := _, after := _, guard := none }) rfl (fun K hK => ?_) AllReadyH.nil)
          have l_0 := KK.out.first.c 1 rfl
          have z_0 := KK.out.first.f 1 rfl
          go_simp
          have KN : Hid (BS w [(w.heap.size, [.int .i64 0, .int .i64 M2, .int .i64 D2, .int .i64 U1]), (w.heap.size + 1, [.int .i64 0, .int .i64 0, .int .i64 0, .int .i64 0])] _) := KK.out.set1 1 (.int .i64 M2) (by simp) (by intro x hx; simp only [List.mem_singleton] at hx; subst hx; simp)
          refine hK.out _ _ (BC.of KN.out.1 KN.out.first (i := 3) rfl) (fun hHeld => ?_)
          refine gen_anyH (BS w [(w.heap.size, [.int .i64 0, .int .i64 M2, .int .i64 D2, .int .i64 U1]), (w.heap.size + 1, [.int .i64 0, .int .i64 0, .int .i64 0, .int .i64 0])]) (by first | exact KN.out | exact KN.out.drew) ?_
          clear hHeld hK K KK KN l_0 z_0
          intro v58 KK'
          have KK : Hid (BS w [(w.heap.size, [.int .i64 0, .int .i64 M2, .int .i64 D2, .int .i64 U1]), (w.heap.size + 1, [.int .i64 0, .int .i64 0, .int .i64 0, .int .i64 0])] v58) := KK'
          have hHeld : BC w (w.heap.size) 3 (.int .i64 U1) v58 := BC.of KK'.1 KK'.first (i := 3) rfl
          clear KK'
          refine wpAnyH_take (i := 16) (v := ?_) (oi := { dst := some 54, op := _, type := _, pos := _, after := _, guard := none }) rfl (by kernel_rfl) (by kernel_rfl) (by kernel_rfl) (fun _ _ _ h => h) (Or.inl ⟨by kernel_rfl, ?_⟩) (by assumption) ?_
          case refine_2 => (intro w9 hSw; clear hSw; go_simp; try with_reducible rfl)
          simp only [Act.put, List.setIfInBounds_toArray, List.set_cons_zero, List.set_cons_succ]
          refine wpAnyH_ready (rs := [17]) (by kernel_rfl) (by simp) (AllReadyH.cons (o := { dst := none, op := _, type := _, pos := _, after := _, guard := none }) rfl (fun K hK => ?_) AllReadyH.nil)
          have l_0 := KK.out.first.c 2 rfl
          have z_0 := KK.out.first.f 2 rfl
          go_simp
          have KN : Hid (BS w [(w.heap.size, [.int .i64 0, .int .i64 M2, .int .i64 D3, .int .i64 U1]), (w.heap.size + 1, [.int .i64 0, .int .i64 0, .int .i64 0, .int .i64 0])] _) := KK.out.set1 2 (.int .i64 D3) (by simp) (by intro x hx; simp only [List.mem_singleton] at hx; subst hx; simp)
          refine hK.out _ _ (BC.of KN.out.1 KN.out.first (i := 3) rfl) (fun hHeld => ?_)
          refine gen_anyH (BS w [(w.heap.size, [.int .i64 0, .int .i64 M2, .int .i64 D3, .int .i64 U1]), (w.heap.size + 1, [.int .i64 0, .int .i64 0, .int .i64 0, .int .i64 0])]) (by first | exact KN.out | exact KN.out.drew) ?_
          clear hHeld hK K KK KN l_0 z_0
          intro v59 KK'
          have KK : Hid (BS w [(w.heap.size, [.int .i64 0, .int .i64 M2, .int .i64 D3, .int .i64 U1]), (w.heap.size + 1, [.int .i64 0, .int .i64 0, .int .i64 0, .int .i64 0])] v59) := KK'
          have hHeld : BC w (w.heap.size) 3 (.int .i64 U1) v59 := BC.of KK'.1 KK'.first (i := 3) rfl
          clear KK'
          refine wpAnyH_done (by kernel_rfl) ?_ _
          go_wp2_with fail
          go_meet
          case rel => exact KK.out
      ·
        go_simp
        refine (SG.out _).mono ?_
        rintro e v60 ⟨rfl, hb60⟩
        refine hK.out _ _ (hHeld.below hb60) (fun hHeld => ?_)
        replace KK : Hid (BS w [(w.heap.size, [.int .i64 0, .int .i64 M1, .int .i64 D2, .int .i64 U1]), (w.heap.size + 1, [.int .i64 0, .int .i64 0, .int .i64 0, .int .i64 0])] v60) := by first | exact KK.out.below hb60 | exact KK.out.drew.below hb60
        clear hK K hb60
        refine wpAnyH_ready (rs := [1, 3]) (by kernel_rfl) (by simp) (AllReadyH.cons (o := { dst := some 41, op := _, type := _, pos := _, after := _, guard := none }) rfl (fun K hK => ?_) (AllReadyH.cons (o := { dst := some 43, op := _, type := _, pos := _, after := _, guard := none }) rfl (fun K hK => ?_) AllReadyH.nil))
        ·
          have l_0 := KK.out.first.c 1 rfl
          go_simp
          refine hK.out _ _ hHeld (fun hHeld => ?_)
          clear hK K l_0
          refine wpAnyH_ready (rs := [3]) (by kernel_rfl) (by simp) (AllReadyH.cons (o := { dst := some 43, op := _, type := _, pos := _, after := _, guard := none }) rfl (fun K hK => ?_) AllReadyH.nil)
          have l_0 := KK.out.first.c 2 rfl
          go_simp
          refine hK.out _ _ hHeld (fun hHeld => ?_)
          clear hK K l_0
          refine wpAnyH_ready (rs := [10]) (by kernel_rfl) (by simp) (AllReadyH.cons (o := { dst := some 50, op := _, type := _, pos := _, after := _, guard := none }) rfl (fun K hK => ?_) AllReadyH.nil)
          go_simp
          refine (LD.out _).mono ?_
          rintro e v63 ⟨rfl, hw⟩
          rw [hw]
          refine hK.out _ _ hHeld (fun hHeld => ?_)
          clear hK K hw v63
          refine wpAnyH_take (i := 11) (v := ?_) (oi := { dst := some 39, op := _, type := _, pos := _, after := _, guard := none }) rfl (by kernel_rfl) (by kernel_rfl) (by kernel_rfl) (fun _ _ _ h => h) (Or.inl ⟨by kernel_rfl, ?_⟩) (by assumption) ?_
          case refine_2 => (intro w9 hSw; clear hSw; go_simp; try with_reducible rfl)
          simp only [Act.put, List.setIfInBounds_toArray, List.set_cons_zero, List.set_cons_succ]
          refine wpAnyH_take (i := 12) (v := ?_) (oi := { dst := some 51, op := _, type := _, pos := _, after := _, guard := none }) rfl (by kernel_rfl) (by kernel_rfl) (by kernel_rfl) (fun _ _ _ h => h) (Or.inl ⟨by kernel_rfl, ?_⟩) (by assumption) ?_
          case refine_2 => (intro w9 hSw; clear hSw; go_simp; try with_reducible rfl)
          simp only [Act.put, List.setIfInBounds_toArray, List.set_cons_zero, List.set_cons_succ]
          refine wpAnyH_take (i := 13) (v := ?_) (oi := { dst := some 52, op := _, type := _, pos := _, after := _, guard := none }) rfl (by kernel_rfl) (by kernel_rfl) (by kernel_rfl) (fun _ _ _ h => h) (Or.inl ⟨by kernel_rfl, ?_⟩) (by assumption) ?_
          case refine_2 => (intro w9 hSw; clear hSw; go_simp; try with_reducible rfl)
          simp only [Act.put, List.setIfInBounds_toArray, List.set_cons_zero, List.set_cons_succ]
          refine wpAnyH_take (i := 14) (v := ?_) (oi := { dst := some 53, op := _, type := _, pos := _, after := _, guard := none }) rfl (by kernel_rfl) (by kernel_rfl) (by kernel_rfl) (fun _ _ _ h => h) (Or.inl ⟨by kernel_rfl, ?_⟩) (by assumption) ?_
          case refine_2 => (intro w9 hSw; clear hSw; go_simp; try with_reducible rfl)
          simp only [Act.put, List.setIfInBounds_toArray, List.set_cons_zero, List.set_cons_succ]
          refine wpAnyH_ready (rs := [15]) (by kernel_rfl) (by simp) (AllReadyH.cons (o := { dst := none, op := _, type := _, pos := _, after := _, guard := none }) rfl (fun K hK => ?_) AllReadyH.nil)
          have l_0 := KK.out.first.c 1 rfl
          have z_0 := KK.out.first.f 1 rfl
          go_simp
          have KN : Hid (BS w [(w.heap.size, [.int .i64 0, .int .i64 M2, .int .i64 D2, .int .i64 U1]), (w.heap.size + 1, [.int .i64 0, .int .i64 0, .int .i64 0, .int .i64 0])] _) := KK.out.set1 1 (.int .i64 M2) (by simp) (by intro x hx; simp only [List.mem_singleton] at hx; subst hx; simp)
          refine hK.out _ _ (BC.of KN.out.1 KN.out.first (i := 3) rfl) (fun hHeld => ?_)
          refine gen_anyH (BS w [(w.heap.size, [.int .i64 0, .int .i64 M2, .int .i64 D2, .int .i64 U1]), (w.heap.size + 1, [.int .i64 0, .int .i64 0, .int .i64 0, .int .i64 0])]) (by first | exact KN.out | exact KN.out.drew) ?_
          clear hHeld hK K KK KN l_0 z_0
          intro v64 KK'
          have KK : Hid (BS w [(w.heap.size, [.int .i64 0, .int .i64 M2, .int .i64 D2, .int .i64 U1]), (w.heap.size + 1, [.int .i64 0, .int .i64 0, .int .i64 0, .int .i64 0])] v64) := KK'
          have hHeld : BC w (w.heap.size) 3 (.int .i64 U1) v64 := BC.of KK'.1 KK'.first (i := 3) rfl
          clear KK'
          refine wpAnyH_take (i := 16) (v := ?_) (oi := { dst := some 54, op := _, type := _, pos := _, after := _, guard := none }) rfl (by kernel_rfl) (by kernel_rfl) (by kernel_rfl) (fun _ _ _ h => h) (Or.inl ⟨by kernel_rfl, ?_⟩) (by assumption) ?_
          case refine_2 => (intro w9 hSw; clear hSw; go_simp; try with_reducible rfl)
          simp only [Act.put, List.setIfInBounds_toArray, List.set_cons_zero, List.set_cons_succ]
          refine wpAnyH_ready (rs := [17]) (by kernel_rfl) (by simp) (AllReadyH.cons (o := { dst := none, op := _, type := _, pos := _, after := _, guard := none }) rfl (fun K hK => ?_) AllReadyH.nil)
          have l_0 := KK.out.first.c 2 rfl
          have z_0 := KK.out.first.f 2 rfl
          go_simp
          have KN : Hid (BS w [(w.heap.size, [.int .i64 0, .int .i64 M2, .int .i64 D3, .int .i64 U1]), (w.heap.size + 1, [.int .i64 0, .int .i64 0, .int .i64 0, .int .i64 0])] _) := KK.out.set1 2 (.int .i64 D3) (by simp) (by intro x hx; simp only [List.mem_singleton] at hx; subst hx; simp)
          refine hK.out _ _ (BC.of KN.out.1 KN.out.first (i := 3) rfl) (fun hHeld => ?_)
          refine gen_anyH (BS w [(w.heap.size, [.int .i64 0, .int .i64 M2, .int .i64 D3, .int .i64 U1]), (w.heap.size + 1, [.int .i64 0, .int .i64 0, .int .i64 0, .int .i64 0])]) (by first | exact KN.out | exact KN.out.drew) ?_
          clear hHeld hK K KK KN l_0 z_0
          intro v65 KK'
          have KK : Hid (BS w [(w.heap.size, [.int .i64 0, .int .i64 M2, .int .i64 D3, .int .i64 U1]), (w.heap.size + 1, [.int .i64 0, .int .i64 0, .int .i64 0, .int .i64 0])] v65) := KK'
          have hHeld : BC w (w.heap.size) 3 (.int .i64 U1) v65 := BC.of KK'.1 KK'.first (i := 3) rfl
          clear KK'
          refine wpAnyH_done (by kernel_rfl) ?_ _
          go_wp2_with fail
          go_meet
          case rel => exact KK.out
        ·
          have l_0 := KK.out.first.c 2 rfl
          go_simp
          refine hK.out _ _ hHeld (fun hHeld => ?_)
          clear hK K l_0
          refine wpAnyH_ready (rs := [1]) (by kernel_rfl) (by simp) (AllReadyH.cons (o := { dst := some 41, op := _, type := _, pos := _, after := _, guard := none }) rfl (fun K hK => ?_) AllReadyH.nil)
          have l_0 := KK.out.first.c 1 rfl
          go_simp
          refine hK.out _ _ hHeld (fun hHeld => ?_)
          clear hK K l_0
          refine wpAnyH_ready (rs := [10]) (by kernel_rfl) (by simp) (AllReadyH.cons (o := { dst := some 50, op := _, type := _, pos := _, after := _, guard := none }) rfl (fun K hK => ?_) AllReadyH.nil)
          go_simp
          refine (LD.out _).mono ?_
          rintro e v68 ⟨rfl, hw⟩
          rw [hw]
          refine hK.out _ _ hHeld (fun hHeld => ?_)
          clear hK K hw v68
          refine wpAnyH_take (i := 11) (v := ?_) (oi := { dst := some 39, op := _, type := _, pos := _, after := _, guard := none }) rfl (by kernel_rfl) (by kernel_rfl) (by kernel_rfl) (fun _ _ _ h => h) (Or.inl ⟨by kernel_rfl, ?_⟩) (by assumption) ?_
          case refine_2 => (intro w9 hSw; clear hSw; go_simp; try with_reducible rfl)
          simp only [Act.put, List.setIfInBounds_toArray, List.set_cons_zero, List.set_cons_succ]
          refine wpAnyH_take (i := 12) (v := ?_) (oi := { dst := some 51, op := _, type := _, pos := _, after := _, guard := none }) rfl (by kernel_rfl) (by kernel_rfl) (by kernel_rfl) (fun _ _ _ h => h) (Or.inl ⟨by kernel_rfl, ?_⟩) (by assumption) ?_
          case refine_2 => (intro w9 hSw; clear hSw; go_simp; try with_reducible rfl)
          simp only [Act.put, List.setIfInBounds_toArray, List.set_cons_zero, List.set_cons_succ]
          refine wpAnyH_take (i := 13) (v := ?_) (oi := { dst := some 52, op := _, type := _, pos := _, after := _, guard := none }) rfl (by kernel_rfl) (by kernel_rfl) (by kernel_rfl) (fun _ _ _ h => h) (Or.inl ⟨by kernel_rfl, ?_⟩) (by assumption) ?_
          case refine_2 => (intro w9 hSw; clear hSw; go_simp; try with_reducible rfl)
          simp only [Act.put, List.setIfInBounds_toArray, List.set_cons_zero, List.set_cons_succ]
          refine wpAnyH_take (i := 14) (v := ?_) (oi := { dst := some 53, op := _, type := _, pos := _, after := _, guard := none }) rfl (by kernel_rfl) (by kernel_rfl) (by kernel_rfl) (fun _ _ _ h => h) (Or.inl ⟨by kernel_rfl, ?_⟩) (by assumption) ?_
          case refine_2 => (intro w9 hSw; clear hSw; go_simp; try with_reducible rfl)
          simp only [Act.put, List.setIfInBounds_toArray, List.set_cons_zero, List.set_cons_succ]
          refine wpAnyH_ready (rs := [15]) (by kernel_rfl) (by simp) (AllReadyH.cons (o := { dst := none, op := _, type := _, pos := _, after := _, guard := none }) rfl (fun K hK => ?_) AllReadyH.nil)
          have l_0 := KK.out.first.c 1 rfl
          have z_0 := KK.out.first.f 1 rfl
          go_simp
          have KN : Hid (BS w [(w.heap.size, [.int .i64 0, .int .i64 M2, .int .i64 D2, .int .i64 U1]), (w.heap.size + 1, [.int .i64 0, .int .i64 0, .int .i64 0, .int .i64 0])] _) := KK.out.set1 1 (.int .i64 M2) (by simp) (by intro x hx; simp only [List.mem_singleton] at hx; subst hx; simp)
          refine hK.out _ _ (BC.of KN.out.1 KN.out.first (i := 3) rfl) (fun hHeld => ?_)
          refine gen_anyH (BS w [(w.heap.size, [.int .i64 0, .int .i64 M2, .int .i64 D2, .int .i64 U1]), (w.heap.size + 1, [.int .i64 0, .int .i64 0, .int .i64 0, .int .i64 0])]) (by first | exact KN.out | exact KN.out.drew) ?_
          clear hHeld hK K KK KN l_0 z_0
          intro v69 KK'
          have KK : Hid (BS w [(w.heap.size, [.int .i64 0, .int .i64 M2, .int .i64 D2, .int .i64 U1]), (w.heap.size + 1, [.int .i64 0, .int .i64 0, .int .i64 0, .int .i64 0])] v69) := KK'
          have hHeld : BC w (w.heap.size) 3 (.int .i64 U1) v69 := BC.of KK'.1 KK'.first (i := 3) rfl
          clear KK'
          refine wpAnyH_take (i := 16) (v := ?_) (oi := { dst := some 54, op := _, type := _, pos := _, after := _, guard := none }) rfl (by kernel_rfl) (by kernel_rfl) (by kernel_rfl) (fun _ _ _ h => h) (Or.inl ⟨by kernel_rfl, ?_⟩) (by assumption) ?_
          case refine_2 => (intro w9 hSw; clear hSw; go_simp; try with_reducible rfl)
          simp only [Act.put, List.setIfInBounds_toArray, List.set_cons_zero, List.set_cons_succ]
          refine wpAnyH_ready (rs := [17]) (by kernel_rfl) (by simp) (AllReadyH.cons (o := { dst := none, op := _, type := _, pos := _, after := _, guard := none }) rfl (fun K hK => ?_) AllReadyH.nil)
          have l_0 := KK.out.first.c 2 rfl
          have z_0 := KK.out.first.f 2 rfl
          go_simp
          have KN : Hid (BS w [(w.heap.size, [.int .i64 0, .int .i64 M2, .int .i64 D3, .int .i64 U1]), (w.heap.size + 1, [.int .i64 0, .int .i64 0, .int .i64 0, .int .i64 0])] _) := KK.out.set1 2 (.int .i64 D3) (by simp) (by intro x hx; simp only [List.mem_singleton] at hx; subst hx; simp)
          refine hK.out _ _ (BC.of KN.out.1 KN.out.first (i := 3) rfl) (fun hHeld => ?_)
          refine gen_anyH (BS w [(w.heap.size, [.int .i64 0, .int .i64 M2, .int .i64 D3, .int .i64 U1]), (w.heap.size + 1, [.int .i64 0, .int .i64 0, .int .i64 0, .int .i64 0])]) (by first | exact KN.out | exact KN.out.drew) ?_
          clear hHeld hK K KK KN l_0 z_0
          intro v70 KK'
          have KK : Hid (BS w [(w.heap.size, [.int .i64 0, .int .i64 M2, .int .i64 D3, .int .i64 U1]), (w.heap.size + 1, [.int .i64 0, .int .i64 0, .int .i64 0, .int .i64 0])] v70) := KK'
          have hHeld : BC w (w.heap.size) 3 (.int .i64 U1) v70 := BC.of KK'.1 KK'.first (i := 3) rfl
          clear KK'
          refine wpAnyH_done (by kernel_rfl) ?_ _
          go_wp2_with fail
          go_meet
          case rel => exact KK.out
  case rest =>
    skip
    have KZ : Hid (BS w [(w.heap.size, [.int .i64 0, .int .i64 M2, .int .i64 D3, .int .i64 U1]), (w.heap.size + 1, [.int .i64 0, .int .i64 0, .int .i64 0, .int .i64 0])] _) := hcut
    clear hcut KK K4
    go_wp2_with fail
    have KK := KZ
    go_cut [] from 55 to 67 (fun wx => BS w [(w.heap.size, [.int .i64 0, .int .i64 M2, .int .i64 D4, .int .i64 U2]), (w.heap.size + 1, [.int .i64 0, .int .i64 0, .int .i64 0, .int .i64 0])] wx)
    case first =>
      refine wp_region_held_drew (S := BW w) (by kernel_rfl) (BW.drew KZ.out.1) (fun hHeld => ?_)
      refine wpAnyH_take (i := 0) (v := ?_) (oi := { dst := some 56, op := _, type := _, pos := _, after := _, guard := none }) rfl (by kernel_rfl) (by kernel_rfl) (by kernel_rfl) (fun _ _ _ h => h) (Or.inl ⟨by kernel_rfl, ?_⟩) (by assumption) ?_
      case refine_2 => (intro w9 hSw; clear hSw; go_simp; try with_reducible rfl)
      simp only [Act.put, List.setIfInBounds_toArray, List.set_cons_zero, List.set_cons_succ]
      refine wpAnyH_take (i := 2) (v := ?_) (oi := { dst := some 58, op := _, type := _, pos := _, after := _, guard := none }) rfl (by kernel_rfl) (by kernel_rfl) (by kernel_rfl) (fun _ _ _ h => h) (Or.inl ⟨by kernel_rfl, ?_⟩) (by assumption) ?_
      case refine_2 => (intro w9 hSw; clear hSw; go_simp; try with_reducible rfl)
      simp only [Act.put, List.setIfInBounds_toArray, List.set_cons_zero, List.set_cons_succ]
      refine wpAnyH_take (i := 4) (v := ?_) (oi := { dst := some 60, op := _, type := _, pos := _, after := _, guard := none }) rfl (by kernel_rfl) (by kernel_rfl) (by kernel_rfl) (fun _ _ _ h => h) (Or.inl ⟨by kernel_rfl, ?_⟩) (by assumption) ?_
      case refine_2 => (intro w9 hSw; clear hSw; go_simp; try with_reducible rfl)
      simp only [Act.put, List.setIfInBounds_toArray, List.set_cons_zero, List.set_cons_succ]
      refine wpAnyH_ready (rs := [1, 3, 5]) (by kernel_rfl) (by simp) (AllReadyH.cons (o := { dst := some 57, op := _, type := _, pos := _, after := _, guard := none }) rfl (fun K hK => ?_) (AllReadyH.cons (o := { dst := some 59, op := _, type := _, pos := _, after := _, guard := none }) rfl (fun K hK => ?_) (AllReadyH.cons (o := { dst := some 61, op := _, type := _, pos := _, after := _, guard := none }) rfl (fun K hK => ?_) AllReadyH.nil)))
      ·
        have l_0 := KK.out.first.c 2 rfl
        go_simp
        refine hK.out _ _ hHeld (fun hHeld => ?_)
        clear hK K l_0
        refine wpAnyH_ready (rs := [3, 5]) (by kernel_rfl) (by simp) (AllReadyH.cons (o := { dst := some 59, op := _, type := _, pos := _, after := _, guard := none }) rfl (fun K hK => ?_) (AllReadyH.cons (o := { dst := some 61, op := _, type := _, pos := _, after := _, guard := none }) rfl (fun K hK => ?_) AllReadyH.nil))
        ·
          have l_0 := KK.out.first.c 3 rfl
          go_simp
          refine hK.out _ _ hHeld (fun hHeld => ?_)
          clear hK K l_0
          refine wpAnyH_ready (rs := [5]) (by kernel_rfl) (by simp) (AllReadyH.cons (o := { dst := some 61, op := _, type := _, pos := _, after := _, guard := none }) rfl (fun K hK => ?_) AllReadyH.nil)
          have l_0 := KK.out.first.c 3 rfl
          go_simp
          refine hK.out _ _ hHeld (fun hHeld => ?_)
          clear hK K l_0
          refine wpAnyH_ready (rs := [6]) (by kernel_rfl) (by simp) (AllReadyH.cons (o := { dst := some 62, op := _, type := _, pos := _, after := _, guard := none }) rfl (fun K hK => ?_) AllReadyH.nil)
          go_simp
          refine (CM.out _).mono ?_
          rintro e v4 ⟨rfl, hw⟩
          rw [hw]
          refine hK.out _ _ hHeld (fun hHeld => ?_)
          clear hK K hw v4
          refine wpAnyH_ready (rs := [7]) (by kernel_rfl) (by simp) (AllReadyH.cons (o := { dst := some 63, op := _, type := _, pos := _, after := _, guard := none }) rfl (fun K hK => ?_) AllReadyH.nil)
          go_simp
          refine (LE.out _).mono ?_
          rintro e v5 ⟨rfl, hw⟩
          rw [hw]
          refine hK.out _ _ hHeld (fun hHeld => ?_)
          clear hK K hw v5
          refine wpAnyH_take (i := 8) (v := ?_) (oi := { dst := some 55, op := _, type := _, pos := _, after := _, guard := none }) rfl (by kernel_rfl) (by kernel_rfl) (by kernel_rfl) (fun _ _ _ h => h) (Or.inl ⟨by kernel_rfl, ?_⟩) (by assumption) ?_
          case refine_2 => (intro w9 hSw; clear hSw; go_simp; try with_reducible rfl)
          simp only [Act.put, List.setIfInBounds_toArray, List.set_cons_zero, List.set_cons_succ]
          refine wpAnyH_take (i := 9) (v := ?_) (oi := { dst := some 64, op := _, type := _, pos := _, after := _, guard := none }) rfl (by kernel_rfl) (by kernel_rfl) (by kernel_rfl) (fun _ _ _ h => h) (Or.inl ⟨by kernel_rfl, ?_⟩) (by assumption) ?_
          case refine_2 => (intro w9 hSw; clear hSw; go_simp; try with_reducible rfl)
          simp only [Act.put, List.setIfInBounds_toArray, List.set_cons_zero, List.set_cons_succ]
          refine wpAnyH_take (i := 10) (v := ?_) (oi := { dst := some 65, op := _, type := _, pos := _, after := _, guard := none }) rfl (by kernel_rfl) (by kernel_rfl) (by kernel_rfl) (fun _ _ _ h => h) (Or.inl ⟨by kernel_rfl, ?_⟩) (by assumption) ?_
          case refine_2 => (intro w9 hSw; clear hSw; go_simp; try with_reducible rfl)
          simp only [Act.put, List.setIfInBounds_toArray, List.set_cons_zero, List.set_cons_succ]
          refine wpAnyH_take (i := 11) (v := ?_) (oi := { dst := some 66, op := _, type := _, pos := _, after := _, guard := none }) rfl (by kernel_rfl) (by kernel_rfl) (by kernel_rfl) (fun _ _ _ h => h) (Or.inl ⟨by kernel_rfl, ?_⟩) (by assumption) ?_
          case refine_2 => (intro w9 hSw; clear hSw; go_simp; try with_reducible rfl)
          simp only [Act.put, List.setIfInBounds_toArray, List.set_cons_zero, List.set_cons_succ]
          refine wpAnyH_ready (rs := [12]) (by kernel_rfl) (by simp) (AllReadyH.cons (o := { dst := none, op := _, type := _, pos := _, after := _, guard := none }) rfl (fun K hK => ?_) AllReadyH.nil)
          have l_0 := KK.out.first.c 2 rfl
          have z_0 := KK.out.first.f 2 rfl
          go_simp
          have KN : Hid (BS w [(w.heap.size, [.int .i64 0, .int .i64 M2, .int .i64 D4, .int .i64 U1]), (w.heap.size + 1, [.int .i64 0, .int .i64 0, .int .i64 0, .int .i64 0])] _) := KK.out.set1 2 (.int .i64 D4) (by simp) (by intro x hx; simp only [List.mem_singleton] at hx; subst hx; simp)
          refine hK.out _ _ (by first | exact KN.out.1 | exact KN.out.1.drew) (fun hHeld => ?_)
          refine gen_anyH (BS w [(w.heap.size, [.int .i64 0, .int .i64 M2, .int .i64 D4, .int .i64 U1]), (w.heap.size + 1, [.int .i64 0, .int .i64 0, .int .i64 0, .int .i64 0])]) (by first | exact KN.out | exact KN.out.drew) ?_
          clear hHeld hK K KK KN l_0 z_0
          intro v6 KK'
          have KK : Hid (BS w [(w.heap.size, [.int .i64 0, .int .i64 M2, .int .i64 D4, .int .i64 U1]), (w.heap.size + 1, [.int .i64 0, .int .i64 0, .int .i64 0, .int .i64 0])] v6) := KK'
          have hHeld : BW w v6 := KK'.1
          clear KK'
          refine wpAnyH_take (i := 13) (v := ?_) (oi := { dst := some 67, op := _, type := _, pos := _, after := _, guard := none }) rfl (by kernel_rfl) (by kernel_rfl) (by kernel_rfl) (fun _ _ _ h => h) (Or.inl ⟨by kernel_rfl, ?_⟩) (by assumption) ?_
          case refine_2 => (intro w9 hSw; clear hSw; go_simp; try with_reducible rfl)
          simp only [Act.put, List.setIfInBounds_toArray, List.set_cons_zero, List.set_cons_succ]
          refine wpAnyH_ready (rs := [14]) (by kernel_rfl) (by simp) (AllReadyH.cons (o := { dst := none, op := _, type := _, pos := _, after := _, guard := none }) rfl (fun K hK => ?_) AllReadyH.nil)
          have l_0 := KK.out.first.c 3 rfl
          have z_0 := KK.out.first.f 3 rfl
          go_simp
          have KN : Hid (BS w [(w.heap.size, [.int .i64 0, .int .i64 M2, .int .i64 D4, .int .i64 U2]), (w.heap.size + 1, [.int .i64 0, .int .i64 0, .int .i64 0, .int .i64 0])] _) := KK.out.set1 3 (.int .i64 U2) (by simp) (by intro x hx; simp only [List.mem_singleton] at hx; subst hx; simp)
          refine hK.out _ _ (by first | exact KN.out.1 | exact KN.out.1.drew) (fun hHeld => ?_)
          refine gen_anyH (BS w [(w.heap.size, [.int .i64 0, .int .i64 M2, .int .i64 D4, .int .i64 U2]), (w.heap.size + 1, [.int .i64 0, .int .i64 0, .int .i64 0, .int .i64 0])]) (by first | exact KN.out | exact KN.out.drew) ?_
          clear hHeld hK K KK KN l_0 z_0
          intro v7 KK'
          have KK : Hid (BS w [(w.heap.size, [.int .i64 0, .int .i64 M2, .int .i64 D4, .int .i64 U2]), (w.heap.size + 1, [.int .i64 0, .int .i64 0, .int .i64 0, .int .i64 0])] v7) := KK'
          have hHeld : BW w v7 := KK'.1
          clear KK'
          refine wpAnyH_done (by kernel_rfl) ?_ _
          go_wp2_with fail
          go_meet
          case rel => exact KK.out
        ·
          have l_0 := KK.out.first.c 3 rfl
          go_simp
          refine hK.out _ _ hHeld (fun hHeld => ?_)
          clear hK K l_0
          refine wpAnyH_ready (rs := [3, 6]) (by kernel_rfl) (by simp) (AllReadyH.cons (o := { dst := some 59, op := _, type := _, pos := _, after := _, guard := none }) rfl (fun K hK => ?_) (AllReadyH.cons (o := { dst := some 62, op := _, type := _, pos := _, after := _, guard := none }) rfl (fun K hK => ?_) AllReadyH.nil))
          ·
            have l_0 := KK.out.first.c 3 rfl
            go_simp
            refine hK.out _ _ hHeld (fun hHeld => ?_)
            clear hK K l_0
            refine wpAnyH_ready (rs := [6]) (by kernel_rfl) (by simp) (AllReadyH.cons (o := { dst := some 62, op := _, type := _, pos := _, after := _, guard := none }) rfl (fun K hK => ?_) AllReadyH.nil)
            go_simp
            refine (CM.out _).mono ?_
            rintro e v10 ⟨rfl, hw⟩
            rw [hw]
            refine hK.out _ _ hHeld (fun hHeld => ?_)
            clear hK K hw v10
            refine wpAnyH_ready (rs := [7]) (by kernel_rfl) (by simp) (AllReadyH.cons (o := { dst := some 63, op := _, type := _, pos := _, after := _, guard := none }) rfl (fun K hK => ?_) AllReadyH.nil)
            go_simp
            refine (LE.out _).mono ?_
            rintro e v11 ⟨rfl, hw⟩
            rw [hw]
            refine hK.out _ _ hHeld (fun hHeld => ?_)
            clear hK K hw v11
            refine wpAnyH_take (i := 8) (v := ?_) (oi := { dst := some 55, op := _, type := _, pos := _, after := _, guard := none }) rfl (by kernel_rfl) (by kernel_rfl) (by kernel_rfl) (fun _ _ _ h => h) (Or.inl ⟨by kernel_rfl, ?_⟩) (by assumption) ?_
            case refine_2 => (intro w9 hSw; clear hSw; go_simp; try with_reducible rfl)
            simp only [Act.put, List.setIfInBounds_toArray, List.set_cons_zero, List.set_cons_succ]
            refine wpAnyH_take (i := 9) (v := ?_) (oi := { dst := some 64, op := _, type := _, pos := _, after := _, guard := none }) rfl (by kernel_rfl) (by kernel_rfl) (by kernel_rfl) (fun _ _ _ h => h) (Or.inl ⟨by kernel_rfl, ?_⟩) (by assumption) ?_
            case refine_2 => (intro w9 hSw; clear hSw; go_simp; try with_reducible rfl)
            simp only [Act.put, List.setIfInBounds_toArray, List.set_cons_zero, List.set_cons_succ]
            refine wpAnyH_take (i := 10) (v := ?_) (oi := { dst := some 65, op := _, type := _, pos := _, after := _, guard := none }) rfl (by kernel_rfl) (by kernel_rfl) (by kernel_rfl) (fun _ _ _ h => h) (Or.inl ⟨by kernel_rfl, ?_⟩) (by assumption) ?_
            case refine_2 => (intro w9 hSw; clear hSw; go_simp; try with_reducible rfl)
            simp only [Act.put, List.setIfInBounds_toArray, List.set_cons_zero, List.set_cons_succ]
            refine wpAnyH_take (i := 11) (v := ?_) (oi := { dst := some 66, op := _, type := _, pos := _, after := _, guard := none }) rfl (by kernel_rfl) (by kernel_rfl) (by kernel_rfl) (fun _ _ _ h => h) (Or.inl ⟨by kernel_rfl, ?_⟩) (by assumption) ?_
            case refine_2 => (intro w9 hSw; clear hSw; go_simp; try with_reducible rfl)
            simp only [Act.put, List.setIfInBounds_toArray, List.set_cons_zero, List.set_cons_succ]
            refine wpAnyH_ready (rs := [12]) (by kernel_rfl) (by simp) (AllReadyH.cons (o := { dst := none, op := _, type := _, pos := _, after := _, guard := none }) rfl (fun K hK => ?_) AllReadyH.nil)
            have l_0 := KK.out.first.c 2 rfl
            have z_0 := KK.out.first.f 2 rfl
            go_simp
            have KN : Hid (BS w [(w.heap.size, [.int .i64 0, .int .i64 M2, .int .i64 D4, .int .i64 U1]), (w.heap.size + 1, [.int .i64 0, .int .i64 0, .int .i64 0, .int .i64 0])] _) := KK.out.set1 2 (.int .i64 D4) (by simp) (by intro x hx; simp only [List.mem_singleton] at hx; subst hx; simp)
            refine hK.out _ _ (by first | exact KN.out.1 | exact KN.out.1.drew) (fun hHeld => ?_)
            refine gen_anyH (BS w [(w.heap.size, [.int .i64 0, .int .i64 M2, .int .i64 D4, .int .i64 U1]), (w.heap.size + 1, [.int .i64 0, .int .i64 0, .int .i64 0, .int .i64 0])]) (by first | exact KN.out | exact KN.out.drew) ?_
            clear hHeld hK K KK KN l_0 z_0
            intro v12 KK'
            have KK : Hid (BS w [(w.heap.size, [.int .i64 0, .int .i64 M2, .int .i64 D4, .int .i64 U1]), (w.heap.size + 1, [.int .i64 0, .int .i64 0, .int .i64 0, .int .i64 0])] v12) := KK'
            have hHeld : BW w v12 := KK'.1
            clear KK'
            refine wpAnyH_take (i := 13) (v := ?_) (oi := { dst := some 67, op := _, type := _, pos := _, after := _, guard := none }) rfl (by kernel_rfl) (by kernel_rfl) (by kernel_rfl) (fun _ _ _ h => h) (Or.inl ⟨by kernel_rfl, ?_⟩) (by assumption) ?_
            case refine_2 => (intro w9 hSw; clear hSw; go_simp; try with_reducible rfl)
            simp only [Act.put, List.setIfInBounds_toArray, List.set_cons_zero, List.set_cons_succ]
            refine wpAnyH_ready (rs := [14]) (by kernel_rfl) (by simp) (AllReadyH.cons (o := { dst := none, op := _, type := _, pos := _, after := _, guard := none }) rfl (fun K hK => ?_) AllReadyH.nil)
            have l_0 := KK.out.first.c 3 rfl
            have z_0 := KK.out.first.f 3 rfl
            go_simp
            have KN : Hid (BS w [(w.heap.size, [.int .i64 0, .int .i64 M2, .int .i64 D4, .int .i64 U2]), (w.heap.size + 1, [.int .i64 0, .int .i64 0, .int .i64 0, .int .i64 0])] _) := KK.out.set1 3 (.int .i64 U2) (by simp) (by intro x hx; simp only [List.mem_singleton] at hx; subst hx; simp)
            refine hK.out _ _ (by first | exact KN.out.1 | exact KN.out.1.drew) (fun hHeld => ?_)
            refine gen_anyH (BS w [(w.heap.size, [.int .i64 0, .int .i64 M2, .int .i64 D4, .int .i64 U2]), (w.heap.size + 1, [.int .i64 0, .int .i64 0, .int .i64 0, .int .i64 0])]) (by first | exact KN.out | exact KN.out.drew) ?_
            clear hHeld hK K KK KN l_0 z_0
            intro v13 KK'
            have KK : Hid (BS w [(w.heap.size, [.int .i64 0, .int .i64 M2, .int .i64 D4, .int .i64 U2]), (w.heap.size + 1, [.int .i64 0, .int .i64 0, .int .i64 0, .int .i64 0])] v13) := KK'
            have hHeld : BW w v13 := KK'.1
            clear KK'
            refine wpAnyH_done (by kernel_rfl) ?_ _
            go_wp2_with fail
            go_meet
            case rel => exact KK.out
          ·
            go_simp
            refine (CM.out _).mono ?_
            rintro e v14 ⟨rfl, hw⟩
            rw [hw]
            refine hK.out _ _ hHeld (fun hHeld => ?_)
            clear hK K hw v14
            refine wpAnyH_ready (rs := [3]) (by kernel_rfl) (by simp) (AllReadyH.cons (o := { dst := some 59, op := _, type := _, pos := _, after := _, guard := none }) rfl (fun K hK => ?_) AllReadyH.nil)
            have l_0 := KK.out.first.c 3 rfl
            go_simp
            refine hK.out _ _ hHeld (fun hHeld => ?_)
            clear hK K l_0
            refine wpAnyH_ready (rs := [7]) (by kernel_rfl) (by simp) (AllReadyH.cons (o := { dst := some 63, op := _, type := _, pos := _, after := _, guard := none }) rfl (fun K hK => ?_) AllReadyH.nil)
            go_simp
            refine (LE.out _).mono ?_
            rintro e v16 ⟨rfl, hw⟩
            rw [hw]
            refine hK.out _ _ hHeld (fun hHeld => ?_)
            clear hK K hw v16
            refine wpAnyH_take (i := 8) (v := ?_) (oi := { dst := some 55, op := _, type := _, pos := _, after := _, guard := none }) rfl (by kernel_rfl) (by kernel_rfl) (by kernel_rfl) (fun _ _ _ h => h) (Or.inl ⟨by kernel_rfl, ?_⟩) (by assumption) ?_
            case refine_2 => (intro w9 hSw; clear hSw; go_simp; try with_reducible rfl)
            simp only [Act.put, List.setIfInBounds_toArray, List.set_cons_zero, List.set_cons_succ]
            refine wpAnyH_take (i := 9) (v := ?_) (oi := { dst := some 64, op := _, type := _, pos := _, after := _, guard := none }) rfl (by kernel_rfl) (by kernel_rfl) (by kernel_rfl) (fun _ _ _ h => h) (Or.inl ⟨by kernel_rfl, ?_⟩) (by assumption) ?_
            case refine_2 => (intro w9 hSw; clear hSw; go_simp; try with_reducible rfl)
            simp only [Act.put, List.setIfInBounds_toArray, List.set_cons_zero, List.set_cons_succ]
            refine wpAnyH_take (i := 10) (v := ?_) (oi := { dst := some 65, op := _, type := _, pos := _, after := _, guard := none }) rfl (by kernel_rfl) (by kernel_rfl) (by kernel_rfl) (fun _ _ _ h => h) (Or.inl ⟨by kernel_rfl, ?_⟩) (by assumption) ?_
            case refine_2 => (intro w9 hSw; clear hSw; go_simp; try with_reducible rfl)
            simp only [Act.put, List.setIfInBounds_toArray, List.set_cons_zero, List.set_cons_succ]
            refine wpAnyH_take (i := 11) (v := ?_) (oi := { dst := some 66, op := _, type := _, pos := _, after := _, guard := none }) rfl (by kernel_rfl) (by kernel_rfl) (by kernel_rfl) (fun _ _ _ h => h) (Or.inl ⟨by kernel_rfl, ?_⟩) (by assumption) ?_
            case refine_2 => (intro w9 hSw; clear hSw; go_simp; try with_reducible rfl)
            simp only [Act.put, List.setIfInBounds_toArray, List.set_cons_zero, List.set_cons_succ]
            refine wpAnyH_ready (rs := [12]) (by kernel_rfl) (by simp) (AllReadyH.cons (o := { dst := none, op := _, type := _, pos := _, after := _, guard := none }) rfl (fun K hK => ?_) AllReadyH.nil)
            have l_0 := KK.out.first.c 2 rfl
            have z_0 := KK.out.first.f 2 rfl
            go_simp
            have KN : Hid (BS w [(w.heap.size, [.int .i64 0, .int .i64 M2, .int .i64 D4, .int .i64 U1]), (w.heap.size + 1, [.int .i64 0, .int .i64 0, .int .i64 0, .int .i64 0])] _) := KK.out.set1 2 (.int .i64 D4) (by simp) (by intro x hx; simp only [List.mem_singleton] at hx; subst hx; simp)
            refine hK.out _ _ (by first | exact KN.out.1 | exact KN.out.1.drew) (fun hHeld => ?_)
            refine gen_anyH (BS w [(w.heap.size, [.int .i64 0, .int .i64 M2, .int .i64 D4, .int .i64 U1]), (w.heap.size + 1, [.int .i64 0, .int .i64 0, .int .i64 0, .int .i64 0])]) (by first | exact KN.out | exact KN.out.drew) ?_
            clear hHeld hK K KK KN l_0 z_0
            intro v17 KK'
            have KK : Hid (BS w [(w.heap.size, [.int .i64 0, .int .i64 M2, .int .i64 D4, .int .i64 U1]), (w.heap.size + 1, [.int .i64 0, .int .i64 0, .int .i64 0, .int .i64 0])] v17) := KK'
            have hHeld : BW w v17 := KK'.1
            clear KK'
            refine wpAnyH_take (i := 13) (v := ?_) (oi := { dst := some 67, op := _, type := _, pos := _, after := _, guard := none }) rfl (by kernel_rfl) (by kernel_rfl) (by kernel_rfl) (fun _ _ _ h => h) (Or.inl ⟨by kernel_rfl, ?_⟩) (by assumption) ?_
            case refine_2 => (intro w9 hSw; clear hSw; go_simp; try with_reducible rfl)
            simp only [Act.put, List.setIfInBounds_toArray, List.set_cons_zero, List.set_cons_succ]
            refine wpAnyH_ready (rs := [14]) (by kernel_rfl) (by simp) (AllReadyH.cons (o := { dst := none, op := _, type := _, pos := _, after := _, guard := none }) rfl (fun K hK => ?_) AllReadyH.nil)
            have l_0 := KK.out.first.c 3 rfl
            have z_0 := KK.out.first.f 3 rfl
            go_simp
            have KN : Hid (BS w [(w.heap.size, [.int .i64 0, .int .i64 M2, .int .i64 D4, .int .i64 U2]), (w.heap.size + 1, [.int .i64 0, .int .i64 0, .int .i64 0, .int .i64 0])] _) := KK.out.set1 3 (.int .i64 U2) (by simp) (by intro x hx; simp only [List.mem_singleton] at hx; subst hx; simp)
            refine hK.out _ _ (by first | exact KN.out.1 | exact KN.out.1.drew) (fun hHeld => ?_)
            refine gen_anyH (BS w [(w.heap.size, [.int .i64 0, .int .i64 M2, .int .i64 D4, .int .i64 U2]), (w.heap.size + 1, [.int .i64 0, .int .i64 0, .int .i64 0, .int .i64 0])]) (by first | exact KN.out | exact KN.out.drew) ?_
            clear hHeld hK K KK KN l_0 z_0
            intro v18 KK'
            have KK : Hid (BS w [(w.heap.size, [.int .i64 0, .int .i64 M2, .int .i64 D4, .int .i64 U2]), (w.heap.size + 1, [.int .i64 0, .int .i64 0, .int .i64 0, .int .i64 0])] v18) := KK'
            have hHeld : BW w v18 := KK'.1
            clear KK'
            refine wpAnyH_done (by kernel_rfl) ?_ _
            go_wp2_with fail
            go_meet
            case rel => exact KK.out
      ·
        have l_0 := KK.out.first.c 3 rfl
        go_simp
        refine hK.out _ _ hHeld (fun hHeld => ?_)
        clear hK K l_0
        refine wpAnyH_ready (rs := [1, 5]) (by kernel_rfl) (by simp) (AllReadyH.cons (o := { dst := some 57, op := _, type := _, pos := _, after := _, guard := none }) rfl (fun K hK => ?_) (AllReadyH.cons (o := { dst := some 61, op := _, type := _, pos := _, after := _, guard := none }) rfl (fun K hK => ?_) AllReadyH.nil))
        ·
          have l_0 := KK.out.first.c 2 rfl
          go_simp
          refine hK.out _ _ hHeld (fun hHeld => ?_)
          clear hK K l_0
          refine wpAnyH_ready (rs := [5]) (by kernel_rfl) (by simp) (AllReadyH.cons (o := { dst := some 61, op := _, type := _, pos := _, after := _, guard := none }) rfl (fun K hK => ?_) AllReadyH.nil)
          have l_0 := KK.out.first.c 3 rfl
          go_simp
          refine hK.out _ _ hHeld (fun hHeld => ?_)
          clear hK K l_0
          refine wpAnyH_ready (rs := [6]) (by kernel_rfl) (by simp) (AllReadyH.cons (o := { dst := some 62, op := _, type := _, pos := _, after := _, guard := none }) rfl (fun K hK => ?_) AllReadyH.nil)
          go_simp
          refine (CM.out _).mono ?_
          rintro e v22 ⟨rfl, hw⟩
          rw [hw]
          refine hK.out _ _ hHeld (fun hHeld => ?_)
          clear hK K hw v22
          refine wpAnyH_ready (rs := [7]) (by kernel_rfl) (by simp) (AllReadyH.cons (o := { dst := some 63, op := _, type := _, pos := _, after := _, guard := none }) rfl (fun K hK => ?_) AllReadyH.nil)
          go_simp
          refine (LE.out _).mono ?_
          rintro e v23 ⟨rfl, hw⟩
          rw [hw]
          refine hK.out _ _ hHeld (fun hHeld => ?_)
          clear hK K hw v23
          refine wpAnyH_take (i := 8) (v := ?_) (oi := { dst := some 55, op := _, type := _, pos := _, after := _, guard := none }) rfl (by kernel_rfl) (by kernel_rfl) (by kernel_rfl) (fun _ _ _ h => h) (Or.inl ⟨by kernel_rfl, ?_⟩) (by assumption) ?_
          case refine_2 => (intro w9 hSw; clear hSw; go_simp; try with_reducible rfl)
          simp only [Act.put, List.setIfInBounds_toArray, List.set_cons_zero, List.set_cons_succ]
          refine wpAnyH_take (i := 9) (v := ?_) (oi := { dst := some 64, op := _, type := _, pos := _, after := _, guard := none }) rfl (by kernel_rfl) (by kernel_rfl) (by kernel_rfl) (fun _ _ _ h => h) (Or.inl ⟨by kernel_rfl, ?_⟩) (by assumption) ?_
          case refine_2 => (intro w9 hSw; clear hSw; go_simp; try with_reducible rfl)
          simp only [Act.put, List.setIfInBounds_toArray, List.set_cons_zero, List.set_cons_succ]
          refine wpAnyH_take (i := 10) (v := ?_) (oi := { dst := some 65, op := _, type := _, pos := _, after := _, guard := none }) rfl (by kernel_rfl) (by kernel_rfl) (by kernel_rfl) (fun _ _ _ h => h) (Or.inl ⟨by kernel_rfl, ?_⟩) (by assumption) ?_
          case refine_2 => (intro w9 hSw; clear hSw; go_simp; try with_reducible rfl)
          simp only [Act.put, List.setIfInBounds_toArray, List.set_cons_zero, List.set_cons_succ]
          refine wpAnyH_take (i := 11) (v := ?_) (oi := { dst := some 66, op := _, type := _, pos := _, after := _, guard := none }) rfl (by kernel_rfl) (by kernel_rfl) (by kernel_rfl) (fun _ _ _ h => h) (Or.inl ⟨by kernel_rfl, ?_⟩) (by assumption) ?_
          case refine_2 => (intro w9 hSw; clear hSw; go_simp; try with_reducible rfl)
          simp only [Act.put, List.setIfInBounds_toArray, List.set_cons_zero, List.set_cons_succ]
          refine wpAnyH_ready (rs := [12]) (by kernel_rfl) (by simp) (AllReadyH.cons (o := { dst := none, op := _, type := _, pos := _, after := _, guard := none }) rfl (fun K hK => ?_) AllReadyH.nil)
          have l_0 := KK.out.first.c 2 rfl
          have z_0 := KK.out.first.f 2 rfl
          go_simp
          have KN : Hid (BS w [(w.heap.size, [.int .i64 0, .int .i64 M2, .int .i64 D4, .int .i64 U1]), (w.heap.size + 1, [.int .i64 0, .int .i64 0, .int .i64 0, .int .i64 0])] _) := KK.out.set1 2 (.int .i64 D4) (by simp) (by intro x hx; simp only [List.mem_singleton] at hx; subst hx; simp)
          refine hK.out _ _ (by first | exact KN.out.1 | exact KN.out.1.drew) (fun hHeld => ?_)
          refine gen_anyH (BS w [(w.heap.size, [.int .i64 0, .int .i64 M2, .int .i64 D4, .int .i64 U1]), (w.heap.size + 1, [.int .i64 0, .int .i64 0, .int .i64 0, .int .i64 0])]) (by first | exact KN.out | exact KN.out.drew) ?_
          clear hHeld hK K KK KN l_0 z_0
          intro v24 KK'
          have KK : Hid (BS w [(w.heap.size, [.int .i64 0, .int .i64 M2, .int .i64 D4, .int .i64 U1]), (w.heap.size + 1, [.int .i64 0, .int .i64 0, .int .i64 0, .int .i64 0])] v24) := KK'
          have hHeld : BW w v24 := KK'.1
          clear KK'
          refine wpAnyH_take (i := 13) (v := ?_) (oi := { dst := some 67, op := _, type := _, pos := _, after := _, guard := none }) rfl (by kernel_rfl) (by kernel_rfl) (by kernel_rfl) (fun _ _ _ h => h) (Or.inl ⟨by kernel_rfl, ?_⟩) (by assumption) ?_
          case refine_2 => (intro w9 hSw; clear hSw; go_simp; try with_reducible rfl)
          simp only [Act.put, List.setIfInBounds_toArray, List.set_cons_zero, List.set_cons_succ]
          refine wpAnyH_ready (rs := [14]) (by kernel_rfl) (by simp) (AllReadyH.cons (o := { dst := none, op := _, type := _, pos := _, after := _, guard := none }) rfl (fun K hK => ?_) AllReadyH.nil)
          have l_0 := KK.out.first.c 3 rfl
          have z_0 := KK.out.first.f 3 rfl
          go_simp
          have KN : Hid (BS w [(w.heap.size, [.int .i64 0, .int .i64 M2, .int .i64 D4, .int .i64 U2]), (w.heap.size + 1, [.int .i64 0, .int .i64 0, .int .i64 0, .int .i64 0])] _) := KK.out.set1 3 (.int .i64 U2) (by simp) (by intro x hx; simp only [List.mem_singleton] at hx; subst hx; simp)
          refine hK.out _ _ (by first | exact KN.out.1 | exact KN.out.1.drew) (fun hHeld => ?_)
          refine gen_anyH (BS w [(w.heap.size, [.int .i64 0, .int .i64 M2, .int .i64 D4, .int .i64 U2]), (w.heap.size + 1, [.int .i64 0, .int .i64 0, .int .i64 0, .int .i64 0])]) (by first | exact KN.out | exact KN.out.drew) ?_
          clear hHeld hK K KK KN l_0 z_0
          intro v25 KK'
          have KK : Hid (BS w [(w.heap.size, [.int .i64 0, .int .i64 M2, .int .i64 D4, .int .i64 U2]), (w.heap.size + 1, [.int .i64 0, .int .i64 0, .int .i64 0, .int .i64 0])] v25) := KK'
          have hHeld : BW w v25 := KK'.1
          clear KK'
          refine wpAnyH_done (by kernel_rfl) ?_ _
          go_wp2_with fail
          go_meet
          case rel => exact KK.out
        ·
          have l_0 := KK.out.first.c 3 rfl
          go_simp
          refine hK.out _ _ hHeld (fun hHeld => ?_)
          clear hK K l_0
          refine wpAnyH_ready (rs := [1, 6]) (by kernel_rfl) (by simp) (AllReadyH.cons (o := { dst := some 57, op := _, type := _, pos := _, after := _, guard := none }) rfl (fun K hK => ?_) (AllReadyH.cons (o := { dst := some 62, op := _, type := _, pos := _, after := _, guard := none }) rfl (fun K hK => ?_) AllReadyH.nil))
          ·
            have l_0 := KK.out.first.c 2 rfl
            go_simp
            refine hK.out _ _ hHeld (fun hHeld => ?_)
            clear hK K l_0
            refine wpAnyH_ready (rs := [6]) (by kernel_rfl) (by simp) (AllReadyH.cons (o := { dst := some 62, op := _, type := _, pos := _, after := _, guard := none }) rfl (fun K hK => ?_) AllReadyH.nil)
            go_simp
            refine (CM.out _).mono ?_
            rintro e v28 ⟨rfl, hw⟩
            rw [hw]
            refine hK.out _ _ hHeld (fun hHeld => ?_)
            clear hK K hw v28
            refine wpAnyH_ready (rs := [7]) (by kernel_rfl) (by simp) (AllReadyH.cons (o := { dst := some 63, op := _, type := _, pos := _, after := _, guard := none }) rfl (fun K hK => ?_) AllReadyH.nil)
            go_simp
            refine (LE.out _).mono ?_
            rintro e v29 ⟨rfl, hw⟩
            rw [hw]
            refine hK.out _ _ hHeld (fun hHeld => ?_)
            clear hK K hw v29
            refine wpAnyH_take (i := 8) (v := ?_) (oi := { dst := some 55, op := _, type := _, pos := _, after := _, guard := none }) rfl (by kernel_rfl) (by kernel_rfl) (by kernel_rfl) (fun _ _ _ h => h) (Or.inl ⟨by kernel_rfl, ?_⟩) (by assumption) ?_
            case refine_2 => (intro w9 hSw; clear hSw; go_simp; try with_reducible rfl)
            simp only [Act.put, List.setIfInBounds_toArray, List.set_cons_zero, List.set_cons_succ]
            refine wpAnyH_take (i := 9) (v := ?_) (oi := { dst := some 64, op := _, type := _, pos := _, after := _, guard := none }) rfl (by kernel_rfl) (by kernel_rfl) (by kernel_rfl) (fun _ _ _ h => h) (Or.inl ⟨by kernel_rfl, ?_⟩) (by assumption) ?_
            case refine_2 => (intro w9 hSw; clear hSw; go_simp; try with_reducible rfl)
            simp only [Act.put, List.setIfInBounds_toArray, List.set_cons_zero, List.set_cons_succ]
            refine wpAnyH_take (i := 10) (v := ?_) (oi := { dst := some 65, op := _, type := _, pos := _, after := _, guard := none }) rfl (by kernel_rfl) (by kernel_rfl) (by kernel_rfl) (fun _ _ _ h => h) (Or.inl ⟨by kernel_rfl, ?_⟩) (by assumption) ?_
            case refine_2 => (intro w9 hSw; clear hSw; go_simp; try with_reducible rfl)
            simp only [Act.put, List.setIfInBounds_toArray, List.set_cons_zero, List.set_cons_succ]
            refine wpAnyH_take (i := 11) (v := ?_) (oi := { dst := some 66, op := _, type := _, pos := _, after := _, guard := none }) rfl (by kernel_rfl) (by kernel_rfl) (by kernel_rfl) (fun _ _ _ h => h) (Or.inl ⟨by kernel_rfl, ?_⟩) (by assumption) ?_
            case refine_2 => (intro w9 hSw; clear hSw; go_simp; try with_reducible rfl)
            simp only [Act.put, List.setIfInBounds_toArray, List.set_cons_zero, List.set_cons_succ]
            refine wpAnyH_ready (rs := [12]) (by kernel_rfl) (by simp) (AllReadyH.cons (o := { dst := none, op := _, type := _, pos := _, after := _, guard := none }) rfl (fun K hK => ?_) AllReadyH.nil)
            have l_0 := KK.out.first.c 2 rfl
            have z_0 := KK.out.first.f 2 rfl
            go_simp
            have KN : Hid (BS w [(w.heap.size, [.int .i64 0, .int .i64 M2, .int .i64 D4, .int .i64 U1]), (w.heap.size + 1, [.int .i64 0, .int .i64 0, .int .i64 0, .int .i64 0])] _) := KK.out.set1 2 (.int .i64 D4) (by simp) (by intro x hx; simp only [List.mem_singleton] at hx; subst hx; simp)
            refine hK.out _ _ (by first | exact KN.out.1 | exact KN.out.1.drew) (fun hHeld => ?_)
            refine gen_anyH (BS w [(w.heap.size, [.int .i64 0, .int .i64 M2, .int .i64 D4, .int .i64 U1]), (w.heap.size + 1, [.int .i64 0, .int .i64 0, .int .i64 0, .int .i64 0])]) (by first | exact KN.out | exact KN.out.drew) ?_
            clear hHeld hK K KK KN l_0 z_0
            intro v30 KK'
            have KK : Hid (BS w [(w.heap.size, [.int .i64 0, .int .i64 M2, .int .i64 D4, .int .i64 U1]), (w.heap.size + 1, [.int .i64 0, .int .i64 0, .int .i64 0, .int .i64 0])] v30) := KK'
            have hHeld : BW w v30 := KK'.1
            clear KK'
            refine wpAnyH_take (i := 13) (v := ?_) (oi := { dst := some 67, op := _, type := _, pos := _, after := _, guard := none }) rfl (by kernel_rfl) (by kernel_rfl) (by kernel_rfl) (fun _ _ _ h => h) (Or.inl ⟨by kernel_rfl, ?_⟩) (by assumption) ?_
            case refine_2 => (intro w9 hSw; clear hSw; go_simp; try with_reducible rfl)
            simp only [Act.put, List.setIfInBounds_toArray, List.set_cons_zero, List.set_cons_succ]
            refine wpAnyH_ready (rs := [14]) (by kernel_rfl) (by simp) (AllReadyH.cons (o := { dst := none, op := _, type := _, pos := _, after := _, guard := none }) rfl (fun K hK => ?_) AllReadyH.nil)
            have l_0 := KK.out.first.c 3 rfl
            have z_0 := KK.out.first.f 3 rfl
            go_simp
            have KN : Hid (BS w [(w.heap.size, [.int .i64 0, .int .i64 M2, .int .i64 D4, .int .i64 U2]), (w.heap.size + 1, [.int .i64 0, .int .i64 0, .int .i64 0, .int .i64 0])] _) := KK.out.set1 3 (.int .i64 U2) (by simp) (by intro x hx; simp only [List.mem_singleton] at hx; subst hx; simp)
            refine hK.out _ _ (by first | exact KN.out.1 | exact KN.out.1.drew) (fun hHeld => ?_)
            refine gen_anyH (BS w [(w.heap.size, [.int .i64 0, .int .i64 M2, .int .i64 D4, .int .i64 U2]), (w.heap.size + 1, [.int .i64 0, .int .i64 0, .int .i64 0, .int .i64 0])]) (by first | exact KN.out | exact KN.out.drew) ?_
            clear hHeld hK K KK KN l_0 z_0
            intro v31 KK'
            have KK : Hid (BS w [(w.heap.size, [.int .i64 0, .int .i64 M2, .int .i64 D4, .int .i64 U2]), (w.heap.size + 1, [.int .i64 0, .int .i64 0, .int .i64 0, .int .i64 0])] v31) := KK'
            have hHeld : BW w v31 := KK'.1
            clear KK'
            refine wpAnyH_done (by kernel_rfl) ?_ _
            go_wp2_with fail
            go_meet
            case rel => exact KK.out
          ·
            go_simp
            refine (CM.out _).mono ?_
            rintro e v32 ⟨rfl, hw⟩
            rw [hw]
            refine hK.out _ _ hHeld (fun hHeld => ?_)
            clear hK K hw v32
            refine wpAnyH_ready (rs := [1]) (by kernel_rfl) (by simp) (AllReadyH.cons (o := { dst := some 57, op := _, type := _, pos := _, after := _, guard := none }) rfl (fun K hK => ?_) AllReadyH.nil)
            have l_0 := KK.out.first.c 2 rfl
            go_simp
            refine hK.out _ _ hHeld (fun hHeld => ?_)
            clear hK K l_0
            refine wpAnyH_ready (rs := [7]) (by kernel_rfl) (by simp) (AllReadyH.cons (o := { dst := some 63, op := _, type := _, pos := _, after := _, guard := none }) rfl (fun K hK => ?_) AllReadyH.nil)
            go_simp
            refine (LE.out _).mono ?_
            rintro e v34 ⟨rfl, hw⟩
            rw [hw]
            refine hK.out _ _ hHeld (fun hHeld => ?_)
            clear hK K hw v34
            refine wpAnyH_take (i := 8) (v := ?_) (oi := { dst := some 55, op := _, type := _, pos := _, after := _, guard := none }) rfl (by kernel_rfl) (by kernel_rfl) (by kernel_rfl) (fun _ _ _ h => h) (Or.inl ⟨by kernel_rfl, ?_⟩) (by assumption) ?_
            case refine_2 => (intro w9 hSw; clear hSw; go_simp; try with_reducible rfl)
            simp only [Act.put, List.setIfInBounds_toArray, List.set_cons_zero, List.set_cons_succ]
            refine wpAnyH_take (i := 9) (v := ?_) (oi := { dst := some 64, op := _, type := _, pos := _, after := _, guard := none }) rfl (by kernel_rfl) (by kernel_rfl) (by kernel_rfl) (fun _ _ _ h => h) (Or.inl ⟨by kernel_rfl, ?_⟩) (by assumption) ?_
            case refine_2 => (intro w9 hSw; clear hSw; go_simp; try with_reducible rfl)
            simp only [Act.put, List.setIfInBounds_toArray, List.set_cons_zero, List.set_cons_succ]
            refine wpAnyH_take (i := 10) (v := ?_) (oi := { dst := some 65, op := _, type := _, pos := _, after := _, guard := none }) rfl (by kernel_rfl) (by kernel_rfl) (by kernel_rfl) (fun _ _ _ h => h) (Or.inl ⟨by kernel_rfl, ?_⟩) (by assumption) ?_
            case refine_2 => (intro w9 hSw; clear hSw; go_simp; try with_reducible rfl)
            simp only [Act.put, List.setIfInBounds_toArray, List.set_cons_zero, List.set_cons_succ]
            refine wpAnyH_take (i := 11) (v := ?_) (oi := { dst := some 66, op := _, type := _, pos := _, after := _, guard := none }) rfl (by kernel_rfl) (by kernel_rfl) (by kernel_rfl) (fun _ _ _ h => h) (Or.inl ⟨by kernel_rfl, ?_⟩) (by assumption) ?_
            case refine_2 => (intro w9 hSw; clear hSw; go_simp; try with_reducible rfl)
            simp only [Act.put, List.setIfInBounds_toArray, List.set_cons_zero, List.set_cons_succ]
            refine wpAnyH_ready (rs := [12]) (by kernel_rfl) (by simp) (AllReadyH.cons (o := { dst := none, op := _, type := _, pos := _, after := _, guard := none }) rfl (fun K hK => ?_) AllReadyH.nil)
            have l_0 := KK.out.first.c 2 rfl
            have z_0 := KK.out.first.f 2 rfl
            go_simp
            have KN : Hid (BS w [(w.heap.size, [.int .i64 0, .int .i64 M2, .int .i64 D4, .int .i64 U1]), (w.heap.size + 1, [.int .i64 0, .int .i64 0, .int .i64 0, .int .i64 0])] _) := KK.out.set1 2 (.int .i64 D4) (by simp) (by intro x hx; simp only [List.mem_singleton] at hx; subst hx; simp)
            refine hK.out _ _ (by first | exact KN.out.1 | exact KN.out.1.drew) (fun hHeld => ?_)
            refine gen_anyH (BS w [(w.heap.size, [.int .i64 0, .int .i64 M2, .int .i64 D4, .int .i64 U1]), (w.heap.size + 1, [.int .i64 0, .int .i64 0, .int .i64 0, .int .i64 0])]) (by first | exact KN.out | exact KN.out.drew) ?_
            clear hHeld hK K KK KN l_0 z_0
            intro v35 KK'
            have KK : Hid (BS w [(w.heap.size, [.int .i64 0, .int .i64 M2, .int .i64 D4, .int .i64 U1]), (w.heap.size + 1, [.int .i64 0, .int .i64 0, .int .i64 0, .int .i64 0])] v35) := KK'
            have hHeld : BW w v35 := KK'.1
            clear KK'
            refine wpAnyH_take (i := 13) (v := ?_) (oi := { dst := some 67, op := _, type := _, pos := _, after := _, guard := none }) rfl (by kernel_rfl) (by kernel_rfl) (by kernel_rfl) (fun _ _ _ h => h) (Or.inl ⟨by kernel_rfl, ?_⟩) (by assumption) ?_
            case refine_2 => (intro w9 hSw; clear hSw; go_simp; try with_reducible rfl)
            simp only [Act.put, List.setIfInBounds_toArray, List.set_cons_zero, List.set_cons_succ]
            refine wpAnyH_ready (rs := [14]) (by kernel_rfl) (by simp) (AllReadyH.cons (o := { dst := none, op := _, type := _, pos := _, after := _, guard := none }) rfl (fun K hK => ?_) AllReadyH.nil)
            have l_0 := KK.out.first.c 3 rfl
            have z_0 := KK.out.first.f 3 rfl
            go_simp
            have KN : Hid (BS w [(w.heap.size, [.int .i64 0, .int .i64 M2, .int .i64 D4, .int .i64 U2]), (w.heap.size + 1, [.int .i64 0, .int .i64 0, .int .i64 0, .int .i64 0])] _) := KK.out.set1 3 (.int .i64 U2) (by simp) (by intro x hx; simp only [List.mem_singleton] at hx; subst hx; simp)
            refine hK.out _ _ (by first | exact KN.out.1 | exact KN.out.1.drew) (fun hHeld => ?_)
            refine gen_anyH (BS w [(w.heap.size, [.int .i64 0, .int .i64 M2, .int .i64 D4, .int .i64 U2]), (w.heap.size + 1, [.int .i64 0, .int .i64 0, .int .i64 0, .int .i64 0])]) (by first | exact KN.out | exact KN.out.drew) ?_
            clear hHeld hK K KK KN l_0 z_0
            intro v36 KK'
            have KK : Hid (BS w [(w.heap.size, [.int .i64 0, .int .i64 M2, .int .i64 D4, .int .i64 U2]), (w.heap.size + 1, [.int .i64 0, .int .i64 0, .int .i64 0, .int .i64 0])] v36) := KK'
            have hHeld : BW w v36 := KK'.1
            clear KK'
            refine wpAnyH_done (by kernel_rfl) ?_ _
            go_wp2_with fail
            go_meet
            case rel => exact KK.out
      ·
        have l_0 := KK.out.first.c 3 rfl
        go_simp
        refine hK.out _ _ hHeld (fun hHeld => ?_)
        clear hK K l_0
        refine wpAnyH_ready (rs := [1, 3, 6]) (by kernel_rfl) (by simp) (AllReadyH.cons (o := { dst := some 57, op := _, type := _, pos := _, after := _, guard := none }) rfl (fun K hK => ?_) (AllReadyH.cons (o := { dst := some 59, op := _, type := _, pos := _, after := _, guard := none }) rfl (fun K hK => ?_) (AllReadyH.cons (o := { dst := some 62, op := _, type := _, pos := _, after := _, guard := none }) rfl (fun K hK => ?_) AllReadyH.nil)))
        ·
          have l_0 := KK.out.first.c 2 rfl
          go_simp
          refine hK.out _ _ hHeld (fun hHeld => ?_)
          clear hK K l_0
          refine wpAnyH_ready (rs := [3, 6]) (by kernel_rfl) (by simp) (AllReadyH.cons (o := { dst := some 59, op := _, type := _, pos := _, after := _, guard := none }) rfl (fun K hK => ?_) (AllReadyH.cons (o := { dst := some 62, op := _, type := _, pos := _, after := _, guard := none }) rfl (fun K hK => ?_) AllReadyH.nil))
          ·
            have l_0 := KK.out.first.c 3 rfl
            go_simp
            refine hK.out _ _ hHeld (fun hHeld => ?_)
            clear hK K l_0
            refine wpAnyH_ready (rs := [6]) (by kernel_rfl) (by simp) (AllReadyH.cons (o := { dst := some 62, op := _, type := _, pos := _, after := _, guard := none }) rfl (fun K hK => ?_) AllReadyH.nil)
            go_simp
            refine (CM.out _).mono ?_
            rintro e v40 ⟨rfl, hw⟩
            rw [hw]
            refine hK.out _ _ hHeld (fun hHeld => ?_)
            clear hK K hw v40
            refine wpAnyH_ready (rs := [7]) (by kernel_rfl) (by simp) (AllReadyH.cons (o := { dst := some 63, op := _, type := _, pos := _, after := _, guard := none }) rfl (fun K hK => ?_) AllReadyH.nil)
            go_simp
            refine (LE.out _).mono ?_
            rintro e v41 ⟨rfl, hw⟩
            rw [hw]
            refine hK.out _ _ hHeld (fun hHeld => ?_)
            clear hK K hw v41
            refine wpAnyH_take (i := 8) (v := ?_) (oi := { dst := some 55, op := _, type := _, pos := _, after := _, guard := none }) rfl (by kernel_rfl) (by kernel_rfl) (by kernel_rfl) (fun _ _ _ h => h) (Or.inl ⟨by kernel_rfl, ?_⟩) (by assumption) ?_
            case refine_2 => (intro w9 hSw; clear hSw; go_simp; try with_reducible rfl)
            simp only [Act.put, List.setIfInBounds_toArray, List.set_cons_zero, List.set_cons_succ]
            refine wpAnyH_take (i := 9) (v := ?_) (oi := { dst := some 64, op := _, type := _, pos := _, after := _, guard := none }) rfl (by kernel_rfl) (by kernel_rfl) (by kernel_rfl) (fun _ _ _ h => h) (Or.inl ⟨by kernel_rfl, ?_⟩) (by assumption) ?_
            case refine_2 => (intro w9 hSw; clear hSw; go_simp; try with_reducible rfl)
            simp only [Act.put, List.setIfInBounds_toArray, List.set_cons_zero, List.set_cons_succ]
            refine wpAnyH_take (i := 10) (v := ?_) (oi := { dst := some 65, op := _, type := _, pos := _, after := _, guard := none }) rfl (by kernel_rfl) (by kernel_rfl) (by kernel_rfl) (fun _ _ _ h => h) (Or.inl ⟨by kernel_rfl, ?_⟩) (by assumption) ?_
            case refine_2 => (intro w9 hSw; clear hSw; go_simp; try with_reducible rfl)
            simp only [Act.put, List.setIfInBounds_toArray, List.set_cons_zero, List.set_cons_succ]
            refine wpAnyH_take (i := 11) (v := ?_) (oi := { dst := some 66, op := _, type := _, pos := _, after := _, guard := none }) rfl (by kernel_rfl) (by kernel_rfl) (by kernel_rfl) (fun _ _ _ h => h) (Or.inl ⟨by kernel_rfl, ?_⟩) (by assumption) ?_
            case refine_2 => (intro w9 hSw; clear hSw; go_simp; try with_reducible rfl)
            simp only [Act.put, List.setIfInBounds_toArray, List.set_cons_zero, List.set_cons_succ]
            refine wpAnyH_ready (rs := [12]) (by kernel_rfl) (by simp) (AllReadyH.cons (o := { dst := none, op := _, type := _, pos := _, after := _, guard := none }) rfl (fun K hK => ?_) AllReadyH.nil)
            have l_0 := KK.out.first.c 2 rfl
            have z_0 := KK.out.first.f 2 rfl
            go_simp
            have KN : Hid (BS w [(w.heap.size, [.int .i64 0, .int .i64 M2, .int .i64 D4, .int .i64 U1]), (w.heap.size + 1, [.int .i64 0, .int .i64 0, .int .i64 0, .int .i64 0])] _) := KK.out.set1 2 (.int .i64 D4) (by simp) (by intro x hx; simp only [List.mem_singleton] at hx; subst hx; simp)
            refine hK.out _ _ (by first | exact KN.out.1 | exact KN.out.1.drew) (fun hHeld => ?_)
            refine gen_anyH (BS w [(w.heap.size, [.int .i64 0, .int .i64 M2, .int .i64 D4, .int .i64 U1]), (w.heap.size + 1, [.int .i64 0, .int .i64 0, .int .i64 0, .int .i64 0])]) (by first | exact KN.out | exact KN.out.drew) ?_
            clear hHeld hK K KK KN l_0 z_0
            intro v42 KK'
            have KK : Hid (BS w [(w.heap.size, [.int .i64 0, .int .i64 M2, .int .i64 D4, .int .i64 U1]), (w.heap.size + 1, [.int .i64 0, .int .i64 0, .int .i64 0, .int .i64 0])] v42) := KK'
            have hHeld : BW w v42 := KK'.1
            clear KK'
            refine wpAnyH_take (i := 13) (v := ?_) (oi := { dst := some 67, op := _, type := _, pos := _, after := _, guard := none }) rfl (by kernel_rfl) (by kernel_rfl) (by kernel_rfl) (fun _ _ _ h => h) (Or.inl ⟨by kernel_rfl, ?_⟩) (by assumption) ?_
            case refine_2 => (intro w9 hSw; clear hSw; go_simp; try with_reducible rfl)
            simp only [Act.put, List.setIfInBounds_toArray, List.set_cons_zero, List.set_cons_succ]
            refine wpAnyH_ready (rs := [14]) (by kernel_rfl) (by simp) (AllReadyH.cons (o := { dst := none, op := _, type := _, pos := _, after := _, guard := none }) rfl (fun K hK => ?_) AllReadyH.nil)
            have l_0 := KK.out.first.c 3 rfl
            have z_0 := KK.out.first.f 3 rfl
            go_simp
            have KN : Hid (BS w [(w.heap.size, [.int .i64 0, .int .i64 M2, .int .i64 D4, .int .i64 U2]), (w.heap.size + 1, [.int .i64 0, .int .i64 0, .int .i64 0, .int .i64 0])] _) := KK.out.set1 3 (.int .i64 U2) (by simp) (by intro x hx; simp only [List.mem_singleton] at hx; subst hx; simp)
            refine hK.out _ _ (by first | exact KN.out.1 | exact KN.out.1.drew) (fun hHeld => ?_)
            refine gen_anyH (BS w [(w.heap.size, [.int .i64 0, .int .i64 M2, .int .i64 D4, .int .i64 U2]), (w.heap.size + 1, [.int .i64 0, .int .i64 0, .int .i64 0, .int .i64 0])]) (by first | exact KN.out | exact KN.out.drew) ?_
            clear hHeld hK K KK KN l_0 z_0
            intro v43 KK'
            have KK : Hid (BS w [(w.heap.size, [.int .i64 0, .int .i64 M2, .int .i64 D4, .int .i64 U2]), (w.heap.size + 1, [.int .i64 0, .int .i64 0, .int .i64 0, .int .i64 0])] v43) := KK'
            have hHeld : BW w v43 := KK'.1
            clear KK'
            refine wpAnyH_done (by kernel_rfl) ?_ _
            go_wp2_with fail
            go_meet
            case rel => exact KK.out
          ·
            go_simp
            refine (CM.out _).mono ?_
            rintro e v44 ⟨rfl, hw⟩
            rw [hw]
            refine hK.out _ _ hHeld (fun hHeld => ?_)
            clear hK K hw v44
            refine wpAnyH_ready (rs := [3]) (by kernel_rfl) (by simp) (AllReadyH.cons (o := { dst := some 59, op := _, type := _, pos := _, after := _, guard := none }) rfl (fun K hK => ?_) AllReadyH.nil)
            have l_0 := KK.out.first.c 3 rfl
            go_simp
            refine hK.out _ _ hHeld (fun hHeld => ?_)
            clear hK K l_0
            refine wpAnyH_ready (rs := [7]) (by kernel_rfl) (by simp) (AllReadyH.cons (o := { dst := some 63, op := _, type := _, pos := _, after := _, guard := none }) rfl (fun K hK => ?_) AllReadyH.nil)
            go_simp
            refine (LE.out _).mono ?_
            rintro e v46 ⟨rfl, hw⟩
            rw [hw]
            refine hK.out _ _ hHeld (fun hHeld => ?_)
            clear hK K hw v46
            refine wpAnyH_take (i := 8) (v := ?_) (oi := { dst := some 55, op := _, type := _, pos := _, after := _, guard := none }) rfl (by kernel_rfl) (by kernel_rfl) (by kernel_rfl) (fun _ _ _ h => h) (Or.inl ⟨by kernel_rfl, ?_⟩) (by assumption) ?_
            case refine_2 => (intro w9 hSw; clear hSw; go_simp; try with_reducible rfl)
            simp only [Act.put, List.setIfInBounds_toArray, List.set_cons_zero, List.set_cons_succ]
            refine wpAnyH_take (i := 9) (v := ?_) (oi := { dst := some 64, op := _, type := _, pos := _, after := _, guard := none }) rfl (by kernel_rfl) (by kernel_rfl) (by kernel_rfl) (fun _ _ _ h => h) (Or.inl ⟨by kernel_rfl, ?_⟩) (by assumption) ?_
            case refine_2 => (intro w9 hSw; clear hSw; go_simp; try with_reducible rfl)
            simp only [Act.put, List.setIfInBounds_toArray, List.set_cons_zero, List.set_cons_succ]
            refine wpAnyH_take (i := 10) (v := ?_) (oi := { dst := some 65, op := _, type := _, pos := _, after := _, guard := none }) rfl (by kernel_rfl) (by kernel_rfl) (by kernel_rfl) (fun _ _ _ h => h) (Or.inl ⟨by kernel_rfl, ?_⟩) (by assumption) ?_
            case refine_2 => (intro w9 hSw; clear hSw; go_simp; try with_reducible rfl)
            simp only [Act.put, List.setIfInBounds_toArray, List.set_cons_zero, List.set_cons_succ]
            refine wpAnyH_take (i := 11) (v := ?_) (oi := { dst := some 66, op := _, type := _, pos := _, after := _, guard := none }) rfl (by kernel_rfl) (by kernel_rfl) (by kernel_rfl) (fun _ _ _ h => h) (Or.inl ⟨by kernel_rfl, ?_⟩) (by assumption) ?_
            case refine_2 => (intro w9 hSw; clear hSw; go_simp; try with_reducible rfl)
            simp only [Act.put, List.setIfInBounds_toArray, List.set_cons_zero, List.set_cons_succ]
            refine wpAnyH_ready (rs := [12]) (by kernel_rfl) (by simp) (AllReadyH.cons (o := { dst := none, op := _, type := _, pos := _, after := _, guard := none }) rfl (fun K hK => ?_) AllReadyH.nil)
            have l_0 := KK.out.first.c 2 rfl
            have z_0 := KK.out.first.f 2 rfl
            go_simp
            have KN : Hid (BS w [(w.heap.size, [.int .i64 0, .int .i64 M2, .int .i64 D4, .int .i64 U1]), (w.heap.size + 1, [.int .i64 0, .int .i64 0, .int .i64 0, .int .i64 0])] _) := KK.out.set1 2 (.int .i64 D4) (by simp) (by intro x hx; simp only [List.mem_singleton] at hx; subst hx; simp)
            refine hK.out _ _ (by first | exact KN.out.1 | exact KN.out.1.drew) (fun hHeld => ?_)
            refine gen_anyH (BS w [(w.heap.size, [.int .i64 0, .int .i64 M2, .int .i64 D4, .int .i64 U1]), (w.heap.size + 1, [.int .i64 0, .int .i64 0, .int .i64 0, .int .i64 0])]) (by first | exact KN.out | exact KN.out.drew) ?_
            clear hHeld hK K KK KN l_0 z_0
            intro v47 KK'
            have KK : Hid (BS w [(w.heap.size, [.int .i64 0, .int .i64 M2, .int .i64 D4, .int .i64 U1]), (w.heap.size + 1, [.int .i64 0, .int .i64 0, .int .i64 0, .int .i64 0])] v47) := KK'
            have hHeld : BW w v47 := KK'.1
            clear KK'
            refine wpAnyH_take (i := 13) (v := ?_) (oi := { dst := some 67, op := _, type := _, pos := _, after := _, guard := none }) rfl (by kernel_rfl) (by kernel_rfl) (by kernel_rfl) (fun _ _ _ h => h) (Or.inl ⟨by kernel_rfl, ?_⟩) (by assumption) ?_
            case refine_2 => (intro w9 hSw; clear hSw; go_simp; try with_reducible rfl)
            simp only [Act.put, List.setIfInBounds_toArray, List.set_cons_zero, List.set_cons_succ]
            refine wpAnyH_ready (rs := [14]) (by kernel_rfl) (by simp) (AllReadyH.cons (o := { dst := none, op := _, type := _, pos := _, after := _, guard := none }) rfl (fun K hK => ?_) AllReadyH.nil)
            have l_0 := KK.out.first.c 3 rfl
            have z_0 := KK.out.first.f 3 rfl
            go_simp
            have KN : Hid (BS w [(w.heap.size, [.int .i64 0, .int .i64 M2, .int .i64 D4, .int .i64 U2]), (w.heap.size + 1, [.int .i64 0, .int .i64 0, .int .i64 0, .int .i64 0])] _) := KK.out.set1 3 (.int .i64 U2) (by simp) (by intro x hx; simp only [List.mem_singleton] at hx; subst hx; simp)
            refine hK.out _ _ (by first | exact KN.out.1 | exact KN.out.1.drew) (fun hHeld => ?_)
            refine gen_anyH (BS w [(w.heap.size, [.int .i64 0, .int .i64 M2, .int .i64 D4, .int .i64 U2]), (w.heap.size + 1, [.int .i64 0, .int .i64 0, .int .i64 0, .int .i64 0])]) (by first | exact KN.out | exact KN.out.drew) ?_
            clear hHeld hK K KK KN l_0 z_0
            intro v48 KK'
            have KK : Hid (BS w [(w.heap.size, [.int .i64 0, .int .i64 M2, .int .i64 D4, .int .i64 U2]), (w.heap.size + 1, [.int .i64 0, .int .i64 0, .int .i64 0, .int .i64 0])] v48) := KK'
            have hHeld : BW w v48 := KK'.1
            clear KK'
            refine wpAnyH_done (by kernel_rfl) ?_ _
            go_wp2_with fail
            go_meet
            case rel => exact KK.out
        ·
          have l_0 := KK.out.first.c 3 rfl
          go_simp
          refine hK.out _ _ hHeld (fun hHeld => ?_)
          clear hK K l_0
          refine wpAnyH_ready (rs := [1, 6]) (by kernel_rfl) (by simp) (AllReadyH.cons (o := { dst := some 57, op := _, type := _, pos := _, after := _, guard := none }) rfl (fun K hK => ?_) (AllReadyH.cons (o := { dst := some 62, op := _, type := _, pos := _, after := _, guard := none }) rfl (fun K hK => ?_) AllReadyH.nil))
          ·
            have l_0 := KK.out.first.c 2 rfl
            go_simp
            refine hK.out _ _ hHeld (fun hHeld => ?_)
            clear hK K l_0
            refine wpAnyH_ready (rs := [6]) (by kernel_rfl) (by simp) (AllReadyH.cons (o := { dst := some 62, op := _, type := _, pos := _, after := _, guard := none }) rfl (fun K hK => ?_) AllReadyH.nil)
            go_simp
            refine (CM.out _).mono ?_
            rintro e v51 ⟨rfl, hw⟩
            rw [hw]
            refine hK.out _ _ hHeld (fun hHeld => ?_)
            clear hK K hw v51
            refine wpAnyH_ready (rs := [7]) (by kernel_rfl) (by simp) (AllReadyH.cons (o := { dst := some 63, op := _, type := _, pos := _, after := _, guard := none }) rfl (fun K hK => ?_) AllReadyH.nil)
            go_simp
            refine (LE.out _).mono ?_
            rintro e v52 ⟨rfl, hw⟩
            rw [hw]
            refine hK.out _ _ hHeld (fun hHeld => ?_)
            clear hK K hw v52
            refine wpAnyH_take (i := 8) (v := ?_) (oi := { dst := some 55, op := _, type := _, pos := _, after := _, guard := none }) rfl (by kernel_rfl) (by kernel_rfl) (by kernel_rfl) (fun _ _ _ h => h) (Or.inl ⟨by kernel_rfl, ?_⟩) (by assumption) ?_
            case refine_2 => (intro w9 hSw; clear hSw; go_simp; try with_reducible rfl)
            simp only [Act.put, List.setIfInBounds_toArray, List.set_cons_zero, List.set_cons_succ]
            refine wpAnyH_take (i := 9) (v := ?_) (oi := { dst := some 64, op := _, type := _, pos := _, after := _, guard := none }) rfl (by kernel_rfl) (by kernel_rfl) (by kernel_rfl) (fun _ _ _ h => h) (Or.inl ⟨by kernel_rfl, ?_⟩) (by assumption) ?_
            case refine_2 => (intro w9 hSw; clear hSw; go_simp; try with_reducible rfl)
            simp only [Act.put, List.setIfInBounds_toArray, List.set_cons_zero, List.set_cons_succ]
            refine wpAnyH_take (i := 10) (v := ?_) (oi := { dst := some 65, op := _, type := _, pos := _, after := _, guard := none }) rfl (by kernel_rfl) (by kernel_rfl) (by kernel_rfl) (fun _ _ _ h => h) (Or.inl ⟨by kernel_rfl, ?_⟩) (by assumption) ?_
            case refine_2 => (intro w9 hSw; clear hSw; go_simp; try with_reducible rfl)
            simp only [Act.put, List.setIfInBounds_toArray, List.set_cons_zero, List.set_cons_succ]
            refine wpAnyH_take (i := 11) (v := ?_) (oi := { dst := some 66, op := _, type := _, pos := _, after := _, guard := none }) rfl (by kernel_rfl) (by kernel_rfl) (by kernel_rfl) (fun _ _ _ h => h) (Or.inl ⟨by kernel_rfl, ?_⟩) (by assumption) ?_
            case refine_2 => (intro w9 hSw; clear hSw; go_simp; try with_reducible rfl)
            simp only [Act.put, List.setIfInBounds_toArray, List.set_cons_zero, List.set_cons_succ]
            refine wpAnyH_ready (rs := [12]) (by kernel_rfl) (by simp) (AllReadyH.cons (o := { dst := none, op := _, type := _, pos := _, after := _, guard := none }) rfl (fun K hK => ?_) AllReadyH.nil)
            have l_0 := KK.out.first.c 2 rfl
            have z_0 := KK.out.first.f 2 rfl
            go_simp
            have KN : Hid (BS w [(w.heap.size, [.int .i64 0, .int .i64 M2, .int .i64 D4, .int .i64 U1]), (w.heap.size + 1, [.int .i64 0, .int .i64 0, .int .i64 0, .int .i64 0])] _) := KK.out.set1 2 (.int .i64 D4) (by simp) (by intro x hx; simp only [List.mem_singleton] at hx; subst hx; simp)
            refine hK.out _ _ (by first | exact KN.out.1 | exact KN.out.1.drew) (fun hHeld => ?_)
            refine gen_anyH (BS w [(w.heap.size, [.int .i64 0, .int .i64 M2, .int .i64 D4, .int .i64 U1]), (w.heap.size + 1, [.int .i64 0, .int .i64 0, .int .i64 0, .int .i64 0])]) (by first | exact KN.out | exact KN.out.drew) ?_
            clear hHeld hK K KK KN l_0 z_0
            intro v53 KK'
            have KK : Hid (BS w [(w.heap.size, [.int .i64 0, .int .i64 M2, .int .i64 D4, .int .i64 U1]), (w.heap.size + 1, [.int .i64 0, .int .i64 0, .int .i64 0, .int .i64 0])] v53) := KK'
            have hHeld : BW w v53 := KK'.1
            clear KK'
            refine wpAnyH_take (i := 13) (v := ?_) (oi := { dst := some 67, op := _, type := _, pos := _, after := _, guard := none }) rfl (by kernel_rfl) (by kernel_rfl) (by kernel_rfl) (fun _ _ _ h => h) (Or.inl ⟨by kernel_rfl, ?_⟩) (by assumption) ?_
            case refine_2 => (intro w9 hSw; clear hSw; go_simp; try with_reducible rfl)
            simp only [Act.put, List.setIfInBounds_toArray, List.set_cons_zero, List.set_cons_succ]
            refine wpAnyH_ready (rs := [14]) (by kernel_rfl) (by simp) (AllReadyH.cons (o := { dst := none, op := _, type := _, pos := _, after := _, guard := none }) rfl (fun K hK => ?_) AllReadyH.nil)
            have l_0 := KK.out.first.c 3 rfl
            have z_0 := KK.out.first.f 3 rfl
            go_simp
            have KN : Hid (BS w [(w.heap.size, [.int .i64 0, .int .i64 M2, .int .i64 D4, .int .i64 U2]), (w.heap.size + 1, [.int .i64 0, .int .i64 0, .int .i64 0, .int .i64 0])] _) := KK.out.set1 3 (.int .i64 U2) (by simp) (by intro x hx; simp only [List.mem_singleton] at hx; subst hx; simp)
            refine hK.out _ _ (by first | exact KN.out.1 | exact KN.out.1.drew) (fun hHeld => ?_)
            refine gen_anyH (BS w [(w.heap.size, [.int .i64 0, .int .i64 M2, .int .i64 D4, .int .i64 U2]), (w.heap.size + 1, [.int .i64 0, .int .i64 0, .int .i64 0, .int .i64 0])]) (by first | exact KN.out | exact KN.out.drew) ?_
            clear hHeld hK K KK KN l_0 z_0
            intro v54 KK'
            have KK : Hid (BS w [(w.heap.size, [.int .i64 0, .int .i64 M2, .int .i64 D4, .int .i64 U2]), (w.heap.size + 1, [.int .i64 0, .int .i64 0, .int .i64 0, .int .i64 0])] v54) := KK'
            have hHeld : BW w v54 := KK'.1
            clear KK'
            refine wpAnyH_done (by kernel_rfl) ?_ _
            go_wp2_with fail
            go_meet
            case rel => exact KK.out
          ·
            go_simp
            refine (CM.out _).mono ?_
            rintro e v55 ⟨rfl, hw⟩
            rw [hw]
            refine hK.out _ _ hHeld (fun hHeld => ?_)
            clear hK K hw v55
            refine wpAnyH_ready (rs := [1]) (by kernel_rfl) (by simp) (AllReadyH.cons (o := { dst := some 57, op := _, type := _, pos := _, after := _, guard := none }) rfl (fun K hK => ?_) AllReadyH.nil)
            have l_0 := KK.out.first.c 2 rfl
            go_simp
            refine hK.out _ _ hHeld (fun hHeld => ?_)
            clear hK K l_0
            refine wpAnyH_ready (rs := [7]) (by kernel_rfl) (by simp) (AllReadyH.cons (o := { dst := some 63, op := _, type := _, pos := _, after := _, guard := none }) rfl (fun K hK => ?_) AllReadyH.nil)
            go_simp
            refine (LE.out _).mono ?_
            rintro e v57 ⟨rfl, hw⟩
            rw [hw]
            refine hK.out _ _ hHeld (fun hHeld => ?_)
            clear hK K hw v57
            refine wpAnyH_take (i := 8) (v := ?_) (oi := { dst := some 55, op := _, type := _, pos := _, after := _, guard := none }) rfl (by kernel_rfl) (by kernel_rfl) (by kernel_rfl) (fun _ _ _ h => h) (Or.inl ⟨by kernel_rfl, ?_⟩) (by assumption) ?_
            case refine_2 => (intro w9 hSw; clear hSw; go_simp; try with_reducible rfl)
            simp only [Act.put, List.setIfInBounds_toArray, List.set_cons_zero, List.set_cons_succ]
            refine wpAnyH_take (i := 9) (v := ?_) (oi := { dst := some 64, op := _, type := _, pos := _, after := _, guard := none }) rfl (by kernel_rfl) (by kernel_rfl) (by kernel_rfl) (fun _ _ _ h => h) (Or.inl ⟨by kernel_rfl, ?_⟩) (by assumption) ?_
            case refine_2 => (intro w9 hSw; clear hSw; go_simp; try with_reducible rfl)
            simp only [Act.put, List.setIfInBounds_toArray, List.set_cons_zero, List.set_cons_succ]
            refine wpAnyH_take (i := 10) (v := ?_) (oi := { dst := some 65, op := _, type := _, pos := _, after := _, guard := none }) rfl (by kernel_rfl) (by kernel_rfl) (by kernel_rfl) (fun _ _ _ h => h) (Or.inl ⟨by kernel_rfl, ?_⟩) (by assumption) ?_
            case refine_2 => (intro w9 hSw; clear hSw; go_simp; try with_reducible rfl)
            simp only [Act.put, List.setIfInBounds_toArray, List.set_cons_zero, List.set_cons_succ]
            refine wpAnyH_take (i := 11) (v := ?_) (oi := { dst := some 66, op := _, type := _, pos := _, after := _, guard := none }) rfl (by kernel_rfl) (by kernel_rfl) (by kernel_rfl) (fun _ _ _ h => h) (Or.inl ⟨by kernel_rfl, ?_⟩) (by assumption) ?_
            case refine_2 => (intro w9 hSw; clear hSw; go_simp; try with_reducible rfl)
            simp only [Act.put, List.setIfInBounds_toArray, List.set_cons_zero, List.set_cons_succ]
            refine wpAnyH_ready (rs := [12]) (by kernel_rfl) (by simp) (AllReadyH.cons (o := { dst := none, op := _, type := _, pos := _, after := _, guard := none }) rfl (fun K hK => ?_) AllReadyH.nil)
            have l_0 := KK.out.first.c 2 rfl
            have z_0 := KK.out.first.f 2 rfl
            go_simp
            have KN : Hid (BS w [(w.heap.size, [.int .i64 0, .int .i64 M2, .int .i64 D4, .int .i64 U1]), (w.heap.size + 1, [.int .i64 0, .int .i64 0, .int .i64 0, .int .i64 0])] _) := KK.out.set1 2 (.int .i64 D4) (by simp) (by intro x hx; simp only [List.mem_singleton] at hx; subst hx; simp)
            refine hK.out _ _ (by first | exact KN.out.1 | exact KN.out.1.drew) (fun hHeld => ?_)
            refine gen_anyH (BS w [(w.heap.size, [.int .i64 0, .int .i64 M2, .int .i64 D4, .int .i64 U1]), (w.heap.size + 1, [.int .i64 0, .int .i64 0, .int .i64 0, .int .i64 0])]) (by first | exact KN.out | exact KN.out.drew) ?_
            clear hHeld hK K KK KN l_0 z_0
            intro v58 KK'
            have KK : Hid (BS w [(w.heap.size, [.int .i64 0, .int .i64 M2, .int .i64 D4, .int .i64 U1]), (w.heap.size + 1, [.int .i64 0, .int .i64 0, .int .i64 0, .int .i64 0])] v58) := KK'
            have hHeld : BW w v58 := KK'.1
            clear KK'
            refine wpAnyH_take (i := 13) (v := ?_) (oi := { dst := some 67, op := _, type := _, pos := _, after := _, guard := none }) rfl (by kernel_rfl) (by kernel_rfl) (by kernel_rfl) (fun _ _ _ h => h) (Or.inl ⟨by kernel_rfl, ?_⟩) (by assumption) ?_
            case refine_2 => (intro w9 hSw; clear hSw; go_simp; try with_reducible rfl)
            simp only [Act.put, List.setIfInBounds_toArray, List.set_cons_zero, List.set_cons_succ]
            refine wpAnyH_ready (rs := [14]) (by kernel_rfl) (by simp) (AllReadyH.cons (o := { dst := none, op := _, type := _, pos := _, after := _, guard := none }) rfl (fun K hK => ?_) AllReadyH.nil)
            have l_0 := KK.out.first.c 3 rfl
            have z_0 := KK.out.first.f 3 rfl
            go_simp
            have KN : Hid (BS w [(w.heap.size, [.int .i64 0, .int .i64 M2, .int .i64 D4, .int .i64 U2]), (w.heap.size + 1, [.int .i64 0, .int .i64 0, .int .i64 0, .int .i64 0])] _) := KK.out.set1 3 (.int .i64 U2) (by simp) (by intro x hx; simp only [List.mem_singleton] at hx; subst hx; simp)
            refine hK.out _ _ (by first | exact KN.out.1 | exact KN.out.1.drew) (fun hHeld => ?_)
            refine gen_anyH (BS w [(w.heap.size, [.int .i64 0, .int .i64 M2, .int .i64 D4, .int .i64 U2]), (w.heap.size + 1, [.int .i64 0, .int .i64 0, .int .i64 0, .int .i64 0])]) (by first | exact KN.out | exact KN.out.drew) ?_
            clear hHeld hK K KK KN l_0 z_0
            intro v59 KK'
            have KK : Hid (BS w [(w.heap.size, [.int .i64 0, .int .i64 M2, .int .i64 D4, .int .i64 U2]), (w.heap.size + 1, [.int .i64 0, .int .i64 0, .int .i64 0, .int .i64 0])] v59) := KK'
            have hHeld : BW w v59 := KK'.1
            clear KK'
            refine wpAnyH_done (by kernel_rfl) ?_ _
            go_wp2_with fail
            go_meet
            case rel => exact KK.out
        ·
          go_simp
          refine (CM.out _).mono ?_
          rintro e v60 ⟨rfl, hw⟩
          rw [hw]
          refine hK.out _ _ hHeld (fun hHeld => ?_)
          clear hK K hw v60
          refine wpAnyH_ready (rs := [1, 3]) (by kernel_rfl) (by simp) (AllReadyH.cons (o := { dst := some 57, op := _, type := _, pos := _, after := _, guard := none }) rfl (fun K hK => ?_) (AllReadyH.cons (o := { dst := some 59, op := _, type := _, pos := _, after := _, guard := none }) rfl (fun K hK => ?_) AllReadyH.nil))
          ·
            have l_0 := KK.out.first.c 2 rfl
            go_simp
            refine hK.out _ _ hHeld (fun hHeld => ?_)
            clear hK K l_0
            refine wpAnyH_ready (rs := [3]) (by kernel_rfl) (by simp) (AllReadyH.cons (o := { dst := some 59, op := _, type := _, pos := _, after := _, guard := none }) rfl (fun K hK => ?_) AllReadyH.nil)
            have l_0 := KK.out.first.c 3 rfl
            go_simp
            refine hK.out _ _ hHeld (fun hHeld => ?_)
            clear hK K l_0
            refine wpAnyH_ready (rs := [7]) (by kernel_rfl) (by simp) (AllReadyH.cons (o := { dst := some 63, op := _, type := _, pos := _, after := _, guard := none }) rfl (fun K hK => ?_) AllReadyH.nil)
            go_simp
            refine (LE.out _).mono ?_
            rintro e v63 ⟨rfl, hw⟩
            rw [hw]
            refine hK.out _ _ hHeld (fun hHeld => ?_)
            clear hK K hw v63
            refine wpAnyH_take (i := 8) (v := ?_) (oi := { dst := some 55, op := _, type := _, pos := _, after := _, guard := none }) rfl (by kernel_rfl) (by kernel_rfl) (by kernel_rfl) (fun _ _ _ h => h) (Or.inl ⟨by kernel_rfl, ?_⟩) (by assumption) ?_
            case refine_2 => (intro w9 hSw; clear hSw; go_simp; try with_reducible rfl)
            simp only [Act.put, List.setIfInBounds_toArray, List.set_cons_zero, List.set_cons_succ]
            refine wpAnyH_take (i := 9) (v := ?_) (oi := { dst := some 64, op := _, type := _, pos := _, after := _, guard := none }) rfl (by kernel_rfl) (by kernel_rfl) (by kernel_rfl) (fun _ _ _ h => h) (Or.inl ⟨by kernel_rfl, ?_⟩) (by assumption) ?_
            case refine_2 => (intro w9 hSw; clear hSw; go_simp; try with_reducible rfl)
            simp only [Act.put, List.setIfInBounds_toArray, List.set_cons_zero, List.set_cons_succ]
            refine wpAnyH_take (i := 10) (v := ?_) (oi := { dst := some 65, op := _, type := _, pos := _, after := _, guard := none }) rfl (by kernel_rfl) (by kernel_rfl) (by kernel_rfl) (fun _ _ _ h => h) (Or.inl ⟨by kernel_rfl, ?_⟩) (by assumption) ?_
            case refine_2 => (intro w9 hSw; clear hSw; go_simp; try with_reducible rfl)
            simp only [Act.put, List.setIfInBounds_toArray, List.set_cons_zero, List.set_cons_succ]
            refine wpAnyH_take (i := 11) (v := ?_) (oi := { dst := some 66, op := _, type := _, pos := _, after := _, guard := none }) rfl (by kernel_rfl) (by kernel_rfl) (by kernel_rfl) (fun _ _ _ h => h) (Or.inl ⟨by kernel_rfl, ?_⟩) (by assumption) ?_
            case refine_2 => (intro w9 hSw; clear hSw; go_simp; try with_reducible rfl)
            simp only [Act.put, List.setIfInBounds_toArray, List.set_cons_zero, List.set_cons_succ]
            refine wpAnyH_ready (rs := [12]) (by kernel_rfl) (by simp) (AllReadyH.cons (o := { dst := none, op := _, type := _, pos := _, after := _, guard := none }) rfl (fun K hK => ?_) AllReadyH.nil)
            have l_0 := KK.out.first.c 2 rfl
            have z_0 := KK.out.first.f 2 rfl
            go_simp
            have KN : Hid (BS w [(w.heap.size, [.int .i64 0, .int .i64 M2, .int .i64 D4, .int .i64 U1]), (w.heap.size + 1, [.int .i64 0, .int .i64 0, .int .i64 0, .int .i64 0])] _) := KK.out.set1 2 (.int .i64 D4) (by simp) (by intro x hx; simp only [List.mem_singleton] at hx; subst hx; simp)
            refine hK.out _ _ (by first | exact KN.out.1 | exact KN.out.1.drew) (fun hHeld => ?_)
            refine gen_anyH (BS w [(w.heap.size, [.int .i64 0, .int .i64 M2, .int .i64 D4, .int .i64 U1]), (w.heap.size + 1, [.int .i64 0, .int .i64 0, .int .i64 0, .int .i64 0])]) (by first | exact KN.out | exact KN.out.drew) ?_
            clear hHeld hK K KK KN l_0 z_0
            intro v64 KK'
            have KK : Hid (BS w [(w.heap.size, [.int .i64 0, .int .i64 M2, .int .i64 D4, .int .i64 U1]), (w.heap.size + 1, [.int .i64 0, .int .i64 0, .int .i64 0, .int .i64 0])] v64) := KK'
            have hHeld : BW w v64 := KK'.1
            clear KK'
            refine wpAnyH_take (i := 13) (v := ?_) (oi := { dst := some 67, op := _, type := _, pos := _, after := _, guard := none }) rfl (by kernel_rfl) (by kernel_rfl) (by kernel_rfl) (fun _ _ _ h => h) (Or.inl ⟨by kernel_rfl, ?_⟩) (by assumption) ?_
            case refine_2 => (intro w9 hSw; clear hSw; go_simp; try with_reducible rfl)
            simp only [Act.put, List.setIfInBounds_toArray, List.set_cons_zero, List.set_cons_succ]
            refine wpAnyH_ready (rs := [14]) (by kernel_rfl) (by simp) (AllReadyH.cons (o := { dst := none, op := _, type := _, pos := _, after := _, guard := none }) rfl (fun K hK => ?_) AllReadyH.nil)
            have l_0 := KK.out.first.c 3 rfl
            have z_0 := KK.out.first.f 3 rfl
            go_simp
            have KN : Hid (BS w [(w.heap.size, [.int .i64 0, .int .i64 M2, .int .i64 D4, .int .i64 U2]), (w.heap.size + 1, [.int .i64 0, .int .i64 0, .int .i64 0, .int .i64 0])] _) := KK.out.set1 3 (.int .i64 U2) (by simp) (by intro x hx; simp only [List.mem_singleton] at hx; subst hx; simp)
            refine hK.out _ _ (by first | exact KN.out.1 | exact KN.out.1.drew) (fun hHeld => ?_)
            refine gen_anyH (BS w [(w.heap.size, [.int .i64 0, .int .i64 M2, .int .i64 D4, .int .i64 U2]), (w.heap.size + 1, [.int .i64 0, .int .i64 0, .int .i64 0, .int .i64 0])]) (by first | exact KN.out | exact KN.out.drew) ?_
            clear hHeld hK K KK KN l_0 z_0
            intro v65 KK'
            have KK : Hid (BS w [(w.heap.size, [.int .i64 0, .int .i64 M2, .int .i64 D4, .int .i64 U2]), (w.heap.size + 1, [.int .i64 0, .int .i64 0, .int .i64 0, .int .i64 0])] v65) := KK'
            have hHeld : BW w v65 := KK'.1
            clear KK'
            refine wpAnyH_done (by kernel_rfl) ?_ _
            go_wp2_with fail
            go_meet
            case rel => exact KK.out
          ·
            have l_0 := KK.out.first.c 3 rfl
            go_simp
            refine hK.out _ _ hHeld (fun hHeld => ?_)
            clear hK K l_0
            refine wpAnyH_ready (rs := [1]) (by kernel_rfl) (by simp) (AllReadyH.cons (o := { dst := some 57, op := _, type := _, pos := _, after := _, guard := none }) rfl (fun K hK => ?_) AllReadyH.nil)
            have l_0 := KK.out.first.c 2 rfl
            go_simp
            refine hK.out _ _ hHeld (fun hHeld => ?_)
            clear hK K l_0
            refine wpAnyH_ready (rs := [7]) (by kernel_rfl) (by simp) (AllReadyH.cons (o := { dst := some 63, op := _, type := _, pos := _, after := _, guard := none }) rfl (fun K hK => ?_) AllReadyH.nil)
            go_simp
            refine (LE.out _).mono ?_
            rintro e v68 ⟨rfl, hw⟩
            rw [hw]
            refine hK.out _ _ hHeld (fun hHeld => ?_)
            clear hK K hw v68
            refine wpAnyH_take (i := 8) (v := ?_) (oi := { dst := some 55, op := _, type := _, pos := _, after := _, guard := none }) rfl (by kernel_rfl) (by kernel_rfl) (by kernel_rfl) (fun _ _ _ h => h) (Or.inl ⟨by kernel_rfl, ?_⟩) (by assumption) ?_
            case refine_2 => (intro w9 hSw; clear hSw; go_simp; try with_reducible rfl)
            simp only [Act.put, List.setIfInBounds_toArray, List.set_cons_zero, List.set_cons_succ]
            refine wpAnyH_take (i := 9) (v := ?_) (oi := { dst := some 64, op := _, type := _, pos := _, after := _, guard := none }) rfl (by kernel_rfl) (by kernel_rfl) (by kernel_rfl) (fun _ _ _ h => h) (Or.inl ⟨by kernel_rfl, ?_⟩) (by assumption) ?_
            case refine_2 => (intro w9 hSw; clear hSw; go_simp; try with_reducible rfl)
            simp only [Act.put, List.setIfInBounds_toArray, List.set_cons_zero, List.set_cons_succ]
            refine wpAnyH_take (i := 10) (v := ?_) (oi := { dst := some 65, op := _, type := _, pos := _, after := _, guard := none }) rfl (by kernel_rfl) (by kernel_rfl) (by kernel_rfl) (fun _ _ _ h => h) (Or.inl ⟨by kernel_rfl, ?_⟩) (by assumption) ?_
            case refine_2 => (intro w9 hSw; clear hSw; go_simp; try with_reducible rfl)
            simp only [Act.put, List.setIfInBounds_toArray, List.set_cons_zero, List.set_cons_succ]
            refine wpAnyH_take (i := 11) (v := ?_) (oi := { dst := some 66, op := _, type := _, pos := _, after := _, guard := none }) rfl (by kernel_rfl) (by kernel_rfl) (by kernel_rfl) (fun _ _ _ h => h) (Or.inl ⟨by kernel_rfl, ?_⟩) (by assumption) ?_
            case refine_2 => (intro w9 hSw; clear hSw; go_simp; try with_reducible rfl)
            simp only [Act.put, List.setIfInBounds_toArray, List.set_cons_zero, List.set_cons_succ]
            refine wpAnyH_ready (rs := [12]) (by kernel_rfl) (by simp) (AllReadyH.cons (o := { dst := none, op := _, type := _, pos := _, after := _, guard := none }) rfl (fun K hK => ?_) AllReadyH.nil)
            have l_0 := KK.out.first.c 2 rfl
            have z_0 := KK.out.first.f 2 rfl
            go_simp
            have KN : Hid (BS w [(w.heap.size, [.int .i64 0, .int .i64 M2, .int .i64 D4, .int .i64 U1]), (w.heap.size + 1, [.int .i64 0, .int .i64 0, .int .i64 0, .int .i64 0])] _) := KK.out.set1 2 (.int .i64 D4) (by simp) (by intro x hx; simp only [List.mem_singleton] at hx; subst hx; simp)
            refine hK.out _ _ (by first | exact KN.out.1 | exact KN.out.1.drew) (fun hHeld => ?_)
            refine gen_anyH (BS w [(w.heap.size, [.int .i64 0, .int .i64 M2, .int .i64 D4, .int .i64 U1]), (w.heap.size + 1, [.int .i64 0, .int .i64 0, .int .i64 0, .int .i64 0])]) (by first | exact KN.out | exact KN.out.drew) ?_
            clear hHeld hK K KK KN l_0 z_0
            intro v69 KK'
            have KK : Hid (BS w [(w.heap.size, [.int .i64 0, .int .i64 M2, .int .i64 D4, .int .i64 U1]), (w.heap.size + 1, [.int .i64 0, .int .i64 0, .int .i64 0, .int .i64 0])] v69) := KK'
            have hHeld : BW w v69 := KK'.1
            clear KK'
            refine wpAnyH_take (i := 13) (v := ?_) (oi := { dst := some 67, op := _, type := _, pos := _, after := _, guard := none }) rfl (by kernel_rfl) (by kernel_rfl) (by kernel_rfl) (fun _ _ _ h => h) (Or.inl ⟨by kernel_rfl, ?_⟩) (by assumption) ?_
            case refine_2 => (intro w9 hSw; clear hSw; go_simp; try with_reducible rfl)
            simp only [Act.put, List.setIfInBounds_toArray, List.set_cons_zero, List.set_cons_succ]
            refine wpAnyH_ready (rs := [14]) (by kernel_rfl) (by simp) (AllReadyH.cons (o := { dst := none, op := _, type := _, pos := _, after := _, guard := none }) rfl (fun K hK => ?_) AllReadyH.nil)
            have l_0 := KK.out.first.c 3 rfl
            have z_0 := KK.out.first.f 3 rfl
            go_simp
            have KN : Hid (BS w [(w.heap.size, [.int .i64 0, .int .i64 M2, .int .i64 D4, .int .i64 U2]), (w.heap.size + 1, [.int .i64 0, .int .i64 0, .int .i64 0, .int .i64 0])] _) := KK.out.set1 3 (.int .i64 U2) (by simp) (by intro x hx; simp only [List.mem_singleton] at hx; subst hx; simp)
            refine hK.out _ _ (by first | exact KN.out.1 | exact KN.out.1.drew) (fun hHeld => ?_)
            refine gen_anyH (BS w [(w.heap.size, [.int .i64 0, .int .i64 M2, .int .i64 D4, .int .i64 U2]), (w.heap.size + 1, [.int .i64 0, .int .i64 0, .int .i64 0, .int .i64 0])]) (by first | exact KN.out | exact KN.out.drew) ?_
            clear hHeld hK K KK KN l_0 z_0
            intro v70 KK'
            have KK : Hid (BS w [(w.heap.size, [.int .i64 0, .int .i64 M2, .int .i64 D4, .int .i64 U2]), (w.heap.size + 1, [.int .i64 0, .int .i64 0, .int .i64 0, .int .i64 0])] v70) := KK'
            have hHeld : BW w v70 := KK'.1
            clear KK'
            refine wpAnyH_done (by kernel_rfl) ?_ _
            go_wp2_with fail
            go_meet
            case rel => exact KK.out
    case rest =>
      skip
      have K9 : Hid (BS w [(w.heap.size, [.int .i64 0, .int .i64 M2, .int .i64 D4, .int .i64 U2]), (w.heap.size + 1, [.int .i64 0, .int .i64 0, .int .i64 0, .int .i64 0])] wc) := hcut
      clear hcut KK KZ
      have c9_0_0 : wc.cell? ⟨w.heap.size, 0, none⟩ = some (.int .i64 0) := (K9.out.at (w.heap.size) [.int .i64 0, .int .i64 M2, .int .i64 D4, .int .i64 U2] (by simp)).c 0 rfl
      have c9_0_1 : wc.cell? ⟨w.heap.size, 1, none⟩ = some (.int .i64 M2) := (K9.out.at (w.heap.size) [.int .i64 0, .int .i64 M2, .int .i64 D4, .int .i64 U2] (by simp)).c 1 rfl
      have c9_0_2 : wc.cell? ⟨w.heap.size, 2, none⟩ = some (.int .i64 D4) := (K9.out.at (w.heap.size) [.int .i64 0, .int .i64 M2, .int .i64 D4, .int .i64 U2] (by simp)).c 2 rfl
      have c9_0_3 : wc.cell? ⟨w.heap.size, 3, none⟩ = some (.int .i64 U2) := (K9.out.at (w.heap.size) [.int .i64 0, .int .i64 M2, .int .i64 D4, .int .i64 U2] (by simp)).c 3 rfl
      have c9_1_0 : wc.cell? ⟨w.heap.size + 1, 0, none⟩ = some (.int .i64 0) := (K9.out.at (w.heap.size + 1) [.int .i64 0, .int .i64 0, .int .i64 0, .int .i64 0] (by simp)).c 0 rfl
      have z9_1_0 : wc.frozen? ⟨w.heap.size + 1, 0, none⟩ = false := (K9.out.at (w.heap.size + 1) [.int .i64 0, .int .i64 0, .int .i64 0, .int .i64 0] (by simp)).f 0 rfl
      have c9_1_1 : wc.cell? ⟨w.heap.size + 1, 1, none⟩ = some (.int .i64 0) := (K9.out.at (w.heap.size + 1) [.int .i64 0, .int .i64 0, .int .i64 0, .int .i64 0] (by simp)).c 1 rfl
      have z9_1_1 : wc.frozen? ⟨w.heap.size + 1, 1, none⟩ = false := (K9.out.at (w.heap.size + 1) [.int .i64 0, .int .i64 0, .int .i64 0, .int .i64 0] (by simp)).f 1 rfl
      have c9_1_2 : wc.cell? ⟨w.heap.size + 1, 2, none⟩ = some (.int .i64 0) := (K9.out.at (w.heap.size + 1) [.int .i64 0, .int .i64 0, .int .i64 0, .int .i64 0] (by simp)).c 2 rfl
      have z9_1_2 : wc.frozen? ⟨w.heap.size + 1, 2, none⟩ = false := (K9.out.at (w.heap.size + 1) [.int .i64 0, .int .i64 0, .int .i64 0, .int .i64 0] (by simp)).f 2 rfl
      have c9_1_3 : wc.cell? ⟨w.heap.size + 1, 3, none⟩ = some (.int .i64 0) := (K9.out.at (w.heap.size + 1) [.int .i64 0, .int .i64 0, .int .i64 0, .int .i64 0] (by simp)).c 3 rfl
      have z9_1_3 : wc.frozen? ⟨w.heap.size + 1, 3, none⟩ = false := (K9.out.at (w.heap.size + 1) [.int .i64 0, .int .i64 0, .int .i64 0, .int .i64 0] (by simp)).f 3 rfl
      go_wp2_with fail
      refine (MK.out _).mono ?_
      rintro e W10 ⟨rfl, hb⟩
      have K10 : Hid (BS w [(w.heap.size, [.int .i64 0, .int .i64 M2, .int .i64 D4, .int .i64 U2]), (w.heap.size + 1, [.int .i64 0, .int .i64 0, .int .i64 0, .int .i64 0])] W10) := K9.out.below hb
      clear c9_0_0 c9_0_1 c9_0_2 c9_0_3 c9_1_0 z9_1_0 c9_1_1 z9_1_1 c9_1_2 z9_1_2 c9_1_3 z9_1_3
      clear hb K9
      have c10_0_0 : W10.cell? ⟨w.heap.size, 0, none⟩ = some (.int .i64 0) := (K10.out.at (w.heap.size) [.int .i64 0, .int .i64 M2, .int .i64 D4, .int .i64 U2] (by simp)).c 0 rfl
      have c10_0_1 : W10.cell? ⟨w.heap.size, 1, none⟩ = some (.int .i64 M2) := (K10.out.at (w.heap.size) [.int .i64 0, .int .i64 M2, .int .i64 D4, .int .i64 U2] (by simp)).c 1 rfl
      have c10_0_2 : W10.cell? ⟨w.heap.size, 2, none⟩ = some (.int .i64 D4) := (K10.out.at (w.heap.size) [.int .i64 0, .int .i64 M2, .int .i64 D4, .int .i64 U2] (by simp)).c 2 rfl
      have c10_0_3 : W10.cell? ⟨w.heap.size, 3, none⟩ = some (.int .i64 U2) := (K10.out.at (w.heap.size) [.int .i64 0, .int .i64 M2, .int .i64 D4, .int .i64 U2] (by simp)).c 3 rfl
      have c10_1_0 : W10.cell? ⟨w.heap.size + 1, 0, none⟩ = some (.int .i64 0) := (K10.out.at (w.heap.size + 1) [.int .i64 0, .int .i64 0, .int .i64 0, .int .i64 0] (by simp)).c 0 rfl
      have z10_1_0 : W10.frozen? ⟨w.heap.size + 1, 0, none⟩ = false := (K10.out.at (w.heap.size + 1) [.int .i64 0, .int .i64 0, .int .i64 0, .int .i64 0] (by simp)).f 0 rfl
      have c10_1_1 : W10.cell? ⟨w.heap.size + 1, 1, none⟩ = some (.int .i64 0) := (K10.out.at (w.heap.size + 1) [.int .i64 0, .int .i64 0, .int .i64 0, .int .i64 0] (by simp)).c 1 rfl
      have z10_1_1 : W10.frozen? ⟨w.heap.size + 1, 1, none⟩ = false := (K10.out.at (w.heap.size + 1) [.int .i64 0, .int .i64 0, .int .i64 0, .int .i64 0] (by simp)).f 1 rfl
      have c10_1_2 : W10.cell? ⟨w.heap.size + 1, 2, none⟩ = some (.int .i64 0) := (K10.out.at (w.heap.size + 1) [.int .i64 0, .int .i64 0, .int .i64 0, .int .i64 0] (by simp)).c 2 rfl
      have z10_1_2 : W10.frozen? ⟨w.heap.size + 1, 2, none⟩ = false := (K10.out.at (w.heap.size + 1) [.int .i64 0, .int .i64 0, .int .i64 0, .int .i64 0] (by simp)).f 2 rfl
      have c10_1_3 : W10.cell? ⟨w.heap.size + 1, 3, none⟩ = some (.int .i64 0) := (K10.out.at (w.heap.size + 1) [.int .i64 0, .int .i64 0, .int .i64 0, .int .i64 0] (by simp)).c 3 rfl
      have z10_1_3 : W10.frozen? ⟨w.heap.size + 1, 3, none⟩ = false := (K10.out.at (w.heap.size + 1) [.int .i64 0, .int .i64 0, .int .i64 0, .int .i64 0] (by simp)).f 3 rfl
      have XF : Hid (Bx (W10.setCells (w.heap.size + 1) 0 [.int .i64 I, .int .i64 M, .int .i64 D, .int .i64 U]) (w.heap.size + 1) [.int .i64 I, .int .i64 M, .int .i64 D, .int .i64 U]) := (K10.out.at (w.heap.size + 1) [.int .i64 0, .int .i64 0, .int .i64 0, .int .i64 0] (by simp)).setAll _ rfl
      have BF : Hid (Below w.heap.size w (W10.setCells (w.heap.size + 1) 0 [.int .i64 I, .int .i64 M, .int .i64 D, .int .i64 U])) := below_setCells (by omega) _ _ _ K10.out.1
      have y0 := XF.out.c 0 rfl
      have y1 := XF.out.c 1 rfl
      have y2 := XF.out.c 2 rfl
      have y3 := XF.out.c 3 rfl
      simp only [World.setCells, Nat.zero_add, Nat.reduceAdd] at y0 y1 y2 y3
      clear XF
      go_wp2
      exact bodyPost_ret (v := .tuple #[.agg #[.int .i64 I, .int .i64 M, .int .i64 D, .int .i64 U], .int .i64 E]) (by simp [results, Try.results26, go_sem, y0, y1, y2, y3]) rfl ⟨rfl, BF.out⟩


end Go.Proofs.Ytghfgabajdghiab
