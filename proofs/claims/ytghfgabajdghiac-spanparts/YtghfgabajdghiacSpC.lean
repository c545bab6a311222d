/- Intervals of parts: Make, made, each. -/
import Derived.Test.YtghfgabajdghiacSpB
import Derived.Deep.Cut
namespace Go.Proofs.Ytghfgabajdghiac
open Go.RowKit
set_option linter.unusedVariables false

/-- an interval of parts, if it can be. -/
def gM (m d u x : Int) : Int := if pR 0 m d u = true then x else 0
def gE (m d u : Int) : Int := if pR 0 m d u = true then 0 else 10
theorem g_yes {m d u : Int} (h : pR 0 m d u = true) : gM m d u m = m ∧ gM m d u d = d ∧ gM m d u u = u ∧ gE m d u = 0 := ⟨if_pos h, if_pos h, if_pos h, if_pos h⟩
theorem g_no {m d u : Int} (h : pR 0 m d u = false) : gM m d u m = 0 ∧ gM m d u d = 0 ∧ gM m d u u = 0 ∧ gE m d u = 10 := by
  have k : ¬ pR 0 m d u = true := by rw [h]; decide
  exact ⟨if_neg k, if_neg k, if_neg k, if_neg k⟩

set_option maxRecDepth 100000 in
set_option maxHeartbeats 4000000 in
theorem pmake_true (m d u : Int)
    (R : Hid (∀ w : World, Calls Try.prog 13 #[.agg #[.int .i64 0, .int .i64 m, .int .i64 d, .int .i64 u]] w fun r' w' => r' = .returned (.bool true) ∧ Below w.heap.size w w'))
    (w : World) :
    Calls Try.prog 7 #[.int .i64 m, .int .i64 d, .int .i64 u] w fun r' w' => r' = .returned (.tuple #[.agg #[.int .i64 0, .int .i64 m, .int .i64 d, .int .i64 u], .int .i64 0]) ∧ Below w.heap.size w w' := by
  have K0 : Hid (BS w [(w.heap.size + 1, [.int .i64 0, .int .i64 m, .int .i64 d, .int .i64 u]), (w.heap.size, [.int .i64 0, .int .i64 0, .int .i64 0, .int .i64 0])] ((w.alloc (.cells #[.int .i64 0, .int .i64 0, .int .i64 0, .int .i64 0] 23)).alloc (.cells #[.int .i64 0, .int .i64 m, .int .i64 d, .int .i64 u] 23))) := (((BS.start w).new [.int .i64 0, .int .i64 0, .int .i64 0, .int .i64 0] 23 rfl).new [.int .i64 0, .int .i64 m, .int .i64 d, .int .i64 u] 23 (by simp))
  go_enter Try.func7, Try.ntmps7
  go_wp2_with fail
  refine (R.out _).mono ?_
  rintro e W1 ⟨rfl, hb⟩
  have K1 : Hid (BS w [(w.heap.size + 1, [.int .i64 0, .int .i64 m, .int .i64 d, .int .i64 u]), (w.heap.size, [.int .i64 0, .int .i64 0, .int .i64 0, .int .i64 0])] W1) := K0.out.below hb
  clear hb K0
  have c1_0_0 : W1.cell? ⟨w.heap.size + 1, 0, none⟩ = some (.int .i64 0) := (K1.out.at (w.heap.size + 1) [.int .i64 0, .int .i64 m, .int .i64 d, .int .i64 u] (by simp)).c 0 rfl
  have c1_0_1 : W1.cell? ⟨w.heap.size + 1, 1, none⟩ = some (.int .i64 m) := (K1.out.at (w.heap.size + 1) [.int .i64 0, .int .i64 m, .int .i64 d, .int .i64 u] (by simp)).c 1 rfl
  have c1_0_2 : W1.cell? ⟨w.heap.size + 1, 2, none⟩ = some (.int .i64 d) := (K1.out.at (w.heap.size + 1) [.int .i64 0, .int .i64 m, .int .i64 d, .int .i64 u] (by simp)).c 2 rfl
  have c1_0_3 : W1.cell? ⟨w.heap.size + 1, 3, none⟩ = some (.int .i64 u) := (K1.out.at (w.heap.size + 1) [.int .i64 0, .int .i64 m, .int .i64 d, .int .i64 u] (by simp)).c 3 rfl
  have c1_1_0 : W1.cell? ⟨w.heap.size, 0, none⟩ = some (.int .i64 0) := (K1.out.at (w.heap.size) [.int .i64 0, .int .i64 0, .int .i64 0, .int .i64 0] (by simp)).c 0 rfl
  have z1_1_0 : W1.frozen? ⟨w.heap.size, 0, none⟩ = false := (K1.out.at (w.heap.size) [.int .i64 0, .int .i64 0, .int .i64 0, .int .i64 0] (by simp)).f 0 rfl
  have c1_1_1 : W1.cell? ⟨w.heap.size, 1, none⟩ = some (.int .i64 0) := (K1.out.at (w.heap.size) [.int .i64 0, .int .i64 0, .int .i64 0, .int .i64 0] (by simp)).c 1 rfl
  have z1_1_1 : W1.frozen? ⟨w.heap.size, 1, none⟩ = false := (K1.out.at (w.heap.size) [.int .i64 0, .int .i64 0, .int .i64 0, .int .i64 0] (by simp)).f 1 rfl
  have c1_1_2 : W1.cell? ⟨w.heap.size, 2, none⟩ = some (.int .i64 0) := (K1.out.at (w.heap.size) [.int .i64 0, .int .i64 0, .int .i64 0, .int .i64 0] (by simp)).c 2 rfl
  have z1_1_2 : W1.frozen? ⟨w.heap.size, 2, none⟩ = false := (K1.out.at (w.heap.size) [.int .i64 0, .int .i64 0, .int .i64 0, .int .i64 0] (by simp)).f 2 rfl
  have c1_1_3 : W1.cell? ⟨w.heap.size, 3, none⟩ = some (.int .i64 0) := (K1.out.at (w.heap.size) [.int .i64 0, .int .i64 0, .int .i64 0, .int .i64 0] (by simp)).c 3 rfl
  have z1_1_3 : W1.frozen? ⟨w.heap.size, 3, none⟩ = false := (K1.out.at (w.heap.size) [.int .i64 0, .int .i64 0, .int .i64 0, .int .i64 0] (by simp)).f 3 rfl
  have XF : Hid (Bx (W1.setCells (w.heap.size) 0 [.int .i64 0, .int .i64 m, .int .i64 d, .int .i64 u]) (w.heap.size) [.int .i64 0, .int .i64 m, .int .i64 d, .int .i64 u]) := (K1.out.at (w.heap.size) [.int .i64 0, .int .i64 0, .int .i64 0, .int .i64 0] (by simp)).setAll _ rfl
  have BF : Hid (Below w.heap.size w (W1.setCells (w.heap.size) 0 [.int .i64 0, .int .i64 m, .int .i64 d, .int .i64 u])) := below_setCells (by omega) _ _ _ K1.out.1
  have y0 := XF.out.c 0 rfl
  have y1 := XF.out.c 1 rfl
  have y2 := XF.out.c 2 rfl
  have y3 := XF.out.c 3 rfl
  simp only [World.setCells, Nat.zero_add, Nat.reduceAdd] at y0 y1 y2 y3
  clear XF
  go_wp2
  exact bodyPost_ret (v := .tuple #[.agg #[.int .i64 0, .int .i64 m, .int .i64 d, .int .i64 u], .int .i64 0]) (by simp [results, Try.results7, go_sem, y0, y1, y2, y3]) rfl ⟨rfl, BF.out⟩

set_option maxRecDepth 100000 in
set_option maxHeartbeats 4000000 in
theorem pmake_false (m d u : Int)
    (R : Hid (∀ w : World, Calls Try.prog 13 #[.agg #[.int .i64 0, .int .i64 m, .int .i64 d, .int .i64 u]] w fun r' w' => r' = .returned (.bool false) ∧ Below w.heap.size w w'))
    (w : World) :
    Calls Try.prog 7 #[.int .i64 m, .int .i64 d, .int .i64 u] w fun r' w' => r' = .returned (.tuple #[.agg #[.int .i64 0, .int .i64 0, .int .i64 0, .int .i64 0], .int .i64 10]) ∧ Below w.heap.size w w' := by
  have K0 : Hid (BS w [(w.heap.size + 1, [.int .i64 0, .int .i64 m, .int .i64 d, .int .i64 u]), (w.heap.size, [.int .i64 0, .int .i64 0, .int .i64 0, .int .i64 0])] ((w.alloc (.cells #[.int .i64 0, .int .i64 0, .int .i64 0, .int .i64 0] 23)).alloc (.cells #[.int .i64 0, .int .i64 m, .int .i64 d, .int .i64 u] 23))) := (((BS.start w).new [.int .i64 0, .int .i64 0, .int .i64 0, .int .i64 0] 23 rfl).new [.int .i64 0, .int .i64 m, .int .i64 d, .int .i64 u] 23 (by simp))
  go_enter Try.func7, Try.ntmps7
  go_wp2_with fail
  refine (R.out _).mono ?_
  rintro e W1 ⟨rfl, hb⟩
  have K1 : Hid (BS w [(w.heap.size + 1, [.int .i64 0, .int .i64 m, .int .i64 d, .int .i64 u]), (w.heap.size, [.int .i64 0, .int .i64 0, .int .i64 0, .int .i64 0])] W1) := K0.out.below hb
  clear hb K0
  have c1_0_0 : W1.cell? ⟨w.heap.size + 1, 0, none⟩ = some (.int .i64 0) := (K1.out.at (w.heap.size + 1) [.int .i64 0, .int .i64 m, .int .i64 d, .int .i64 u] (by simp)).c 0 rfl
  have c1_0_1 : W1.cell? ⟨w.heap.size + 1, 1, none⟩ = some (.int .i64 m) := (K1.out.at (w.heap.size + 1) [.int .i64 0, .int .i64 m, .int .i64 d, .int .i64 u] (by simp)).c 1 rfl
  have c1_0_2 : W1.cell? ⟨w.heap.size + 1, 2, none⟩ = some (.int .i64 d) := (K1.out.at (w.heap.size + 1) [.int .i64 0, .int .i64 m, .int .i64 d, .int .i64 u] (by simp)).c 2 rfl
  have c1_0_3 : W1.cell? ⟨w.heap.size + 1, 3, none⟩ = some (.int .i64 u) := (K1.out.at (w.heap.size + 1) [.int .i64 0, .int .i64 m, .int .i64 d, .int .i64 u] (by simp)).c 3 rfl
  have c1_1_0 : W1.cell? ⟨w.heap.size, 0, none⟩ = some (.int .i64 0) := (K1.out.at (w.heap.size) [.int .i64 0, .int .i64 0, .int .i64 0, .int .i64 0] (by simp)).c 0 rfl
  have z1_1_0 : W1.frozen? ⟨w.heap.size, 0, none⟩ = false := (K1.out.at (w.heap.size) [.int .i64 0, .int .i64 0, .int .i64 0, .int .i64 0] (by simp)).f 0 rfl
  have c1_1_1 : W1.cell? ⟨w.heap.size, 1, none⟩ = some (.int .i64 0) := (K1.out.at (w.heap.size) [.int .i64 0, .int .i64 0, .int .i64 0, .int .i64 0] (by simp)).c 1 rfl
  have z1_1_1 : W1.frozen? ⟨w.heap.size, 1, none⟩ = false := (K1.out.at (w.heap.size) [.int .i64 0, .int .i64 0, .int .i64 0, .int .i64 0] (by simp)).f 1 rfl
  have c1_1_2 : W1.cell? ⟨w.heap.size, 2, none⟩ = some (.int .i64 0) := (K1.out.at (w.heap.size) [.int .i64 0, .int .i64 0, .int .i64 0, .int .i64 0] (by simp)).c 2 rfl
  have z1_1_2 : W1.frozen? ⟨w.heap.size, 2, none⟩ = false := (K1.out.at (w.heap.size) [.int .i64 0, .int .i64 0, .int .i64 0, .int .i64 0] (by simp)).f 2 rfl
  have c1_1_3 : W1.cell? ⟨w.heap.size, 3, none⟩ = some (.int .i64 0) := (K1.out.at (w.heap.size) [.int .i64 0, .int .i64 0, .int .i64 0, .int .i64 0] (by simp)).c 3 rfl
  have z1_1_3 : W1.frozen? ⟨w.heap.size, 3, none⟩ = false := (K1.out.at (w.heap.size) [.int .i64 0, .int .i64 0, .int .i64 0, .int .i64 0] (by simp)).f 3 rfl
  have XF : Hid (Bx (W1.setCells (w.heap.size) 0 [.int .i64 0, .int .i64 0, .int .i64 0, .int .i64 0]) (w.heap.size) [.int .i64 0, .int .i64 0, .int .i64 0, .int .i64 0]) := (K1.out.at (w.heap.size) [.int .i64 0, .int .i64 0, .int .i64 0, .int .i64 0] (by simp)).setAll _ rfl
  have BF : Hid (Below w.heap.size w (W1.setCells (w.heap.size) 0 [.int .i64 0, .int .i64 0, .int .i64 0, .int .i64 0])) := below_setCells (by omega) _ _ _ K1.out.1
  have y0 := XF.out.c 0 rfl
  have y1 := XF.out.c 1 rfl
  have y2 := XF.out.c 2 rfl
  have y3 := XF.out.c 3 rfl
  simp only [World.setCells, Nat.zero_add, Nat.reduceAdd] at y0 y1 y2 y3
  clear XF
  go_wp2
  exact bodyPost_ret (v := .tuple #[.agg #[.int .i64 0, .int .i64 0, .int .i64 0, .int .i64 0], .int .i64 10]) (by simp [results, Try.results7, go_sem, y0, y1, y2, y3]) rfl ⟨rfl, BF.out⟩


theorem pmake_any (m d u : Int) (u1 : -9223372036854775808 ≤ u) (u2 : u ≤ 9223372036854775807) (w : World) :
    Calls Try.prog 7 #[.int .i64 m, .int .i64 d, .int .i64 u] w fun r w' => r = .returned (.tuple #[.agg #[.int .i64 0, .int .i64 (gM m d u m), .int .i64 (gM m d u d), .int .i64 (gM m d u u)], .int .i64 (gE m d u)]) ∧ Below w.heap.size w w' := by
  cases h : pR 0 m d u
  · obtain ⟨a, b, c, e⟩ := g_no h
    rw [a, b, c, e]; exact pmake_false m d u (fun w => by rw [← h]; exact pr_any 0 m d u u1 u2 w) w
  · obtain ⟨a, b, c, e⟩ := g_yes h
    rw [a, b, c, e]; exact pmake_true m d u (fun w => by rw [← h]; exact pr_any 0 m d u u1 u2 w) w

set_option maxRecDepth 100000 in
set_option maxHeartbeats 4000000 in
theorem more_meth (b n v e : Int)
    (A : Hid (∀ w : World, Calls Try.prog 25 #[.int .i64 n, .int .i64 b] w fun r' w' => r' = .returned (.tuple #[.int .i64 v, .int .i64 e]) ∧ w' = w))
    (w : World) :
    Calls Try.prog 15 #[.int .i64 b, .int .i64 n] w fun r' w' => r' = .returned (.tuple #[.int .i64 v, .int .i64 e]) ∧ w' = w := by
  go_enter Try.func15, Try.ntmps15
  go_wp2_with fail
  refine (A.out _).mono ?_
  rintro e W1 ⟨rfl, rfl⟩
  go_wp2
  go_ret2
  exact ⟨rfl, rfl⟩

set_option maxRecDepth 100000 in
set_option maxHeartbeats 4000000 in
theorem each_more_bad (m d u x y z v1 e1 v2 e2 v3 e3 : Int) (er : Int) (he : orV e1 e2 e3 = er) (hn : er ≠ 0)
    (F1 : Hid (∀ w : World, Calls Try.prog 15 #[.int .i64 x, .int .i64 m] w fun r' w' => r' = .returned (.tuple #[.int .i64 v1, .int .i64 e1]) ∧ w' = w))
    (F2 : Hid (∀ w : World, Calls Try.prog 15 #[.int .i64 y, .int .i64 d] w fun r' w' => r' = .returned (.tuple #[.int .i64 v2, .int .i64 e2]) ∧ w' = w))
    (F3 : Hid (∀ w : World, Calls Try.prog 15 #[.int .i64 z, .int .i64 u] w fun r' w' => r' = .returned (.tuple #[.int .i64 v3, .int .i64 e3]) ∧ w' = w))
    (w : World) :
    Calls Try.prog 14 #[.agg #[.int .i64 0, .int .i64 m, .int .i64 d, .int .i64 u], .func (.func 15) #[.int .i64 x] #[], .func (.func 15) #[.int .i64 y] #[], .func (.func 15) #[.int .i64 z] #[]] w fun r' w' => r' = .returned (.tuple #[.agg #[.int .i64 0, .int .i64 0, .int .i64 0, .int .i64 0], .int .i64 er]) ∧ Below w.heap.size w w' := by
  have n1 : (er != 0) = true := bne_iff_ne.2 hn
  have K0 : Hid (BS w [(w.heap.size + 1, [.int .i64 0, .int .i64 0, .int .i64 0, .int .i64 0]), (w.heap.size, [.int .i64 0, .int .i64 m, .int .i64 d, .int .i64 u])] ((w.alloc (.cells #[.int .i64 0, .int .i64 m, .int .i64 d, .int .i64 u] 23)).alloc (.cells #[.int .i64 0, .int .i64 0, .int .i64 0, .int .i64 0] 23))) := (((BS.start w).new [.int .i64 0, .int .i64 m, .int .i64 d, .int .i64 u] 23 rfl).new [.int .i64 0, .int .i64 0, .int .i64 0, .int .i64 0] 23 (by simp))
  go_enter Try.func14, Try.ntmps14
  go_wp2_with fail
  refine (F1.out _).mono ?_
  rintro e W1 ⟨rfl, rfl⟩
  go_wp2_with fail
  refine (F2.out _).mono ?_
  rintro e W2 ⟨rfl, rfl⟩
  go_wp2_with fail
  refine (F3.out _).mono ?_
  rintro e W3 ⟨rfl, rfl⟩
  have K4 : Hid (BS w [(w.heap.size + 2, [.int .i64 e1, .int .i64 e2, .int .i64 e3]), (w.heap.size + 1, [.int .i64 0, .int .i64 0, .int .i64 0, .int .i64 0]), (w.heap.size, [.int .i64 0, .int .i64 m, .int .i64 d, .int .i64 u])] (((w.alloc (.cells #[.int .i64 0, .int .i64 m, .int .i64 d, .int .i64 u] 23)).alloc (.cells #[.int .i64 0, .int .i64 0, .int .i64 0, .int .i64 0] 23)).alloc (.cells #[.int .i64 e1, .int .i64 e2, .int .i64 e3] 26))) := K0.out.new [.int .i64 e1, .int .i64 e2, .int .i64 e3] 26 (by simp)
  go_wp2_with fail
  have OE := orE_any _ _ _ (w.heap.size + 2) _ (K4.out.first.c 0 rfl) (K4.out.first.c 1 rfl) (K4.out.first.c 2 rfl)
  rw [he] at OE
  refine OE.mono ?_
  rintro e W4 ⟨rfl, hw⟩
  have K4' : Hid (BS w [(w.heap.size + 2, [.int .i64 e1, .int .i64 e2, .int .i64 e3]), (w.heap.size + 1, [.int .i64 0, .int .i64 0, .int .i64 0, .int .i64 0]), (w.heap.size, [.int .i64 0, .int .i64 m, .int .i64 d, .int .i64 u])] W4) := by rw [hw]; exact K4.out
  clear OE hw K4 K0
  have c4_0_0 : W4.cell? ⟨w.heap.size + 2, 0, none⟩ = some (.int .i64 e1) := (K4'.out.at (w.heap.size + 2) [.int .i64 e1, .int .i64 e2, .int .i64 e3] (by simp)).c 0 rfl
  have c4_0_1 : W4.cell? ⟨w.heap.size + 2, 1, none⟩ = some (.int .i64 e2) := (K4'.out.at (w.heap.size + 2) [.int .i64 e1, .int .i64 e2, .int .i64 e3] (by simp)).c 1 rfl
  have c4_0_2 : W4.cell? ⟨w.heap.size + 2, 2, none⟩ = some (.int .i64 e3) := (K4'.out.at (w.heap.size + 2) [.int .i64 e1, .int .i64 e2, .int .i64 e3] (by simp)).c 2 rfl
  have c4_1_0 : W4.cell? ⟨w.heap.size + 1, 0, none⟩ = some (.int .i64 0) := (K4'.out.at (w.heap.size + 1) [.int .i64 0, .int .i64 0, .int .i64 0, .int .i64 0] (by simp)).c 0 rfl
  have z4_1_0 : W4.frozen? ⟨w.heap.size + 1, 0, none⟩ = false := (K4'.out.at (w.heap.size + 1) [.int .i64 0, .int .i64 0, .int .i64 0, .int .i64 0] (by simp)).f 0 rfl
  have c4_1_1 : W4.cell? ⟨w.heap.size + 1, 1, none⟩ = some (.int .i64 0) := (K4'.out.at (w.heap.size + 1) [.int .i64 0, .int .i64 0, .int .i64 0, .int .i64 0] (by simp)).c 1 rfl
  have z4_1_1 : W4.frozen? ⟨w.heap.size + 1, 1, none⟩ = false := (K4'.out.at (w.heap.size + 1) [.int .i64 0, .int .i64 0, .int .i64 0, .int .i64 0] (by simp)).f 1 rfl
  have c4_1_2 : W4.cell? ⟨w.heap.size + 1, 2, none⟩ = some (.int .i64 0) := (K4'.out.at (w.heap.size + 1) [.int .i64 0, .int .i64 0, .int .i64 0, .int .i64 0] (by simp)).c 2 rfl
  have z4_1_2 : W4.frozen? ⟨w.heap.size + 1, 2, none⟩ = false := (K4'.out.at (w.heap.size + 1) [.int .i64 0, .int .i64 0, .int .i64 0, .int .i64 0] (by simp)).f 2 rfl
  have c4_1_3 : W4.cell? ⟨w.heap.size + 1, 3, none⟩ = some (.int .i64 0) := (K4'.out.at (w.heap.size + 1) [.int .i64 0, .int .i64 0, .int .i64 0, .int .i64 0] (by simp)).c 3 rfl
  have z4_1_3 : W4.frozen? ⟨w.heap.size + 1, 3, none⟩ = false := (K4'.out.at (w.heap.size + 1) [.int .i64 0, .int .i64 0, .int .i64 0, .int .i64 0] (by simp)).f 3 rfl
  have c4_2_0 : W4.cell? ⟨w.heap.size, 0, none⟩ = some (.int .i64 0) := (K4'.out.at (w.heap.size) [.int .i64 0, .int .i64 m, .int .i64 d, .int .i64 u] (by simp)).c 0 rfl
  have c4_2_1 : W4.cell? ⟨w.heap.size, 1, none⟩ = some (.int .i64 m) := (K4'.out.at (w.heap.size) [.int .i64 0, .int .i64 m, .int .i64 d, .int .i64 u] (by simp)).c 1 rfl
  have c4_2_2 : W4.cell? ⟨w.heap.size, 2, none⟩ = some (.int .i64 d) := (K4'.out.at (w.heap.size) [.int .i64 0, .int .i64 m, .int .i64 d, .int .i64 u] (by simp)).c 2 rfl
  have c4_2_3 : W4.cell? ⟨w.heap.size, 3, none⟩ = some (.int .i64 u) := (K4'.out.at (w.heap.size) [.int .i64 0, .int .i64 m, .int .i64 d, .int .i64 u] (by simp)).c 3 rfl
  have XF : Hid (Bx (W4.setCells (w.heap.size + 1) 0 [.int .i64 0, .int .i64 0, .int .i64 0, .int .i64 0]) (w.heap.size + 1) [.int .i64 0, .int .i64 0, .int .i64 0, .int .i64 0]) := (K4'.out.at (w.heap.size + 1) [.int .i64 0, .int .i64 0, .int .i64 0, .int .i64 0] (by simp)).setAll _ rfl
  have BF : Hid (Below w.heap.size w (W4.setCells (w.heap.size + 1) 0 [.int .i64 0, .int .i64 0, .int .i64 0, .int .i64 0])) := below_setCells (by omega) _ _ _ K4'.out.1
  have y0 := XF.out.c 0 rfl
  have y1 := XF.out.c 1 rfl
  have y2 := XF.out.c 2 rfl
  have y3 := XF.out.c 3 rfl
  simp only [World.setCells, Nat.zero_add, Nat.reduceAdd] at y0 y1 y2 y3
  clear XF
  go_wp2
  exact bodyPost_ret (v := .tuple #[.agg #[.int .i64 0, .int .i64 0, .int .i64 0, .int .i64 0], .int .i64 er]) (by simp [results, Try.results14, go_sem, y0, y1, y2, y3]) rfl ⟨rfl, BF.out⟩

set_option maxRecDepth 100000 in
set_option maxHeartbeats 4000000 in
theorem each_more_ok (m d u x y z v1 e1 v2 e2 v3 e3 : Int) (M D U E : Int) (he : orV e1 e2 e3 = 0)
    (F1 : Hid (∀ w : World, Calls Try.prog 15 #[.int .i64 x, .int .i64 m] w fun r' w' => r' = .returned (.tuple #[.int .i64 v1, .int .i64 e1]) ∧ w' = w))
    (F2 : Hid (∀ w : World, Calls Try.prog 15 #[.int .i64 y, .int .i64 d] w fun r' w' => r' = .returned (.tuple #[.int .i64 v2, .int .i64 e2]) ∧ w' = w))
    (F3 : Hid (∀ w : World, Calls Try.prog 15 #[.int .i64 z, .int .i64 u] w fun r' w' => r' = .returned (.tuple #[.int .i64 v3, .int .i64 e3]) ∧ w' = w))
    (MK : Hid (∀ w : World, Calls Try.prog 7 #[.int .i64 v1, .int .i64 v2, .int .i64 v3] w fun r' w' => r' = .returned (.tuple #[.agg #[.int .i64 0, .int .i64 M, .int .i64 D, .int .i64 U], .int .i64 E]) ∧ Below w.heap.size w w'))
    (w : World) :
    Calls Try.prog 14 #[.agg #[.int .i64 0, .int .i64 m, .int .i64 d, .int .i64 u], .func (.func 15) #[.int .i64 x] #[], .func (.func 15) #[.int .i64 y] #[], .func (.func 15) #[.int .i64 z] #[]] w fun r' w' => r' = .returned (.tuple #[.agg #[.int .i64 0, .int .i64 M, .int .i64 D, .int .i64 U], .int .i64 E]) ∧ Below w.heap.size w w' := by
  have K0 : Hid (BS w [(w.heap.size + 1, [.int .i64 0, .int .i64 0, .int .i64 0, .int .i64 0]), (w.heap.size, [.int .i64 0, .int .i64 m, .int .i64 d, .int .i64 u])] ((w.alloc (.cells #[.int .i64 0, .int .i64 m, .int .i64 d, .int .i64 u] 23)).alloc (.cells #[.int .i64 0, .int .i64 0, .int .i64 0, .int .i64 0] 23))) := (((BS.start w).new [.int .i64 0, .int .i64 m, .int .i64 d, .int .i64 u] 23 rfl).new [.int .i64 0, .int .i64 0, .int .i64 0, .int .i64 0] 23 (by simp))
  go_enter Try.func14, Try.ntmps14
  go_wp2_with fail
  refine (F1.out _).mono ?_
  rintro e W1 ⟨rfl, rfl⟩
  go_wp2_with fail
  refine (F2.out _).mono ?_
  rintro e W2 ⟨rfl, rfl⟩
  go_wp2_with fail
  refine (F3.out _).mono ?_
  rintro e W3 ⟨rfl, rfl⟩
  have K4 : Hid (BS w [(w.heap.size + 2, [.int .i64 e1, .int .i64 e2, .int .i64 e3]), (w.heap.size + 1, [.int .i64 0, .int .i64 0, .int .i64 0, .int .i64 0]), (w.heap.size, [.int .i64 0, .int .i64 m, .int .i64 d, .int .i64 u])] (((w.alloc (.cells #[.int .i64 0, .int .i64 m, .int .i64 d, .int .i64 u] 23)).alloc (.cells #[.int .i64 0, .int .i64 0, .int .i64 0, .int .i64 0] 23)).alloc (.cells #[.int .i64 e1, .int .i64 e2, .int .i64 e3] 26))) := K0.out.new [.int .i64 e1, .int .i64 e2, .int .i64 e3] 26 (by simp)
  go_wp2_with fail
  have OE := orE_any _ _ _ (w.heap.size + 2) _ (K4.out.first.c 0 rfl) (K4.out.first.c 1 rfl) (K4.out.first.c 2 rfl)
  rw [he] at OE
  refine OE.mono ?_
  rintro e W4 ⟨rfl, hw⟩
  have K4' : Hid (BS w [(w.heap.size + 2, [.int .i64 e1, .int .i64 e2, .int .i64 e3]), (w.heap.size + 1, [.int .i64 0, .int .i64 0, .int .i64 0, .int .i64 0]), (w.heap.size, [.int .i64 0, .int .i64 m, .int .i64 d, .int .i64 u])] W4) := by rw [hw]; exact K4.out
  clear OE hw K4 K0
  have c4_0_0 : W4.cell? ⟨w.heap.size + 2, 0, none⟩ = some (.int .i64 e1) := (K4'.out.at (w.heap.size + 2) [.int .i64 e1, .int .i64 e2, .int .i64 e3] (by simp)).c 0 rfl
  have c4_0_1 : W4.cell? ⟨w.heap.size + 2, 1, none⟩ = some (.int .i64 e2) := (K4'.out.at (w.heap.size + 2) [.int .i64 e1, .int .i64 e2, .int .i64 e3] (by simp)).c 1 rfl
  have c4_0_2 : W4.cell? ⟨w.heap.size + 2, 2, none⟩ = some (.int .i64 e3) := (K4'.out.at (w.heap.size + 2) [.int .i64 e1, .int .i64 e2, .int .i64 e3] (by simp)).c 2 rfl
  have c4_1_0 : W4.cell? ⟨w.heap.size + 1, 0, none⟩ = some (.int .i64 0) := (K4'.out.at (w.heap.size + 1) [.int .i64 0, .int .i64 0, .int .i64 0, .int .i64 0] (by simp)).c 0 rfl
  have z4_1_0 : W4.frozen? ⟨w.heap.size + 1, 0, none⟩ = false := (K4'.out.at (w.heap.size + 1) [.int .i64 0, .int .i64 0, .int .i64 0, .int .i64 0] (by simp)).f 0 rfl
  have c4_1_1 : W4.cell? ⟨w.heap.size + 1, 1, none⟩ = some (.int .i64 0) := (K4'.out.at (w.heap.size + 1) [.int .i64 0, .int .i64 0, .int .i64 0, .int .i64 0] (by simp)).c 1 rfl
  have z4_1_1 : W4.frozen? ⟨w.heap.size + 1, 1, none⟩ = false := (K4'.out.at (w.heap.size + 1) [.int .i64 0, .int .i64 0, .int .i64 0, .int .i64 0] (by simp)).f 1 rfl
  have c4_1_2 : W4.cell? ⟨w.heap.size + 1, 2, none⟩ = some (.int .i64 0) := (K4'.out.at (w.heap.size + 1) [.int .i64 0, .int .i64 0, .int .i64 0, .int .i64 0] (by simp)).c 2 rfl
  have z4_1_2 : W4.frozen? ⟨w.heap.size + 1, 2, none⟩ = false := (K4'.out.at (w.heap.size + 1) [.int .i64 0, .int .i64 0, .int .i64 0, .int .i64 0] (by simp)).f 2 rfl
  have c4_1_3 : W4.cell? ⟨w.heap.size + 1, 3, none⟩ = some (.int .i64 0) := (K4'.out.at (w.heap.size + 1) [.int .i64 0, .int .i64 0, .int .i64 0, .int .i64 0] (by simp)).c 3 rfl
  have z4_1_3 : W4.frozen? ⟨w.heap.size + 1, 3, none⟩ = false := (K4'.out.at (w.heap.size + 1) [.int .i64 0, .int .i64 0, .int .i64 0, .int .i64 0] (by simp)).f 3 rfl
  have c4_2_0 : W4.cell? ⟨w.heap.size, 0, none⟩ = some (.int .i64 0) := (K4'.out.at (w.heap.size) [.int .i64 0, .int .i64 m, .int .i64 d, .int .i64 u] (by simp)).c 0 rfl
  have c4_2_1 : W4.cell? ⟨w.heap.size, 1, none⟩ = some (.int .i64 m) := (K4'.out.at (w.heap.size) [.int .i64 0, .int .i64 m, .int .i64 d, .int .i64 u] (by simp)).c 1 rfl
  have c4_2_2 : W4.cell? ⟨w.heap.size, 2, none⟩ = some (.int .i64 d) := (K4'.out.at (w.heap.size) [.int .i64 0, .int .i64 m, .int .i64 d, .int .i64 u] (by simp)).c 2 rfl
  have c4_2_3 : W4.cell? ⟨w.heap.size, 3, none⟩ = some (.int .i64 u) := (K4'.out.at (w.heap.size) [.int .i64 0, .int .i64 m, .int .i64 d, .int .i64 u] (by simp)).c 3 rfl
  go_wp2_with fail
  refine (MK.out _).mono ?_
  rintro e W5 ⟨rfl, hb⟩
  have K5 : Hid (BS w [(w.heap.size + 2, [.int .i64 e1, .int .i64 e2, .int .i64 e3]), (w.heap.size + 1, [.int .i64 0, .int .i64 0, .int .i64 0, .int .i64 0]), (w.heap.size, [.int .i64 0, .int .i64 m, .int .i64 d, .int .i64 u])] W5) := K4'.out.below hb
  clear c4_0_0 c4_0_1 c4_0_2 c4_1_0 z4_1_0 c4_1_1 z4_1_1 c4_1_2 z4_1_2 c4_1_3 z4_1_3 c4_2_0 c4_2_1 c4_2_2 c4_2_3
  clear hb K4'
  have c5_0_0 : W5.cell? ⟨w.heap.size + 2, 0, none⟩ = some (.int .i64 e1) := (K5.out.at (w.heap.size + 2) [.int .i64 e1, .int .i64 e2, .int .i64 e3] (by simp)).c 0 rfl
  have c5_0_1 : W5.cell? ⟨w.heap.size + 2, 1, none⟩ = some (.int .i64 e2) := (K5.out.at (w.heap.size + 2) [.int .i64 e1, .int .i64 e2, .int .i64 e3] (by simp)).c 1 rfl
  have c5_0_2 : W5.cell? ⟨w.heap.size + 2, 2, none⟩ = some (.int .i64 e3) := (K5.out.at (w.heap.size + 2) [.int .i64 e1, .int .i64 e2, .int .i64 e3] (by simp)).c 2 rfl
  have c5_1_0 : W5.cell? ⟨w.heap.size + 1, 0, none⟩ = some (.int .i64 0) := (K5.out.at (w.heap.size + 1) [.int .i64 0, .int .i64 0, .int .i64 0, .int .i64 0] (by simp)).c 0 rfl
  have z5_1_0 : W5.frozen? ⟨w.heap.size + 1, 0, none⟩ = false := (K5.out.at (w.heap.size + 1) [.int .i64 0, .int .i64 0, .int .i64 0, .int .i64 0] (by simp)).f 0 rfl
  have c5_1_1 : W5.cell? ⟨w.heap.size + 1, 1, none⟩ = some (.int .i64 0) := (K5.out.at (w.heap.size + 1) [.int .i64 0, .int .i64 0, .int .i64 0, .int .i64 0] (by simp)).c 1 rfl
  have z5_1_1 : W5.frozen? ⟨w.heap.size + 1, 1, none⟩ = false := (K5.out.at (w.heap.size + 1) [.int .i64 0, .int .i64 0, .int .i64 0, .int .i64 0] (by simp)).f 1 rfl
  have c5_1_2 : W5.cell? ⟨w.heap.size + 1, 2, none⟩ = some (.int .i64 0) := (K5.out.at (w.heap.size + 1) [.int .i64 0, .int .i64 0, .int .i64 0, .int .i64 0] (by simp)).c 2 rfl
  have z5_1_2 : W5.frozen? ⟨w.heap.size + 1, 2, none⟩ = false := (K5.out.at (w.heap.size + 1) [.int .i64 0, .int .i64 0, .int .i64 0, .int .i64 0] (by simp)).f 2 rfl
  have c5_1_3 : W5.cell? ⟨w.heap.size + 1, 3, none⟩ = some (.int .i64 0) := (K5.out.at (w.heap.size + 1) [.int .i64 0, .int .i64 0, .int .i64 0, .int .i64 0] (by simp)).c 3 rfl
  have z5_1_3 : W5.frozen? ⟨w.heap.size + 1, 3, none⟩ = false := (K5.out.at (w.heap.size + 1) [.int .i64 0, .int .i64 0, .int .i64 0, .int .i64 0] (by simp)).f 3 rfl
  have c5_2_0 : W5.cell? ⟨w.heap.size, 0, none⟩ = some (.int .i64 0) := (K5.out.at (w.heap.size) [.int .i64 0, .int .i64 m, .int .i64 d, .int .i64 u] (by simp)).c 0 rfl
  have c5_2_1 : W5.cell? ⟨w.heap.size, 1, none⟩ = some (.int .i64 m) := (K5.out.at (w.heap.size) [.int .i64 0, .int .i64 m, .int .i64 d, .int .i64 u] (by simp)).c 1 rfl
  have c5_2_2 : W5.cell? ⟨w.heap.size, 2, none⟩ = some (.int .i64 d) := (K5.out.at (w.heap.size) [.int .i64 0, .int .i64 m, .int .i64 d, .int .i64 u] (by simp)).c 2 rfl
  have c5_2_3 : W5.cell? ⟨w.heap.size, 3, none⟩ = some (.int .i64 u) := (K5.out.at (w.heap.size) [.int .i64 0, .int .i64 m, .int .i64 d, .int .i64 u] (by simp)).c 3 rfl
  have XF : Hid (Bx (W5.setCells (w.heap.size + 1) 0 [.int .i64 0, .int .i64 M, .int .i64 D, .int .i64 U]) (w.heap.size + 1) [.int .i64 0, .int .i64 M, .int .i64 D, .int .i64 U]) := (K5.out.at (w.heap.size + 1) [.int .i64 0, .int .i64 0, .int .i64 0, .int .i64 0] (by simp)).setAll _ rfl
  have BF : Hid (Below w.heap.size w (W5.setCells (w.heap.size + 1) 0 [.int .i64 0, .int .i64 M, .int .i64 D, .int .i64 U])) := below_setCells (by omega) _ _ _ K5.out.1
  have y0 := XF.out.c 0 rfl
  have y1 := XF.out.c 1 rfl
  have y2 := XF.out.c 2 rfl
  have y3 := XF.out.c 3 rfl
  simp only [World.setCells, Nat.zero_add, Nat.reduceAdd] at y0 y1 y2 y3
  clear XF
  go_wp2
  exact bodyPost_ret (v := .tuple #[.agg #[.int .i64 0, .int .i64 M, .int .i64 D, .int .i64 U], .int .i64 E]) (by simp [results, Try.results14, go_sem, y0, y1, y2, y3]) rfl ⟨rfl, BF.out⟩

set_option maxRecDepth 100000 in
set_option maxHeartbeats 4000000 in
theorem times_meth (b n v e : Int)
    (A : Hid (∀ w : World, Calls Try.prog 30 #[.int .i64 n, .int .i64 b] w fun r' w' => r' = .returned (.tuple #[.int .i64 v, .int .i64 e]) ∧ Below w.heap.size w w'))
    (w : World) :
    Calls Try.prog 27 #[.int .i64 b, .int .i64 n] w fun r' w' => r' = .returned (.tuple #[.int .i64 v, .int .i64 e]) ∧ Below w.heap.size w w' := by
  have K0 : Hid (BS w [] w) := (BS.start w)
  go_enter Try.func27, Try.ntmps27
  go_wp2_with fail
  refine (A.out _).mono ?_
  rintro e W1 ⟨rfl, hb⟩
  have K1 : Hid (BS w [] W1) := K0.out.below hb
  clear hb K0
  go_wp2
  exact bodyPost_ret (v := .tuple #[.int .i64 v, .int .i64 e]) (by simp [results, Try.results27, go_sem]) rfl ⟨rfl, K1.out.1⟩

set_option maxRecDepth 100000 in
set_option maxHeartbeats 4000000 in
theorem each_times_bad (m d u x y z v1 e1 v2 e2 v3 e3 : Int) (er : Int) (he : orV e1 e2 e3 = er) (hn : er ≠ 0)
    (F1 : Hid (∀ w : World, Calls Try.prog 27 #[.int .i64 x, .int .i64 m] w fun r' w' => r' = .returned (.tuple #[.int .i64 v1, .int .i64 e1]) ∧ Below w.heap.size w w'))
    (F2 : Hid (∀ w : World, Calls Try.prog 27 #[.int .i64 y, .int .i64 d] w fun r' w' => r' = .returned (.tuple #[.int .i64 v2, .int .i64 e2]) ∧ Below w.heap.size w w'))
    (F3 : Hid (∀ w : World, Calls Try.prog 27 #[.int .i64 z, .int .i64 u] w fun r' w' => r' = .returned (.tuple #[.int .i64 v3, .int .i64 e3]) ∧ Below w.heap.size w w'))
    (w : World) :
    Calls Try.prog 14 #[.agg #[.int .i64 0, .int .i64 m, .int .i64 d, .int .i64 u], .func (.func 27) #[.int .i64 x] #[], .func (.func 27) #[.int .i64 y] #[], .func (.func 27) #[.int .i64 z] #[]] w fun r' w' => r' = .returned (.tuple #[.agg #[.int .i64 0, .int .i64 0, .int .i64 0, .int .i64 0], .int .i64 er]) ∧ Below w.heap.size w w' := by
  have n1 : (er != 0) = true := bne_iff_ne.2 hn
  have K0 : Hid (BS w [(w.heap.size + 1, [.int .i64 0, .int .i64 0, .int .i64 0, .int .i64 0]), (w.heap.size, [.int .i64 0, .int .i64 m, .int .i64 d, .int .i64 u])] ((w.alloc (.cells #[.int .i64 0, .int .i64 m, .int .i64 d, .int .i64 u] 23)).alloc (.cells #[.int .i64 0, .int .i64 0, .int .i64 0, .int .i64 0] 23))) := (((BS.start w).new [.int .i64 0, .int .i64 m, .int .i64 d, .int .i64 u] 23 rfl).new [.int .i64 0, .int .i64 0, .int .i64 0, .int .i64 0] 23 (by simp))
  go_enter Try.func14, Try.ntmps14
  go_wp2_with fail
  refine (F1.out _).mono ?_
  rintro e W1 ⟨rfl, hb⟩
  have K1 : Hid (BS w [(w.heap.size + 1, [.int .i64 0, .int .i64 0, .int .i64 0, .int .i64 0]), (w.heap.size, [.int .i64 0, .int .i64 m, .int .i64 d, .int .i64 u])] W1) := K0.out.below hb
  clear hb K0
  have c1_0_0 : W1.cell? ⟨w.heap.size + 1, 0, none⟩ = some (.int .i64 0) := (K1.out.at (w.heap.size + 1) [.int .i64 0, .int .i64 0, .int .i64 0, .int .i64 0] (by simp)).c 0 rfl
  have c1_0_1 : W1.cell? ⟨w.heap.size + 1, 1, none⟩ = some (.int .i64 0) := (K1.out.at (w.heap.size + 1) [.int .i64 0, .int .i64 0, .int .i64 0, .int .i64 0] (by simp)).c 1 rfl
  have c1_0_2 : W1.cell? ⟨w.heap.size + 1, 2, none⟩ = some (.int .i64 0) := (K1.out.at (w.heap.size + 1) [.int .i64 0, .int .i64 0, .int .i64 0, .int .i64 0] (by simp)).c 2 rfl
  have c1_0_3 : W1.cell? ⟨w.heap.size + 1, 3, none⟩ = some (.int .i64 0) := (K1.out.at (w.heap.size + 1) [.int .i64 0, .int .i64 0, .int .i64 0, .int .i64 0] (by simp)).c 3 rfl
  have c1_1_0 : W1.cell? ⟨w.heap.size, 0, none⟩ = some (.int .i64 0) := (K1.out.at (w.heap.size) [.int .i64 0, .int .i64 m, .int .i64 d, .int .i64 u] (by simp)).c 0 rfl
  have c1_1_1 : W1.cell? ⟨w.heap.size, 1, none⟩ = some (.int .i64 m) := (K1.out.at (w.heap.size) [.int .i64 0, .int .i64 m, .int .i64 d, .int .i64 u] (by simp)).c 1 rfl
  have c1_1_2 : W1.cell? ⟨w.heap.size, 2, none⟩ = some (.int .i64 d) := (K1.out.at (w.heap.size) [.int .i64 0, .int .i64 m, .int .i64 d, .int .i64 u] (by simp)).c 2 rfl
  have c1_1_3 : W1.cell? ⟨w.heap.size, 3, none⟩ = some (.int .i64 u) := (K1.out.at (w.heap.size) [.int .i64 0, .int .i64 m, .int .i64 d, .int .i64 u] (by simp)).c 3 rfl
  go_wp2_with fail
  refine (F2.out _).mono ?_
  rintro e W2 ⟨rfl, hb⟩
  have K2 : Hid (BS w [(w.heap.size + 1, [.int .i64 0, .int .i64 0, .int .i64 0, .int .i64 0]), (w.heap.size, [.int .i64 0, .int .i64 m, .int .i64 d, .int .i64 u])] W2) := K1.out.below hb
  clear c1_0_0 c1_0_1 c1_0_2 c1_0_3 c1_1_0 c1_1_1 c1_1_2 c1_1_3
  clear hb K1
  have c2_0_0 : W2.cell? ⟨w.heap.size + 1, 0, none⟩ = some (.int .i64 0) := (K2.out.at (w.heap.size + 1) [.int .i64 0, .int .i64 0, .int .i64 0, .int .i64 0] (by simp)).c 0 rfl
  have c2_0_1 : W2.cell? ⟨w.heap.size + 1, 1, none⟩ = some (.int .i64 0) := (K2.out.at (w.heap.size + 1) [.int .i64 0, .int .i64 0, .int .i64 0, .int .i64 0] (by simp)).c 1 rfl
  have c2_0_2 : W2.cell? ⟨w.heap.size + 1, 2, none⟩ = some (.int .i64 0) := (K2.out.at (w.heap.size + 1) [.int .i64 0, .int .i64 0, .int .i64 0, .int .i64 0] (by simp)).c 2 rfl
  have c2_0_3 : W2.cell? ⟨w.heap.size + 1, 3, none⟩ = some (.int .i64 0) := (K2.out.at (w.heap.size + 1) [.int .i64 0, .int .i64 0, .int .i64 0, .int .i64 0] (by simp)).c 3 rfl
  have c2_1_0 : W2.cell? ⟨w.heap.size, 0, none⟩ = some (.int .i64 0) := (K2.out.at (w.heap.size) [.int .i64 0, .int .i64 m, .int .i64 d, .int .i64 u] (by simp)).c 0 rfl
  have c2_1_1 : W2.cell? ⟨w.heap.size, 1, none⟩ = some (.int .i64 m) := (K2.out.at (w.heap.size) [.int .i64 0, .int .i64 m, .int .i64 d, .int .i64 u] (by simp)).c 1 rfl
  have c2_1_2 : W2.cell? ⟨w.heap.size, 2, none⟩ = some (.int .i64 d) := (K2.out.at (w.heap.size) [.int .i64 0, .int .i64 m, .int .i64 d, .int .i64 u] (by simp)).c 2 rfl
  have c2_1_3 : W2.cell? ⟨w.heap.size, 3, none⟩ = some (.int .i64 u) := (K2.out.at (w.heap.size) [.int .i64 0, .int .i64 m, .int .i64 d, .int .i64 u] (by simp)).c 3 rfl
  go_wp2_with fail
  refine (F3.out _).mono ?_
  rintro e W3 ⟨rfl, hb⟩
  have K3 : Hid (BS w [(w.heap.size + 1, [.int .i64 0, .int .i64 0, .int .i64 0, .int .i64 0]), (w.heap.size, [.int .i64 0, .int .i64 m, .int .i64 d, .int .i64 u])] W3) := K2.out.below hb
  clear c2_0_0 c2_0_1 c2_0_2 c2_0_3 c2_1_0 c2_1_1 c2_1_2 c2_1_3
  clear hb K2
  have c3_0_0 : W3.cell? ⟨w.heap.size + 1, 0, none⟩ = some (.int .i64 0) := (K3.out.at (w.heap.size + 1) [.int .i64 0, .int .i64 0, .int .i64 0, .int .i64 0] (by simp)).c 0 rfl
  have c3_0_1 : W3.cell? ⟨w.heap.size + 1, 1, none⟩ = some (.int .i64 0) := (K3.out.at (w.heap.size + 1) [.int .i64 0, .int .i64 0, .int .i64 0, .int .i64 0] (by simp)).c 1 rfl
  have c3_0_2 : W3.cell? ⟨w.heap.size + 1, 2, none⟩ = some (.int .i64 0) := (K3.out.at (w.heap.size + 1) [.int .i64 0, .int .i64 0, .int .i64 0, .int .i64 0] (by simp)).c 2 rfl
  have c3_0_3 : W3.cell? ⟨w.heap.size + 1, 3, none⟩ = some (.int .i64 0) := (K3.out.at (w.heap.size + 1) [.int .i64 0, .int .i64 0, .int .i64 0, .int .i64 0] (by simp)).c 3 rfl
  have c3_1_0 : W3.cell? ⟨w.heap.size, 0, none⟩ = some (.int .i64 0) := (K3.out.at (w.heap.size) [.int .i64 0, .int .i64 m, .int .i64 d, .int .i64 u] (by simp)).c 0 rfl
  have c3_1_1 : W3.cell? ⟨w.heap.size, 1, none⟩ = some (.int .i64 m) := (K3.out.at (w.heap.size) [.int .i64 0, .int .i64 m, .int .i64 d, .int .i64 u] (by simp)).c 1 rfl
  have c3_1_2 : W3.cell? ⟨w.heap.size, 2, none⟩ = some (.int .i64 d) := (K3.out.at (w.heap.size) [.int .i64 0, .int .i64 m, .int .i64 d, .int .i64 u] (by simp)).c 2 rfl
  have c3_1_3 : W3.cell? ⟨w.heap.size, 3, none⟩ = some (.int .i64 u) := (K3.out.at (w.heap.size) [.int .i64 0, .int .i64 m, .int .i64 d, .int .i64 u] (by simp)).c 3 rfl
  have K4 : Hid (BS w [(W3.heap.size, [.int .i64 e1, .int .i64 e2, .int .i64 e3]), (w.heap.size + 1, [.int .i64 0, .int .i64 0, .int .i64 0, .int .i64 0]), (w.heap.size, [.int .i64 0, .int .i64 m, .int .i64 d, .int .i64 u])] (W3.alloc (.cells #[.int .i64 e1, .int .i64 e2, .int .i64 e3] 26))) := K3.out.new [.int .i64 e1, .int .i64 e2, .int .i64 e3] 26 rfl
  go_wp2_with fail
  have OE := orE_any _ _ _ (W3.heap.size) _ (K4.out.first.c 0 rfl) (K4.out.first.c 1 rfl) (K4.out.first.c 2 rfl)
  rw [he] at OE
  refine OE.mono ?_
  rintro e W4 ⟨rfl, hw⟩
  have K4' : Hid (BS w [(W3.heap.size, [.int .i64 e1, .int .i64 e2, .int .i64 e3]), (w.heap.size + 1, [.int .i64 0, .int .i64 0, .int .i64 0, .int .i64 0]), (w.heap.size, [.int .i64 0, .int .i64 m, .int .i64 d, .int .i64 u])] W4) := by rw [hw]; exact K4.out
  clear c3_0_0 c3_0_1 c3_0_2 c3_0_3 c3_1_0 c3_1_1 c3_1_2 c3_1_3
  clear OE hw K4 K3
  have c4_0_0 : W4.cell? ⟨W3.heap.size, 0, none⟩ = some (.int .i64 e1) := (K4'.out.at (W3.heap.size) [.int .i64 e1, .int .i64 e2, .int .i64 e3] (by simp)).c 0 rfl
  have c4_0_1 : W4.cell? ⟨W3.heap.size, 1, none⟩ = some (.int .i64 e2) := (K4'.out.at (W3.heap.size) [.int .i64 e1, .int .i64 e2, .int .i64 e3] (by simp)).c 1 rfl
  have c4_0_2 : W4.cell? ⟨W3.heap.size, 2, none⟩ = some (.int .i64 e3) := (K4'.out.at (W3.heap.size) [.int .i64 e1, .int .i64 e2, .int .i64 e3] (by simp)).c 2 rfl
  have c4_1_0 : W4.cell? ⟨w.heap.size + 1, 0, none⟩ = some (.int .i64 0) := (K4'.out.at (w.heap.size + 1) [.int .i64 0, .int .i64 0, .int .i64 0, .int .i64 0] (by simp)).c 0 rfl
  have z4_1_0 : W4.frozen? ⟨w.heap.size + 1, 0, none⟩ = false := (K4'.out.at (w.heap.size + 1) [.int .i64 0, .int .i64 0, .int .i64 0, .int .i64 0] (by simp)).f 0 rfl
  have c4_1_1 : W4.cell? ⟨w.heap.size + 1, 1, none⟩ = some (.int .i64 0) := (K4'.out.at (w.heap.size + 1) [.int .i64 0, .int .i64 0, .int .i64 0, .int .i64 0] (by simp)).c 1 rfl
  have z4_1_1 : W4.frozen? ⟨w.heap.size + 1, 1, none⟩ = false := (K4'.out.at (w.heap.size + 1) [.int .i64 0, .int .i64 0, .int .i64 0, .int .i64 0] (by simp)).f 1 rfl
  have c4_1_2 : W4.cell? ⟨w.heap.size + 1, 2, none⟩ = some (.int .i64 0) := (K4'.out.at (w.heap.size + 1) [.int .i64 0, .int .i64 0, .int .i64 0, .int .i64 0] (by simp)).c 2 rfl
  have z4_1_2 : W4.frozen? ⟨w.heap.size + 1, 2, none⟩ = false := (K4'.out.at (w.heap.size + 1) [.int .i64 0, .int .i64 0, .int .i64 0, .int .i64 0] (by simp)).f 2 rfl
  have c4_1_3 : W4.cell? ⟨w.heap.size + 1, 3, none⟩ = some (.int .i64 0) := (K4'.out.at (w.heap.size + 1) [.int .i64 0, .int .i64 0, .int .i64 0, .int .i64 0] (by simp)).c 3 rfl
  have z4_1_3 : W4.frozen? ⟨w.heap.size + 1, 3, none⟩ = false := (K4'.out.at (w.heap.size + 1) [.int .i64 0, .int .i64 0, .int .i64 0, .int .i64 0] (by simp)).f 3 rfl
  have c4_2_0 : W4.cell? ⟨w.heap.size, 0, none⟩ = some (.int .i64 0) := (K4'.out.at (w.heap.size) [.int .i64 0, .int .i64 m, .int .i64 d, .int .i64 u] (by simp)).c 0 rfl
  have c4_2_1 : W4.cell? ⟨w.heap.size, 1, none⟩ = some (.int .i64 m) := (K4'.out.at (w.heap.size) [.int .i64 0, .int .i64 m, .int .i64 d, .int .i64 u] (by simp)).c 1 rfl
  have c4_2_2 : W4.cell? ⟨w.heap.size, 2, none⟩ = some (.int .i64 d) := (K4'.out.at (w.heap.size) [.int .i64 0, .int .i64 m, .int .i64 d, .int .i64 u] (by simp)).c 2 rfl
  have c4_2_3 : W4.cell? ⟨w.heap.size, 3, none⟩ = some (.int .i64 u) := (K4'.out.at (w.heap.size) [.int .i64 0, .int .i64 m, .int .i64 d, .int .i64 u] (by simp)).c 3 rfl
  have XF : Hid (Bx (W4.setCells (w.heap.size + 1) 0 [.int .i64 0, .int .i64 0, .int .i64 0, .int .i64 0]) (w.heap.size + 1) [.int .i64 0, .int .i64 0, .int .i64 0, .int .i64 0]) := (K4'.out.at (w.heap.size + 1) [.int .i64 0, .int .i64 0, .int .i64 0, .int .i64 0] (by simp)).setAll _ rfl
  have BF : Hid (Below w.heap.size w (W4.setCells (w.heap.size + 1) 0 [.int .i64 0, .int .i64 0, .int .i64 0, .int .i64 0])) := below_setCells (by omega) _ _ _ K4'.out.1
  have y0 := XF.out.c 0 rfl
  have y1 := XF.out.c 1 rfl
  have y2 := XF.out.c 2 rfl
  have y3 := XF.out.c 3 rfl
  simp only [World.setCells, Nat.zero_add, Nat.reduceAdd] at y0 y1 y2 y3
  clear XF
  go_wp2
  exact bodyPost_ret (v := .tuple #[.agg #[.int .i64 0, .int .i64 0, .int .i64 0, .int .i64 0], .int .i64 er]) (by simp [results, Try.results14, go_sem, y0, y1, y2, y3]) rfl ⟨rfl, BF.out⟩

set_option maxRecDepth 100000 in
set_option maxHeartbeats 4000000 in
theorem each_times_ok (m d u x y z v1 e1 v2 e2 v3 e3 : Int) (M D U E : Int) (he : orV e1 e2 e3 = 0)
    (F1 : Hid (∀ w : World, Calls Try.prog 27 #[.int .i64 x, .int .i64 m] w fun r' w' => r' = .returned (.tuple #[.int .i64 v1, .int .i64 e1]) ∧ Below w.heap.size w w'))
    (F2 : Hid (∀ w : World, Calls Try.prog 27 #[.int .i64 y, .int .i64 d] w fun r' w' => r' = .returned (.tuple #[.int .i64 v2, .int .i64 e2]) ∧ Below w.heap.size w w'))
    (F3 : Hid (∀ w : World, Calls Try.prog 27 #[.int .i64 z, .int .i64 u] w fun r' w' => r' = .returned (.tuple #[.int .i64 v3, .int .i64 e3]) ∧ Below w.heap.size w w'))
    (MK : Hid (∀ w : World, Calls Try.prog 7 #[.int .i64 v1, .int .i64 v2, .int .i64 v3] w fun r' w' => r' = .returned (.tuple #[.agg #[.int .i64 0, .int .i64 M, .int .i64 D, .int .i64 U], .int .i64 E]) ∧ Below w.heap.size w w'))
    (w : World) :
    Calls Try.prog 14 #[.agg #[.int .i64 0, .int .i64 m, .int .i64 d, .int .i64 u], .func (.func 27) #[.int .i64 x] #[], .func (.func 27) #[.int .i64 y] #[], .func (.func 27) #[.int .i64 z] #[]] w fun r' w' => r' = .returned (.tuple #[.agg #[.int .i64 0, .int .i64 M, .int .i64 D, .int .i64 U], .int .i64 E]) ∧ Below w.heap.size w w' := by
  have K0 : Hid (BS w [(w.heap.size + 1, [.int .i64 0, .int .i64 0, .int .i64 0, .int .i64 0]), (w.heap.size, [.int .i64 0, .int .i64 m, .int .i64 d, .int .i64 u])] ((w.alloc (.cells #[.int .i64 0, .int .i64 m, .int .i64 d, .int .i64 u] 23)).alloc (.cells #[.int .i64 0, .int .i64 0, .int .i64 0, .int .i64 0] 23))) := (((BS.start w).new [.int .i64 0, .int .i64 m, .int .i64 d, .int .i64 u] 23 rfl).new [.int .i64 0, .int .i64 0, .int .i64 0, .int .i64 0] 23 (by simp))
  go_enter Try.func14, Try.ntmps14
  go_wp2_with fail
  refine (F1.out _).mono ?_
  rintro e W1 ⟨rfl, hb⟩
  have K1 : Hid (BS w [(w.heap.size + 1, [.int .i64 0, .int .i64 0, .int .i64 0, .int .i64 0]), (w.heap.size, [.int .i64 0, .int .i64 m, .int .i64 d, .int .i64 u])] W1) := K0.out.below hb
  clear hb K0
  have c1_0_0 : W1.cell? ⟨w.heap.size + 1, 0, none⟩ = some (.int .i64 0) := (K1.out.at (w.heap.size + 1) [.int .i64 0, .int .i64 0, .int .i64 0, .int .i64 0] (by simp)).c 0 rfl
  have c1_0_1 : W1.cell? ⟨w.heap.size + 1, 1, none⟩ = some (.int .i64 0) := (K1.out.at (w.heap.size + 1) [.int .i64 0, .int .i64 0, .int .i64 0, .int .i64 0] (by simp)).c 1 rfl
  have c1_0_2 : W1.cell? ⟨w.heap.size + 1, 2, none⟩ = some (.int .i64 0) := (K1.out.at (w.heap.size + 1) [.int .i64 0, .int .i64 0, .int .i64 0, .int .i64 0] (by simp)).c 2 rfl
  have c1_0_3 : W1.cell? ⟨w.heap.size + 1, 3, none⟩ = some (.int .i64 0) := (K1.out.at (w.heap.size + 1) [.int .i64 0, .int .i64 0, .int .i64 0, .int .i64 0] (by simp)).c 3 rfl
  have c1_1_0 : W1.cell? ⟨w.heap.size, 0, none⟩ = some (.int .i64 0) := (K1.out.at (w.heap.size) [.int .i64 0, .int .i64 m, .int .i64 d, .int .i64 u] (by simp)).c 0 rfl
  have c1_1_1 : W1.cell? ⟨w.heap.size, 1, none⟩ = some (.int .i64 m) := (K1.out.at (w.heap.size) [.int .i64 0, .int .i64 m, .int .i64 d, .int .i64 u] (by simp)).c 1 rfl
  have c1_1_2 : W1.cell? ⟨w.heap.size, 2, none⟩ = some (.int .i64 d) := (K1.out.at (w.heap.size) [.int .i64 0, .int .i64 m, .int .i64 d, .int .i64 u] (by simp)).c 2 rfl
  have c1_1_3 : W1.cell? ⟨w.heap.size, 3, none⟩ = some (.int .i64 u) := (K1.out.at (w.heap.size) [.int .i64 0, .int .i64 m, .int .i64 d, .int .i64 u] (by simp)).c 3 rfl
  go_wp2_with fail
  refine (F2.out _).mono ?_
  rintro e W2 ⟨rfl, hb⟩
  have K2 : Hid (BS w [(w.heap.size + 1, [.int .i64 0, .int .i64 0, .int .i64 0, .int .i64 0]), (w.heap.size, [.int .i64 0, .int .i64 m, .int .i64 d, .int .i64 u])] W2) := K1.out.below hb
  clear c1_0_0 c1_0_1 c1_0_2 c1_0_3 c1_1_0 c1_1_1 c1_1_2 c1_1_3
  clear hb K1
  have c2_0_0 : W2.cell? ⟨w.heap.size + 1, 0, none⟩ = some (.int .i64 0) := (K2.out.at (w.heap.size + 1) [.int .i64 0, .int .i64 0, .int .i64 0, .int .i64 0] (by simp)).c 0 rfl
  have c2_0_1 : W2.cell? ⟨w.heap.size + 1, 1, none⟩ = some (.int .i64 0) := (K2.out.at (w.heap.size + 1) [.int .i64 0, .int .i64 0, .int .i64 0, .int .i64 0] (by simp)).c 1 rfl
  have c2_0_2 : W2.cell? ⟨w.heap.size + 1, 2, none⟩ = some (.int .i64 0) := (K2.out.at (w.heap.size + 1) [.int .i64 0, .int .i64 0, .int .i64 0, .int .i64 0] (by simp)).c 2 rfl
  have c2_0_3 : W2.cell? ⟨w.heap.size + 1, 3, none⟩ = some (.int .i64 0) := (K2.out.at (w.heap.size + 1) [.int .i64 0, .int .i64 0, .int .i64 0, .int .i64 0] (by simp)).c 3 rfl
  have c2_1_0 : W2.cell? ⟨w.heap.size, 0, none⟩ = some (.int .i64 0) := (K2.out.at (w.heap.size) [.int .i64 0, .int .i64 m, .int .i64 d, .int .i64 u] (by simp)).c 0 rfl
  have c2_1_1 : W2.cell? ⟨w.heap.size, 1, none⟩ = some (.int .i64 m) := (K2.out.at (w.heap.size) [.int .i64 0, .int .i64 m, .int .i64 d, .int .i64 u] (by simp)).c 1 rfl
  have c2_1_2 : W2.cell? ⟨w.heap.size, 2, none⟩ = some (.int .i64 d) := (K2.out.at (w.heap.size) [.int .i64 0, .int .i64 m, .int .i64 d, .int .i64 u] (by simp)).c 2 rfl
  have c2_1_3 : W2.cell? ⟨w.heap.size, 3, none⟩ = some (.int .i64 u) := (K2.out.at (w.heap.size) [.int .i64 0, .int .i64 m, .int .i64 d, .int .i64 u] (by simp)).c 3 rfl
  go_wp2_with fail
  refine (F3.out _).mono ?_
  rintro e W3 ⟨rfl, hb⟩
  have K3 : Hid (BS w [(w.heap.size + 1, [.int .i64 0, .int .i64 0, .int .i64 0, .int .i64 0]), (w.heap.size, [.int .i64 0, .int .i64 m, .int .i64 d, .int .i64 u])] W3) := K2.out.below hb
  clear c2_0_0 c2_0_1 c2_0_2 c2_0_3 c2_1_0 c2_1_1 c2_1_2 c2_1_3
  clear hb K2
  have c3_0_0 : W3.cell? ⟨w.heap.size + 1, 0, none⟩ = some (.int .i64 0) := (K3.out.at (w.heap.size + 1) [.int .i64 0, .int .i64 0, .int .i64 0, .int .i64 0] (by simp)).c 0 rfl
  have c3_0_1 : W3.cell? ⟨w.heap.size + 1, 1, none⟩ = some (.int .i64 0) := (K3.out.at (w.heap.size + 1) [.int .i64 0, .int .i64 0, .int .i64 0, .int .i64 0] (by simp)).c 1 rfl
  have c3_0_2 : W3.cell? ⟨w.heap.size + 1, 2, none⟩ = some (.int .i64 0) := (K3.out.at (w.heap.size + 1) [.int .i64 0, .int .i64 0, .int .i64 0, .int .i64 0] (by simp)).c 2 rfl
  have c3_0_3 : W3.cell? ⟨w.heap.size + 1, 3, none⟩ = some (.int .i64 0) := (K3.out.at (w.heap.size + 1) [.int .i64 0, .int .i64 0, .int .i64 0, .int .i64 0] (by simp)).c 3 rfl
  have c3_1_0 : W3.cell? ⟨w.heap.size, 0, none⟩ = some (.int .i64 0) := (K3.out.at (w.heap.size) [.int .i64 0, .int .i64 m, .int .i64 d, .int .i64 u] (by simp)).c 0 rfl
  have c3_1_1 : W3.cell? ⟨w.heap.size, 1, none⟩ = some (.int .i64 m) := (K3.out.at (w.heap.size) [.int .i64 0, .int .i64 m, .int .i64 d, .int .i64 u] (by simp)).c 1 rfl
  have c3_1_2 : W3.cell? ⟨w.heap.size, 2, none⟩ = some (.int .i64 d) := (K3.out.at (w.heap.size) [.int .i64 0, .int .i64 m, .int .i64 d, .int .i64 u] (by simp)).c 2 rfl
  have c3_1_3 : W3.cell? ⟨w.heap.size, 3, none⟩ = some (.int .i64 u) := (K3.out.at (w.heap.size) [.int .i64 0, .int .i64 m, .int .i64 d, .int .i64 u] (by simp)).c 3 rfl
  have K4 : Hid (BS w [(W3.heap.size, [.int .i64 e1, .int .i64 e2, .int .i64 e3]), (w.heap.size + 1, [.int .i64 0, .int .i64 0, .int .i64 0, .int .i64 0]), (w.heap.size, [.int .i64 0, .int .i64 m, .int .i64 d, .int .i64 u])] (W3.alloc (.cells #[.int .i64 e1, .int .i64 e2, .int .i64 e3] 26))) := K3.out.new [.int .i64 e1, .int .i64 e2, .int .i64 e3] 26 rfl
  go_wp2_with fail
  have OE := orE_any _ _ _ (W3.heap.size) _ (K4.out.first.c 0 rfl) (K4.out.first.c 1 rfl) (K4.out.first.c 2 rfl)
  rw [he] at OE
  refine OE.mono ?_
  rintro e W4 ⟨rfl, hw⟩
  have K4' : Hid (BS w [(W3.heap.size, [.int .i64 e1, .int .i64 e2, .int .i64 e3]), (w.heap.size + 1, [.int .i64 0, .int .i64 0, .int .i64 0, .int .i64 0]), (w.heap.size, [.int .i64 0, .int .i64 m, .int .i64 d, .int .i64 u])] W4) := by rw [hw]; exact K4.out
  clear c3_0_0 c3_0_1 c3_0_2 c3_0_3 c3_1_0 c3_1_1 c3_1_2 c3_1_3
  clear OE hw K4 K3
  have c4_0_0 : W4.cell? ⟨W3.heap.size, 0, none⟩ = some (.int .i64 e1) := (K4'.out.at (W3.heap.size) [.int .i64 e1, .int .i64 e2, .int .i64 e3] (by simp)).c 0 rfl
  have c4_0_1 : W4.cell? ⟨W3.heap.size, 1, none⟩ = some (.int .i64 e2) := (K4'.out.at (W3.heap.size) [.int .i64 e1, .int .i64 e2, .int .i64 e3] (by simp)).c 1 rfl
  have c4_0_2 : W4.cell? ⟨W3.heap.size, 2, none⟩ = some (.int .i64 e3) := (K4'.out.at (W3.heap.size) [.int .i64 e1, .int .i64 e2, .int .i64 e3] (by simp)).c 2 rfl
  have c4_1_0 : W4.cell? ⟨w.heap.size + 1, 0, none⟩ = some (.int .i64 0) := (K4'.out.at (w.heap.size + 1) [.int .i64 0, .int .i64 0, .int .i64 0, .int .i64 0] (by simp)).c 0 rfl
  have z4_1_0 : W4.frozen? ⟨w.heap.size + 1, 0, none⟩ = false := (K4'.out.at (w.heap.size + 1) [.int .i64 0, .int .i64 0, .int .i64 0, .int .i64 0] (by simp)).f 0 rfl
  have c4_1_1 : W4.cell? ⟨w.heap.size + 1, 1, none⟩ = some (.int .i64 0) := (K4'.out.at (w.heap.size + 1) [.int .i64 0, .int .i64 0, .int .i64 0, .int .i64 0] (by simp)).c 1 rfl
  have z4_1_1 : W4.frozen? ⟨w.heap.size + 1, 1, none⟩ = false := (K4'.out.at (w.heap.size + 1) [.int .i64 0, .int .i64 0, .int .i64 0, .int .i64 0] (by simp)).f 1 rfl
  have c4_1_2 : W4.cell? ⟨w.heap.size + 1, 2, none⟩ = some (.int .i64 0) := (K4'.out.at (w.heap.size + 1) [.int .i64 0, .int .i64 0, .int .i64 0, .int .i64 0] (by simp)).c 2 rfl
  have z4_1_2 : W4.frozen? ⟨w.heap.size + 1, 2, none⟩ = false := (K4'.out.at (w.heap.size + 1) [.int .i64 0, .int .i64 0, .int .i64 0, .int .i64 0] (by simp)).f 2 rfl
  have c4_1_3 : W4.cell? ⟨w.heap.size + 1, 3, none⟩ = some (.int .i64 0) := (K4'.out.at (w.heap.size + 1) [.int .i64 0, .int .i64 0, .int .i64 0, .int .i64 0] (by simp)).c 3 rfl
  have z4_1_3 : W4.frozen? ⟨w.heap.size + 1, 3, none⟩ = false := (K4'.out.at (w.heap.size + 1) [.int .i64 0, .int .i64 0, .int .i64 0, .int .i64 0] (by simp)).f 3 rfl
  have c4_2_0 : W4.cell? ⟨w.heap.size, 0, none⟩ = some (.int .i64 0) := (K4'.out.at (w.heap.size) [.int .i64 0, .int .i64 m, .int .i64 d, .int .i64 u] (by simp)).c 0 rfl
  have c4_2_1 : W4.cell? ⟨w.heap.size, 1, none⟩ = some (.int .i64 m) := (K4'.out.at (w.heap.size) [.int .i64 0, .int .i64 m, .int .i64 d, .int .i64 u] (by simp)).c 1 rfl
  have c4_2_2 : W4.cell? ⟨w.heap.size, 2, none⟩ = some (.int .i64 d) := (K4'.out.at (w.heap.size) [.int .i64 0, .int .i64 m, .int .i64 d, .int .i64 u] (by simp)).c 2 rfl
  have c4_2_3 : W4.cell? ⟨w.heap.size, 3, none⟩ = some (.int .i64 u) := (K4'.out.at (w.heap.size) [.int .i64 0, .int .i64 m, .int .i64 d, .int .i64 u] (by simp)).c 3 rfl
  go_wp2_with fail
  refine (MK.out _).mono ?_
  rintro e W5 ⟨rfl, hb⟩
  have K5 : Hid (BS w [(W3.heap.size, [.int .i64 e1, .int .i64 e2, .int .i64 e3]), (w.heap.size + 1, [.int .i64 0, .int .i64 0, .int .i64 0, .int .i64 0]), (w.heap.size, [.int .i64 0, .int .i64 m, .int .i64 d, .int .i64 u])] W5) := K4'.out.below hb
  clear c4_0_0 c4_0_1 c4_0_2 c4_1_0 z4_1_0 c4_1_1 z4_1_1 c4_1_2 z4_1_2 c4_1_3 z4_1_3 c4_2_0 c4_2_1 c4_2_2 c4_2_3
  clear hb K4'
  have c5_0_0 : W5.cell? ⟨W3.heap.size, 0, none⟩ = some (.int .i64 e1) := (K5.out.at (W3.heap.size) [.int .i64 e1, .int .i64 e2, .int .i64 e3] (by simp)).c 0 rfl
  have c5_0_1 : W5.cell? ⟨W3.heap.size, 1, none⟩ = some (.int .i64 e2) := (K5.out.at (W3.heap.size) [.int .i64 e1, .int .i64 e2, .int .i64 e3] (by simp)).c 1 rfl
  have c5_0_2 : W5.cell? ⟨W3.heap.size, 2, none⟩ = some (.int .i64 e3) := (K5.out.at (W3.heap.size) [.int .i64 e1, .int .i64 e2, .int .i64 e3] (by simp)).c 2 rfl
  have c5_1_0 : W5.cell? ⟨w.heap.size + 1, 0, none⟩ = some (.int .i64 0) := (K5.out.at (w.heap.size + 1) [.int .i64 0, .int .i64 0, .int .i64 0, .int .i64 0] (by simp)).c 0 rfl
  have z5_1_0 : W5.frozen? ⟨w.heap.size + 1, 0, none⟩ = false := (K5.out.at (w.heap.size + 1) [.int .i64 0, .int .i64 0, .int .i64 0, .int .i64 0] (by simp)).f 0 rfl
  have c5_1_1 : W5.cell? ⟨w.heap.size + 1, 1, none⟩ = some (.int .i64 0) := (K5.out.at (w.heap.size + 1) [.int .i64 0, .int .i64 0, .int .i64 0, .int .i64 0] (by simp)).c 1 rfl
  have z5_1_1 : W5.frozen? ⟨w.heap.size + 1, 1, none⟩ = false := (K5.out.at (w.heap.size + 1) [.int .i64 0, .int .i64 0, .int .i64 0, .int .i64 0] (by simp)).f 1 rfl
  have c5_1_2 : W5.cell? ⟨w.heap.size + 1, 2, none⟩ = some (.int .i64 0) := (K5.out.at (w.heap.size + 1) [.int .i64 0, .int .i64 0, .int .i64 0, .int .i64 0] (by simp)).c 2 rfl
  have z5_1_2 : W5.frozen? ⟨w.heap.size + 1, 2, none⟩ = false := (K5.out.at (w.heap.size + 1) [.int .i64 0, .int .i64 0, .int .i64 0, .int .i64 0] (by simp)).f 2 rfl
  have c5_1_3 : W5.cell? ⟨w.heap.size + 1, 3, none⟩ = some (.int .i64 0) := (K5.out.at (w.heap.size + 1) [.int .i64 0, .int .i64 0, .int .i64 0, .int .i64 0] (by simp)).c 3 rfl
  have z5_1_3 : W5.frozen? ⟨w.heap.size + 1, 3, none⟩ = false := (K5.out.at (w.heap.size + 1) [.int .i64 0, .int .i64 0, .int .i64 0, .int .i64 0] (by simp)).f 3 rfl
  have c5_2_0 : W5.cell? ⟨w.heap.size, 0, none⟩ = some (.int .i64 0) := (K5.out.at (w.heap.size) [.int .i64 0, .int .i64 m, .int .i64 d, .int .i64 u] (by simp)).c 0 rfl
  have c5_2_1 : W5.cell? ⟨w.heap.size, 1, none⟩ = some (.int .i64 m) := (K5.out.at (w.heap.size) [.int .i64 0, .int .i64 m, .int .i64 d, .int .i64 u] (by simp)).c 1 rfl
  have c5_2_2 : W5.cell? ⟨w.heap.size, 2, none⟩ = some (.int .i64 d) := (K5.out.at (w.heap.size) [.int .i64 0, .int .i64 m, .int .i64 d, .int .i64 u] (by simp)).c 2 rfl
  have c5_2_3 : W5.cell? ⟨w.heap.size, 3, none⟩ = some (.int .i64 u) := (K5.out.at (w.heap.size) [.int .i64 0, .int .i64 m, .int .i64 d, .int .i64 u] (by simp)).c 3 rfl
  have XF : Hid (Bx (W5.setCells (w.heap.size + 1) 0 [.int .i64 0, .int .i64 M, .int .i64 D, .int .i64 U]) (w.heap.size + 1) [.int .i64 0, .int .i64 M, .int .i64 D, .int .i64 U]) := (K5.out.at (w.heap.size + 1) [.int .i64 0, .int .i64 0, .int .i64 0, .int .i64 0] (by simp)).setAll _ rfl
  have BF : Hid (Below w.heap.size w (W5.setCells (w.heap.size + 1) 0 [.int .i64 0, .int .i64 M, .int .i64 D, .int .i64 U])) := below_setCells (by omega) _ _ _ K5.out.1
  have y0 := XF.out.c 0 rfl
  have y1 := XF.out.c 1 rfl
  have y2 := XF.out.c 2 rfl
  have y3 := XF.out.c 3 rfl
  simp only [World.setCells, Nat.zero_add, Nat.reduceAdd] at y0 y1 y2 y3
  clear XF
  go_wp2
  exact bodyPost_ret (v := .tuple #[.agg #[.int .i64 0, .int .i64 M, .int .i64 D, .int .i64 U], .int .i64 E]) (by simp [results, Try.results14, go_sem, y0, y1, y2, y3]) rfl ⟨rfl, BF.out⟩


end Go.Proofs.Ytghfgabajdghiac
