/- Contract of dec.Trim: the same number without noughts at the end of its places. -/
import Derived.Test.YtebjicnjbiiioaaDoorDecE
namespace Go.Proofs.YtebjicnjbiiioaaDoor
open Go.RowKit
set_option linter.unusedVariables false

/-- without noughts at the end. -/
def trimN (n : Int) : Nat → Int
  | 0 => n
  | s + 1 => if n.tmod 10 = 0 then trimN (n.tdiv 10) s else n
def trimS (n : Int) : Nat → Nat
  | 0 => 0
  | s + 1 => if n.tmod 10 = 0 then trimS (n.tdiv 10) s else s + 1

/-- the Scale that a block holds. -/
def scaleAt (w : World) (b : Nat) : Nat := match w.cell? ⟨b, 1, none⟩ with | some v => (intOf v).toNat | none => 0
theorem scaleAt_of {w : World} {b k : Nat} (h : w.cell? ⟨b, 1, none⟩ = some (.int .i64 (k : Int))) : scaleAt w b = k := by unfold scaleAt; rw [h]; simp [intOf]

/-- a store into a box. -/
theorem Box.set {w : World} {b : Nat} {n s : Int} (h : Box w b n s) (n' s' : Int) : Box ((w.setCell ⟨b, 0, none⟩ (.int .i64 n')).setCell ⟨b, 1, none⟩ (.int .i64 s')) b n' s' := by
  obtain ⟨h1, h2, h3, h4, h5⟩ := h
  have d01 : (⟨b, 1, none⟩ : Addr) ≠ ⟨b, 0, none⟩ := fun e => by cases e
  have k3 : (w.setCell ⟨b, 0, none⟩ (.int .i64 n')).cell? ⟨b, 1, none⟩ = some (.int .i64 s) := (World.cell?_setCell_other _ _ _ _ (fun e => d01 e.symm)).trans h3
  exact ⟨by simpa [World.setCell] using h1, (World.cell?_setCell_other _ _ _ _ d01).trans (World.cell?_setCell_same _ _ _ h2), World.cell?_setCell_same _ _ _ k3, by simpa using h4, by simpa using h5⟩

set_option maxRecDepth 100000 in
set_option maxHeartbeats 1000000 in
theorem dtrim_bad (n s : Int) (h : rt s = false) (w : World) :
    Calls Tryd.prog 42 #[.agg #[.int .i64 n, .int .i64 s]] w fun e w' => e = .returned (.agg #[.int .i64 n, .int .i64 s]) ∧ Below w.heap.size w w' := by
  have F := Two2.new w n s 0 0
  have HB : Hid (Below w.heap.size w (lv2 w n s 0 0)) := lv2_below _ _ _ _ _
  go_enter Tryd.func42, Tryd.ntmps42
  go_wp2_with fail
  go_loopw [] (fun wr => wr = lv2 w n s 0 0) (fun _ => 0)
  case atStart => rfl
  case round =>
    subst hrel
    go_wp2_with fail
    refine (dright_no _ _ h _).mono ?_
    rintro e w1 ⟨rfl, hb⟩
    obtain ⟨⟨x1, x2, x3, x4, x5⟩, ⟨z1, z2, z3, z4, z5⟩⟩ := F.below hb
    have HB1 : Hid (Below w.heap.size w w1) := HB.out.trans (hb.mono HB.out.size)
    clear F HB hb
    go_wp2_with fail
    exact bodyPost_ret (v := .agg #[.int .i64 n, .int .i64 s]) (by simp [results, Tryd.results42, go_sem, z2, z3]) rfl ⟨rfl, (HB1.out.setCell (by simp) _).setCell (by simp) _⟩

set_option maxRecDepth 100000 in
set_option maxHeartbeats 2000000 in
theorem dtrim_ok (n : Int) (s : Nat) (n1 : -9223372036854775808 ≤ n) (n2 : n ≤ 9223372036854775807) (h : s ≤ 9) (w : World) :
    Calls Tryd.prog 42 #[.agg #[.int .i64 n, .int .i64 (s : Int)]] w fun e w' => e = .returned (.agg #[.int .i64 (trimN n s), .int .i64 (trimS n s : Int)]) ∧ Below w.heap.size w w' := by
  have F := Two2.new w n s 0 0
  have HB : Hid (Below w.heap.size w (lv2 w n s 0 0)) := lv2_below _ _ _ _ _
  go_enter Tryd.func42, Tryd.ntmps42
  go_wp2_with fail
  go_loopw [] (fun wr => ∃ (m : Int) (k : Nat), k ≤ 9 ∧ -9223372036854775808 ≤ m ∧ m ≤ 9223372036854775807 ∧ Two2 wr w.heap.size m (k : Int) 0 0 ∧ Below w.heap.size w wr ∧ Hid (trimN m k = trimN n s) ∧ Hid (trimS m k = trimS n s)) (fun wr => scaleAt wr w.heap.size)
  case atStart => exact ⟨n, s, h, n1, n2, F, HB.out, rfl, rfl⟩
  case round =>
    clear F HB
    obtain ⟨m, k, hk, m1, m2, F, hB, H1, H2⟩ := hrel
    have HB : Hid (Below w.heap.size w wr) := hB
    clear hB
    obtain ⟨⟨x1, x2, x3, x4, x5⟩, _⟩ := id F
    go_wp2_with fail
    refine (dright_yes _ _ (rt_nat hk) _).mono ?_
    rintro e w1 ⟨rfl, hb⟩
    have F1 := F.below hb
    have HB1 : Hid (Below w.heap.size w w1) := HB.out.trans (hb.mono HB.out.size)
    have hS : scaleAt wr w.heap.size = k := scaleAt_of x3
    clear F HB hb x1 x2 x3 x4 x5
    obtain ⟨⟨x1, x2, x3, x4, x5⟩, ⟨z1, z2, z3, z4, z5⟩⟩ := id F1
    cases k with
    | zero =>
      have x3' : w1.cell? ⟨w.heap.size, 1, none⟩ = some (.int .i64 0) := x3
      clear x3 F1
      go_wp2_with fail
      exact bodyPost_ret (v := .agg #[.int .i64 m, .int .i64 0]) (by simp [results, Tryd.results42, go_sem, z2, z3]) rfl ⟨by rw [← H1.out, ← H2.out]; rfl, (HB1.out.setCell (by simp) _).setCell (by simp) _⟩
    | succ k =>
      have x3' : w1.cell? ⟨w.heap.size, 1, none⟩ = some (.int .i64 ((k : Int) + 1)) := x3
      clear x3
      have k0 : (0 : Int) < (k : Int) + 1 := by omega
      by_cases hm : m.tmod 10 = 0
      · have hm' : (m.tmod 10 == 0) = true := by rw [hm]; rfl
        have E1 : Hid (trimN (m.tdiv 10) k = trimN n s) := by show _ = _; rw [← H1.out]; simp [trimN, hm]
        have E2 : Hid (trimS (m.tdiv 10) k = trimS n s) := by show _ = _; rw [← H2.out]; simp [trimS, hm]
        obtain ⟨t1, t2⟩ := Nm.tdiv_half m1 m2 (b := 10) (by omega)
        clear hm
        go_wp2_with fail
        go_roundw
        case rel => exact ⟨m.tdiv 10, k, by omega, by omega, by omega, ⟨F1.1.set _ _, F1.2.other (by omega) _ _⟩, (HB1.out.setCell (by simp) _).setCell (by simp) _, E1, E2⟩
        case measure =>
          rw [hS, scaleAt_of (F1.1.set (m.tdiv 10) (k : Int)).2.2.1]
          omega
      · have hm' : (m.tmod 10 == 0) = false := by rw [beq_eq_false_iff_ne]; exact hm
        have E1 : trimN m (k + 1) = m := by simp [trimN, hm]
        have E2 : trimS m (k + 1) = k + 1 := by simp [trimS, hm]
        have E3 : Hid (m = trimN n s) := by show _ = _; rw [← H1.out, E1]
        have E4 : Hid ((k : Int) + 1 = (trimS n s : Int)) := by show _ = _; rw [← H2.out, E2]; rfl
        clear E1 E2 hm F1
        go_wp2_with fail
        exact bodyPost_ret (v := .agg #[.int .i64 m, .int .i64 ((k : Int) + 1)]) (by simp [results, Tryd.results42, go_sem, z2, z3]) rfl ⟨by rw [← E3.out, ← E4.out], (HB1.out.setCell (by simp) _).setCell (by simp) _⟩

end Go.Proofs.YtebjicnjbiiioaaDoor
