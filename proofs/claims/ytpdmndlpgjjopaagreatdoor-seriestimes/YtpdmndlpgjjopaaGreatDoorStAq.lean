/- stamp: seconds, more, kinds. -/
import Derived.Test.YtpdmndlpgjjopaaGreatDoorBxCq
import Derived.Test.YtpdmndlpgjjopaaGreatDoorDyYq
import Derived.Test.YtpdmndlpgjjopaaGreatDoorWiZq
import Derived.Shelf.Abstract
import Derived.Deep.Cut
import Derived.Deep.DeepCutAuto
import Derived.Deep.CutRange
namespace Go.Proofs.YtpdmndlpgjjopaaGreatDoor
open Go.RowKit
set_option linter.unusedVariables false

set_option maxRecDepth 100000 in
set_option maxHeartbeats 4000000 in
theorem sec_run (i u q e : Int) (q1 : -10000000000000 ≤ q) (q2 : q ≤ 10000000000000)
    (D : Hid (∀ w : World, Calls Tryz.prog 58 #[.int .i64 u, .int .i64 1000000] w fun r' w' => r' = .returned (.tuple #[.int .i64 q, .int .i64 e]) ∧ w' = w))
    (w : World) :
    Calls Tryz.prog 78 #[.agg #[.int .i64 i, .int .i64 u]] w fun r' w' => r' = .returned (.int .i64 (q + 946684800)) ∧ Below w.heap.size w w' := by
  have K0 : Hid (BS w [(w.heap.size, [.int .i64 i, .int .i64 u])] (w.alloc (.cells #[.int .i64 i, .int .i64 u] 36))) := ((BS.start w).new [.int .i64 i, .int .i64 u] 36 rfl)
  go_enter Tryz.func78, Tryz.ntmps78
  go_wp2_with fail
  refine (D.out _).mono ?_
  rintro e W1 ⟨rfl, rfl⟩
  go_wp2
  go_ret
  exact ⟨rfl, K0.out.1⟩

set_option maxRecDepth 100000 in
set_option maxHeartbeats 4000000 in
theorem more_bad (i u n v e : Int) (he : e ≠ 0)
    (D : Hid (∀ w : World, Calls Tryz.prog 55 #[.int .i64 u, .int .i64 n] w fun r' w' => r' = .returned (.tuple #[.int .i64 v, .int .i64 e]) ∧ w' = w))
    (w : World) :
    Calls Tryz.prog 30 #[.agg #[.int .i64 i, .int .i64 u], .int .i64 n] w fun r' w' => r' = .returned (.tuple #[.agg #[.int .i64 0, .int .i64 0], .int .i64 10]) ∧ Below w.heap.size w w' := by
  have e1 : (e != 0) = true := bne_iff_ne.2 he
  have K0 : Hid (BS w [(w.heap.size + 1, [.int .i64 0, .int .i64 0]), (w.heap.size, [.int .i64 i, .int .i64 u])] ((w.alloc (.cells #[.int .i64 i, .int .i64 u] 36)).alloc (.cells #[.int .i64 0, .int .i64 0] 36))) := (((BS.start w).new [.int .i64 i, .int .i64 u] 36 rfl).new [.int .i64 0, .int .i64 0] 36 (by simp))
  go_enter Tryz.func30, Tryz.ntmps30
  go_wp2_with fail
  refine (D.out _).mono ?_
  rintro e W1 ⟨rfl, rfl⟩
  go_wp2
  exact bodyPost_ret (v := .tuple #[.agg #[.int .i64 0, .int .i64 0], .int .i64 10]) (by simp [results, Tryz.results30, go_sem]) rfl ⟨rfl, (by repeat' (first | assumption | exact Below.refl _ _ | exact Nat.le_refl _ | refine Below.alloc ?_ ?_ _ | (simp; done) | (simp; omega) | omega))⟩

set_option maxRecDepth 100000 in
set_option maxHeartbeats 4000000 in
theorem more_true (i u n v : Int)
    (D : Hid (∀ w : World, Calls Tryz.prog 55 #[.int .i64 u, .int .i64 n] w fun r' w' => r' = .returned (.tuple #[.int .i64 v, .int .i64 0]) ∧ w' = w))
    (R : Hid (∀ w : World, Cvl.Lens w → Calls Tryz.prog 17 #[.agg #[.int .i64 0, .int .i64 v]] w fun r' w' => r' = .returned (.bool true) ∧ Below w.heap.size w w'))
    (w : World) (hL : Hid (∀ W : World, Below w.heap.size w W → Cvl.Lens W)) :
    Calls Tryz.prog 30 #[.agg #[.int .i64 i, .int .i64 u], .int .i64 n] w fun r' w' => r' = .returned (.tuple #[.agg #[.int .i64 0, .int .i64 v], .int .i64 0]) ∧ Below w.heap.size w w' := by
  have K0 : Hid (BS w [(w.heap.size + 1, [.int .i64 0, .int .i64 0]), (w.heap.size, [.int .i64 i, .int .i64 u])] ((w.alloc (.cells #[.int .i64 i, .int .i64 u] 36)).alloc (.cells #[.int .i64 0, .int .i64 0] 36))) := (((BS.start w).new [.int .i64 i, .int .i64 u] 36 rfl).new [.int .i64 0, .int .i64 0] 36 (by simp))
  go_enter Tryz.func30, Tryz.ntmps30
  go_wp2_with fail
  refine (D.out _).mono ?_
  rintro e W1 ⟨rfl, rfl⟩
  go_wp2_with fail
  refine (R.out _ (hL.out _ K0.out.1)).mono ?_
  rintro e W2 ⟨rfl, hb⟩
  have K2 := bsb K0 hb
  clear hb K0
  obtain ⟨c2_0_0, c2_0_1⟩ := (bo1 K2).c2
  obtain ⟨z2_0_0, z2_0_1⟩ := (bo1 K2).f2
  obtain ⟨c2_1_0, c2_1_1⟩ := (bo2 K2).c2
  have XF : Hid (Bx (W2.setCells (w.heap.size + 1) 0 [.int .i64 0, .int .i64 v]) (w.heap.size + 1) [.int .i64 0, .int .i64 v]) := (K2.out.at (w.heap.size + 1) [.int .i64 0, .int .i64 0] (by simp)).setAll _ rfl
  have BF : Hid (Below w.heap.size w (W2.setCells (w.heap.size + 1) 0 [.int .i64 0, .int .i64 v])) := below_setCells (by omega) _ _ _ K2.out.1
  have y0 := XF.out.c 0 rfl
  have y1 := XF.out.c 1 rfl
  simp only [World.setCells, Nat.zero_add] at y0 y1
  clear XF
  go_wp2
  exact bodyPost_ret (v := .tuple #[.agg #[.int .i64 0, .int .i64 v], .int .i64 0]) (by simp [results, Tryz.results30, go_sem, y0, y1]) rfl ⟨rfl, BF.out⟩

set_option maxRecDepth 100000 in
set_option maxHeartbeats 4000000 in
theorem more_false (i u n v : Int)
    (D : Hid (∀ w : World, Calls Tryz.prog 55 #[.int .i64 u, .int .i64 n] w fun r' w' => r' = .returned (.tuple #[.int .i64 v, .int .i64 0]) ∧ w' = w))
    (R : Hid (∀ w : World, Cvl.Lens w → Calls Tryz.prog 17 #[.agg #[.int .i64 0, .int .i64 v]] w fun r' w' => r' = .returned (.bool false) ∧ Below w.heap.size w w'))
    (w : World) (hL : Hid (∀ W : World, Below w.heap.size w W → Cvl.Lens W)) :
    Calls Tryz.prog 30 #[.agg #[.int .i64 i, .int .i64 u], .int .i64 n] w fun r' w' => r' = .returned (.tuple #[.agg #[.int .i64 0, .int .i64 0], .int .i64 10]) ∧ Below w.heap.size w w' := by
  have K0 : Hid (BS w [(w.heap.size + 1, [.int .i64 0, .int .i64 0]), (w.heap.size, [.int .i64 i, .int .i64 u])] ((w.alloc (.cells #[.int .i64 i, .int .i64 u] 36)).alloc (.cells #[.int .i64 0, .int .i64 0] 36))) := (((BS.start w).new [.int .i64 i, .int .i64 u] 36 rfl).new [.int .i64 0, .int .i64 0] 36 (by simp))
  go_enter Tryz.func30, Tryz.ntmps30
  go_wp2_with fail
  refine (D.out _).mono ?_
  rintro e W1 ⟨rfl, rfl⟩
  go_wp2_with fail
  refine (R.out _ (hL.out _ K0.out.1)).mono ?_
  rintro e W2 ⟨rfl, hb⟩
  have K2 := bsb K0 hb
  clear hb K0
  obtain ⟨c2_0_0, c2_0_1⟩ := (bo1 K2).c2
  obtain ⟨z2_0_0, z2_0_1⟩ := (bo1 K2).f2
  obtain ⟨c2_1_0, c2_1_1⟩ := (bo2 K2).c2
  have XF : Hid (Bx (W2.setCells (w.heap.size + 1) 0 [.int .i64 0, .int .i64 0]) (w.heap.size + 1) [.int .i64 0, .int .i64 0]) := (K2.out.at (w.heap.size + 1) [.int .i64 0, .int .i64 0] (by simp)).setAll _ rfl
  have BF : Hid (Below w.heap.size w (W2.setCells (w.heap.size + 1) 0 [.int .i64 0, .int .i64 0])) := below_setCells (by omega) _ _ _ K2.out.1
  have y0 := XF.out.c 0 rfl
  have y1 := XF.out.c 1 rfl
  simp only [World.setCells, Nat.zero_add] at y0 y1
  clear XF
  go_wp2
  exact bodyPost_ret (v := .tuple #[.agg #[.int .i64 0, .int .i64 0], .int .i64 10]) (by simp [results, Tryz.results30, go_sem, y0, y1]) rfl ⟨rfl, BF.out⟩

theorem dok_in {s : Int} (h : Dy.dok (s / 86400000000) = true) : -9223372036854775808 ≤ s ∧ s ≤ 9223372036854775807 := by
  unfold Dy.dok at h
  have := of_decide_eq_true h
  omega
/-- so many microseconds on, if that can be. -/
def moV (u n : Int) : Int := if Dy.dok ((u + n) / 86400000000) = true then u + n else 0
def moE (u n : Int) : Int := if Dy.dok ((u + n) / 86400000000) = true then 0 else 10

theorem more_any (i u n : Int) (u1 : -9223372036854775808 ≤ u) (u2 : u ≤ 9223372036854775807) (n1 : -9223372036854775808 ≤ n) (n2 : n ≤ 9223372036854775807) (w : World) (hL : Cvl.Lens w) :
    Calls Tryz.prog 30 #[.agg #[.int .i64 i, .int .i64 u], .int .i64 n] w fun r w' => r = .returned (.tuple #[.agg #[.int .i64 0, .int .i64 (moV u n)], .int .i64 (moE u n)]) ∧ Below w.heap.size w w' := by
  unfold moV moE
  by_cases h : -9223372036854775808 ≤ u + n ∧ u + n ≤ 9223372036854775807
  · have D : ∀ w : World, Calls Tryz.prog 55 #[.int .i64 u, .int .i64 n] w fun r w' => r = .returned (.tuple #[.int .i64 (u + n), .int .i64 0]) ∧ w' = w := fun w => by
      have R := add_any u n u1 u2 n1 n2 w
      rw [smV_in h.1 h.2, smE_in h.1 h.2] at R
      exact R
    have RR : ∀ w : World, Cvl.Lens w → Calls Tryz.prog 17 #[.agg #[.int .i64 0, .int .i64 (u + n)]] w fun r w' => r = .returned (.bool (Dy.dok ((u + n) / 86400000000))) ∧ Below w.heap.size w w' := fun w hw => Dy.rst_any 0 (u + n) h.1 h.2 w hw
    cases hd : Dy.dok ((u + n) / 86400000000)
    · rw [hd] at RR; rw [if_neg (by decide), if_neg (by decide)]; exact more_false i u n (u + n) D RR w (Dy.lens_of hL)
    · rw [hd] at RR; rw [if_pos rfl, if_pos rfl]; exact more_true i u n (u + n) D RR w (Dy.lens_of hL)
  · have hd : ¬ Dy.dok ((u + n) / 86400000000) = true := fun q => h (dok_in q)
    rw [if_neg hd, if_neg hd]
    have R := fun w => add_any u n u1 u2 n1 n2 w
    have e10 : smE (u + n) ≠ 0 := by unfold smE; rw [if_neg h]; decide
    exact more_bad i u n _ _ e10 R w

theorem sec_any (i u : Int) (u1 : -9223372036854775808 ≤ u) (u2 : u ≤ 9223372036854775807) (w : World) :
    Calls Tryz.prog 78 #[.agg #[.int .i64 i, .int .i64 u]] w fun r w' => r = .returned (.int .i64 (u / 1000000 + 946684800)) ∧ Below w.heap.size w w' := by
  have R := fun w => div_any u 1000000 u1 u2 (by decide) (by decide) (by decide) w
  have e : u.fdiv 1000000 = u / 1000000 := Int.fdiv_eq_ediv_of_nonneg _ (by decide)
  rw [e] at R
  have b1 : -10000000000000 ≤ u / 1000000 := by omega
  have b2 : u / 1000000 ≤ 10000000000000 := by omega
  rw [smV_in (by omega) (by omega)] at R
  exact sec_run i u _ _ b1 b2 R w

/-- which kind: at an end, or between both. -/
def kdV (i : Int) : Value := if i = 0 then .iface 110 (.agg #[]) else .iface 106 (.int .i64 i)
def tgI (i j : Int) : Int := if i = 0 then j else if j = -i then 0 else i
def tgE (i j : Int) : Int := if i = 0 then 0 else if j = -i then 10 else 0

set_option maxRecDepth 100000 in
set_option maxHeartbeats 4000000 in
theorem kind_any (i : Int) (w : World) : Calls Tryz.prog 28 #[.int .i64 i] w fun r w' => r = .returned (kdV i) ∧ w' = w := by
  unfold kdV
  by_cases h : i = 0
  · subst h
    rw [if_pos rfl]
    go_enter Tryz.func28, Tryz.ntmps28
    go_wp2
    go_ret
    exact ⟨rfl, rfl⟩
  · have h' : (i == 0) = false := by simpa using h
    rw [if_neg h]
    go_enter Tryz.func28, Tryz.ntmps28
    go_wp2
    go_ret
    exact ⟨rfl, rfl⟩

set_option maxRecDepth 100000 in
set_option maxHeartbeats 4000000 in
theorem eturn_any (i : Int) (h1 : -1 ≤ i) (h2 : i ≤ 1) (w : World) : Calls Tryz.prog 50 #[.int .i64 i] w fun r w' => r = .returned (.iface 106 (.int .i64 (-i))) ∧ w' = w := by
  go_enter Tryz.func50, Tryz.ntmps50
  go_wp2
  go_ret
  exact ⟨rfl, rfl⟩

set_option maxRecDepth 100000 in
set_option maxHeartbeats 4000000 in
theorem einf_any (i : Int) (w : World) : Calls Tryz.prog 51 #[.int .i64 i] w fun r w' => r = .returned (.int .i64 i) ∧ w' = w := by
  go_enter Tryz.func51, Tryz.ntmps51
  go_wp2
  go_ret
  exact ⟨rfl, rfl⟩

set_option maxRecDepth 100000 in
set_option maxHeartbeats 4000000 in
theorem binf_any (w : World) : Calls Tryz.prog 176 #[.agg #[]] w fun r w' => r = .returned (.int .i64 0) ∧ Below w.heap.size w w' := by
  have HB : Hid (Below w.heap.size w (w.alloc (.cells #[] 110))) := (Below.refl _ _).alloc (Nat.le_refl _) _
  go_enter Tryz.func176, Tryz.ntmps176
  go_wp2
  go_ret
  exact ⟨rfl, HB.out⟩

set_option maxRecDepth 100000 in
set_option maxHeartbeats 4000000 in
theorem tog_mm (w : World) : Calls Tryz.prog 27 #[.iface 106 (.int .i64 (-1)), .iface 106 (.int .i64 (-1))] w fun r w' => r = .returned (.tuple #[.int .i64 (-1), .int .i64 0]) ∧ Below w.heap.size w w' := by
  have hta : ∀ w : World, (Instr.typeAssert (.iface 106 (.int .i64 (-1))) 81 106 true).run Tryz.prog w = .ok (.tuple #[.int .i64 (-1), .bool true]) w := fun w => by kernel_rfl
  have C : Hid (∀ w : World, Calls Tryz.prog 50 #[.int .i64 (-1)] w fun r w' => r = .returned (.iface 106 (.int .i64 1)) ∧ w' = w) := fun w => eturn_any (-1) (by decide) (by decide) w
  have C2 : Hid (∀ w : World, Calls Tryz.prog 51 #[.int .i64 (-1)] w fun r w' => r = .returned (.int .i64 (-1)) ∧ w' = w) := fun w => einf_any (-1) w
  have heq : ∀ w : World, (binOp .eql 81 (.iface 106 (.int .i64 (-1))) (.iface 106 (.int .i64 1))).run Tryz.prog w = .ok (.bool false) w := fun w => by kernel_rfl
  go_enter Tryz.func27, Tryz.ntmps27
  go_wp2_with fail
  refine (C.out _).mono ?_
  rintro e W1 ⟨rfl, rfl⟩
  go_wp2_with fail
  refine (C2.out _).mono ?_
  rintro e W2 ⟨rfl, rfl⟩
  go_wp2
  go_ret2
  exact ⟨rfl, Below.refl _ _⟩

set_option maxRecDepth 100000 in
set_option maxHeartbeats 4000000 in
theorem tog_mz (w : World) : Calls Tryz.prog 27 #[.iface 106 (.int .i64 (-1)), .iface 110 (.agg #[])] w fun r w' => r = .returned (.tuple #[.int .i64 (-1), .int .i64 0]) ∧ Below w.heap.size w w' := by
  have hta : ∀ w : World, (Instr.typeAssert (.iface 106 (.int .i64 (-1))) 81 106 true).run Tryz.prog w = .ok (.tuple #[.int .i64 (-1), .bool true]) w := fun w => by kernel_rfl
  have C : Hid (∀ w : World, Calls Tryz.prog 50 #[.int .i64 (-1)] w fun r w' => r = .returned (.iface 106 (.int .i64 1)) ∧ w' = w) := fun w => eturn_any (-1) (by decide) (by decide) w
  have C2 : Hid (∀ w : World, Calls Tryz.prog 51 #[.int .i64 (-1)] w fun r w' => r = .returned (.int .i64 (-1)) ∧ w' = w) := fun w => einf_any (-1) w
  have heq : ∀ w : World, (binOp .eql 81 (.iface 110 (.agg #[])) (.iface 106 (.int .i64 1))).run Tryz.prog w = .ok (.bool false) w := fun w => by kernel_rfl
  go_enter Tryz.func27, Tryz.ntmps27
  go_wp2_with fail
  refine (C.out _).mono ?_
  rintro e W1 ⟨rfl, rfl⟩
  go_wp2_with fail
  refine (C2.out _).mono ?_
  rintro e W2 ⟨rfl, rfl⟩
  go_wp2
  go_ret2
  exact ⟨rfl, Below.refl _ _⟩

set_option maxRecDepth 100000 in
set_option maxHeartbeats 4000000 in
theorem tog_mp (w : World) : Calls Tryz.prog 27 #[.iface 106 (.int .i64 (-1)), .iface 106 (.int .i64 1)] w fun r w' => r = .returned (.tuple #[.int .i64 0, .int .i64 10]) ∧ Below w.heap.size w w' := by
  have hta : ∀ w : World, (Instr.typeAssert (.iface 106 (.int .i64 (-1))) 81 106 true).run Tryz.prog w = .ok (.tuple #[.int .i64 (-1), .bool true]) w := fun w => by kernel_rfl
  have C : Hid (∀ w : World, Calls Tryz.prog 50 #[.int .i64 (-1)] w fun r w' => r = .returned (.iface 106 (.int .i64 1)) ∧ w' = w) := fun w => eturn_any (-1) (by decide) (by decide) w
  have C2 : Hid (∀ w : World, Calls Tryz.prog 51 #[.int .i64 (-1)] w fun r w' => r = .returned (.int .i64 (-1)) ∧ w' = w) := fun w => einf_any (-1) w
  have heq : ∀ w : World, (binOp .eql 81 (.iface 106 (.int .i64 1)) (.iface 106 (.int .i64 1))).run Tryz.prog w = .ok (.bool true) w := fun w => by kernel_rfl
  go_enter Tryz.func27, Tryz.ntmps27
  go_wp2_with fail
  refine (C.out _).mono ?_
  rintro e W1 ⟨rfl, rfl⟩
  go_wp2
  go_ret2
  exact ⟨rfl, Below.refl _ _⟩

set_option maxRecDepth 100000 in
set_option maxHeartbeats 4000000 in
theorem tog_zm (w : World) : Calls Tryz.prog 27 #[.iface 110 (.agg #[]), .iface 106 (.int .i64 (-1))] w fun r w' => r = .returned (.tuple #[.int .i64 (-1), .int .i64 0]) ∧ Below w.heap.size w w' := by
  have hta : ∀ w : World, (Instr.typeAssert (.iface 110 (.agg #[])) 81 106 true).run Tryz.prog w = .ok (.tuple #[.int .i64 0, .bool false]) w := fun w => by kernel_rfl
  have C : Hid (∀ w : World, Calls Tryz.prog 51 #[.int .i64 (-1)] w fun r w' => r = .returned (.int .i64 (-1)) ∧ Below w.heap.size w w') := fun w => (einf_any (-1) w).mono (fun r w2 h => ⟨h.1, by rw [h.2]; exact Below.refl _ _⟩)
  have hE : ∀ args w, (callFunc 51 args).run Tryz.prog w = .ok (.enter 51 args) w := enters_of Tryz.func51 (by kernel_rfl) rfl
  go_enter Tryz.func27, Tryz.ntmps27
  go_wp2_with fail
  refine (C.out _).mono ?_
  rintro e W1 ⟨rfl, hb⟩
  have HB : Hid (Below w.heap.size w W1) := hb
  clear hb
  go_wp2
  go_ret2
  exact ⟨rfl, HB.out⟩

set_option maxRecDepth 100000 in
set_option maxHeartbeats 4000000 in
theorem tog_zz (w : World) : Calls Tryz.prog 27 #[.iface 110 (.agg #[]), .iface 110 (.agg #[])] w fun r w' => r = .returned (.tuple #[.int .i64 0, .int .i64 0]) ∧ Below w.heap.size w w' := by
  have hta : ∀ w : World, (Instr.typeAssert (.iface 110 (.agg #[])) 81 106 true).run Tryz.prog w = .ok (.tuple #[.int .i64 0, .bool false]) w := fun w => by kernel_rfl
  have C : Hid (∀ w : World, Calls Tryz.prog 176 #[.agg #[]] w fun r w' => r = .returned (.int .i64 0) ∧ Below w.heap.size w w') := fun w => binf_any w
  have hE : ∀ args w, (callFunc 176 args).run Tryz.prog w = .ok (.enter 176 args) w := enters_of Tryz.func176 (by kernel_rfl) rfl
  go_enter Tryz.func27, Tryz.ntmps27
  go_wp2_with fail
  refine (C.out _).mono ?_
  rintro e W1 ⟨rfl, hb⟩
  have HB : Hid (Below w.heap.size w W1) := hb
  clear hb
  go_wp2
  go_ret2
  exact ⟨rfl, HB.out⟩

set_option maxRecDepth 100000 in
set_option maxHeartbeats 4000000 in
theorem tog_zp (w : World) : Calls Tryz.prog 27 #[.iface 110 (.agg #[]), .iface 106 (.int .i64 1)] w fun r w' => r = .returned (.tuple #[.int .i64 1, .int .i64 0]) ∧ Below w.heap.size w w' := by
  have hta : ∀ w : World, (Instr.typeAssert (.iface 110 (.agg #[])) 81 106 true).run Tryz.prog w = .ok (.tuple #[.int .i64 0, .bool false]) w := fun w => by kernel_rfl
  have C : Hid (∀ w : World, Calls Tryz.prog 51 #[.int .i64 1] w fun r w' => r = .returned (.int .i64 1) ∧ Below w.heap.size w w') := fun w => (einf_any 1 w).mono (fun r w2 h => ⟨h.1, by rw [h.2]; exact Below.refl _ _⟩)
  have hE : ∀ args w, (callFunc 51 args).run Tryz.prog w = .ok (.enter 51 args) w := enters_of Tryz.func51 (by kernel_rfl) rfl
  go_enter Tryz.func27, Tryz.ntmps27
  go_wp2_with fail
  refine (C.out _).mono ?_
  rintro e W1 ⟨rfl, hb⟩
  have HB : Hid (Below w.heap.size w W1) := hb
  clear hb
  go_wp2
  go_ret2
  exact ⟨rfl, HB.out⟩

set_option maxRecDepth 100000 in
set_option maxHeartbeats 4000000 in
theorem tog_pm (w : World) : Calls Tryz.prog 27 #[.iface 106 (.int .i64 1), .iface 106 (.int .i64 (-1))] w fun r w' => r = .returned (.tuple #[.int .i64 0, .int .i64 10]) ∧ Below w.heap.size w w' := by
  have hta : ∀ w : World, (Instr.typeAssert (.iface 106 (.int .i64 1)) 81 106 true).run Tryz.prog w = .ok (.tuple #[.int .i64 1, .bool true]) w := fun w => by kernel_rfl
  have C : Hid (∀ w : World, Calls Tryz.prog 50 #[.int .i64 1] w fun r w' => r = .returned (.iface 106 (.int .i64 (-1))) ∧ w' = w) := fun w => eturn_any 1 (by decide) (by decide) w
  have C2 : Hid (∀ w : World, Calls Tryz.prog 51 #[.int .i64 1] w fun r w' => r = .returned (.int .i64 1) ∧ w' = w) := fun w => einf_any 1 w
  have heq : ∀ w : World, (binOp .eql 81 (.iface 106 (.int .i64 (-1))) (.iface 106 (.int .i64 (-1)))).run Tryz.prog w = .ok (.bool true) w := fun w => by kernel_rfl
  go_enter Tryz.func27, Tryz.ntmps27
  go_wp2_with fail
  refine (C.out _).mono ?_
  rintro e W1 ⟨rfl, rfl⟩
  go_wp2
  go_ret2
  exact ⟨rfl, Below.refl _ _⟩

set_option maxRecDepth 100000 in
set_option maxHeartbeats 4000000 in
theorem tog_pz (w : World) : Calls Tryz.prog 27 #[.iface 106 (.int .i64 1), .iface 110 (.agg #[])] w fun r w' => r = .returned (.tuple #[.int .i64 1, .int .i64 0]) ∧ Below w.heap.size w w' := by
  have hta : ∀ w : World, (Instr.typeAssert (.iface 106 (.int .i64 1)) 81 106 true).run Tryz.prog w = .ok (.tuple #[.int .i64 1, .bool true]) w := fun w => by kernel_rfl
  have C : Hid (∀ w : World, Calls Tryz.prog 50 #[.int .i64 1] w fun r w' => r = .returned (.iface 106 (.int .i64 (-1))) ∧ w' = w) := fun w => eturn_any 1 (by decide) (by decide) w
  have C2 : Hid (∀ w : World, Calls Tryz.prog 51 #[.int .i64 1] w fun r w' => r = .returned (.int .i64 1) ∧ w' = w) := fun w => einf_any 1 w
  have heq : ∀ w : World, (binOp .eql 81 (.iface 110 (.agg #[])) (.iface 106 (.int .i64 (-1)))).run Tryz.prog w = .ok (.bool false) w := fun w => by kernel_rfl
  go_enter Tryz.func27, Tryz.ntmps27
  go_wp2_with fail
  refine (C.out _).mono ?_
  rintro e W1 ⟨rfl, rfl⟩
  go_wp2_with fail
  refine (C2.out _).mono ?_
  rintro e W2 ⟨rfl, rfl⟩
  go_wp2
  go_ret2
  exact ⟨rfl, Below.refl _ _⟩

set_option maxRecDepth 100000 in
set_option maxHeartbeats 4000000 in
theorem tog_pp (w : World) : Calls Tryz.prog 27 #[.iface 106 (.int .i64 1), .iface 106 (.int .i64 1)] w fun r w' => r = .returned (.tuple #[.int .i64 1, .int .i64 0]) ∧ Below w.heap.size w w' := by
  have hta : ∀ w : World, (Instr.typeAssert (.iface 106 (.int .i64 1)) 81 106 true).run Tryz.prog w = .ok (.tuple #[.int .i64 1, .bool true]) w := fun w => by kernel_rfl
  have C : Hid (∀ w : World, Calls Tryz.prog 50 #[.int .i64 1] w fun r w' => r = .returned (.iface 106 (.int .i64 (-1))) ∧ w' = w) := fun w => eturn_any 1 (by decide) (by decide) w
  have C2 : Hid (∀ w : World, Calls Tryz.prog 51 #[.int .i64 1] w fun r w' => r = .returned (.int .i64 1) ∧ w' = w) := fun w => einf_any 1 w
  have heq : ∀ w : World, (binOp .eql 81 (.iface 106 (.int .i64 1)) (.iface 106 (.int .i64 (-1)))).run Tryz.prog w = .ok (.bool false) w := fun w => by kernel_rfl
  go_enter Tryz.func27, Tryz.ntmps27
  go_wp2_with fail
  refine (C.out _).mono ?_
  rintro e W1 ⟨rfl, rfl⟩
  go_wp2_with fail
  refine (C2.out _).mono ?_
  rintro e W2 ⟨rfl, rfl⟩
  go_wp2
  go_ret2
  exact ⟨rfl, Below.refl _ _⟩

theorem tog_any (i j : Int) (hi : i = -1 ∨ i = 0 ∨ i = 1) (hj : j = -1 ∨ j = 0 ∨ j = 1) (w : World) : Calls Tryz.prog 27 #[kdV i, kdV j] w fun r w' => r = .returned (.tuple #[.int .i64 (tgI i j), .int .i64 (tgE i j)]) ∧ Below w.heap.size w w' := by
  rcases hi with rfl | rfl | rfl <;> rcases hj with rfl | rfl | rfl
  · exact tog_mm w
  · exact tog_mz w
  · exact tog_mp w
  · exact tog_zm w
  · exact tog_zz w
  · exact tog_zp w
  · exact tog_pm w
  · exact tog_pz w
  · exact tog_pp w


end Go.Proofs.YtpdmndlpgjjopaaGreatDoor
