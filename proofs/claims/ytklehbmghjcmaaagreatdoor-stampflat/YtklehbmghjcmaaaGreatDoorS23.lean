import Derived.Test.YtklehbmghjcmaaaGreatDoorSz
import Derived.Test.YtklehbmghjcmaaaGreatDoorS2
import Derived.Test.YtklehbmghjcmaaaGreatDoorS22
import Derived.Test.YtklehbmghjcmaaaGreatDoorS20
import Derived.Shelf.Abstract
import Derived.Deep.Cut
import Derived.Deep.DeepCutAuto
import Derived.Deep.CutRange
import Derived.Test.YtklehbmghjcmaaaGreatDoorS0
open Go.Value renaming int → vi
open Go.IntKind renaming i64 → ki
open List renaming setIfInBounds_toArray → zb, set_cons_zero → zc, set_cons_succ → zd
open Go.Act renaming put → za
open Go.Ending renaming returned → zr
set_option maxRecDepth 100000
set_option maxHeartbeats 16000000
set_option linter.unusedVariables false
namespace Go.Proofs.YtklehbmghjcmaaaGreatDoor
open Go.RowKit
theorem sec_run (i u q e : Int) (q1 : -10000000000000 ≤ q) (q2 : q ≤ 10000000000000)
  (D : Hid (∀ w : World, Calls Tryz.prog 80 #[vi ki u, vi ki 1000000] w fun r' w' => r' = zr (.tuple #[vi ki q, vi ki e]) ∧ w' = w))
  (w : World) :
  Calls Tryz.prog 34 #[.agg #[vi ki i, vi ki u]] w fun r' w' => r' = zr (vi ki (q + 946684800)) ∧ Below w.heap.size w w' := by
 have K0 := bsn1 w [vi ki i, vi ki u] 36
 go_enter Tryz.func34, Tryz.ntmps34
 go_wp2_with fail
 refine (D.out _).mono ?_
 rintro e W1 ⟨rfl, rfl⟩
 go_wp2
 go_ret
 exact ⟨rfl, K0.out.1⟩
theorem more_bad (i u n v e : Int) (he : e ≠ 0)
  (D : Hid (∀ w : World, Calls Tryz.prog 81 #[vi ki u, vi ki n] w fun r' w' => r' = zr (.tuple #[vi ki v, vi ki e]) ∧ w' = w))
  (w : World) :
  Calls Tryz.prog 35 #[.agg #[vi ki i, vi ki u], vi ki n] w fun r' w' => r' = zr (.tuple #[.agg #[vi ki 0, vi ki 0], vi ki 10]) ∧ Below w.heap.size w w' := by
 have e1 : (e != 0) = true := bne_iff_ne.2 he
 have K0 := bsn2 w [vi ki i, vi ki u] 36 [vi ki 0, vi ki 0] 36
 go_enter Tryz.func35, Tryz.ntmps35
 go_wp2_with fail
 refine (D.out _).mono ?_
 rintro e W1 ⟨rfl, rfl⟩
 go_wp2
 exact bodyPost_ret (v := .tuple #[.agg #[vi ki 0, vi ki 0], vi ki 10]) (by simp [results, Tryz.results35, go_sem]) rfl ⟨rfl, (by repeat' (first | assumption | exact Below.refl _ _ | exact Nat.le_refl _ | refine Below.alloc ?_ ?_ _ | (simp; done) | (simp; omega) | omega))⟩
theorem more_true (i u n v : Int)
  (D : Hid (∀ w : World, Calls Tryz.prog 81 #[vi ki u, vi ki n] w fun r' w' => r' = zr (.tuple #[vi ki v, vi ki 0]) ∧ w' = w))
  (R : Hid (∀ w : World, Cvl.Lens w → Calls Tryz.prog 32 #[.agg #[vi ki 0, vi ki v]] w fun r' w' => r' = zr (.bool true) ∧ Below w.heap.size w w'))
  (w : World) (hL : Hid (∀ W : World, Below w.heap.size w W → Cvl.Lens W)) :
  Calls Tryz.prog 35 #[.agg #[vi ki i, vi ki u], vi ki n] w fun r' w' => r' = zr (.tuple #[.agg #[vi ki 0, vi ki v], vi ki 0]) ∧ Below w.heap.size w w' := by
 have K0 := bsn2 w [vi ki i, vi ki u] 36 [vi ki 0, vi ki 0] 36
 go_enter Tryz.func35, Tryz.ntmps35
 go_wp2_with fail
 refine (D.out _).mono ?_
 rintro e W1 ⟨rfl, rfl⟩
 go_wp2_with fail
 refine (R.out _ (hL.out _ K0.out.1)).mono ?_
 rintro e W2 ⟨rfl, hb⟩
 have K2 := bsb K0 hb
 clear hb K0
 obtain ⟨c2_0_0, c2_0_1⟩ := (bo1 K2).c2
 obtain ⟨z2_0_0, z2_0_1⟩ := (bo1 K2).f2
 obtain ⟨c2_1_0, c2_1_1⟩ := (bo2 K2).c2
 have XF : Hid (Bx (W2.setCells (w.heap.size + 1) 0 [vi ki 0, vi ki v]) (w.heap.size + 1) [vi ki 0, vi ki v]) := (K2.out.at (w.heap.size + 1) [vi ki 0, vi ki 0] (by simp)).setAll _ rfl
 have BF : Hid (Below w.heap.size w (W2.setCells (w.heap.size + 1) 0 [vi ki 0, vi ki v])) := below_setCells (by omega) _ _ _ K2.out.1
 have y0 := XF.out.c 0 rfl
 have y1 := XF.out.c 1 rfl
 simp only [World.setCells, Nat.zero_add] at y0 y1
 clear XF
 go_wp2
 exact bodyPost_ret (v := .tuple #[.agg #[vi ki 0, vi ki v], vi ki 0]) (by simp [results, Tryz.results35, go_sem, y0, y1]) rfl ⟨rfl, BF.out⟩
theorem more_false (i u n v : Int)
  (D : Hid (∀ w : World, Calls Tryz.prog 81 #[vi ki u, vi ki n] w fun r' w' => r' = zr (.tuple #[vi ki v, vi ki 0]) ∧ w' = w))
  (R : Hid (∀ w : World, Cvl.Lens w → Calls Tryz.prog 32 #[.agg #[vi ki 0, vi ki v]] w fun r' w' => r' = zr (.bool false) ∧ Below w.heap.size w w'))
  (w : World) (hL : Hid (∀ W : World, Below w.heap.size w W → Cvl.Lens W)) :
  Calls Tryz.prog 35 #[.agg #[vi ki i, vi ki u], vi ki n] w fun r' w' => r' = zr (.tuple #[.agg #[vi ki 0, vi ki 0], vi ki 10]) ∧ Below w.heap.size w w' := by
 have K0 := bsn2 w [vi ki i, vi ki u] 36 [vi ki 0, vi ki 0] 36
 go_enter Tryz.func35, Tryz.ntmps35
 go_wp2_with fail
 refine (D.out _).mono ?_
 rintro e W1 ⟨rfl, rfl⟩
 go_wp2_with fail
 refine (R.out _ (hL.out _ K0.out.1)).mono ?_
 rintro e W2 ⟨rfl, hb⟩
 have K2 := bsb K0 hb
 clear hb K0
 obtain ⟨c2_0_0, c2_0_1⟩ := (bo1 K2).c2
 obtain ⟨z2_0_0, z2_0_1⟩ := (bo1 K2).f2
 obtain ⟨c2_1_0, c2_1_1⟩ := (bo2 K2).c2
 have XF : Hid (Bx (W2.setCells (w.heap.size + 1) 0 [vi ki 0, vi ki 0]) (w.heap.size + 1) [vi ki 0, vi ki 0]) := (K2.out.at (w.heap.size + 1) [vi ki 0, vi ki 0] (by simp)).setAll _ rfl
 have BF : Hid (Below w.heap.size w (W2.setCells (w.heap.size + 1) 0 [vi ki 0, vi ki 0])) := below_setCells (by omega) _ _ _ K2.out.1
 have y0 := XF.out.c 0 rfl
 have y1 := XF.out.c 1 rfl
 simp only [World.setCells, Nat.zero_add] at y0 y1
 clear XF
 go_wp2
 exact bodyPost_ret (v := .tuple #[.agg #[vi ki 0, vi ki 0], vi ki 10]) (by simp [results, Tryz.results35, go_sem, y0, y1]) rfl ⟨rfl, BF.out⟩
theorem dok_in {s : Int} (h : Dy.dok (s / 86400000000) = true) : -9223372036854775808 ≤ s ∧ s ≤ 9223372036854775807 := by
 unfold Dy.dok at h
 have := of_decide_eq_true h
 omega
def moV (u n : Int) : Int := if Dy.dok ((u + n) / 86400000000) = true then u + n else 0
def moE (u n : Int) : Int := if Dy.dok ((u + n) / 86400000000) = true then 0 else 10
theorem more_any (i u n : Int) (u1 : -9223372036854775808 ≤ u) (u2 : u ≤ 9223372036854775807) (n1 : -9223372036854775808 ≤ n) (n2 : n ≤ 9223372036854775807) (w : World) (hL : Cvl.Lens w) :
  Calls Tryz.prog 35 #[.agg #[vi ki i, vi ki u], vi ki n] w fun r w' => r = zr (.tuple #[.agg #[vi ki 0, vi ki (moV u n)], vi ki (moE u n)]) ∧ Below w.heap.size w w' := by
 unfold moV moE
 by_cases h : -9223372036854775808 ≤ u + n ∧ u + n ≤ 9223372036854775807
 ·have D : ∀ w : World, Calls Tryz.prog 81 #[vi ki u, vi ki n] w fun r w' => r = zr (.tuple #[vi ki (u + n), vi ki 0]) ∧ w' = w := fun w => by
   have R := add_any u n u1 u2 n1 n2 w
   rw [smV_in h.1 h.2, smE_in h.1 h.2] at R
   exact R
  have RR : ∀ w : World, Cvl.Lens w → Calls Tryz.prog 32 #[.agg #[vi ki 0, vi ki (u + n)]] w fun r w' => r = zr (.bool (Dy.dok ((u + n) / 86400000000))) ∧ Below w.heap.size w w' := fun w hw => Dy.rst_any 0 (u + n) h.1 h.2 w hw
  cases hd : Dy.dok ((u + n) / 86400000000)
  ·rw [hd] at RR; rw [if_neg (by decide), if_neg (by decide)]; exact more_false i u n (u + n) D RR w (Dy.lens_of hL)
  ·rw [hd] at RR; rw [if_pos rfl, if_pos rfl]; exact more_true i u n (u + n) D RR w (Dy.lens_of hL)
 ·have hd : ¬ Dy.dok ((u + n) / 86400000000) = true := fun q => h (dok_in q)
  rw [if_neg hd, if_neg hd]
  have R := fun w => add_any u n u1 u2 n1 n2 w
  have e10 : smE (u + n) ≠ 0 := by unfold smE; rw [if_neg h]; decide
  exact more_bad i u n _ _ e10 R w
theorem sec_any (i u : Int) (u1 : -9223372036854775808 ≤ u) (u2 : u ≤ 9223372036854775807) (w : World) :
  Calls Tryz.prog 34 #[.agg #[vi ki i, vi ki u]] w fun r w' => r = zr (vi ki (u / 1000000 + 946684800)) ∧ Below w.heap.size w w' := by
 have R := fun w => div_any u 1000000 u1 u2 (by decide) (by decide) (by decide) w
 have e : u.fdiv 1000000 = u / 1000000 := Int.fdiv_eq_ediv_of_nonneg _ (by decide)
 rw [e] at R
 have b1 : -10000000000000 ≤ u / 1000000 := by omega
 have b2 : u / 1000000 ≤ 10000000000000 := by omega
 rw [smV_in (by omega) (by omega)] at R
 exact sec_run i u _ _ b1 b2 R w
def kdV (i : Int) : Value := if i = 0 then .iface 145 (.agg #[]) else .iface 141 (vi ki i)
def tgI (i j : Int) : Int := if i = 0 then j else if j = -i then 0 else i
def tgE (i j : Int) : Int := if i = 0 then 0 else if j = -i then 10 else 0
theorem kind_any (i : Int) (w : World) : Calls Tryz.prog 46 #[vi ki i] w fun r w' => r = zr (kdV i) ∧ w' = w := by
 unfold kdV
 by_cases h : i = 0
 ·subst h
  rw [if_pos rfl]
  go_enter Tryz.func46, Tryz.ntmps46
  go_wp2
  go_ret
  exact ⟨rfl, rfl⟩
 ·have h' : (i == 0) = false := by simpa using h
  rw [if_neg h]
  go_enter Tryz.func46, Tryz.ntmps46
  go_wp2
  go_ret
  exact ⟨rfl, rfl⟩
theorem eturn_any (i : Int) (h1 : -1 ≤ i) (h2 : i ≤ 1) (w : World) : Calls Tryz.prog 95 #[vi ki i] w fun r w' => r = zr (.iface 141 (vi ki (-i))) ∧ w' = w := by
 go_enter Tryz.func95, Tryz.ntmps95
 go_wp2
 go_ret
 exact ⟨rfl, rfl⟩
theorem einf_any (i : Int) (w : World) : Calls Tryz.prog 96 #[vi ki i] w fun r w' => r = zr (vi ki i) ∧ w' = w := by
 go_enter Tryz.func96, Tryz.ntmps96
 go_wp2
 go_ret
 exact ⟨rfl, rfl⟩
theorem binf_any (w : World) : Calls Tryz.prog 262 #[.agg #[]] w fun r w' => r = zr (vi ki 0) ∧ Below w.heap.size w w' := by
 have HB : Hid (Below w.heap.size w (w.alloc (.cells #[] 145))) := (Below.refl _ _).alloc (Nat.le_refl _) _
 go_enter Tryz.func262, Tryz.ntmps262
 go_wp2
 go_ret
 exact ⟨rfl, HB.out⟩
theorem bturn_any (w : World) : Calls Tryz.prog 263 #[.agg #[]] w fun r w' => r = zr (.iface 145 (.agg #[])) ∧ Below w.heap.size w w' := by
 have HB : Hid (Below w.heap.size w (w.alloc (.cells #[] 145))) := (Below.refl _ _).alloc (Nat.le_refl _) _
 go_enter Tryz.func263, Tryz.ntmps263
 go_wp2
 go_ret
 exact ⟨rfl, HB.out⟩
theorem tog_mm (w : World) : Calls Tryz.prog 45 #[.iface 141 (vi ki (-1)), .iface 141 (vi ki (-1))] w fun r w' => r = zr (.tuple #[vi ki (-1), vi ki 0]) ∧ Below w.heap.size w w' := by
 have hta : ∀ w : World, (Instr.typeAssert (.iface 141 (vi ki (-1))) 91 141 true).run Tryz.prog w = .ok (.tuple #[vi ki (-1), .bool true]) w := fun w => by kernel_rfl
 have C : Hid (∀ w : World, Calls Tryz.prog 95 #[vi ki (-1)] w fun r w' => r = zr (.iface 141 (vi ki 1)) ∧ w' = w) := fun w => eturn_any (-1) (by decide) (by decide) w
 have C2 : Hid (∀ w : World, Calls Tryz.prog 96 #[vi ki (-1)] w fun r w' => r = zr (vi ki (-1)) ∧ w' = w) := fun w => einf_any (-1) w
 have heq : ∀ w : World, (binOp .eql 91 (.iface 141 (vi ki (-1))) (.iface 141 (vi ki 1))).run Tryz.prog w = .ok (.bool false) w := fun w => by kernel_rfl
 go_enter Tryz.func45, Tryz.ntmps45
 go_wp2_with fail
 refine (C.out _).mono ?_
 rintro e W1 ⟨rfl, rfl⟩
 go_wp2_with fail
 refine (C2.out _).mono ?_
 rintro e W2 ⟨rfl, rfl⟩
 go_wp2
 go_ret2
 exact ⟨rfl, Below.refl _ _⟩
theorem tog_mz (w : World) : Calls Tryz.prog 45 #[.iface 141 (vi ki (-1)), .iface 145 (.agg #[])] w fun r w' => r = zr (.tuple #[vi ki (-1), vi ki 0]) ∧ Below w.heap.size w w' := by
 have hta : ∀ w : World, (Instr.typeAssert (.iface 141 (vi ki (-1))) 91 141 true).run Tryz.prog w = .ok (.tuple #[vi ki (-1), .bool true]) w := fun w => by kernel_rfl
 have C : Hid (∀ w : World, Calls Tryz.prog 95 #[vi ki (-1)] w fun r w' => r = zr (.iface 141 (vi ki 1)) ∧ w' = w) := fun w => eturn_any (-1) (by decide) (by decide) w
 have C2 : Hid (∀ w : World, Calls Tryz.prog 96 #[vi ki (-1)] w fun r w' => r = zr (vi ki (-1)) ∧ w' = w) := fun w => einf_any (-1) w
 have heq : ∀ w : World, (binOp .eql 91 (.iface 145 (.agg #[])) (.iface 141 (vi ki 1))).run Tryz.prog w = .ok (.bool false) w := fun w => by kernel_rfl
 go_enter Tryz.func45, Tryz.ntmps45
 go_wp2_with fail
 refine (C.out _).mono ?_
 rintro e W1 ⟨rfl, rfl⟩
 go_wp2_with fail
 refine (C2.out _).mono ?_
 rintro e W2 ⟨rfl, rfl⟩
 go_wp2
 go_ret2
 exact ⟨rfl, Below.refl _ _⟩
theorem tog_mp (w : World) : Calls Tryz.prog 45 #[.iface 141 (vi ki (-1)), .iface 141 (vi ki 1)] w fun r w' => r = zr (.tuple #[vi ki 0, vi ki 10]) ∧ Below w.heap.size w w' := by
 have hta : ∀ w : World, (Instr.typeAssert (.iface 141 (vi ki (-1))) 91 141 true).run Tryz.prog w = .ok (.tuple #[vi ki (-1), .bool true]) w := fun w => by kernel_rfl
 have C : Hid (∀ w : World, Calls Tryz.prog 95 #[vi ki (-1)] w fun r w' => r = zr (.iface 141 (vi ki 1)) ∧ w' = w) := fun w => eturn_any (-1) (by decide) (by decide) w
 have C2 : Hid (∀ w : World, Calls Tryz.prog 96 #[vi ki (-1)] w fun r w' => r = zr (vi ki (-1)) ∧ w' = w) := fun w => einf_any (-1) w
 have heq : ∀ w : World, (binOp .eql 91 (.iface 141 (vi ki 1)) (.iface 141 (vi ki 1))).run Tryz.prog w = .ok (.bool true) w := fun w => by kernel_rfl
 go_enter Tryz.func45, Tryz.ntmps45
 go_wp2_with fail
 refine (C.out _).mono ?_
 rintro e W1 ⟨rfl, rfl⟩
 go_wp2
 go_ret2
 exact ⟨rfl, Below.refl _ _⟩
theorem tog_zm (w : World) : Calls Tryz.prog 45 #[.iface 145 (.agg #[]), .iface 141 (vi ki (-1))] w fun r w' => r = zr (.tuple #[vi ki (-1), vi ki 0]) ∧ Below w.heap.size w w' := by
 have hta : ∀ w : World, (Instr.typeAssert (.iface 145 (.agg #[])) 91 141 true).run Tryz.prog w = .ok (.tuple #[vi ki 0, .bool false]) w := fun w => by kernel_rfl
 have C : Hid (∀ w : World, Calls Tryz.prog 96 #[vi ki (-1)] w fun r w' => r = zr (vi ki (-1)) ∧ Below w.heap.size w w') := fun w => (einf_any (-1) w).mono (fun r w2 h => ⟨h.1, by rw [h.2]; exact Below.refl _ _⟩)
 have hE : ∀ args w, (callFunc 96 args).run Tryz.prog w = .ok (.enter 96 args) w := enters_of Tryz.func96 (by kernel_rfl) rfl
 go_enter Tryz.func45, Tryz.ntmps45
 go_wp2_with fail
 refine (C.out _).mono ?_
 rintro e W1 ⟨rfl, hb⟩
 have HB : Hid (Below w.heap.size w W1) := hb
 clear hb
 go_wp2
 go_ret2
 exact ⟨rfl, HB.out⟩
theorem tog_zz (w : World) : Calls Tryz.prog 45 #[.iface 145 (.agg #[]), .iface 145 (.agg #[])] w fun r w' => r = zr (.tuple #[vi ki 0, vi ki 0]) ∧ Below w.heap.size w w' := by
 have hta : ∀ w : World, (Instr.typeAssert (.iface 145 (.agg #[])) 91 141 true).run Tryz.prog w = .ok (.tuple #[vi ki 0, .bool false]) w := fun w => by kernel_rfl
 have C : Hid (∀ w : World, Calls Tryz.prog 262 #[.agg #[]] w fun r w' => r = zr (vi ki 0) ∧ Below w.heap.size w w') := fun w => binf_any w
 have hE : ∀ args w, (callFunc 262 args).run Tryz.prog w = .ok (.enter 262 args) w := enters_of Tryz.func262 (by kernel_rfl) rfl
 go_enter Tryz.func45, Tryz.ntmps45
 go_wp2_with fail
 refine (C.out _).mono ?_
 rintro e W1 ⟨rfl, hb⟩
 have HB : Hid (Below w.heap.size w W1) := hb
 clear hb
 go_wp2
 go_ret2
 exact ⟨rfl, HB.out⟩
theorem tog_zp (w : World) : Calls Tryz.prog 45 #[.iface 145 (.agg #[]), .iface 141 (vi ki 1)] w fun r w' => r = zr (.tuple #[vi ki 1, vi ki 0]) ∧ Below w.heap.size w w' := by
 have hta : ∀ w : World, (Instr.typeAssert (.iface 145 (.agg #[])) 91 141 true).run Tryz.prog w = .ok (.tuple #[vi ki 0, .bool false]) w := fun w => by kernel_rfl
 have C : Hid (∀ w : World, Calls Tryz.prog 96 #[vi ki 1] w fun r w' => r = zr (vi ki 1) ∧ Below w.heap.size w w') := fun w => (einf_any 1 w).mono (fun r w2 h => ⟨h.1, by rw [h.2]; exact Below.refl _ _⟩)
 have hE : ∀ args w, (callFunc 96 args).run Tryz.prog w = .ok (.enter 96 args) w := enters_of Tryz.func96 (by kernel_rfl) rfl
 go_enter Tryz.func45, Tryz.ntmps45
 go_wp2_with fail
 refine (C.out _).mono ?_
 rintro e W1 ⟨rfl, hb⟩
 have HB : Hid (Below w.heap.size w W1) := hb
 clear hb
 go_wp2
 go_ret2
 exact ⟨rfl, HB.out⟩
theorem tog_pm (w : World) : Calls Tryz.prog 45 #[.iface 141 (vi ki 1), .iface 141 (vi ki (-1))] w fun r w' => r = zr (.tuple #[vi ki 0, vi ki 10]) ∧ Below w.heap.size w w' := by
 have hta : ∀ w : World, (Instr.typeAssert (.iface 141 (vi ki 1)) 91 141 true).run Tryz.prog w = .ok (.tuple #[vi ki 1, .bool true]) w := fun w => by kernel_rfl
 have C : Hid (∀ w : World, Calls Tryz.prog 95 #[vi ki 1] w fun r w' => r = zr (.iface 141 (vi ki (-1))) ∧ w' = w) := fun w => eturn_any 1 (by decide) (by decide) w
 have C2 : Hid (∀ w : World, Calls Tryz.prog 96 #[vi ki 1] w fun r w' => r = zr (vi ki 1) ∧ w' = w) := fun w => einf_any 1 w
 have heq : ∀ w : World, (binOp .eql 91 (.iface 141 (vi ki (-1))) (.iface 141 (vi ki (-1)))).run Tryz.prog w = .ok (.bool true) w := fun w => by kernel_rfl
 go_enter Tryz.func45, Tryz.ntmps45
 go_wp2_with fail
 refine (C.out _).mono ?_
 rintro e W1 ⟨rfl, rfl⟩
 go_wp2
 go_ret2
 exact ⟨rfl, Below.refl _ _⟩
theorem tog_pz (w : World) : Calls Tryz.prog 45 #[.iface 141 (vi ki 1), .iface 145 (.agg #[])] w fun r w' => r = zr (.tuple #[vi ki 1, vi ki 0]) ∧ Below w.heap.size w w' := by
 have hta : ∀ w : World, (Instr.typeAssert (.iface 141 (vi ki 1)) 91 141 true).run Tryz.prog w = .ok (.tuple #[vi ki 1, .bool true]) w := fun w => by kernel_rfl
 have C : Hid (∀ w : World, Calls Tryz.prog 95 #[vi ki 1] w fun r w' => r = zr (.iface 141 (vi ki (-1))) ∧ w' = w) := fun w => eturn_any 1 (by decide) (by decide) w
 have C2 : Hid (∀ w : World, Calls Tryz.prog 96 #[vi ki 1] w fun r w' => r = zr (vi ki 1) ∧ w' = w) := fun w => einf_any 1 w
 have heq : ∀ w : World, (binOp .eql 91 (.iface 145 (.agg #[])) (.iface 141 (vi ki (-1)))).run Tryz.prog w = .ok (.bool false) w := fun w => by kernel_rfl
 go_enter Tryz.func45, Tryz.ntmps45
 go_wp2_with fail
 refine (C.out _).mono ?_
 rintro e W1 ⟨rfl, rfl⟩
 go_wp2_with fail
 refine (C2.out _).mono ?_
 rintro e W2 ⟨rfl, rfl⟩
 go_wp2
 go_ret2
 exact ⟨rfl, Below.refl _ _⟩
theorem tog_pp (w : World) : Calls Tryz.prog 45 #[.iface 141 (vi ki 1), .iface 141 (vi ki 1)] w fun r w' => r = zr (.tuple #[vi ki 1, vi ki 0]) ∧ Below w.heap.size w w' := by
 have hta : ∀ w : World, (Instr.typeAssert (.iface 141 (vi ki 1)) 91 141 true).run Tryz.prog w = .ok (.tuple #[vi ki 1, .bool true]) w := fun w => by kernel_rfl
 have C : Hid (∀ w : World, Calls Tryz.prog 95 #[vi ki 1] w fun r w' => r = zr (.iface 141 (vi ki (-1))) ∧ w' = w) := fun w => eturn_any 1 (by decide) (by decide) w
 have C2 : Hid (∀ w : World, Calls Tryz.prog 96 #[vi ki 1] w fun r w' => r = zr (vi ki 1) ∧ w' = w) := fun w => einf_any 1 w
 have heq : ∀ w : World, (binOp .eql 91 (.iface 141 (vi ki 1)) (.iface 141 (vi ki (-1)))).run Tryz.prog w = .ok (.bool false) w := fun w => by kernel_rfl
 go_enter Tryz.func45, Tryz.ntmps45
 go_wp2_with fail
 refine (C.out _).mono ?_
 rintro e W1 ⟨rfl, rfl⟩
 go_wp2_with fail
 refine (C2.out _).mono ?_
 rintro e W2 ⟨rfl, rfl⟩
 go_wp2
 go_ret2
 exact ⟨rfl, Below.refl _ _⟩
theorem tog_any (i j : Int) (hi : i = -1 ∨ i = 0 ∨ i = 1) (hj : j = -1 ∨ j = 0 ∨ j = 1) (w : World) : Calls Tryz.prog 45 #[kdV i, kdV j] w fun r w' => r = zr (.tuple #[vi ki (tgI i j), vi ki (tgE i j)]) ∧ Below w.heap.size w w' := by
 rcases hi with rfl | rfl | rfl <;> rcases hj with rfl | rfl | rfl
 ·exact tog_mm w
 ·exact tog_mz w
 ·exact tog_mp w
 ·exact tog_zm w
 ·exact tog_zz w
 ·exact tog_zp w
 ·exact tog_pm w
 ·exact tog_pz w
 ·exact tog_pp w
theorem at_run (y m d us v e V f : Int)
  (MK : Hid (∀ w : World, Calls Tryz.prog 67 #[vi ki y, vi ki m, vi ki d] w fun r' w' => r' = zr (.tuple #[.agg #[vi ki 0, vi ki v], vi ki e]) ∧ Below w.heap.size w w'))
  (SM : Hid (∀ w : World, Calls Tryz.prog 90 #[.agg #[vi ki 0, vi ki v], vi ki us] w fun r' w' => r' = zr (.tuple #[.agg #[vi ki 0, vi ki V], vi ki f]) ∧ Below w.heap.size w w'))
  (w : World) :
  Calls Tryz.prog 43 #[vi ki y, vi ki m, vi ki d, vi ki us] w fun r' w' => r' = zr (.agg #[vi ki 0, vi ki V]) ∧ Below w.heap.size w w' := by
 have K0 := bsn1 w [vi ki 0, vi ki 0] 36
 go_enter Tryz.func43, Tryz.ntmps43
 go_wp2_with fail
 refine (MK.out _).mono ?_
 rintro e W1 ⟨rfl, hb⟩
 have K1 := bsb K0 hb
 clear hb K0
 obtain ⟨c1_0_0, c1_0_1⟩ := (bo1 K1).c2
 have Mz1 := bsn K1 [vi ki 0, vi ki v] 111
 have lt1_0 := (bo1 K1).1
 go_upto_region 2 with fail
 refine bs_to Mz1 ?_
 clear c1_0_0 c1_0_1
 intro W2 K2
 clear Mz1 K1
 obtain ⟨c2_0_0, c2_0_1⟩ := (bo1 K2).c2
 obtain ⟨c2_1_0, c2_1_1⟩ := (bo2 K2).c2
 go_wp2_with fail
 refine (SM.out _).mono ?_
 rintro e W3 ⟨rfl, hb⟩
 have K3 := bsb K2 hb
 clear c2_0_0 c2_0_1 c2_1_0 c2_1_1
 clear hb K2
 obtain ⟨c3_0_0, c3_0_1⟩ := (bo1 K3).c2
 obtain ⟨c3_1_0, c3_1_1⟩ := (bo2 K3).c2
 have Mz3 := bsn K3 [vi ki 0, vi ki V] 36
 have lt3_0 := (bo1 K3).1
 have lt3_1 := (bo2 K3).1
 go_upto_region 3 with fail
 refine bs_to Mz3 ?_
 clear c3_0_0 c3_0_1 c3_1_0 c3_1_1
 intro W4 K4
 clear Mz3 K3
 obtain ⟨c4_0_0, c4_0_1⟩ := (bo1 K4).c2
 obtain ⟨c4_1_0, c4_1_1⟩ := (bo2 K4).c2
 obtain ⟨c4_2_0, c4_2_1⟩ := (bo3 K4).c2
 obtain ⟨z4_2_0, z4_2_1⟩ := (bo3 K4).f2
 have XF : Hid (Bx (W4.setCells (w.heap.size) 0 [vi ki 0, vi ki V]) (w.heap.size) [vi ki 0, vi ki V]) := (K4.out.at (w.heap.size) [vi ki 0, vi ki 0] (by simp)).setAll _ rfl
 have BF : Hid (Below w.heap.size w (W4.setCells (w.heap.size) 0 [vi ki 0, vi ki V])) := below_setCells (by omega) _ _ _ K4.out.1
 have y0 := XF.out.c 0 rfl
 have y1 := XF.out.c 1 rfl
 simp only [World.setCells, Nat.zero_add] at y0 y1
 clear XF
 go_wp2
 exact bodyPost_ret (v := .agg #[vi ki 0, vi ki V]) (by simp [results, Tryz.results43, go_sem, y0, y1]) rfl ⟨rfl, BF.out⟩
theorem at_any (y m d us v : Int) (h1 : Dy.mkV y m d = v) (h2 : Dy.stI 0 v us = 0) (V : Int) (h3 : Dy.stV 0 v us = V) (w : World) :
  Calls Tryz.prog 43 #[vi ki y, vi ki m, vi ki d, vi ki us] w fun r w' => r = zr (.agg #[vi ki 0, vi ki V]) ∧ Below w.heap.size w w' := by
 have MK := fun w => Dy.rmake_any y m d w
 rw [h1] at MK
 have SM := fun w => Dy.rstamp_any 0 v us w
 rw [h2, h3] at SM
 exact at_run y m d us v _ V _ MK SM w
end Go.Proofs.YtklehbmghjcmaaaGreatDoor
namespace Go.Proofs.YtklehbmghjcmaaaGreatDoor.Sp
open Go.RowKit
theorem ret_bool {a b : Bool} (h : a = b) : Ending.returned (.bool a) = zr (.bool b) := by rw [h]
def cnt (n : Int) : Bool := decide (-2147483647 ≤ n ∧ n ≤ 2147483647)
theorem cnt_t (n : Int) (h1 : -2147483647 ≤ n) (h2 : n ≤ 2147483647)
  (w : World) :
  Calls Tryz.prog 56 #[vi ki n] w fun r' w' => r' = zr (.bool true) ∧ w' = w := by
 go_enter Tryz.func56, Tryz.ntmps56
 go_wp2
 go_ret
 exact ⟨by first | rfl | exact ret_bool (by simp; omega), rfl⟩
theorem cnt_f1 (n : Int) (h1 : ¬ -2147483647 ≤ n)
  (w : World) :
  Calls Tryz.prog 56 #[vi ki n] w fun r' w' => r' = zr (.bool false) ∧ w' = w := by
 go_enter Tryz.func56, Tryz.ntmps56
 go_wp2
 go_ret
 exact ⟨by first | rfl | exact ret_bool (by simp; omega), rfl⟩
theorem cnt_f2 (n : Int) (h1 : -2147483647 ≤ n) (h2 : ¬ n ≤ 2147483647)
  (w : World) :
  Calls Tryz.prog 56 #[vi ki n] w fun r' w' => r' = zr (.bool false) ∧ w' = w := by
 go_enter Tryz.func56, Tryz.ntmps56
 go_wp2
 go_ret
 exact ⟨by first | rfl | exact ret_bool (by simp; omega), rfl⟩
theorem isCount_any (n : Int) (w : World) : Calls Tryz.prog 56 #[vi ki n] w fun r w' => r = zr (.bool (cnt n)) ∧ w' = w := by
 unfold cnt
 by_cases h1 : -2147483647 ≤ n
 ·by_cases h2 : n ≤ 2147483647
  ·rw [decide_eq_true ⟨h1, h2⟩]; exact cnt_t n h1 h2 w
  ·rw [decide_eq_false (fun k => h2 k.2)]; exact cnt_f2 n h1 h2 w
 ·rw [decide_eq_false (fun k => h1 k.1)]; exact cnt_f1 n h1 w
end Go.Proofs.YtklehbmghjcmaaaGreatDoor.Sp
namespace Go.Proofs.YtklehbmghjcmaaaGreatDoor.Sp
open Go.RowKit
def pR (i m d u : Int) : Bool := if i = 0 then cnt m && (cnt d && decide (-9223372036854775807 ≤ u ∧ u ≤ 9223372036854775807)) else decide ((i = -1 ∨ i = 1) ∧ m = 0 ∧ d = 0 ∧ u = 0)
theorem pR_1 {i : Int} (h : i ≠ 0) (m d u : Int) : pR i m d u = decide ((i = -1 ∨ i = 1) ∧ m = 0 ∧ d = 0 ∧ u = 0) := if_neg h
theorem pR_0 (m d u : Int) : pR 0 m d u = (cnt m && (cnt d && decide (-9223372036854775807 ≤ u ∧ u ≤ 9223372036854775807))) := rfl
theorem pr_f1 (m d u : Int)
  (C1 : Hid (∀ w : World, Calls Tryz.prog 56 #[vi ki m] w fun r' w' => r' = zr (.bool false) ∧ w' = w))
  (w : World) :
  Calls Tryz.prog 23 #[.agg #[vi ki 0, vi ki m, vi ki d, vi ki u]] w fun r' w' => r' = zr (.bool false) ∧ Below w.heap.size w w' := by
 have K0 := bsn1 w [vi ki 0, vi ki m, vi ki d, vi ki u] 59
 go_enter Tryz.func23, Tryz.ntmps23
 go_wp2_with fail
 refine (C1.out _).mono ?_
 rintro e W1 ⟨rfl, rfl⟩
 go_wp2
 go_ret
 exact ⟨rfl, K0.out.1⟩
theorem pr_f2 (m d u : Int)
  (C1 : Hid (∀ w : World, Calls Tryz.prog 56 #[vi ki m] w fun r' w' => r' = zr (.bool true) ∧ w' = w))
  (C2 : Hid (∀ w : World, Calls Tryz.prog 56 #[vi ki d] w fun r' w' => r' = zr (.bool false) ∧ w' = w))
  (w : World) :
  Calls Tryz.prog 23 #[.agg #[vi ki 0, vi ki m, vi ki d, vi ki u]] w fun r' w' => r' = zr (.bool false) ∧ Below w.heap.size w w' := by
 have K0 := bsn1 w [vi ki 0, vi ki m, vi ki d, vi ki u] 59
 go_enter Tryz.func23, Tryz.ntmps23
 go_wp2_with fail
 refine (C1.out _).mono ?_
 rintro e W1 ⟨rfl, rfl⟩
 go_wp2_with fail
 refine (C2.out _).mono ?_
 rintro e W2 ⟨rfl, rfl⟩
 go_wp2
 go_ret
 exact ⟨rfl, K0.out.1⟩
theorem pr_f3 (m d : Int)
  (C1 : Hid (∀ w : World, Calls Tryz.prog 56 #[vi ki m] w fun r' w' => r' = zr (.bool true) ∧ w' = w))
  (C2 : Hid (∀ w : World, Calls Tryz.prog 56 #[vi ki d] w fun r' w' => r' = zr (.bool true) ∧ w' = w))
  (w : World) :
  Calls Tryz.prog 23 #[.agg #[vi ki 0, vi ki m, vi ki d, vi ki (-9223372036854775808)]] w fun r' w' => r' = zr (.bool false) ∧ Below w.heap.size w w' := by
 have K0 := bsn1 w [vi ki 0, vi ki m, vi ki d, vi ki (-9223372036854775808)] 59
 go_enter Tryz.func23, Tryz.ntmps23
 go_wp2_with fail
 refine (C1.out _).mono ?_
 rintro e W1 ⟨rfl, rfl⟩
 go_wp2_with fail
 refine (C2.out _).mono ?_
 rintro e W2 ⟨rfl, rfl⟩
 go_wp2
 go_ret
 exact ⟨rfl, K0.out.1⟩
theorem pr_t (m d u : Int) (hu : u ≠ -9223372036854775808)
  (C1 : Hid (∀ w : World, Calls Tryz.prog 56 #[vi ki m] w fun r' w' => r' = zr (.bool true) ∧ w' = w))
  (C2 : Hid (∀ w : World, Calls Tryz.prog 56 #[vi ki d] w fun r' w' => r' = zr (.bool true) ∧ w' = w))
  (w : World) :
  Calls Tryz.prog 23 #[.agg #[vi ki 0, vi ki m, vi ki d, vi ki u]] w fun r' w' => r' = zr (.bool true) ∧ Below w.heap.size w w' := by
 have u1 : (u != -9223372036854775808) = true := bne_iff_ne.2 hu
 have K0 := bsn1 w [vi ki 0, vi ki m, vi ki d, vi ki u] 59
 go_enter Tryz.func23, Tryz.ntmps23
 go_wp2_with fail
 refine (C1.out _).mono ?_
 rintro e W1 ⟨rfl, rfl⟩
 go_wp2_with fail
 refine (C2.out _).mono ?_
 rintro e W2 ⟨rfl, rfl⟩
 go_wp2
 go_ret
 exact ⟨rfl, K0.out.1⟩
theorem pr_m0 
  (w : World) :
  Calls Tryz.prog 23 #[.agg #[vi ki (-1), vi ki 0, vi ki 0, vi ki 0]] w fun r' w' => r' = zr (.bool true) ∧ Below w.heap.size w w' := by
 have K0 := bsn1 w [vi ki (-1), vi ki 0, vi ki 0, vi ki 0] 59
 go_enter Tryz.func23, Tryz.ntmps23
 go_wp2
 go_ret
 exact ⟨rfl, K0.out.1⟩
theorem pr_m1 (m d u : Int) (h : m ≠ 0)
  (w : World) :
  Calls Tryz.prog 23 #[.agg #[vi ki (-1), vi ki m, vi ki d, vi ki u]] w fun r' w' => r' = zr (.bool false) ∧ Below w.heap.size w w' := by
 have h1 : (m == 0) = false := by simpa using h
 have K0 := bsn1 w [vi ki (-1), vi ki m, vi ki d, vi ki u] 59
 go_enter Tryz.func23, Tryz.ntmps23
 go_wp2
 go_ret
 exact ⟨rfl, K0.out.1⟩
theorem pr_m2 (d u : Int) (h : d ≠ 0)
  (w : World) :
  Calls Tryz.prog 23 #[.agg #[vi ki (-1), vi ki 0, vi ki d, vi ki u]] w fun r' w' => r' = zr (.bool false) ∧ Below w.heap.size w w' := by
 have h1 : (d == 0) = false := by simpa using h
 have K0 := bsn1 w [vi ki (-1), vi ki 0, vi ki d, vi ki u] 59
 go_enter Tryz.func23, Tryz.ntmps23
 go_wp2
 go_ret
 exact ⟨rfl, K0.out.1⟩
theorem pr_m3 (u : Int) (h : u ≠ 0)
  (w : World) :
  Calls Tryz.prog 23 #[.agg #[vi ki (-1), vi ki 0, vi ki 0, vi ki u]] w fun r' w' => r' = zr (.bool false) ∧ Below w.heap.size w w' := by
 have h1 : (u == 0) = false := by simpa using h
 have K0 := bsn1 w [vi ki (-1), vi ki 0, vi ki 0, vi ki u] 59
 go_enter Tryz.func23, Tryz.ntmps23
 go_wp2
 go_ret
 exact ⟨rfl, K0.out.1⟩
theorem pr_p0 
  (w : World) :
  Calls Tryz.prog 23 #[.agg #[vi ki 1, vi ki 0, vi ki 0, vi ki 0]] w fun r' w' => r' = zr (.bool true) ∧ Below w.heap.size w w' := by
 have K0 := bsn1 w [vi ki 1, vi ki 0, vi ki 0, vi ki 0] 59
 go_enter Tryz.func23, Tryz.ntmps23
 go_wp2
 go_ret
 exact ⟨rfl, K0.out.1⟩
theorem pr_p1 (m d u : Int) (h : m ≠ 0)
  (w : World) :
  Calls Tryz.prog 23 #[.agg #[vi ki 1, vi ki m, vi ki d, vi ki u]] w fun r' w' => r' = zr (.bool false) ∧ Below w.heap.size w w' := by
 have h1 : (m == 0) = false := by simpa using h
 have K0 := bsn1 w [vi ki 1, vi ki m, vi ki d, vi ki u] 59
 go_enter Tryz.func23, Tryz.ntmps23
 go_wp2
 go_ret
 exact ⟨rfl, K0.out.1⟩
theorem pr_p2 (d u : Int) (h : d ≠ 0)
  (w : World) :
  Calls Tryz.prog 23 #[.agg #[vi ki 1, vi ki 0, vi ki d, vi ki u]] w fun r' w' => r' = zr (.bool false) ∧ Below w.heap.size w w' := by
 have h1 : (d == 0) = false := by simpa using h
 have K0 := bsn1 w [vi ki 1, vi ki 0, vi ki d, vi ki u] 59
 go_enter Tryz.func23, Tryz.ntmps23
 go_wp2
 go_ret
 exact ⟨rfl, K0.out.1⟩
theorem pr_p3 (u : Int) (h : u ≠ 0)
  (w : World) :
  Calls Tryz.prog 23 #[.agg #[vi ki 1, vi ki 0, vi ki 0, vi ki u]] w fun r' w' => r' = zr (.bool false) ∧ Below w.heap.size w w' := by
 have h1 : (u == 0) = false := by simpa using h
 have K0 := bsn1 w [vi ki 1, vi ki 0, vi ki 0, vi ki u] 59
 go_enter Tryz.func23, Tryz.ntmps23
 go_wp2
 go_ret
 exact ⟨rfl, K0.out.1⟩
theorem pr_x (i m d u : Int) (h0 : i ≠ 0) (h1 : i ≠ -1) (h2 : i ≠ 1)
  (w : World) :
  Calls Tryz.prog 23 #[.agg #[vi ki i, vi ki m, vi ki d, vi ki u]] w fun r' w' => r' = zr (.bool false) ∧ Below w.heap.size w w' := by
 have g0 : (i == 0) = false := by simpa using h0
 have g9 : (i != 0) = true := bne_iff_ne.2 h0
 have g1 : (i == -1) = false := by simpa using h1
 have g2 : (i == 1) = false := by simpa using h2
 have K0 := bsn1 w [vi ki i, vi ki m, vi ki d, vi ki u] 59
 go_enter Tryz.func23, Tryz.ntmps23
 go_wp2
 go_ret
 exact ⟨rfl, K0.out.1⟩
theorem pr_any (i m d u : Int) (u1 : -9223372036854775808 ≤ u) (u2 : u ≤ 9223372036854775807) (w : World) :
  Calls Tryz.prog 23 #[.agg #[vi ki i, vi ki m, vi ki d, vi ki u]] w fun r w' => r = zr (.bool (pR i m d u)) ∧ Below w.heap.size w w' := by
 by_cases h0 : i = 0
 ·subst h0
  rw [pR_0]
  cases c1 : cnt m
  ·exact pr_f1 m d u (fun w => by rw [← c1]; exact isCount_any m w) w
  ·cases c2 : cnt d
   ·exact pr_f2 m d u (fun w => by rw [← c1]; exact isCount_any m w) (fun w => by rw [← c2]; exact isCount_any d w) w
   ·by_cases hu : u = -9223372036854775808
    ·subst hu
     exact pr_f3 m d (fun w => by rw [← c1]; exact isCount_any m w) (fun w => by rw [← c2]; exact isCount_any d w) w
    ·rw [decide_eq_true ⟨by omega, u2⟩]
     exact pr_t m d u hu (fun w => by rw [← c1]; exact isCount_any m w) (fun w => by rw [← c2]; exact isCount_any d w) w
 ·rw [pR_1 h0]
  by_cases g1 : i = -1
  ·subst g1
   by_cases a : m = 0
   ·subst a
    by_cases b : d = 0
    ·subst b
     by_cases c : u = 0
     ·subst c
      rw [decide_eq_true ⟨.inl rfl, rfl, rfl, rfl⟩]; exact pr_m0 w
     ·rw [decide_eq_false (fun q => c q.2.2.2)]; exact pr_m3 u c w
    ·rw [decide_eq_false (fun q => b q.2.2.1)]; exact pr_m2 d u b w
   ·rw [decide_eq_false (fun q => a q.2.1)]; exact pr_m1 m d u a w
  ·by_cases g2 : i = 1
   ·subst g2
    by_cases a : m = 0
    ·subst a
     by_cases b : d = 0
     ·subst b
      by_cases c : u = 0
      ·subst c
       rw [decide_eq_true ⟨.inr rfl, rfl, rfl, rfl⟩]; exact pr_p0 w
      ·rw [decide_eq_false (fun q => c q.2.2.2)]; exact pr_p3 u c w
     ·rw [decide_eq_false (fun q => b q.2.2.1)]; exact pr_p2 d u b w
    ·rw [decide_eq_false (fun q => a q.2.1)]; exact pr_p1 m d u a w
   ·rw [decide_eq_false (fun q => q.1.elim g1 g2)]; exact pr_x i m d u h0 g1 g2 w
end Go.Proofs.YtklehbmghjcmaaaGreatDoor.Sp
namespace Go.Proofs.YtklehbmghjcmaaaGreatDoor.Sp
open Go.RowKit
def gM (m d u x : Int) : Int := if pR 0 m d u = true then x else 0
def gE (m d u : Int) : Int := if pR 0 m d u = true then 0 else 10
theorem g_yes {m d u : Int} (h : pR 0 m d u = true) : gM m d u m = m ∧ gM m d u d = d ∧ gM m d u u = u ∧ gE m d u = 0 := ⟨if_pos h, if_pos h, if_pos h, if_pos h⟩
theorem g_no {m d u : Int} (h : pR 0 m d u = false) : gM m d u m = 0 ∧ gM m d u d = 0 ∧ gM m d u u = 0 ∧ gE m d u = 10 := by
 have k : ¬ pR 0 m d u = true := by rw [h]; decide
 exact ⟨if_neg k, if_neg k, if_neg k, if_neg k⟩
theorem pmake_true (m d u : Int)
  (R : Hid (∀ w : World, Calls Tryz.prog 23 #[.agg #[vi ki 0, vi ki m, vi ki d, vi ki u]] w fun r' w' => r' = zr (.bool true) ∧ Below w.heap.size w w'))
  (w : World) :
  Calls Tryz.prog 137 #[vi ki m, vi ki d, vi ki u] w fun r' w' => r' = zr (.tuple #[.agg #[vi ki 0, vi ki m, vi ki d, vi ki u], vi ki 0]) ∧ Below w.heap.size w w' := by
 have K0 := bsn2 w [vi ki 0, vi ki 0, vi ki 0, vi ki 0] 59 [vi ki 0, vi ki m, vi ki d, vi ki u] 59
 go_enter Tryz.func137, Tryz.ntmps137
 go_wp2_with fail
 refine (R.out _).mono ?_
 rintro e W1 ⟨rfl, hb⟩
 have K1 := bsb K0 hb
 clear hb K0
 obtain ⟨c1_0_0, c1_0_1, c1_0_2, c1_0_3⟩ := (bo1 K1).c4
 obtain ⟨c1_1_0, c1_1_1, c1_1_2, c1_1_3⟩ := (bo2 K1).c4
 obtain ⟨z1_1_0, z1_1_1, z1_1_2, z1_1_3⟩ := (bo2 K1).f4
 have XF : Hid (Bx (W1.setCells (w.heap.size) 0 [vi ki 0, vi ki m, vi ki d, vi ki u]) (w.heap.size) [vi ki 0, vi ki m, vi ki d, vi ki u]) := (K1.out.at (w.heap.size) [vi ki 0, vi ki 0, vi ki 0, vi ki 0] (by simp)).setAll _ rfl
 have BF : Hid (Below w.heap.size w (W1.setCells (w.heap.size) 0 [vi ki 0, vi ki m, vi ki d, vi ki u])) := below_setCells (by omega) _ _ _ K1.out.1
 have y0 := XF.out.c 0 rfl
 have y1 := XF.out.c 1 rfl
 have y2 := XF.out.c 2 rfl
 have y3 := XF.out.c 3 rfl
 simp only [World.setCells, Nat.zero_add, Nat.reduceAdd] at y0 y1 y2 y3
 clear XF
 go_wp2
 exact bodyPost_ret (v := .tuple #[.agg #[vi ki 0, vi ki m, vi ki d, vi ki u], vi ki 0]) (by simp [results, Tryz.results137, go_sem, y0, y1, y2, y3]) rfl ⟨rfl, BF.out⟩
theorem pmake_false (m d u : Int)
  (R : Hid (∀ w : World, Calls Tryz.prog 23 #[.agg #[vi ki 0, vi ki m, vi ki d, vi ki u]] w fun r' w' => r' = zr (.bool false) ∧ Below w.heap.size w w'))
  (w : World) :
  Calls Tryz.prog 137 #[vi ki m, vi ki d, vi ki u] w fun r' w' => r' = zr (.tuple #[.agg #[vi ki 0, vi ki 0, vi ki 0, vi ki 0], vi ki 10]) ∧ Below w.heap.size w w' := by
 have K0 := bsn2 w [vi ki 0, vi ki 0, vi ki 0, vi ki 0] 59 [vi ki 0, vi ki m, vi ki d, vi ki u] 59
 go_enter Tryz.func137, Tryz.ntmps137
 go_wp2_with fail
 refine (R.out _).mono ?_
 rintro e W1 ⟨rfl, hb⟩
 have K1 := bsb K0 hb
 clear hb K0
 obtain ⟨c1_0_0, c1_0_1, c1_0_2, c1_0_3⟩ := (bo1 K1).c4
 obtain ⟨c1_1_0, c1_1_1, c1_1_2, c1_1_3⟩ := (bo2 K1).c4
 obtain ⟨z1_1_0, z1_1_1, z1_1_2, z1_1_3⟩ := (bo2 K1).f4
 have XF : Hid (Bx (W1.setCells (w.heap.size) 0 [vi ki 0, vi ki 0, vi ki 0, vi ki 0]) (w.heap.size) [vi ki 0, vi ki 0, vi ki 0, vi ki 0]) := (K1.out.at (w.heap.size) [vi ki 0, vi ki 0, vi ki 0, vi ki 0] (by simp)).setAll _ rfl
 have BF : Hid (Below w.heap.size w (W1.setCells (w.heap.size) 0 [vi ki 0, vi ki 0, vi ki 0, vi ki 0])) := below_setCells (by omega) _ _ _ K1.out.1
 have y0 := XF.out.c 0 rfl
 have y1 := XF.out.c 1 rfl
 have y2 := XF.out.c 2 rfl
 have y3 := XF.out.c 3 rfl
 simp only [World.setCells, Nat.zero_add, Nat.reduceAdd] at y0 y1 y2 y3
 clear XF
 go_wp2
 exact bodyPost_ret (v := .tuple #[.agg #[vi ki 0, vi ki 0, vi ki 0, vi ki 0], vi ki 10]) (by simp [results, Tryz.results137, go_sem, y0, y1, y2, y3]) rfl ⟨rfl, BF.out⟩
theorem pmake_any (m d u : Int) (u1 : -9223372036854775808 ≤ u) (u2 : u ≤ 9223372036854775807) (w : World) :
  Calls Tryz.prog 137 #[vi ki m, vi ki d, vi ki u] w fun r w' => r = zr (.tuple #[.agg #[vi ki 0, vi ki (gM m d u m), vi ki (gM m d u d), vi ki (gM m d u u)], vi ki (gE m d u)]) ∧ Below w.heap.size w w' := by
 cases h : pR 0 m d u
 ·obtain ⟨a, b, c, e⟩ := g_no h
  rw [a, b, c, e]; exact pmake_false m d u (fun w => by rw [← h]; exact pr_any 0 m d u u1 u2 w) w
 ·obtain ⟨a, b, c, e⟩ := g_yes h
  rw [a, b, c, e]; exact pmake_true m d u (fun w => by rw [← h]; exact pr_any 0 m d u u1 u2 w) w
end Go.Proofs.YtklehbmghjcmaaaGreatDoor.Sp
namespace Go.Proofs.YtklehbmghjcmaaaGreatDoor.Sp
open Go.RowKit
end Go.Proofs.YtklehbmghjcmaaaGreatDoor.Sp
namespace Go.Proofs.YtklehbmghjcmaaaGreatDoor.Sp
open Go.RowKit
structure R5 where
 (i m d u e : Int)
abbrev v5 (x : R5) : Value := .tuple #[.agg #[vi ki x.i, vi ki x.m, vi ki x.d, vi ki x.u], vi ki x.e]
abbrev a4 (i m d u : Int) : Value := .agg #[vi ki i, vi ki m, vi ki d, vi ki u]
end Go.Proofs.YtklehbmghjcmaaaGreatDoor.Sp
