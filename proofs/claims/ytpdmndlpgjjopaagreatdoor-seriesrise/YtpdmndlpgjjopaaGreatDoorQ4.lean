import Derived.Test.YtpdmndlpgjjopaaGreatDoorQz
import Derived.Test.YtpdmndlpgjjopaaGreatDoorQ0
import Derived.Deep.RegionHeld3
import Derived.Deep.RegionWith
import Derived.Deep.DeepMust
import Derived.Deep.QuietTactic
import Derived.BigQuiet
import Derived.Deep.LoopGhost
import Derived.Test.YtpdmndlpgjjopaaGreatDoorRows
import Derived.WalkKit
import Derived.WalkSpells
import Derived.WalkLawsBesides
import Derived.Shelf.Small.Wraps
import Derived.Shelf.Strconv.Itoa0
import Derived.Shelf.Strconv.Itoa1
import Derived.Shelf.LaysM
import Derived.Shelf.Strconv.Itoa2
import Derived.Shelf.Strconv.Itoa3
import Derived.Shelf.Strconv.Itoa4
import Derived.Shelf.Strings.Prefix
import Derived.Test.YtpdmndlpgjjopaaGreatDoorProg
import Derived.Lib.ItoaNum
import Derived.Lib.AppendIntMem
import Derived.Lib.ItoaLen
import Derived.Laws.Runes
import Derived.Laws.IdiomStrings
import Derived.Test.YtpdmndlpgjjopaaGreatDoorQ3
import Derived.Deep.MidRow
import Derived.RangeFuncNested
import Derived.RangeFuncLeaves
import Derived.RangeFuncBox
import Derived.Maps.OwnIn
import Derived.Maps.AppendAt
import Derived.RangeFuncBound
import Derived.RangeFuncCalls
import Derived.Shelf.Abstract
import Derived.Shelf.RegionOpen
import Derived.OwnWalkIn
import Derived.TacticsInMore
import Derived.LoopNIn
import Derived.LoopIn
open Go.Value renaming int → vi
open Go.IntKind renaming i64 → ki
open List renaming setIfInBounds_toArray → zb, set_cons_zero → zc, set_cons_succ → zd
open Go.Act renaming put → za
open Go.Ending renaming returned → zr
set_option maxRecDepth 100000
set_option maxHeartbeats 16000000
set_option linter.unusedVariables false
namespace Go.Proofs.YtpdmndlpgjjopaaGreatDoor
open Go.RowKit
def okOn (k d n : Int) : Prop := (k = 0 ∧ 1 ≤ n ∧ n ≤ 31 ∧ d = 0) ∨ (k = 1 ∧ 0 ≤ d ∧ d ≤ 6 ∧ n = 0) ∨ ((k = 2 ∨ k = 3) ∧ 0 ≤ d ∧ d ≤ 6 ∧ 1 ≤ n ∧ n ≤ 31)
instance (k d n : Int) : Decidable (okOn k d n) := by unfold okOn; infer_instance
def formV (k d n : Int) : Value :=
 if k = 0 then .iface 201 (.agg #[vi ki n]) else if k = 1 then .iface 203 (.agg #[vi ki d]) else .iface 205 (.agg #[vi ki d, vi ki n, .bool (decide (k = 3))])
def onV (k d n : Int) : Value := .agg #[vi ki k, vi ki d, vi ki n]
def OnS (w : World) (b : Nat) (k d n : Int) (W : World) : Prop :=
 b < W.heap.size ∧ W.cell? ⟨b, 0, none⟩ = some (vi ki k) ∧ W.cell? ⟨b, 1, none⟩ = some (vi ki d) ∧ W.cell? ⟨b, 2, none⟩ = some (vi ki n) ∧ Below w.heap.size w W
theorem OnS.below {w W W1 : World} {b : Nat} {k d n : Int} (h : OnS w b k d n W) (hb : Below W.heap.size W W1) : OnS w b k d n W1 :=
 ⟨Nat.lt_of_lt_of_le h.1 hb.size, (hb.cell (p := ⟨b, 0, none⟩) h.1).trans h.2.1, (hb.cell (p := ⟨b, 1, none⟩) h.1).trans h.2.2.1, (hb.cell (p := ⟨b, 2, none⟩) h.1).trans h.2.2.2.1, h.2.2.2.2.trans (hb.mono h.2.2.2.2.size)⟩
theorem OnS.drew {w W : World} {b : Nat} {k d n : Int} (h : OnS w b k d n W) : OnS w b k d n W.drew := ⟨h.1, h.2.1, h.2.2.1, h.2.2.2.1, h.2.2.2.2.drew⟩
theorem OnS.drewN {w W : World} {b : Nat} {k d n : Int} (h : OnS w b k d n W) (q : Nat) : OnS w b k d n (W.drewN q) := ⟨h.1, h.2.1, h.2.2.1, h.2.2.2.1, h.2.2.2.2.trans ⟨rfl, rfl, rfl, Nat.le_refl _, fun _ _ => rfl⟩⟩
theorem OnS.new (w : World) (k d n : Int) (t : TypeId) : OnS w w.heap.size k d n (w.alloc (.cells #[vi ki k, vi ki d, vi ki n] t)) :=
 ⟨by simp, by rw [World.cell?_alloc_at _ _ _ _ rfl]; rfl, by rw [World.cell?_alloc_at _ _ _ _ rfl]; rfl, by rw [World.cell?_alloc_at _ _ _ _ rfl]; rfl, (Below.refl _ _).alloc (Nat.le_refl _) _⟩
theorem canNum_yes (n : Int) (h1 : 1 ≤ n) (h2 : n ≤ 31) (w : World) :
  Calls Tryz.prog 178 #[.agg #[vi ki n]] w fun e w' => e = zr (.bool true) ∧ Below w.heap.size w w' := by
 go_enter Tryz.func178, Tryz.ntmps178
 go_wp2
 go_ret
 exact ⟨rfl, (by repeat' (first | assumption | exact Below.refl _ _ | exact Nat.le_refl _ | refine Below.alloc ?_ ?_ _ | (simp; done) | (simp; omega) | omega))⟩
theorem canNum_no (n : Int) (h : n < 1 ∨ 31 < n) (w : World) :
  Calls Tryz.prog 178 #[.agg #[vi ki n]] w fun e w' => e = zr (.bool false) ∧ Below w.heap.size w w' := by
 rcases h with h | h
 ·have h1 : ¬ 1 ≤ n := by omega
  go_enter Tryz.func178, Tryz.ntmps178
  go_wp2
  go_ret
  exact ⟨rfl, (by repeat' (first | assumption | exact Below.refl _ _ | exact Nat.le_refl _ | refine Below.alloc ?_ ?_ _ | (simp; done) | (simp; omega) | omega))⟩
 ·have h1 : 1 ≤ n := by omega
  have h2 : ¬ n ≤ 31 := by omega
  go_enter Tryz.func178, Tryz.ntmps178
  go_wp2
  go_ret
  exact ⟨rfl, (by repeat' (first | assumption | exact Below.refl _ _ | exact Nat.le_refl _ | refine Below.alloc ?_ ?_ _ | (simp; done) | (simp; omega) | omega))⟩
theorem canFin_yes (n : Int) (h1 : 0 ≤ n) (h2 : n ≤ 6) (w : World) :
  Calls Tryz.prog 181 #[.agg #[vi ki n]] w fun e w' => e = zr (.bool true) ∧ Below w.heap.size w w' := by
 have h3 : n < 7 := by omega
 go_enter Tryz.func181, Tryz.ntmps181
 go_wp2
 go_ret
 exact ⟨rfl, (by repeat' (first | assumption | exact Below.refl _ _ | exact Nat.le_refl _ | refine Below.alloc ?_ ?_ _ | (simp; done) | (simp; omega) | omega))⟩
theorem canFin_no (n : Int) (h : n < 0 ∨ 6 < n) (w : World) :
  Calls Tryz.prog 181 #[.agg #[vi ki n]] w fun e w' => e = zr (.bool false) ∧ Below w.heap.size w w' := by
 rcases h with h | h
 ·have h1 : ¬ 0 ≤ n := by omega
  go_enter Tryz.func181, Tryz.ntmps181
  go_wp2
  go_ret
  exact ⟨rfl, (by repeat' (first | assumption | exact Below.refl _ _ | exact Nat.le_refl _ | refine Below.alloc ?_ ?_ _ | (simp; done) | (simp; omega) | omega))⟩
 ·have h1 : 0 ≤ n := by omega
  have h2 : ¬ n < 7 := by omega
  go_enter Tryz.func181, Tryz.ntmps181
  go_wp2
  go_ret
  exact ⟨rfl, (by repeat' (first | assumption | exact Below.refl _ _ | exact Nat.le_refl _ | refine Below.alloc ?_ ?_ _ | (simp; done) | (simp; omega) | omega))⟩
theorem canBes_yes (d n : Int) (b : Bool) (h1 : 0 ≤ d) (h2 : d ≤ 6) (h3 : 1 ≤ n) (h4 : n ≤ 31) (w : World) :
  Calls Tryz.prog 184 #[.agg #[vi ki d, vi ki n, .bool b]] w fun e w' => e = zr (.bool true) ∧ Below w.heap.size w w' := by
 have h5 : d < 7 := by omega
 go_enter Tryz.func184, Tryz.ntmps184
 go_wp2
 go_ret
 exact ⟨rfl, (by repeat' (first | assumption | exact Below.refl _ _ | exact Nat.le_refl _ | refine Below.alloc ?_ ?_ _ | (simp; done) | (simp; omega) | omega))⟩
theorem canBes_no (d n : Int) (b : Bool) (h : d < 0 ∨ 6 < d ∨ (0 ≤ d ∧ d ≤ 6 ∧ n < 1) ∨ (0 ≤ d ∧ d ≤ 6 ∧ 31 < n)) (w : World) :
  Calls Tryz.prog 184 #[.agg #[vi ki d, vi ki n, .bool b]] w fun e w' => e = zr (.bool false) ∧ Below w.heap.size w w' := by
 rcases h with h | h | ⟨h1, h2, h3⟩ | ⟨h1, h2, h3⟩
 ·have h1 : ¬ 0 ≤ d := by omega
  go_enter Tryz.func184, Tryz.ntmps184
  go_wp2
  go_ret
  exact ⟨rfl, (by repeat' (first | assumption | exact Below.refl _ _ | exact Nat.le_refl _ | refine Below.alloc ?_ ?_ _ | (simp; done) | (simp; omega) | omega))⟩
 ·have h1 : 0 ≤ d := by omega
  have h2 : ¬ d < 7 := by omega
  go_enter Tryz.func184, Tryz.ntmps184
  go_wp2
  go_ret
  exact ⟨rfl, (by repeat' (first | assumption | exact Below.refl _ _ | exact Nat.le_refl _ | refine Below.alloc ?_ ?_ _ | (simp; done) | (simp; omega) | omega))⟩
 ·have h4 : d < 7 := by omega
  have h5 : ¬ 1 ≤ n := by omega
  go_enter Tryz.func184, Tryz.ntmps184
  go_wp2
  go_ret
  exact ⟨rfl, (by repeat' (first | assumption | exact Below.refl _ _ | exact Nat.le_refl _ | refine Below.alloc ?_ ?_ _ | (simp; done) | (simp; omega) | omega))⟩
 ·have h4 : d < 7 := by omega
  have h5 : 1 ≤ n := by omega
  have h6 : ¬ n ≤ 31 := by omega
  go_enter Tryz.func184, Tryz.ntmps184
  go_wp2
  go_ret
  exact ⟨rfl, (by repeat' (first | assumption | exact Below.refl _ _ | exact Nat.le_refl _ | refine Below.alloc ?_ ?_ _ | (simp; done) | (simp; omega) | omega))⟩
theorem onNum (n : Int) (w : World) :
  Calls Tryz.prog 179 #[.agg #[vi ki n]] w fun e w' => e = zr (.agg #[vi ki 0, vi ki 0, vi ki n]) ∧ Below w.heap.size w w' := by
 go_enter Tryz.func179, Tryz.ntmps179
 go_wp2
 refine bodyPost_ret (v := .agg #[vi ki 0, vi ki 0, vi ki n]) (by simp [results, Tryz.results179, go_sem]) rfl ⟨rfl, (by repeat' (first | assumption | exact Below.refl _ _ | exact Nat.le_refl _ | refine Below.alloc ?_ ?_ _ | (simp; done) | (simp; omega) | omega))⟩
theorem onFin (d : Int) (w : World) :
  Calls Tryz.prog 182 #[.agg #[vi ki d]] w fun e w' => e = zr (.agg #[vi ki 1, vi ki d, vi ki 0]) ∧ Below w.heap.size w w' := by
 go_enter Tryz.func182, Tryz.ntmps182
 go_wp2
 refine bodyPost_ret (v := .agg #[vi ki 1, vi ki d, vi ki 0]) (by simp [results, Tryz.results182, go_sem]) rfl ⟨rfl, (by repeat' (first | assumption | exact Below.refl _ _ | exact Nat.le_refl _ | refine Below.alloc ?_ ?_ _ | (simp; done) | (simp; omega) | omega))⟩
theorem onBesT (d n : Int) (w : World) :
  Calls Tryz.prog 185 #[.agg #[vi ki d, vi ki n, .bool true]] w fun e w' => e = zr (.agg #[vi ki 3, vi ki d, vi ki n]) ∧ Below w.heap.size w w' := by
 go_enter Tryz.func185, Tryz.ntmps185
 go_wp2
 refine bodyPost_ret (v := .agg #[vi ki 3, vi ki d, vi ki n]) (by simp [results, Tryz.results185, go_sem]) rfl ⟨rfl, (by repeat' (first | assumption | exact Below.refl _ _ | exact Nat.le_refl _ | refine Below.alloc ?_ ?_ _ | (simp; done) | (simp; omega) | omega))⟩
theorem onBesF (d n : Int) (w : World) :
  Calls Tryz.prog 185 #[.agg #[vi ki d, vi ki n, .bool false]] w fun e w' => e = zr (.agg #[vi ki 2, vi ki d, vi ki n]) ∧ Below w.heap.size w w' := by
 go_enter Tryz.func185, Tryz.ntmps185
 go_wp2
 refine bodyPost_ret (v := .agg #[vi ki 2, vi ki d, vi ki n]) (by simp [results, Tryz.results185, go_sem]) rfl ⟨rfl, (by repeat' (first | assumption | exact Below.refl _ _ | exact Nat.le_refl _ | refine Below.alloc ?_ ?_ _ | (simp; done) | (simp; omega) | omega))⟩
theorem fo_num (n : Int) (h1 : 1 ≤ n) (h2 : n ≤ 31) (w : World) :
  Calls Tryz.prog 136 #[.agg #[vi ki 0, vi ki 0, vi ki n]] w fun e w' => e = zr (.iface 201 (.agg #[vi ki n])) ∧ Below w.heap.size w w' := by
 have C : Hid (∀ w : World, Calls Tryz.prog 178 #[.agg #[vi ki n]] w fun e w' => e = zr (.bool true) ∧ Below w.heap.size w w') := canNum_yes n h1 h2
 have O : Hid (∀ w : World, Calls Tryz.prog 179 #[.agg #[vi ki n]] w fun e w' => e = zr (.agg #[vi ki 0, vi ki 0, vi ki n]) ∧ Below w.heap.size w w') := onNum n
 have S0 : Hid (OnS w w.heap.size 0 0 n (w.alloc (.cells #[vi ki 0, vi ki 0, vi ki n] 39))) := OnS.new w _ _ _ _
 go_enter Tryz.func136, Tryz.ntmps136
 go_wp2_with fail
 refine wp_region_held_drew (S := OnS w w.heap.size 0 0 n) (by kernel_rfl) S0.out.drew (fun hHeld => ?_)
 refine tks 0 ⟨some 30, _, _, _, _, none⟩ rfl ?_
 simp only [za, zb, zc, zd]
 refine rd 1 ⟨some 31, _, _, _, _, none⟩ rfl (fun K hK => ?_)
 go_simp
 refine (C.out _).mono ?_
 rintro e v1 ⟨rfl, hb1⟩
 refine hK.out _ _ (hHeld.below hb1) (fun hHeld => ?_)
 clear hK K hb1
 refine tks 2 ⟨some 32, _, _, _, _, none⟩ rfl ?_
 simp only [za, zb, zc, zd]
 refine tks 3 ⟨some 33, _, _, _, _, none⟩ rfl ?_
 simp only [za, zb, zc, zd]
 refine tks 4 ⟨some 34, _, _, _, _, some (3, false)⟩ rfl ?_
 simp only [za, zb, zc, zd]
 refine tk (v := ?_) 6 ⟨some 36, _, _, _, _, some (3, false)⟩ rfl ?_ ?_
 case refine_2 => (intro w9 hSw; obtain ⟨sa, sb, sc, sd, se⟩ := hSw; clear se; go_simp; try with_reducible rfl)
 simp only [za, zb, zc, zd]
 refine rd 5 ⟨some 35, _, _, _, _, some (3, false)⟩ rfl (fun K hK => ?_)
 go_simp
 refine (O.out _).mono ?_
 rintro e v2 ⟨rfl, hb2⟩
 refine hK.out _ _ (hHeld.below hb2) (fun hHeld => ?_)
 clear hK K hb2
 refine tks 7 ⟨some 37, _, _, _, _, some (3, false)⟩ rfl ?_
 simp only [za, zb, zc, zd]
 refine tks 8 ⟨some 38, _, _, _, _, none⟩ rfl ?_
 simp only [za, zb, zc, zd]
 refine wpAnyH_done (by kernel_rfl) ?_ _
 have HB : Hid (Below w.heap.size w _) := hHeld.2.2.2.2
 clear hHeld
 go_wp2
 go_ret
 exact ⟨rfl, HB.out⟩
theorem fo_fin (d : Int) (h1 : 0 ≤ d) (h2 : d ≤ 6) (w : World) :
  Calls Tryz.prog 136 #[.agg #[vi ki 1, vi ki d, vi ki 0]] w fun e w' => e = zr (.iface 203 (.agg #[vi ki d])) ∧ Below w.heap.size w w' := by
 have C : Hid (∀ w : World, Calls Tryz.prog 181 #[.agg #[vi ki d]] w fun e w' => e = zr (.bool true) ∧ Below w.heap.size w w') := canFin_yes d h1 h2
 have O : Hid (∀ w : World, Calls Tryz.prog 182 #[.agg #[vi ki d]] w fun e w' => e = zr (.agg #[vi ki 1, vi ki d, vi ki 0]) ∧ Below w.heap.size w w') := onFin d
 have S0 : Hid (OnS w w.heap.size 1 d 0 (w.alloc (.cells #[vi ki 1, vi ki d, vi ki 0] 39))) := OnS.new w _ _ _ _
 go_enter Tryz.func136, Tryz.ntmps136
 go_wp2_with fail
 refine wp_region_held_drew (S := OnS w w.heap.size 1 d 0) (by kernel_rfl) S0.out.drew (fun hHeld => ?_)
 refine tks 0 ⟨some 30, _, _, _, _, none⟩ rfl ?_
 simp only [za, zb, zc, zd]
 refine rd 1 ⟨some 31, _, _, _, _, none⟩ rfl (fun K hK => ?_)
 go_simp
 refine (C.out _).mono ?_
 rintro e v1 ⟨rfl, hb1⟩
 refine hK.out _ _ (hHeld.below hb1) (fun hHeld => ?_)
 clear hK K hb1
 refine tks 2 ⟨some 32, _, _, _, _, none⟩ rfl ?_
 simp only [za, zb, zc, zd]
 refine tks 3 ⟨some 33, _, _, _, _, none⟩ rfl ?_
 simp only [za, zb, zc, zd]
 refine tks 4 ⟨some 34, _, _, _, _, some (3, false)⟩ rfl ?_
 simp only [za, zb, zc, zd]
 refine tk (v := ?_) 6 ⟨some 36, _, _, _, _, some (3, false)⟩ rfl ?_ ?_
 case refine_2 => (intro w9 hSw; obtain ⟨sa, sb, sc, sd, se⟩ := hSw; clear se; go_simp; try with_reducible rfl)
 simp only [za, zb, zc, zd]
 refine rd 5 ⟨some 35, _, _, _, _, some (3, false)⟩ rfl (fun K hK => ?_)
 go_simp
 refine (O.out _).mono ?_
 rintro e v2 ⟨rfl, hb2⟩
 refine hK.out _ _ (hHeld.below hb2) (fun hHeld => ?_)
 clear hK K hb2
 refine tks 7 ⟨some 37, _, _, _, _, some (3, false)⟩ rfl ?_
 simp only [za, zb, zc, zd]
 refine tks 8 ⟨some 38, _, _, _, _, none⟩ rfl ?_
 simp only [za, zb, zc, zd]
 refine wpAnyH_done (by kernel_rfl) ?_ _
 have HB : Hid (Below w.heap.size w _) := hHeld.2.2.2.2
 clear hHeld
 go_wp2
 go_ret
 exact ⟨rfl, HB.out⟩
theorem fo_bes2 (d n : Int) (h1 : 0 ≤ d) (h2 : d ≤ 6) (h3 : 1 ≤ n) (h4 : n ≤ 31) (w : World) :
  Calls Tryz.prog 136 #[.agg #[vi ki 2, vi ki d, vi ki n]] w fun e w' => e = zr (.iface 205 (.agg #[vi ki d, vi ki n, .bool false])) ∧ Below w.heap.size w w' := by
 have C : Hid (∀ w : World, Calls Tryz.prog 184 #[.agg #[vi ki d, vi ki n, .bool false]] w fun e w' => e = zr (.bool true) ∧ Below w.heap.size w w') := canBes_yes d n false h1 h2 h3 h4
 have O : Hid (∀ w : World, Calls Tryz.prog 185 #[.agg #[vi ki d, vi ki n, .bool false]] w fun e w' => e = zr (.agg #[vi ki 2, vi ki d, vi ki n]) ∧ Below w.heap.size w w') := onBesF d n
 have S0 : Hid (OnS w w.heap.size 2 d n (w.alloc (.cells #[vi ki 2, vi ki d, vi ki n] 39))) := OnS.new w _ _ _ _
 go_enter Tryz.func136, Tryz.ntmps136
 go_wp2_with fail
 refine wp_region_held_drew (S := OnS w w.heap.size 2 d n) (by kernel_rfl) S0.out.drew (fun hHeld => ?_)
 refine tks 0 ⟨some 30, _, _, _, _, none⟩ rfl ?_
 simp only [za, zb, zc, zd]
 refine rd 1 ⟨some 31, _, _, _, _, none⟩ rfl (fun K hK => ?_)
 go_simp
 refine (C.out _).mono ?_
 rintro e v1 ⟨rfl, hb1⟩
 refine hK.out _ _ (hHeld.below hb1) (fun hHeld => ?_)
 clear hK K hb1
 refine tks 2 ⟨some 32, _, _, _, _, none⟩ rfl ?_
 simp only [za, zb, zc, zd]
 refine tks 3 ⟨some 33, _, _, _, _, none⟩ rfl ?_
 simp only [za, zb, zc, zd]
 refine tks 4 ⟨some 34, _, _, _, _, some (3, false)⟩ rfl ?_
 simp only [za, zb, zc, zd]
 refine tk (v := ?_) 6 ⟨some 36, _, _, _, _, some (3, false)⟩ rfl ?_ ?_
 case refine_2 => (intro w9 hSw; obtain ⟨sa, sb, sc, sd, se⟩ := hSw; clear se; go_simp; try with_reducible rfl)
 simp only [za, zb, zc, zd]
 refine rd 5 ⟨some 35, _, _, _, _, some (3, false)⟩ rfl (fun K hK => ?_)
 go_simp
 refine (O.out _).mono ?_
 rintro e v2 ⟨rfl, hb2⟩
 refine hK.out _ _ (hHeld.below hb2) (fun hHeld => ?_)
 clear hK K hb2
 refine tks 7 ⟨some 37, _, _, _, _, some (3, false)⟩ rfl ?_
 simp only [za, zb, zc, zd]
 refine tks 8 ⟨some 38, _, _, _, _, none⟩ rfl ?_
 simp only [za, zb, zc, zd]
 refine wpAnyH_done (by kernel_rfl) ?_ _
 have HB : Hid (Below w.heap.size w _) := hHeld.2.2.2.2
 clear hHeld
 go_wp2
 go_ret
 exact ⟨rfl, HB.out⟩
theorem fo_bes3 (d n : Int) (h1 : 0 ≤ d) (h2 : d ≤ 6) (h3 : 1 ≤ n) (h4 : n ≤ 31) (w : World) :
  Calls Tryz.prog 136 #[.agg #[vi ki 3, vi ki d, vi ki n]] w fun e w' => e = zr (.iface 205 (.agg #[vi ki d, vi ki n, .bool true])) ∧ Below w.heap.size w w' := by
 have C : Hid (∀ w : World, Calls Tryz.prog 184 #[.agg #[vi ki d, vi ki n, .bool true]] w fun e w' => e = zr (.bool true) ∧ Below w.heap.size w w') := canBes_yes d n true h1 h2 h3 h4
 have O : Hid (∀ w : World, Calls Tryz.prog 185 #[.agg #[vi ki d, vi ki n, .bool true]] w fun e w' => e = zr (.agg #[vi ki 3, vi ki d, vi ki n]) ∧ Below w.heap.size w w') := onBesT d n
 have S0 : Hid (OnS w w.heap.size 3 d n (w.alloc (.cells #[vi ki 3, vi ki d, vi ki n] 39))) := OnS.new w _ _ _ _
 go_enter Tryz.func136, Tryz.ntmps136
 go_wp2_with fail
 refine wp_region_held_drew (S := OnS w w.heap.size 3 d n) (by kernel_rfl) S0.out.drew (fun hHeld => ?_)
 refine tks 0 ⟨some 30, _, _, _, _, none⟩ rfl ?_
 simp only [za, zb, zc, zd]
 refine rd 1 ⟨some 31, _, _, _, _, none⟩ rfl (fun K hK => ?_)
 go_simp
 refine (C.out _).mono ?_
 rintro e v1 ⟨rfl, hb1⟩
 refine hK.out _ _ (hHeld.below hb1) (fun hHeld => ?_)
 clear hK K hb1
 refine tks 2 ⟨some 32, _, _, _, _, none⟩ rfl ?_
 simp only [za, zb, zc, zd]
 refine tks 3 ⟨some 33, _, _, _, _, none⟩ rfl ?_
 simp only [za, zb, zc, zd]
 refine tks 4 ⟨some 34, _, _, _, _, some (3, false)⟩ rfl ?_
 simp only [za, zb, zc, zd]
 refine tk (v := ?_) 6 ⟨some 36, _, _, _, _, some (3, false)⟩ rfl ?_ ?_
 case refine_2 => (intro w9 hSw; obtain ⟨sa, sb, sc, sd, se⟩ := hSw; clear se; go_simp; try with_reducible rfl)
 simp only [za, zb, zc, zd]
 refine rd 5 ⟨some 35, _, _, _, _, some (3, false)⟩ rfl (fun K hK => ?_)
 go_simp
 refine (O.out _).mono ?_
 rintro e v2 ⟨rfl, hb2⟩
 refine hK.out _ _ (hHeld.below hb2) (fun hHeld => ?_)
 clear hK K hb2
 refine tks 7 ⟨some 37, _, _, _, _, some (3, false)⟩ rfl ?_
 simp only [za, zb, zc, zd]
 refine tks 8 ⟨some 38, _, _, _, _, none⟩ rfl ?_
 simp only [za, zb, zc, zd]
 refine wpAnyH_done (by kernel_rfl) ?_ _
 have HB : Hid (Below w.heap.size w _) := hHeld.2.2.2.2
 clear hHeld
 go_wp2
 go_ret
 exact ⟨rfl, HB.out⟩
theorem fo_num_x (d n : Int) (h1 : 1 ≤ n) (h2 : n ≤ 31) (hd : d ≠ 0) (w : World) :
  Calls Tryz.prog 136 #[.agg #[vi ki 0, vi ki d, vi ki n]] w fun e w' => e = zr (.nilIface) ∧ Below w.heap.size w w' := by
 have C : Hid (∀ w : World, Calls Tryz.prog 178 #[.agg #[vi ki n]] w fun e w' => e = zr (.bool true) ∧ Below w.heap.size w w') := canNum_yes n h1 h2
 have O : Hid (∀ w : World, Calls Tryz.prog 179 #[.agg #[vi ki n]] w fun e w' => e = zr (.agg #[vi ki 0, vi ki 0, vi ki n]) ∧ Below w.heap.size w w') := onNum n
 have S0 : Hid (OnS w w.heap.size 0 d n (w.alloc (.cells #[vi ki 0, vi ki d, vi ki n] 39))) := OnS.new w _ _ _ _
 have hd1 : (0 == d) = false := beq_eq_false_iff_ne.2 (fun e => hd e.symm)
 have hd2 : (d == 0) = false := beq_eq_false_iff_ne.2 hd
 go_enter Tryz.func136, Tryz.ntmps136
 go_wp2_with fail
 refine wp_region_held_drew (S := OnS w w.heap.size 0 d n) (by kernel_rfl) S0.out.drew (fun hHeld => ?_)
 refine tks 0 ⟨some 30, _, _, _, _, none⟩ rfl ?_
 simp only [za, zb, zc, zd]
 refine rd 1 ⟨some 31, _, _, _, _, none⟩ rfl (fun K hK => ?_)
 go_simp
 refine (C.out _).mono ?_
 rintro e v1 ⟨rfl, hb1⟩
 refine hK.out _ _ (hHeld.below hb1) (fun hHeld => ?_)
 clear hK K hb1
 refine tks 2 ⟨some 32, _, _, _, _, none⟩ rfl ?_
 simp only [za, zb, zc, zd]
 refine tks 3 ⟨some 33, _, _, _, _, none⟩ rfl ?_
 simp only [za, zb, zc, zd]
 refine tks 4 ⟨some 34, _, _, _, _, some (3, false)⟩ rfl ?_
 simp only [za, zb, zc, zd]
 refine tk (v := ?_) 6 ⟨some 36, _, _, _, _, some (3, false)⟩ rfl ?_ ?_
 case refine_2 => (intro w9 hSw; obtain ⟨sa, sb, sc, sd, se⟩ := hSw; clear se; go_simp; try with_reducible rfl)
 simp only [za, zb, zc, zd]
 refine rd 5 ⟨some 35, _, _, _, _, some (3, false)⟩ rfl (fun K hK => ?_)
 go_simp
 refine (O.out _).mono ?_
 rintro e v2 ⟨rfl, hb2⟩
 refine hK.out _ _ (hHeld.below hb2) (fun hHeld => ?_)
 clear hK K hb2
 refine tks 7 ⟨some 37, _, _, _, _, some (3, false)⟩ rfl ?_
 simp only [za, zb, zc, zd]
 refine tks 8 ⟨some 38, _, _, _, _, none⟩ rfl ?_
 simp only [za, zb, zc, zd]
 refine wpAnyH_done (by kernel_rfl) ?_ _
 have HB : Hid (Below w.heap.size w _) := hHeld.2.2.2.2
 clear hHeld
 go_wp2
 go_ret
 exact ⟨rfl, HB.out⟩
theorem fo_fin_x (d n : Int) (h1 : 0 ≤ d) (h2 : d ≤ 6) (hd : n ≠ 0) (w : World) :
  Calls Tryz.prog 136 #[.agg #[vi ki 1, vi ki d, vi ki n]] w fun e w' => e = zr (.nilIface) ∧ Below w.heap.size w w' := by
 have C : Hid (∀ w : World, Calls Tryz.prog 181 #[.agg #[vi ki d]] w fun e w' => e = zr (.bool true) ∧ Below w.heap.size w w') := canFin_yes d h1 h2
 have O : Hid (∀ w : World, Calls Tryz.prog 182 #[.agg #[vi ki d]] w fun e w' => e = zr (.agg #[vi ki 1, vi ki d, vi ki 0]) ∧ Below w.heap.size w w') := onFin d
 have S0 : Hid (OnS w w.heap.size 1 d n (w.alloc (.cells #[vi ki 1, vi ki d, vi ki n] 39))) := OnS.new w _ _ _ _
 have hd1 : (0 == n) = false := beq_eq_false_iff_ne.2 (fun e => hd e.symm)
 have hd2 : (n == 0) = false := beq_eq_false_iff_ne.2 hd
 go_enter Tryz.func136, Tryz.ntmps136
 go_wp2_with fail
 refine wp_region_held_drew (S := OnS w w.heap.size 1 d n) (by kernel_rfl) S0.out.drew (fun hHeld => ?_)
 refine tks 0 ⟨some 30, _, _, _, _, none⟩ rfl ?_
 simp only [za, zb, zc, zd]
 refine rd 1 ⟨some 31, _, _, _, _, none⟩ rfl (fun K hK => ?_)
 go_simp
 refine (C.out _).mono ?_
 rintro e v1 ⟨rfl, hb1⟩
 refine hK.out _ _ (hHeld.below hb1) (fun hHeld => ?_)
 clear hK K hb1
 refine tks 2 ⟨some 32, _, _, _, _, none⟩ rfl ?_
 simp only [za, zb, zc, zd]
 refine tks 3 ⟨some 33, _, _, _, _, none⟩ rfl ?_
 simp only [za, zb, zc, zd]
 refine tks 4 ⟨some 34, _, _, _, _, some (3, false)⟩ rfl ?_
 simp only [za, zb, zc, zd]
 refine tk (v := ?_) 6 ⟨some 36, _, _, _, _, some (3, false)⟩ rfl ?_ ?_
 case refine_2 => (intro w9 hSw; obtain ⟨sa, sb, sc, sd, se⟩ := hSw; clear se; go_simp; try with_reducible rfl)
 simp only [za, zb, zc, zd]
 refine rd 5 ⟨some 35, _, _, _, _, some (3, false)⟩ rfl (fun K hK => ?_)
 go_simp
 refine (O.out _).mono ?_
 rintro e v2 ⟨rfl, hb2⟩
 refine hK.out _ _ (hHeld.below hb2) (fun hHeld => ?_)
 clear hK K hb2
 refine tks 7 ⟨some 37, _, _, _, _, some (3, false)⟩ rfl ?_
 simp only [za, zb, zc, zd]
 refine tks 8 ⟨some 38, _, _, _, _, none⟩ rfl ?_
 simp only [za, zb, zc, zd]
 refine wpAnyH_done (by kernel_rfl) ?_ _
 have HB : Hid (Below w.heap.size w _) := hHeld.2.2.2.2
 clear hHeld
 go_wp2
 go_ret
 exact ⟨rfl, HB.out⟩
theorem fo_num_n (d n : Int) (h : n < 1 ∨ 31 < n) (w : World) :
  Calls Tryz.prog 136 #[.agg #[vi ki 0, vi ki d, vi ki n]] w fun e w' => e = zr (.nilIface) ∧ Below w.heap.size w w' := by
 have C : Hid (∀ w : World, Calls Tryz.prog 178 #[.agg #[vi ki n]] w fun e w' => e = zr (.bool false) ∧ Below w.heap.size w w') := canNum_no n h
 have S0 : Hid (OnS w w.heap.size 0 d n (w.alloc (.cells #[vi ki 0, vi ki d, vi ki n] 39))) := OnS.new w _ _ _ _
 go_enter Tryz.func136, Tryz.ntmps136
 go_wp2_with fail
 refine wp_region_held_drew (S := OnS w w.heap.size 0 d n) (by kernel_rfl) S0.out.drew (fun hHeld => ?_)
 refine tks 0 ⟨some 30, _, _, _, _, none⟩ rfl ?_
 simp only [za, zb, zc, zd]
 refine rd 1 ⟨some 31, _, _, _, _, none⟩ rfl (fun K hK => ?_)
 go_simp
 refine (C.out _).mono ?_
 rintro e v1 ⟨rfl, hb1⟩
 refine hK.out _ _ (hHeld.below hb1) (fun hHeld => ?_)
 clear hK K hb1
 refine tks 2 ⟨some 32, _, _, _, _, none⟩ rfl ?_
 simp only [za, zb, zc, zd]
 refine tks 3 ⟨some 33, _, _, _, _, none⟩ rfl ?_
 simp only [za, zb, zc, zd]
 refine tku 4 ⟨some 34, _, _, _, _, some (3, false)⟩ rfl ?_
 simp only [za, zb, zc, zd]
 refine tku 5 ⟨some 35, _, _, _, _, some (3, false)⟩ rfl ?_
 simp only [za, zb, zc, zd]
 refine tku 6 ⟨some 36, _, _, _, _, some (3, false)⟩ rfl ?_
 simp only [za, zb, zc, zd]
 refine tku 7 ⟨some 37, _, _, _, _, some (3, false)⟩ rfl ?_
 simp only [za, zb, zc, zd]
 refine tks 8 ⟨some 38, _, _, _, _, none⟩ rfl ?_
 simp only [za, zb, zc, zd]
 refine wpAnyH_done (by kernel_rfl) ?_ _
 have HB : Hid (Below w.heap.size w _) := hHeld.2.2.2.2
 clear hHeld
 go_wp2
 go_ret
 exact ⟨rfl, HB.out⟩
theorem fo_fin_n (d n : Int) (h : d < 0 ∨ 6 < d) (w : World) :
  Calls Tryz.prog 136 #[.agg #[vi ki 1, vi ki d, vi ki n]] w fun e w' => e = zr (.nilIface) ∧ Below w.heap.size w w' := by
 have C : Hid (∀ w : World, Calls Tryz.prog 181 #[.agg #[vi ki d]] w fun e w' => e = zr (.bool false) ∧ Below w.heap.size w w') := canFin_no d h
 have S0 : Hid (OnS w w.heap.size 1 d n (w.alloc (.cells #[vi ki 1, vi ki d, vi ki n] 39))) := OnS.new w _ _ _ _
 go_enter Tryz.func136, Tryz.ntmps136
 go_wp2_with fail
 refine wp_region_held_drew (S := OnS w w.heap.size 1 d n) (by kernel_rfl) S0.out.drew (fun hHeld => ?_)
 refine tks 0 ⟨some 30, _, _, _, _, none⟩ rfl ?_
 simp only [za, zb, zc, zd]
 refine rd 1 ⟨some 31, _, _, _, _, none⟩ rfl (fun K hK => ?_)
 go_simp
 refine (C.out _).mono ?_
 rintro e v1 ⟨rfl, hb1⟩
 refine hK.out _ _ (hHeld.below hb1) (fun hHeld => ?_)
 clear hK K hb1
 refine tks 2 ⟨some 32, _, _, _, _, none⟩ rfl ?_
 simp only [za, zb, zc, zd]
 refine tks 3 ⟨some 33, _, _, _, _, none⟩ rfl ?_
 simp only [za, zb, zc, zd]
 refine tku 4 ⟨some 34, _, _, _, _, some (3, false)⟩ rfl ?_
 simp only [za, zb, zc, zd]
 refine tku 5 ⟨some 35, _, _, _, _, some (3, false)⟩ rfl ?_
 simp only [za, zb, zc, zd]
 refine tku 6 ⟨some 36, _, _, _, _, some (3, false)⟩ rfl ?_
 simp only [za, zb, zc, zd]
 refine tku 7 ⟨some 37, _, _, _, _, some (3, false)⟩ rfl ?_
 simp only [za, zb, zc, zd]
 refine tks 8 ⟨some 38, _, _, _, _, none⟩ rfl ?_
 simp only [za, zb, zc, zd]
 refine wpAnyH_done (by kernel_rfl) ?_ _
 have HB : Hid (Below w.heap.size w _) := hHeld.2.2.2.2
 clear hHeld
 go_wp2
 go_ret
 exact ⟨rfl, HB.out⟩
theorem fo_bes2_n (d n : Int) (h : d < 0 ∨ 6 < d ∨ (0 ≤ d ∧ d ≤ 6 ∧ n < 1) ∨ (0 ≤ d ∧ d ≤ 6 ∧ 31 < n)) (w : World) :
  Calls Tryz.prog 136 #[.agg #[vi ki 2, vi ki d, vi ki n]] w fun e w' => e = zr (.nilIface) ∧ Below w.heap.size w w' := by
 have C : Hid (∀ w : World, Calls Tryz.prog 184 #[.agg #[vi ki d, vi ki n, .bool false]] w fun e w' => e = zr (.bool false) ∧ Below w.heap.size w w') := canBes_no d n false h
 have S0 : Hid (OnS w w.heap.size 2 d n (w.alloc (.cells #[vi ki 2, vi ki d, vi ki n] 39))) := OnS.new w _ _ _ _
 go_enter Tryz.func136, Tryz.ntmps136
 go_wp2_with fail
 refine wp_region_held_drew (S := OnS w w.heap.size 2 d n) (by kernel_rfl) S0.out.drew (fun hHeld => ?_)
 refine tks 0 ⟨some 30, _, _, _, _, none⟩ rfl ?_
 simp only [za, zb, zc, zd]
 refine rd 1 ⟨some 31, _, _, _, _, none⟩ rfl (fun K hK => ?_)
 go_simp
 refine (C.out _).mono ?_
 rintro e v1 ⟨rfl, hb1⟩
 refine hK.out _ _ (hHeld.below hb1) (fun hHeld => ?_)
 clear hK K hb1
 refine tks 2 ⟨some 32, _, _, _, _, none⟩ rfl ?_
 simp only [za, zb, zc, zd]
 refine tks 3 ⟨some 33, _, _, _, _, none⟩ rfl ?_
 simp only [za, zb, zc, zd]
 refine tku 4 ⟨some 34, _, _, _, _, some (3, false)⟩ rfl ?_
 simp only [za, zb, zc, zd]
 refine tku 5 ⟨some 35, _, _, _, _, some (3, false)⟩ rfl ?_
 simp only [za, zb, zc, zd]
 refine tku 6 ⟨some 36, _, _, _, _, some (3, false)⟩ rfl ?_
 simp only [za, zb, zc, zd]
 refine tku 7 ⟨some 37, _, _, _, _, some (3, false)⟩ rfl ?_
 simp only [za, zb, zc, zd]
 refine tks 8 ⟨some 38, _, _, _, _, none⟩ rfl ?_
 simp only [za, zb, zc, zd]
 refine wpAnyH_done (by kernel_rfl) ?_ _
 have HB : Hid (Below w.heap.size w _) := hHeld.2.2.2.2
 clear hHeld
 go_wp2
 go_ret
 exact ⟨rfl, HB.out⟩
theorem fo_bes3_n (d n : Int) (h : d < 0 ∨ 6 < d ∨ (0 ≤ d ∧ d ≤ 6 ∧ n < 1) ∨ (0 ≤ d ∧ d ≤ 6 ∧ 31 < n)) (w : World) :
  Calls Tryz.prog 136 #[.agg #[vi ki 3, vi ki d, vi ki n]] w fun e w' => e = zr (.nilIface) ∧ Below w.heap.size w w' := by
 have C : Hid (∀ w : World, Calls Tryz.prog 184 #[.agg #[vi ki d, vi ki n, .bool true]] w fun e w' => e = zr (.bool false) ∧ Below w.heap.size w w') := canBes_no d n true h
 have S0 : Hid (OnS w w.heap.size 3 d n (w.alloc (.cells #[vi ki 3, vi ki d, vi ki n] 39))) := OnS.new w _ _ _ _
 go_enter Tryz.func136, Tryz.ntmps136
 go_wp2_with fail
 refine wp_region_held_drew (S := OnS w w.heap.size 3 d n) (by kernel_rfl) S0.out.drew (fun hHeld => ?_)
 refine tks 0 ⟨some 30, _, _, _, _, none⟩ rfl ?_
 simp only [za, zb, zc, zd]
 refine rd 1 ⟨some 31, _, _, _, _, none⟩ rfl (fun K hK => ?_)
 go_simp
 refine (C.out _).mono ?_
 rintro e v1 ⟨rfl, hb1⟩
 refine hK.out _ _ (hHeld.below hb1) (fun hHeld => ?_)
 clear hK K hb1
 refine tks 2 ⟨some 32, _, _, _, _, none⟩ rfl ?_
 simp only [za, zb, zc, zd]
 refine tks 3 ⟨some 33, _, _, _, _, none⟩ rfl ?_
 simp only [za, zb, zc, zd]
 refine tku 4 ⟨some 34, _, _, _, _, some (3, false)⟩ rfl ?_
 simp only [za, zb, zc, zd]
 refine tku 5 ⟨some 35, _, _, _, _, some (3, false)⟩ rfl ?_
 simp only [za, zb, zc, zd]
 refine tku 6 ⟨some 36, _, _, _, _, some (3, false)⟩ rfl ?_
 simp only [za, zb, zc, zd]
 refine tku 7 ⟨some 37, _, _, _, _, some (3, false)⟩ rfl ?_
 simp only [za, zb, zc, zd]
 refine tks 8 ⟨some 38, _, _, _, _, none⟩ rfl ?_
 simp only [za, zb, zc, zd]
 refine wpAnyH_done (by kernel_rfl) ?_ _
 have HB : Hid (Below w.heap.size w _) := hHeld.2.2.2.2
 clear hHeld
 go_wp2
 go_ret
 exact ⟨rfl, HB.out⟩
theorem fo_other (k d n : Int) (h0 : k ≠ 0) (h1 : k ≠ 1) (h2 : k ≠ 2) (h3 : k ≠ 3) (w : World) :
  Calls Tryz.prog 136 #[.agg #[vi ki k, vi ki d, vi ki n]] w fun e w' => e = .returned .nilIface ∧ Below w.heap.size w w' := by
 have a0 : (k == 0) = false := beq_eq_false_iff_ne.2 h0
 have a1 : (k == 1) = false := beq_eq_false_iff_ne.2 h1
 have a2 : (k == 2) = false := beq_eq_false_iff_ne.2 h2
 have a3 : (k == 3) = false := beq_eq_false_iff_ne.2 h3
 go_enter Tryz.func136, Tryz.ntmps136
 go_wp2
 go_ret
 exact ⟨rfl, (by repeat' (first | assumption | exact Below.refl _ _ | exact Nat.le_refl _ | refine Below.alloc ?_ ?_ _ | (simp; done) | (simp; omega) | omega))⟩
theorem formOf_yes (k d n : Int) (h : okOn k d n) (w : World) :
  Calls Tryz.prog 136 #[onV k d n] w fun e w' => e = zr (formV k d n) ∧ Below w.heap.size w w' := by
 rcases h with ⟨rfl, h1, h2, rfl⟩ | ⟨rfl, h1, h2, rfl⟩ | ⟨rfl | rfl, h1, h2, h3, h4⟩
 ·exact fo_num n h1 h2 w
 ·exact fo_fin d h1 h2 w
 ·exact fo_bes2 d n h1 h2 h3 h4 w
 ·exact fo_bes3 d n h1 h2 h3 h4 w
theorem formOf_no (k d n : Int) (h : ¬ okOn k d n) (w : World) :
  Calls Tryz.prog 136 #[onV k d n] w fun e w' => e = .returned .nilIface ∧ Below w.heap.size w w' := by
 unfold okOn at h
 by_cases k0 : k = 0
 ·subst k0
  by_cases c : 1 ≤ n ∧ n ≤ 31
  ·exact fo_num_x d n c.1 c.2 (by omega) w
  ·exact fo_num_n d n (by omega) w
 ·by_cases k1 : k = 1
  ·subst k1
   by_cases c : 0 ≤ d ∧ d ≤ 6
   ·exact fo_fin_x d n c.1 c.2 (by omega) w
   ·exact fo_fin_n d n (by omega) w
  ·by_cases k2 : k = 2
   ·subst k2
    exact fo_bes2_n d n (by omega) w
   ·by_cases k3 : k = 3
    ·subst k3
     exact fo_bes3_n d n (by omega) w
    ·exact fo_other k d n k0 k1 k2 k3 w
def bk (n d : Int) : Int := n - ((n + 6) % 7 + 7 - d) % 7
def dayN (f l k d n : Int) : Int := if k = 0 then f + n - 1 else if k = 1 then bk (f + l - 1) d else if k = 3 then bk (f + n - 1) d else bk (f + n - 1 + 7 - 1) d
theorem bk_bd (n d : Int) : n - 6 ≤ bk n d ∧ bk n d ≤ n := by unfold bk; omega
theorem back_any (n d : Int) (h1 : -1000000000000 ≤ n) (h2 : n ≤ 1000000000000) (d1 : 0 ≤ d) (d2 : d ≤ 6) (w : World) :
  Calls Tryz.prog 143 #[vi ki n, vi ki d] w fun e w' => e = zr (vi ki (bk n d)) ∧ Below w.heap.size w w' := by
 have W1 : Hid (∀ w : World, Calls Tryz.prog 147 #[vi ki n] w fun e w' => e = zr (vi ki ((n + 6) % 7)) ∧ w' = w) := fun w => Cvl.weekday_any n w
 obtain ⟨V, hV⟩ : ∃ V, V = bk n d := ⟨_, rfl⟩
 rw [← hV]
 unfold bk at hV
 obtain ⟨q, hq⟩ : ∃ q, q = (n + 6) % 7 := ⟨_, rfl⟩
 rw [← hq] at W1 hV
 have q0 : 0 ≤ q := by omega
 have q1 : q ≤ 6 := by omega
 have e1 : (q + 7 - d).tmod 7 = (q + 7 - d) % 7 := Int.tmod_eq_emod_of_nonneg (by omega)
 clear hq
 subst hV
 go_enter Tryz.func143, Tryz.ntmps143
 go_wp2_with fail
 refine (W1.out _).mono ?_
 rintro e w1 ⟨rfl, rfl⟩
 go_wp2
 go_ret
 exact ⟨rfl, Below.refl _ _⟩
theorem ta_num (n : Int) (w : World) : (Instr.typeAssert (.iface 201 (.agg #[vi ki n])) 192 201 true).run Tryz.prog w = .ok (.tuple #[.agg #[vi ki n], .bool true]) w := by
 simp [Instr.typeAssert, run_underlying Tryz.underlying201, go_sem, Result.andThen]
theorem ta_fin (n : Int) (w : World) : (Instr.typeAssert (.iface 203 (.agg #[vi ki n])) 192 203 true).run Tryz.prog w = .ok (.tuple #[.agg #[vi ki n], .bool true]) w := by
 simp [Instr.typeAssert, run_underlying Tryz.underlying203, go_sem, Result.andThen]
theorem ta_bes (v : Value) (w : World) : (Instr.typeAssert (.iface 205 v) 192 205 false).run Tryz.prog w = .ok v w := by
 simp [Instr.typeAssert, run_underlying Tryz.underlying205, go_sem, Result.andThen]
theorem zNum : (Tryz.prog.info? 201).map (·.zero) = some (some (.agg #[vi ki 0])) := by kernel_rfl
theorem zFin : (Tryz.prog.info? 203).map (·.zero) = some (some (.agg #[vi ki 0])) := by kernel_rfl
theorem ta_not {t a xT : TypeId} {fs : _} {z : Value} (hu : Tryz.prog.underlying a = some (.struct fs)) (hz : (Tryz.prog.info? a).map (·.zero) = some (some z)) (hne : t ≠ a) (v : Value) (w : World) : (Instr.typeAssert (.iface t v) xT a true).run Tryz.prog w = .ok (.tuple #[z, .bool false]) w := by
 obtain ⟨j, hj, hz'⟩ := Option.map_eq_some_iff.1 hz
 simp [Instr.typeAssert, run_underlying hu, zeroValue, typeInfo, hj, hz', hne, go_sem, Result.andThen]
theorem dayOf_num (f l n : Int) (f1 : -1000000000 ≤ f) (f2 : f ≤ 1000000000) (n1 : 1 ≤ n) (n2 : n ≤ 31) (w : World) :
  Calls Tryz.prog 137 #[.iface 201 (.agg #[vi ki n]), vi ki f, vi ki l] w fun e w' => e = zr (vi ki (f + n - 1)) ∧ Below w.heap.size w w' := by
 have t1 := ta_num n
 go_enter Tryz.func137, Tryz.ntmps137
 go_wp2
 go_ret
 exact ⟨rfl, (by repeat' (first | assumption | exact Below.refl _ _ | exact Nat.le_refl _ | refine Below.alloc ?_ ?_ _ | (simp; done) | (simp; omega) | omega))⟩
theorem dayOf_fin (f l d : Int) (f1 : -1000000000 ≤ f) (f2 : f ≤ 1000000000) (l1 : 0 ≤ l) (l2 : l ≤ 31) (d1 : 0 ≤ d) (d2 : d ≤ 6) (w : World) :
  Calls Tryz.prog 137 #[.iface 203 (.agg #[vi ki d]), vi ki f, vi ki l] w fun e w' => e = zr (vi ki (bk (f + l - 1) d)) ∧ Below w.heap.size w w' := by
 have BK : Hid (∀ w : World, Calls Tryz.prog 143 #[vi ki (f + l - 1), vi ki d] w fun e w' => e = zr (vi ki (bk (f + l - 1) d)) ∧ Below w.heap.size w w') := back_any (f + l - 1) d (by omega) (by omega) d1 d2
 generalize bk (f + l - 1) d = V at *
 have t1 : ∀ w0 : World, (Instr.typeAssert (.iface 203 (.agg #[vi ki d])) 192 201 true).run Tryz.prog w0 = .ok (.tuple #[.agg #[vi ki 0], .bool false]) w0 := ta_not Tryz.underlying201 zNum (by decide) _
 have t2 := ta_fin d
 go_enter Tryz.func137, Tryz.ntmps137
 go_wp2_with fail
 refine (BK.out _).mono ?_
 rintro e w1 ⟨rfl, hb⟩
 go_wp2
 go_ret
 exact ⟨rfl, Below.trans (by repeat' (first | assumption | exact Below.refl _ _ | exact Nat.le_refl _ | refine Below.alloc ?_ ?_ _ | (simp; done) | (simp; omega) | omega)) (hb.mono (by simp; omega))⟩
theorem dayOf_bes3 (f l d n : Int) (f1 : -1000000000 ≤ f) (f2 : f ≤ 1000000000) (n1 : 1 ≤ n) (n2 : n ≤ 31) (d1 : 0 ≤ d) (d2 : d ≤ 6) (w : World) :
  Calls Tryz.prog 137 #[.iface 205 (.agg #[vi ki d, vi ki n, .bool true]), vi ki f, vi ki l] w fun e w' => e = zr (vi ki (bk (f + n - 1) d)) ∧ Below w.heap.size w w' := by
 have BK : Hid (∀ w : World, Calls Tryz.prog 143 #[vi ki (f + n - 1), vi ki d] w fun e w' => e = zr (vi ki (bk (f + n - 1) d)) ∧ Below w.heap.size w w') := back_any (f + n - 1) d (by omega) (by omega) d1 d2
 generalize bk (f + n - 1) d = V at *
 have t1 : ∀ w0 : World, (Instr.typeAssert (.iface 205 (.agg #[vi ki d, vi ki n, .bool true])) 192 201 true).run Tryz.prog w0 = .ok (.tuple #[.agg #[vi ki 0], .bool false]) w0 := ta_not Tryz.underlying201 zNum (by decide) _
 have t2 : ∀ w0 : World, (Instr.typeAssert (.iface 205 (.agg #[vi ki d, vi ki n, .bool true])) 192 203 true).run Tryz.prog w0 = .ok (.tuple #[.agg #[vi ki 0], .bool false]) w0 := ta_not Tryz.underlying203 zFin (by decide) _
 have t3 := ta_bes (.agg #[vi ki d, vi ki n, .bool true])
 go_enter Tryz.func137, Tryz.ntmps137
 go_wp2_with fail
 refine (BK.out _).mono ?_
 rintro e w1 ⟨rfl, hb⟩
 go_wp2
 go_ret
 exact ⟨rfl, Below.trans (by repeat' (first | assumption | exact Below.refl _ _ | exact Nat.le_refl _ | refine Below.alloc ?_ ?_ _ | (simp; done) | (simp; omega) | omega)) (hb.mono (by simp; omega))⟩
theorem dayOf_bes2 (f l d n : Int) (f1 : -1000000000 ≤ f) (f2 : f ≤ 1000000000) (n1 : 1 ≤ n) (n2 : n ≤ 31) (d1 : 0 ≤ d) (d2 : d ≤ 6) (w : World) :
  Calls Tryz.prog 137 #[.iface 205 (.agg #[vi ki d, vi ki n, .bool false]), vi ki f, vi ki l] w fun e w' => e = zr (vi ki (bk (f + n - 1 + 7 - 1) d)) ∧ Below w.heap.size w w' := by
 have BK : Hid (∀ w : World, Calls Tryz.prog 143 #[vi ki (f + n - 1 + 7 - 1), vi ki d] w fun e w' => e = zr (vi ki (bk (f + n - 1 + 7 - 1) d)) ∧ Below w.heap.size w w') := back_any (f + n - 1 + 7 - 1) d (by omega) (by omega) d1 d2
 generalize bk (f + n - 1 + 7 - 1) d = V at *
 have t1 : ∀ w0 : World, (Instr.typeAssert (.iface 205 (.agg #[vi ki d, vi ki n, .bool false])) 192 201 true).run Tryz.prog w0 = .ok (.tuple #[.agg #[vi ki 0], .bool false]) w0 := ta_not Tryz.underlying201 zNum (by decide) _
 have t2 : ∀ w0 : World, (Instr.typeAssert (.iface 205 (.agg #[vi ki d, vi ki n, .bool false])) 192 203 true).run Tryz.prog w0 = .ok (.tuple #[.agg #[vi ki 0], .bool false]) w0 := ta_not Tryz.underlying203 zFin (by decide) _
 have t3 := ta_bes (.agg #[vi ki d, vi ki n, .bool false])
 go_enter Tryz.func137, Tryz.ntmps137
 go_wp2_with fail
 refine (BK.out _).mono ?_
 rintro e w1 ⟨rfl, hb⟩
 go_wp2
 go_ret
 exact ⟨rfl, Below.trans (by repeat' (first | assumption | exact Below.refl _ _ | exact Nat.le_refl _ | refine Below.alloc ?_ ?_ _ | (simp; done) | (simp; omega) | omega)) (hb.mono (by simp; omega))⟩
theorem dayOf_any (f l k d n : Int) (h : okOn k d n) (f1 : -1000000000 ≤ f) (f2 : f ≤ 1000000000) (l1 : 0 ≤ l) (l2 : l ≤ 31) (w : World) :
  Calls Tryz.prog 137 #[formV k d n, vi ki f, vi ki l] w fun e w' => e = zr (vi ki (dayN f l k d n)) ∧ Below w.heap.size w w' := by
 rcases h with ⟨rfl, h1, h2, rfl⟩ | ⟨rfl, h1, h2, rfl⟩ | ⟨rfl | rfl, h1, h2, h3, h4⟩
 ·exact dayOf_num f l n f1 f2 h1 h2 w
 ·exact dayOf_fin f l d f1 f2 l1 l2 h1 h2 w
 ·exact dayOf_bes2 f l d n f1 f2 h3 h4 h1 h2 w
 ·exact dayOf_bes3 f l d n f1 f2 h3 h4 h1 h2 w
def dyA (m k d n : Int) : Prop := okOn k d n ∧ 1 ≤ m ∧ m ≤ 12
instance (m k d n : Int) : Decidable (dyA m k d n) := by unfold dyA; infer_instance
def dyY (y : Int) : Prop := -4718 < y ∧ y < 294282
instance (y : Int) : Decidable (dyY y) := by unfold dyY; infer_instance
def fst1 (y m : Int) : Int := Cv.S y + Cv.cum y m
def dyV (y m k d n : Int) : Int := if dyA m k d n then (if dyY y then dayN (fst1 y m) (Cv.len y m) k d n else 0) else 0
def dyE (y m k d n : Int) : Int := if dyA m k d n then (if dyY y then 0 else 10) else 1
theorem first_right {y m : Int} (hy : dyY y) (h1 : 1 ≤ m) (h2 : m ≤ 12) : Cvl.right y m 1 = true := by
 have l := Cv.len_01 y m h1 h2
 unfold dyY at hy
 exact Cvl.right_yes (by omega)
theorem fst1_bd {y m : Int} (hy : dyY y) (h1 : 1 ≤ m) (h2 : m ≤ 12) : -1000000000 ≤ fst1 y m - 1000 ∧ fst1 y m + 1000 ≤ 1000000000 := by
 unfold dyY at hy
 have c := Cv.cum_bd y m
 unfold fst1 Cv.S
 omega
theorem day_arg (y m k d n : Int) (f : Value) (hf : f = .nilIface ∨ ∃ t v, f = .iface t v)
  (F : Hid (∀ w : World, Calls Tryz.prog 136 #[onV k d n] w fun e w' => e = .returned f ∧ Below w.heap.size w w')) (h : f = .nilIface ∨ m < 1 ∨ 12 < m) (w : World) :
  Calls Tryz.prog 130 #[vi ki y, vi ki m, onV k d n] w fun e w' => e = zr (.tuple #[vi ki 0, vi ki 1]) ∧ Below w.heap.size w w' := by
 unfold onV at *
 have HB : Hid (Below w.heap.size w (w.alloc (.cells #[vi ki k, vi ki d, vi ki n] 39))) := (Below.refl _ _).alloc (Nat.le_refl _) _
 rcases hf with rfl | ⟨t, v, rfl⟩
 ·clear h
  go_enter Tryz.func130, Tryz.ntmps130
  go_wp2_with fail
  refine (F.out _).mono ?_
  rintro e w1 ⟨rfl, hb⟩
  have HB1 : Hid (Below w.heap.size w w1) := HB.out.trans (hb.mono HB.out.size)
  clear hb
  go_wp2
  go_ret2
  exact ⟨rfl, HB1.out⟩
 ·have h' : m < 1 ∨ 12 < m := h.resolve_left (fun e => by cases e)
  clear h
  rcases h' with h | h
  ·go_enter Tryz.func130, Tryz.ntmps130
   go_wp2_with fail
   refine (F.out _).mono ?_
   rintro e w1 ⟨rfl, hb⟩
   have HB1 : Hid (Below w.heap.size w w1) := HB.out.trans (hb.mono HB.out.size)
   clear hb
   go_wp2
   go_ret2
   exact ⟨rfl, HB1.out⟩
  ·have h2 : ¬ m < 1 := by omega
   go_enter Tryz.func130, Tryz.ntmps130
   go_wp2_with fail
   refine (F.out _).mono ?_
   rintro e w1 ⟨rfl, hb⟩
   have HB1 : Hid (Below w.heap.size w w1) := HB.out.trans (hb.mono HB.out.size)
   clear hb
   go_wp2
   go_ret2
   exact ⟨rfl, HB1.out⟩
theorem day_range (y m k d n : Int) (t : TypeId) (v : Value)
  (F : Hid (∀ w : World, Calls Tryz.prog 136 #[onV k d n] w fun e w' => e = zr (.iface t v) ∧ Below w.heap.size w w')) (h1 : ¬ m < 1) (h2 : ¬ 12 < m) (h : y ≤ -4718 ∨ 294282 ≤ y) (w : World) :
  Calls Tryz.prog 130 #[vi ki y, vi ki m, onV k d n] w fun e w' => e = zr (.tuple #[vi ki 0, vi ki 10]) ∧ Below w.heap.size w w' := by
 unfold onV at *
 have HB : Hid (Below w.heap.size w (w.alloc (.cells #[vi ki k, vi ki d, vi ki n] 39))) := (Below.refl _ _).alloc (Nat.le_refl _) _
 rcases h with h | h
 ·go_enter Tryz.func130, Tryz.ntmps130
  go_wp2_with fail
  refine (F.out _).mono ?_
  rintro e w1 ⟨rfl, hb⟩
  have HB1 : Hid (Below w.heap.size w w1) := HB.out.trans (hb.mono HB.out.size)
  clear hb
  go_wp2
  go_ret2
  exact ⟨rfl, HB1.out⟩
 ·have h3 : ¬ y ≤ -4718 := by omega
  go_enter Tryz.func130, Tryz.ntmps130
  go_wp2_with fail
  refine (F.out _).mono ?_
  rintro e w1 ⟨rfl, hb⟩
  have HB1 : Hid (Below w.heap.size w w1) := HB.out.trans (hb.mono HB.out.size)
  clear hb
  go_wp2
  go_ret2
  exact ⟨rfl, HB1.out⟩
theorem day_good (y m k d n F L V : Int) (t : TypeId) (v : Value)
  (FO : Hid (∀ w : World, Calls Tryz.prog 136 #[onV k d n] w fun e w' => e = zr (.iface t v) ∧ Below w.heap.size w w'))
  (DY : Hid (∀ w : World, Cvl.Lens w → Calls Tryz.prog 133 #[vi ki y, vi ki m, vi ki 1] w fun e w' => e = zr (.tuple #[vi ki F, vi ki 0]) ∧ w' = w))
  (LN : Hid (∀ w : World, Cvl.Lens w → Calls Tryz.prog 85 #[vi ki y, vi ki m] w fun e w' => e = zr (vi ki L) ∧ w' = w))
  (DO : Hid (∀ w : World, Calls Tryz.prog 137 #[.iface t v, vi ki F, vi ki L] w fun e w' => e = zr (vi ki V) ∧ Below w.heap.size w w'))
  (h1 : ¬ m < 1) (h2 : ¬ 12 < m) (h3 : ¬ y ≤ -4718) (h4 : ¬ 294282 ≤ y) (w : World) (hL : Hid (Cvl.Lens w)) :
  Calls Tryz.prog 130 #[vi ki y, vi ki m, onV k d n] w fun e w' => e = zr (.tuple #[vi ki V, vi ki 0]) ∧ Below w.heap.size w w' := by
 unfold onV at *
 have HB : Hid (Below w.heap.size w (w.alloc (.cells #[vi ki k, vi ki d, vi ki n] 39))) := (Below.refl _ _).alloc (Nat.le_refl _) _
 go_enter Tryz.func130, Tryz.ntmps130
 go_wp2_with fail
 refine (FO.out _).mono ?_
 rintro e w1 ⟨rfl, hb⟩
 have HB1 : Hid (Below w.heap.size w w1) := HB.out.trans (hb.mono HB.out.size)
 have HL1 : Hid (Cvl.Lens w1) := Lens_below hL.out HB1.out (Lens_lt hL.out)
 clear hb
 go_wp2_with fail
 refine (DY.out _ HL1.out).mono ?_
 rintro e w2 ⟨rfl, rfl⟩
 go_wp2_with fail
 refine (LN.out _ HL1.out).mono ?_
 rintro e w3 ⟨rfl, rfl⟩
 go_wp2_with fail
 refine (DO.out _).mono ?_
 rintro e w4 ⟨rfl, hb⟩
 have HB2 : Hid (Below w.heap.size w w4) := HB1.out.trans (hb.mono HB1.out.size)
 clear hb
 go_wp2
 go_ret2
 exact ⟨rfl, HB2.out⟩
theorem formV_is (k d n : Int) : ∃ t v, formV k d n = .iface t v := by
 unfold formV
 split
 ·exact ⟨_, _, rfl⟩
 ·split <;> exact ⟨_, _, rfl⟩
theorem day_any (y m k d n : Int) (w : World) (hL : Cvl.Lens w) :
  Calls Tryz.prog 130 #[vi ki y, vi ki m, onV k d n] w fun e w' => e = zr (.tuple #[vi ki (dyV y m k d n), vi ki (dyE y m k d n)]) ∧ Below w.heap.size w w' := by
 unfold dyV dyE
 by_cases ho : okOn k d n
 ·obtain ⟨t, v, hv⟩ := formV_is k d n
  have FO := formOf_yes k d n ho
  rw [hv] at FO
  by_cases hm : 1 ≤ m ∧ m ≤ 12
  ·have ha : dyA m k d n := ⟨ho, hm.1, hm.2⟩
   rw [if_pos ha, if_pos ha]
   by_cases hy : dyY y
   ·rw [if_pos hy, if_pos hy]
    have bd := fst1_bd hy hm.1 hm.2
    have lb := Cv.len_bd y m
    have DO := dayOf_any (fst1 y m) (Cv.len y m) k d n ho (by omega) (by omega) lb.1 lb.2
    rw [hv] at DO
    unfold dyY at hy
    refine day_good y m k d n (fst1 y m) (Cv.len y m) _ t v FO (fun w hw => ?_) (fun w hw => Cvl.len_any y m w hw) DO (by omega) (by omega) (by omega) (by omega) w hL
    have R := Cvl.days_yes y m 1 (first_right (y := y) hy hm.1 hm.2) w hw
    rw [show Cv.S y + Cv.cum y m + 1 - 1 = fst1 y m by unfold fst1; omega] at R
    exact R
   ·rw [if_neg hy, if_neg hy]
    unfold dyY at hy
    exact day_range y m k d n t v FO (by omega) (by omega) (by omega) w
  ·have ha : ¬ dyA m k d n := fun q => hm q.2
   rw [if_neg ha, if_neg ha]
   exact day_arg y m k d n _ (.inr ⟨t, v, rfl⟩) FO (by omega) w
 ·have ha : ¬ dyA m k d n := fun q => ho q.1
  rw [if_neg ha, if_neg ha]
  exact day_arg y m k d n _ (.inl rfl) (formOf_no k d n ho) (.inl rfl) w
end Go.Proofs.YtpdmndlpgjjopaaGreatDoor
namespace Go.Proofs.YtpdmndlpgjjopaaGreatDoor.Clk
open Go.RowKit
theorem ret_bool {a b : Bool} (h : a = b) : Ending.returned (.bool a) = zr (.bool b) := by rw [h]
def mkOk (h m s us : Int) : Prop := 0 ≤ h ∧ h ≤ 24 ∧ 0 ≤ m ∧ m ≤ 59 ∧ 0 ≤ s ∧ s ≤ 59 ∧ 0 ≤ us ∧ us ≤ 999999 ∧ h * 3600000000 + m * 60000000 + s * 1000000 + us ≤ 86400000000
instance (h m s us : Int) : Decidable (mkOk h m s us) := by unfold mkOk; infer_instance
theorem parts_in (t H M S U a b : Int) (h1 : 0 ≤ t) (h2 : t ≤ 86400000000) (e1 : t.tdiv 3600000000 = H) (e2 : t.tdiv 60000000 = a) (e3 : a.tmod 60 = M) (e4 : t.tdiv 1000000 = b) (e5 : b.tmod 60 = S) (e6 : t.tmod 1000000 = U)
  (k1 : 0 ≤ H) (k2 : H ≤ 24) (k3 : 0 ≤ a) (k4 : a ≤ 1440) (k5 : 0 ≤ b) (k6 : b ≤ 86400) (w : World) :
  Calls Tryz.prog 138 #[vi ki t] w fun e w' => e = zr (.tuple #[vi ki H, vi ki M, vi ki S, vi ki U, vi ki 0]) ∧ w' = w := by
 have h3 : ¬ t < 0 := by omega
 have h4 : ¬ 86400000000 < t := by omega
 go_enter Tryz.func138, Tryz.ntmps138
 go_wp2
 exact bodyPost_ret (v := .tuple #[vi ki H, vi ki M, vi ki S, vi ki U, vi ki 0]) (by simp [results, Tryz.results138, go_sem]) rfl ⟨rfl, rfl⟩
def isT (t : Int) : Prop := 0 ≤ t ∧ t ≤ 86400000000
instance (t : Int) : Decidable (isT t) := by unfold isT; infer_instance
end Go.Proofs.YtpdmndlpgjjopaaGreatDoor.Clk
namespace Go.Proofs
open Go.Shelf
def Tryz.lays103_ren : Go.Shelf.Ren := ⟨fun | 103 => 145 | 210 => 152 | 206 => 158 | n => n, fun | 9 => 9 | 4 => 4 | 24 => 209 | 3 => 3 | n => n, fun | n => n⟩
theorem Tryz.lays103 : Go.Proofs.Lays.n103 Tryz.prog Tryz.lays103_ren := {
 mixed := by kernel_rfl
 f103 := Tryz.func145.trans (congrArg some (by kernel_rfl))
 f206 := Tryz.func158.trans (congrArg some (by kernel_rfl))
 f210 := Tryz.func152.trans (congrArg some (by kernel_rfl))
 t3 := Tryz.underlying3
 a3 := Tryz.isAgg3
 z3 := Tryz.sizeOf3
 v3 := Tryz.zeroValue3
 t4 := Tryz.underlying4
 a4 := Tryz.isAgg4
 z4 := Tryz.sizeOf4
 v4 := Tryz.zeroValue4
 t9 := Tryz.underlying9
 a9 := Tryz.isAgg9
 z9 := Tryz.sizeOf9
 v9 := Tryz.zeroValue9
 t24 := Tryz.underlying209
 a24 := Tryz.isAgg209
 z24 := Tryz.sizeOf209
 v24 := Tryz.zeroValue209 }
open Go.RowKit in
theorem Tryz.strings_CutPrefix (s p : ByteArray) (w : World) :
  Calls Tryz.prog 145 #[.string s, .string p] w fun e w' => e = zr (.tuple #[.string ⟨(Lib.trimPrefix s.data.toList p.data.toList).toArray⟩, .bool (Lib.hasPrefix s.data.toList p.data.toList)]) ∧ w' = w := Any.strings_CutPrefix Tryz.lays103 s p w
def Tryz.laysM173_ren : Go.Shelf.Ren := ⟨fun | 173 => 139 | 246 => 144 | 283 => 148 | 284 => 149 | 285 => 150 | 286 => 151 | 129 => 154 | 317 => 153 | 318 => 155 | 319 => 156 | 320 => 157 | 337 => 159 | 338 => 160 | n => n, fun | 2 => 2 | 3 => 3 | 9 => 9 | 4 => 4 | 171 => 213 | 0 => 0 | 53 => 91 | 37 => 216 | 5 => 5 | 173 => 217 | 212 => 221 | 51 => 222 | 20 => 20 | 213 => 223 | 46 => 143 | 232 => 227 | 233 => 228 | n => n, fun | 17 => 1 | 18 => 2 | 19 => 3 | n => n⟩
theorem Tryz.laysM173 : Go.Proofs.LaysM.n173 Tryz.prog Tryz.laysM173_ren := {
 mixed := by kernel_rfl
 f129 := Tryz.func154.trans (congrArg some (by kernel_rfl))
 f173 := Tryz.func139.trans (congrArg some (by kernel_rfl))
 f246 := Tryz.func144.trans (congrArg some (by kernel_rfl))
 f283 := Tryz.func148.trans (congrArg some (by kernel_rfl))
 f284 := Tryz.func149.trans (congrArg some (by kernel_rfl))
 f285 := Tryz.func150.trans (congrArg some (by kernel_rfl))
 f286 := Tryz.func151.trans (congrArg some (by kernel_rfl))
 f317 := Tryz.func153.trans (congrArg some (by kernel_rfl))
 f318 := Tryz.func155.trans (congrArg some (by kernel_rfl))
 f319 := Tryz.func156.trans (congrArg some (by kernel_rfl))
 f320 := Tryz.func157.trans (congrArg some (by kernel_rfl))
 f337 := Tryz.func159.trans (congrArg some (by kernel_rfl))
 f338 := Tryz.func160.trans (congrArg some (by kernel_rfl))
 t0 := Tryz.underlying0
 a0 := Tryz.isAgg0
 z0 := Tryz.sizeOf0
 v0 := Tryz.zeroValue0
 t2 := Tryz.underlying2
 a2 := Tryz.isAgg2
 z2 := Tryz.sizeOf2
 v2 := Tryz.zeroValue2
 t3 := Tryz.underlying3
 a3 := Tryz.isAgg3
 z3 := Tryz.sizeOf3
 v3 := Tryz.zeroValue3
 t4 := Tryz.underlying4
 a4 := Tryz.isAgg4
 z4 := Tryz.sizeOf4
 v4 := Tryz.zeroValue4
 t5 := Tryz.underlying5
 a5 := Tryz.isAgg5
 z5 := Tryz.sizeOf5
 v5 := Tryz.zeroValue5
 t9 := Tryz.underlying9
 a9 := Tryz.isAgg9
 z9 := Tryz.sizeOf9
 v9 := Tryz.zeroValue9
 t20 := Tryz.underlying20
 a20 := Tryz.isAgg20
 z20 := Tryz.sizeOf20
 v20 := Tryz.zeroValue20
 t37 := Tryz.underlying216
 a37 := Tryz.isAgg216
 z37 := Tryz.sizeOf216
 v37 := Tryz.zeroValue216
 t46 := Tryz.underlying143
 a46 := Tryz.isAgg143
 z46 := Tryz.sizeOf143
 v46 := Tryz.zeroValue143
 t51 := Tryz.underlying222
 a51 := Tryz.isAgg222
 z51 := Tryz.sizeOf222
 v51 := Tryz.zeroValue222
 t53 := Tryz.underlying91
 a53 := Tryz.isAgg91
 z53 := Tryz.sizeOf91
 v53 := Tryz.zeroValue91
 t171 := Tryz.underlying213
 a171 := Tryz.isAgg213
 z171 := Tryz.sizeOf213
 v171 := Tryz.zeroValue213
 t173 := Tryz.underlying217
 a173 := Tryz.isAgg217
 z173 := Tryz.sizeOf217
 v173 := Tryz.zeroValue217
 t212 := Tryz.underlying221
 a212 := Tryz.isAgg221
 z212 := Tryz.sizeOf221
 v212 := Tryz.zeroValue221
 t213 := Tryz.underlying223
 a213 := Tryz.isAgg223
 z213 := Tryz.sizeOf223
 t232 := Tryz.underlying227
 a232 := Tryz.isAgg227
 z232 := Tryz.sizeOf227
 v232 := Tryz.zeroValue227
 t233 := Tryz.underlying228
 a233 := Tryz.isAgg228
 z233 := Tryz.sizeOf228
 v233 := Tryz.zeroValue228
 g17 := by kernel_rfl
 g18 := by kernel_rfl
 g19 := by kernel_rfl
 i0 := by kernel_rfl
 i2 := by kernel_rfl
 i3 := by kernel_rfl
 i4 := by kernel_rfl
 i5 := by kernel_rfl
 i9 := by kernel_rfl
 i20 := by kernel_rfl
 i37 := by kernel_rfl
 i46 := by kernel_rfl
 i51 := by kernel_rfl
 i53 := by kernel_rfl
 i171 := by kernel_rfl
 i173 := by kernel_rfl
 i212 := by kernel_rfl
 i232 := by kernel_rfl
 i233 := by kernel_rfl
 m17 := by kernel_rfl
 m18 := by kernel_rfl
 m19 := by kernel_rfl }
open Go.RowKit Go.Sort Go.Lib in
theorem Tryz.strconv_FormatInt_10 (n : Int) (h0 : -9223372036854775808 ≤ n) (h1 : n ≤ 9223372036854775807) (w : World) (htab : Lib.TabIs Tryz.prog w "internal/strconv.uint64pow10" .u64 Lib.pow10Tab) :
  Calls Tryz.prog 139 #[vi ki n, vi ki 10] w fun e w' => e = zr (.string ⟨(Lib.itoa n).toArray⟩) ∧ ∃ k os, w' = grow (w.drewN k) os := Any.strconv_FormatInt_10 Tryz.laysM173 n h0 h1 w htab
def Tryz.lays173_ren : Go.Shelf.Ren := ⟨fun | 173 => 139 | 246 => 144 | 283 => 148 | 284 => 149 | 285 => 150 | 286 => 151 | 129 => 154 | 317 => 153 | 318 => 155 | 319 => 156 | 320 => 157 | 337 => 159 | 338 => 160 | n => n, fun | 2 => 2 | 3 => 3 | 9 => 9 | 4 => 4 | 171 => 213 | 0 => 0 | 53 => 91 | 37 => 216 | 5 => 5 | 173 => 217 | 212 => 221 | 51 => 222 | 20 => 20 | 213 => 223 | 46 => 143 | 232 => 227 | 233 => 228 | n => n, fun | 17 => 1 | 18 => 2 | 19 => 3 | n => n⟩
theorem Tryz.lays173 : Go.Proofs.Lays.n173 Tryz.prog Tryz.lays173_ren := {
 mixed := by kernel_rfl
 f129 := Tryz.func154.trans (congrArg some (by kernel_rfl))
 f173 := Tryz.func139.trans (congrArg some (by kernel_rfl))
 f246 := Tryz.func144.trans (congrArg some (by kernel_rfl))
 f283 := Tryz.func148.trans (congrArg some (by kernel_rfl))
 f284 := Tryz.func149.trans (congrArg some (by kernel_rfl))
 f285 := Tryz.func150.trans (congrArg some (by kernel_rfl))
 f286 := Tryz.func151.trans (congrArg some (by kernel_rfl))
 f317 := Tryz.func153.trans (congrArg some (by kernel_rfl))
 f318 := Tryz.func155.trans (congrArg some (by kernel_rfl))
 f319 := Tryz.func156.trans (congrArg some (by kernel_rfl))
 f320 := Tryz.func157.trans (congrArg some (by kernel_rfl))
 f337 := Tryz.func159.trans (congrArg some (by kernel_rfl))
 f338 := Tryz.func160.trans (congrArg some (by kernel_rfl))
 t0 := Tryz.underlying0
 a0 := Tryz.isAgg0
 z0 := Tryz.sizeOf0
 v0 := Tryz.zeroValue0
 t2 := Tryz.underlying2
 a2 := Tryz.isAgg2
 z2 := Tryz.sizeOf2
 v2 := Tryz.zeroValue2
 t3 := Tryz.underlying3
 a3 := Tryz.isAgg3
 z3 := Tryz.sizeOf3
 v3 := Tryz.zeroValue3
 t4 := Tryz.underlying4
 a4 := Tryz.isAgg4
 z4 := Tryz.sizeOf4
 v4 := Tryz.zeroValue4
 t5 := Tryz.underlying5
 a5 := Tryz.isAgg5
 z5 := Tryz.sizeOf5
 v5 := Tryz.zeroValue5
 t9 := Tryz.underlying9
 a9 := Tryz.isAgg9
 z9 := Tryz.sizeOf9
 v9 := Tryz.zeroValue9
 t20 := Tryz.underlying20
 a20 := Tryz.isAgg20
 z20 := Tryz.sizeOf20
 v20 := Tryz.zeroValue20
 t37 := Tryz.underlying216
 a37 := Tryz.isAgg216
 z37 := Tryz.sizeOf216
 v37 := Tryz.zeroValue216
 t46 := Tryz.underlying143
 a46 := Tryz.isAgg143
 z46 := Tryz.sizeOf143
 v46 := Tryz.zeroValue143
 t51 := Tryz.underlying222
 a51 := Tryz.isAgg222
 z51 := Tryz.sizeOf222
 v51 := Tryz.zeroValue222
 t53 := Tryz.underlying91
 a53 := Tryz.isAgg91
 z53 := Tryz.sizeOf91
 v53 := Tryz.zeroValue91
 t171 := Tryz.underlying213
 a171 := Tryz.isAgg213
 z171 := Tryz.sizeOf213
 v171 := Tryz.zeroValue213
 t173 := Tryz.underlying217
 a173 := Tryz.isAgg217
 z173 := Tryz.sizeOf217
 v173 := Tryz.zeroValue217
 t212 := Tryz.underlying221
 a212 := Tryz.isAgg221
 z212 := Tryz.sizeOf221
 v212 := Tryz.zeroValue221
 t213 := Tryz.underlying223
 a213 := Tryz.isAgg223
 z213 := Tryz.sizeOf223
 t232 := Tryz.underlying227
 a232 := Tryz.isAgg227
 z232 := Tryz.sizeOf227
 v232 := Tryz.zeroValue227
 t233 := Tryz.underlying228
 a233 := Tryz.isAgg228
 z233 := Tryz.sizeOf228
 v233 := Tryz.zeroValue228
 g17 := by kernel_rfl
 g18 := by kernel_rfl
 g19 := by kernel_rfl }
theorem Tryz.strconv_FormatInt_10_small (i : Nat) (hi : i < 100) (w : World) :
  Calls Tryz.prog 139 #[vi ki i, vi ki 10] w fun e w' => e = zr (.string ⟨(Lib.decDigits i).toArray⟩) ∧ w' = w := Any.strconv_FormatInt_10_small Tryz.lays173 i hi w
end Go.Proofs
namespace Go.Proofs.YtpdmndlpgjjopaaGreatDoor.Clk
open Go.RowKit
def Tab (w : World) : Prop := Lib.TabIs Tryz.prog w "internal/strconv.uint64pow10" .u64 Lib.pow10Tab
theorem Tab.below {w w1 : World} (h : Tab w) (hb : Below w.heap.size w w1) : Tab w1 := Lib.tabBelow_of_tabIs h w1 hb
theorem formatInt_any (n : Int) (h0 : -9223372036854775808 ≤ n) (h1 : n ≤ 9223372036854775807) (w : World) (hT : Tab w) :
  Calls Tryz.prog 139 #[vi ki n, vi ki 10] w fun e w' => e = zr (.string ⟨(Lib.itoa n).toArray⟩) ∧ Below w.heap.size w w' :=
 (Tryz.strconv_FormatInt_10 n h0 h1 w hT).mono fun e w' ⟨he, k, os, hw⟩ => ⟨he, hw ▸ Lib.below_grow w.heap.size w (Nat.le_refl _) k os⟩
def dgB (n : Int) : ByteArray := ⟨(Lib.decDigits n.natAbs).toArray⟩
theorem nDigits_le {u : Nat} (h : u < 10000000000000000000) : Lib.nDigits u ≤ 19 := by
 have g : ∀ k v : Nat, v < 10 ^ k → 1 ≤ k → Lib.nDigits v ≤ k := by
  intro k
  induction k with
  | zero => intro v _ h1; omega
  | succ k ih =>
   intro v hv _
   by_cases h10 : v < 10
   ·rw [Lib.nDigits_small h10]; omega
   ·rw [Lib.nDigits_big h10]
    have hp : (10 : Nat) ^ (k + 1) = 10 ^ k * 10 := Nat.pow_succ ..
    have : v / 10 < 10 ^ k := by omega
    have hk : 1 ≤ k := by
     cases k with
     | zero => simp at this; omega
     | succ k => omega
    have := ih (v / 10) this hk
    omega
 exact g 19 u (by simpa using h) (by decide)
theorem dgB_size {n : Int} (h0 : -9223372036854775808 ≤ n) (h1 : n ≤ 9223372036854775807) : (dgB n).size ≤ 19 := by
 have : (dgB n).size = (Lib.decDigits n.natAbs).length := rfl
 rw [this, Lib.decDigits_length]
 exact nDigits_le (by omega)
theorem digit_head (u : Nat) : ∃ c l, Lib.decDigits u = c :: l ∧ c ≠ 45 := by
 have h := Lib.decDigits_eq u
 have hp := Lib.nDigits_pos u
 obtain ⟨k, hk⟩ : ∃ k, Lib.nDigits u = k + 1 := ⟨Lib.nDigits u - 1, by omega⟩
 rw [hk] at h
 rw [List.range_succ_eq_map] at h
 refine ⟨_, _, h, ?_⟩
 unfold Lib.dg
 have : ∀ d : Fin 10, UInt8.ofNat (48 + d.val) ≠ 45 := by decide
 exact this ⟨_, Nat.mod_lt _ (by decide)⟩
theorem cut_itoa (n : Int) : Lib.trimPrefix (Lib.itoa n) [45] = Lib.decDigits n.natAbs ∧ Lib.hasPrefix (Lib.itoa n) [45] = decide (n < 0) := by
 unfold Lib.itoa
 by_cases h : n < 0
 ·rw [if_pos h, decide_eq_true h]
  exact ⟨rfl, rfl⟩
 ·rw [if_neg h, decide_eq_false h]
  obtain ⟨c, l, hc, hn⟩ := digit_head n.toNat
  have e : n.natAbs = n.toNat := by omega
  rw [e, hc]
  have hp : Lib.hasPrefix (c :: l) [45] = false := by
   unfold Lib.hasPrefix
   simp only [List.isPrefixOf, Bool.and_eq_false_iff, beq_eq_false_iff_ne]
   exact .inl (fun k => hn k.symm)
  unfold Lib.trimPrefix
  rw [hp]
  exact ⟨rfl, rfl⟩
def padB (d : ByteArray) : ByteArray := if d.size < 2 then ⟨#[48]⟩ ++ d else d
def twoB (n : Int) : ByteArray := if n < 0 then ⟨#[45]⟩ ++ padB (dgB n) else padB (dgB n)
theorem padB_size (d : ByteArray) : (padB d).size ≤ d.size + 1 := by
 unfold padB
 split
 ·rw [ByteArray.size_append]; show 1 + d.size ≤ _; omega
 ·omega
theorem twoB_size {n : Int} (h0 : -9223372036854775808 ≤ n) (h1 : n ≤ 9223372036854775807) : (twoB n).size ≤ 21 := by
 have a := dgB_size h0 h1
 have b := padB_size (dgB n)
 unfold twoB
 split
 ·rw [ByteArray.size_append]; show 1 + (padB (dgB n)).size ≤ _; omega
 ·omega
theorem two_core (n : Int) (S D : ByteArray) (b : Bool) (hD : D.size ≤ 19)
  (H1 : Hid (∀ w : World, Tab w → Calls Tryz.prog 139 #[vi ki n, vi ki 10] w fun e w' => e = zr (.string S) ∧ Below w.heap.size w w'))
  (H2 : Hid (∀ w : World, Calls Tryz.prog 145 #[.string S, .string ⟨#[45]⟩] w fun e w' => e = zr (.tuple #[.string D, .bool b]) ∧ w' = w))
  (w : World) (hT : Hid (Tab w)) :
  Calls Tryz.prog 140 #[vi ki n] w fun e w' => e = zr (.string (if b then ⟨#[45]⟩ ++ padB D else padB D)) ∧ Below w.heap.size w w' := by
 by_cases hs : D.size < 2
 ·have hs' : (D.size : Int) < 2 := by omega
  have hp : Hid (padB D = ⟨#[48]⟩ ++ D) := if_pos hs
  cases b
  all_goals
   go_enter Tryz.func140, Tryz.ntmps140
   go_wp2_with fail
   refine (H1.out _ hT.out).mono ?_
   rintro e w1 ⟨rfl, hb⟩
   go_wp2_with fail
   refine (H2.out _).mono ?_
   rintro e w2 ⟨rfl, rfl⟩
   go_wp2
   go_ret
   exact ⟨by rw [hp.out]; rfl, hb⟩
 ·have hs' : ¬ (D.size : Int) < 2 := by omega
  have hp : Hid (padB D = D) := if_neg hs
  cases b
  all_goals
   go_enter Tryz.func140, Tryz.ntmps140
   go_wp2_with fail
   refine (H1.out _ hT.out).mono ?_
   rintro e w1 ⟨rfl, hb⟩
   go_wp2_with fail
   refine (H2.out _).mono ?_
   rintro e w2 ⟨rfl, rfl⟩
   go_wp2
   go_ret
   exact ⟨by rw [hp.out]; rfl, hb⟩
theorem two_any (n : Int) (h0 : -9223372036854775808 ≤ n) (h1 : n ≤ 9223372036854775807) (w : World) (hT : Tab w) :
  Calls Tryz.prog 140 #[vi ki n] w fun e w' => e = zr (.string (twoB n)) ∧ Below w.heap.size w w' := by
 have H2 : ∀ w : World, Calls Tryz.prog 145 #[.string ⟨(Lib.itoa n).toArray⟩, .string ⟨#[45]⟩] w fun e w' => e = zr (.tuple #[.string (dgB n), .bool (decide (n < 0))]) ∧ w' = w := fun w => by
  have h := Tryz.strings_CutPrefix ⟨(Lib.itoa n).toArray⟩ ⟨#[45]⟩ w
  have e : (⟨(Lib.itoa n).toArray⟩ : ByteArray).data.toList = Lib.itoa n := rfl
  rw [e, show (⟨#[45]⟩ : ByteArray).data.toList = [45] from rfl, (cut_itoa n).1, (cut_itoa n).2] at h
  exact h
 have R := two_core n _ _ _ (dgB_size h0 h1) (fun w h => formatInt_any n h0 h1 w h) H2 w hT
 unfold twoB
 by_cases h : n < 0
 ·rw [if_pos h]; rw [decide_eq_true h] at R; exact R
 ·rw [if_neg h]; rw [decide_eq_false h] at R; exact R
end Go.Proofs.YtpdmndlpgjjopaaGreatDoor.Clk
namespace Go.Proofs.YtpdmndlpgjjopaaGreatDoor
open Go.RowKit
theorem sizeL (l : List UInt8) : (⟨l.toArray⟩ : ByteArray).size = l.length := by simp [ByteArray.size]
def digB (n : Int) : ByteArray := ⟨(Lib.itoa n).toArray⟩
theorem itoa_nat (i : Nat) : Lib.itoa (i : Int) = Lib.decDigits i := by unfold Lib.itoa; rw [if_neg (by omega)]; simp
theorem format_small (n : Int) (h0 : 0 ≤ n) (h1 : n < 100) (w : World) : Calls Tryz.prog 139 #[vi ki n, vi ki 10] w fun e w' => e = zr (.string (digB n)) ∧ w' = w := by
 obtain ⟨i, rfl⟩ : ∃ i : Nat, n = (i : Int) := ⟨n.toNat, by omega⟩
 have R := Tryz.strconv_FormatInt_10_small i (by omega) w
 unfold digB
 rw [itoa_nat]
 exact R
theorem digB_size (n : Int) (h0 : 0 ≤ n) (h1 : n < 100) : (digB n).size ≤ 21 := by
 have := Lib.itoa_length_le n (by omega) (by omega)
 unfold digB
 rw [sizeL]
 omega
def okAt (s k : Int) : Prop := 0 ≤ s ∧ s ≤ 86400 ∧ (k = 119 ∨ k = 115 ∨ k = 117)
instance (s k : Int) : Decidable (okAt s k) := by unfold okAt; infer_instance
def hmsT (h m s : Int) : ByteArray := if s = 0 then (digB h ++ ⟨#[58]⟩) ++ Clk.twoB m else ((digB h ++ ⟨#[58]⟩) ++ Clk.twoB m) ++ (⟨#[58]⟩ ++ Clk.twoB s)
def atT (s k : Int) : ByteArray := if k = 119 then hmsT (s / 3600) (s / 60 % 60) (s % 60) else hmsT (s / 3600) (s / 60 % 60) (s % 60) ++ ⟨#[UInt8.ofNat k.toNat]⟩
def AtS (w : World) (b : Nat) (s k : Int) (W : World) : Prop :=
 b < W.heap.size ∧ W.cell? ⟨b, 0, none⟩ = some (vi ki s) ∧ W.cell? ⟨b, 1, none⟩ = some (.int .u8 k) ∧ Below w.heap.size w W
theorem AtS.below {w W W1 : World} {b : Nat} {s k : Int} (h : AtS w b s k W) (hb : Below W.heap.size W W1) : AtS w b s k W1 :=
 ⟨Nat.lt_of_lt_of_le h.1 hb.size, (hb.cell (p := ⟨b, 0, none⟩) h.1).trans h.2.1, (hb.cell (p := ⟨b, 1, none⟩) h.1).trans h.2.2.1, h.2.2.2.trans (hb.mono h.2.2.2.size)⟩
theorem AtS.drew {w W : World} {b : Nat} {s k : Int} (h : AtS w b s k W) : AtS w b s k W.drew := ⟨h.1, h.2.1, h.2.2.1, h.2.2.2.drew⟩
theorem AtS.new (w : World) (s k : Int) (t : TypeId) : AtS w w.heap.size s k (w.alloc (.cells #[vi ki s, .int .u8 k] t)) :=
 ⟨by simp, by rw [World.cell?_alloc_at _ _ _ _ rfl]; rfl, by rw [World.cell?_alloc_at _ _ _ _ rfl]; rfl, (Below.refl _ _).alloc (Nat.le_refl _) _⟩
theorem enc_s : Utf8.encode 115 = ⟨#[115]⟩ := by decide +kernel
theorem enc_u : Utf8.encode 117 = ⟨#[117]⟩ := by decide +kernel
theorem tat_lo (s k : Int) (h : s < 0) (w : World) :
  Calls Tryz.prog 131 #[.agg #[vi ki s, .int .u8 k]] w fun e w' => e = zr (.tuple #[.string ⟨#[]⟩, vi ki 1]) ∧ Below w.heap.size w w' := by
 go_enter Tryz.func131, Tryz.ntmps131
 go_wp2
 go_ret2
 exact ⟨rfl, (by repeat' (first | assumption | exact Below.refl _ _ | exact Nat.le_refl _ | refine Below.alloc ?_ ?_ _ | (simp; done) | (simp; omega) | omega))⟩
theorem tat_hi (s k : Int) (h : 86400 < s) (w : World) :
  Calls Tryz.prog 131 #[.agg #[vi ki s, .int .u8 k]] w fun e w' => e = zr (.tuple #[.string ⟨#[]⟩, vi ki 1]) ∧ Below w.heap.size w w' := by
 have h2 : ¬ s < 0 := by omega
 go_enter Tryz.func131, Tryz.ntmps131
 go_wp2
 go_ret2
 exact ⟨rfl, (by repeat' (first | assumption | exact Below.refl _ _ | exact Nat.le_refl _ | refine Below.alloc ?_ ?_ _ | (simp; done) | (simp; omega) | omega))⟩
theorem tat_wz (s h m sc us : Int) (HT MT ST : ByteArray) (z1 : HT.size ≤ 21) (z2 : MT.size ≤ 21) (z3 : ST.size ≤ 21) (s0 : 0 ≤ s) (s1 : s ≤ 86400) (hz : sc = 0) 
  (PA : Hid (∀ w : World, Calls Tryz.prog 138 #[vi ki (s * 1000000)] w fun e w' => e = zr (.tuple #[vi ki h, vi ki m, vi ki sc, vi ki us, vi ki 0]) ∧ w' = w))
  (FI : Hid (∀ w : World, Calls Tryz.prog 139 #[vi ki h, vi ki 10] w fun e w' => e = zr (.string HT) ∧ w' = w))
  (T1 : Hid (∀ w : World, Clk.Tab w → Calls Tryz.prog 140 #[vi ki m] w fun e w' => e = zr (.string MT) ∧ Below w.heap.size w w'))
  (w : World) (hT : Hid (Clk.Tab w)) :
  Calls Tryz.prog 131 #[.agg #[vi ki s, .int .u8 119]] w fun e w' => e = zr (.tuple #[.string ((HT ++ ⟨#[58]⟩) ++ MT), vi ki 0]) ∧ Below w.heap.size w w' := by
 have h1 : ¬ s < 0 := by omega
 have h2 : ¬ 86400 < s := by omega
 subst hz
 have S0 : Hid (AtS w w.heap.size s 119 (w.alloc (.cells #[vi ki s, .int .u8 119] 40))) := AtS.new w _ _ _
 go_enter Tryz.func131, Tryz.ntmps131
 go_wp2_with fail
 refine (PA.out _).mono ?_
 rintro e v1 ⟨rfl, rfl⟩
 go_wp2_with fail
 refine (FI.out _).mono ?_
 rintro e v2 ⟨rfl, rfl⟩
 go_wp2_with fail
 refine (T1.out _ (hT.out.below S0.out.2.2.2)).mono ?_
 rintro e w1 ⟨rfl, hb⟩
 have S1 : Hid (AtS w w.heap.size s 119 w1) := S0.out.below hb
 clear hb S0
 obtain ⟨o1, o2, o3, o4⟩ := id S1.out
 clear o4
 go_wp2
 go_ret2
 exact ⟨rfl, S1.out.2.2.2⟩
theorem tat_wn (s h m sc us : Int) (HT MT ST : ByteArray) (z1 : HT.size ≤ 21) (z2 : MT.size ≤ 21) (z3 : ST.size ≤ 21) (s0 : 0 ≤ s) (s1 : s ≤ 86400) (hz : sc ≠ 0) 
  (PA : Hid (∀ w : World, Calls Tryz.prog 138 #[vi ki (s * 1000000)] w fun e w' => e = zr (.tuple #[vi ki h, vi ki m, vi ki sc, vi ki us, vi ki 0]) ∧ w' = w))
  (FI : Hid (∀ w : World, Calls Tryz.prog 139 #[vi ki h, vi ki 10] w fun e w' => e = zr (.string HT) ∧ w' = w))
  (T1 : Hid (∀ w : World, Clk.Tab w → Calls Tryz.prog 140 #[vi ki m] w fun e w' => e = zr (.string MT) ∧ Below w.heap.size w w'))
  (T2 : Hid (∀ w : World, Clk.Tab w → Calls Tryz.prog 140 #[vi ki sc] w fun e w' => e = zr (.string ST) ∧ Below w.heap.size w w'))
  (w : World) (hT : Hid (Clk.Tab w)) :
  Calls Tryz.prog 131 #[.agg #[vi ki s, .int .u8 119]] w fun e w' => e = zr (.tuple #[.string (((HT ++ ⟨#[58]⟩) ++ MT) ++ (⟨#[58]⟩ ++ ST)), vi ki 0]) ∧ Below w.heap.size w w' := by
 have h1 : ¬ s < 0 := by omega
 have h2 : ¬ 86400 < s := by omega
 have hz1 : (sc != 0) = true := bne_iff_ne.2 hz
 have S0 : Hid (AtS w w.heap.size s 119 (w.alloc (.cells #[vi ki s, .int .u8 119] 40))) := AtS.new w _ _ _
 go_enter Tryz.func131, Tryz.ntmps131
 go_wp2_with fail
 refine (PA.out _).mono ?_
 rintro e v1 ⟨rfl, rfl⟩
 go_wp2_with fail
 refine (FI.out _).mono ?_
 rintro e v2 ⟨rfl, rfl⟩
 go_wp2_with fail
 refine (T1.out _ (hT.out.below S0.out.2.2.2)).mono ?_
 rintro e w1 ⟨rfl, hb⟩
 have S1 : Hid (AtS w w.heap.size s 119 w1) := S0.out.below hb
 clear hb S0
 go_wp2_with fail
 refine (T2.out _ (hT.out.below S1.out.2.2.2)).mono ?_
 rintro e w2 ⟨rfl, hb⟩
 have S2 : Hid (AtS w w.heap.size s 119 w2) := S1.out.below hb
 clear hb S1
 obtain ⟨o1, o2, o3, o4⟩ := id S2.out
 clear o4
 go_wp2
 go_ret2
 exact ⟨rfl, S2.out.2.2.2⟩
theorem tat_sz (s h m sc us : Int) (HT MT ST : ByteArray) (z1 : HT.size ≤ 21) (z2 : MT.size ≤ 21) (z3 : ST.size ≤ 21) (s0 : 0 ≤ s) (s1 : s ≤ 86400) (hz : sc = 0) 
  (PA : Hid (∀ w : World, Calls Tryz.prog 138 #[vi ki (s * 1000000)] w fun e w' => e = zr (.tuple #[vi ki h, vi ki m, vi ki sc, vi ki us, vi ki 0]) ∧ w' = w))
  (FI : Hid (∀ w : World, Calls Tryz.prog 139 #[vi ki h, vi ki 10] w fun e w' => e = zr (.string HT) ∧ w' = w))
  (T1 : Hid (∀ w : World, Clk.Tab w → Calls Tryz.prog 140 #[vi ki m] w fun e w' => e = zr (.string MT) ∧ Below w.heap.size w w'))
  (w : World) (hT : Hid (Clk.Tab w)) :
  Calls Tryz.prog 131 #[.agg #[vi ki s, .int .u8 115]] w fun e w' => e = zr (.tuple #[.string (((HT ++ ⟨#[58]⟩) ++ MT) ++ ⟨#[115]⟩), vi ki 0]) ∧ Below w.heap.size w w' := by
 have h1 : ¬ s < 0 := by omega
 have h2 : ¬ 86400 < s := by omega
 have en := enc_s
 subst hz
 have S0 : Hid (AtS w w.heap.size s 115 (w.alloc (.cells #[vi ki s, .int .u8 115] 40))) := AtS.new w _ _ _
 go_enter Tryz.func131, Tryz.ntmps131
 go_wp2_with fail
 refine (PA.out _).mono ?_
 rintro e v1 ⟨rfl, rfl⟩
 go_wp2_with fail
 refine (FI.out _).mono ?_
 rintro e v2 ⟨rfl, rfl⟩
 go_wp2_with fail
 refine (T1.out _ (hT.out.below S0.out.2.2.2)).mono ?_
 rintro e w1 ⟨rfl, hb⟩
 have S1 : Hid (AtS w w.heap.size s 115 w1) := S0.out.below hb
 clear hb S0
 obtain ⟨o1, o2, o3, o4⟩ := id S1.out
 clear o4
 go_wp2
 go_ret2
 exact ⟨rfl, S1.out.2.2.2⟩
theorem tat_sn (s h m sc us : Int) (HT MT ST : ByteArray) (z1 : HT.size ≤ 21) (z2 : MT.size ≤ 21) (z3 : ST.size ≤ 21) (s0 : 0 ≤ s) (s1 : s ≤ 86400) (hz : sc ≠ 0) 
  (PA : Hid (∀ w : World, Calls Tryz.prog 138 #[vi ki (s * 1000000)] w fun e w' => e = zr (.tuple #[vi ki h, vi ki m, vi ki sc, vi ki us, vi ki 0]) ∧ w' = w))
  (FI : Hid (∀ w : World, Calls Tryz.prog 139 #[vi ki h, vi ki 10] w fun e w' => e = zr (.string HT) ∧ w' = w))
  (T1 : Hid (∀ w : World, Clk.Tab w → Calls Tryz.prog 140 #[vi ki m] w fun e w' => e = zr (.string MT) ∧ Below w.heap.size w w'))
  (T2 : Hid (∀ w : World, Clk.Tab w → Calls Tryz.prog 140 #[vi ki sc] w fun e w' => e = zr (.string ST) ∧ Below w.heap.size w w'))
  (w : World) (hT : Hid (Clk.Tab w)) :
  Calls Tryz.prog 131 #[.agg #[vi ki s, .int .u8 115]] w fun e w' => e = zr (.tuple #[.string ((((HT ++ ⟨#[58]⟩) ++ MT) ++ (⟨#[58]⟩ ++ ST)) ++ ⟨#[115]⟩), vi ki 0]) ∧ Below w.heap.size w w' := by
 have h1 : ¬ s < 0 := by omega
 have h2 : ¬ 86400 < s := by omega
 have en := enc_s
 have hz1 : (sc != 0) = true := bne_iff_ne.2 hz
 have S0 : Hid (AtS w w.heap.size s 115 (w.alloc (.cells #[vi ki s, .int .u8 115] 40))) := AtS.new w _ _ _
 go_enter Tryz.func131, Tryz.ntmps131
 go_wp2_with fail
 refine (PA.out _).mono ?_
 rintro e v1 ⟨rfl, rfl⟩
 go_wp2_with fail
 refine (FI.out _).mono ?_
 rintro e v2 ⟨rfl, rfl⟩
 go_wp2_with fail
 refine (T1.out _ (hT.out.below S0.out.2.2.2)).mono ?_
 rintro e w1 ⟨rfl, hb⟩
 have S1 : Hid (AtS w w.heap.size s 115 w1) := S0.out.below hb
 clear hb S0
 go_wp2_with fail
 refine (T2.out _ (hT.out.below S1.out.2.2.2)).mono ?_
 rintro e w2 ⟨rfl, hb⟩
 have S2 : Hid (AtS w w.heap.size s 115 w2) := S1.out.below hb
 clear hb S1
 obtain ⟨o1, o2, o3, o4⟩ := id S2.out
 clear o4
 go_wp2
 go_ret2
 exact ⟨rfl, S2.out.2.2.2⟩
theorem tat_uz (s h m sc us : Int) (HT MT ST : ByteArray) (z1 : HT.size ≤ 21) (z2 : MT.size ≤ 21) (z3 : ST.size ≤ 21) (s0 : 0 ≤ s) (s1 : s ≤ 86400) (hz : sc = 0) 
  (PA : Hid (∀ w : World, Calls Tryz.prog 138 #[vi ki (s * 1000000)] w fun e w' => e = zr (.tuple #[vi ki h, vi ki m, vi ki sc, vi ki us, vi ki 0]) ∧ w' = w))
  (FI : Hid (∀ w : World, Calls Tryz.prog 139 #[vi ki h, vi ki 10] w fun e w' => e = zr (.string HT) ∧ w' = w))
  (T1 : Hid (∀ w : World, Clk.Tab w → Calls Tryz.prog 140 #[vi ki m] w fun e w' => e = zr (.string MT) ∧ Below w.heap.size w w'))
  (w : World) (hT : Hid (Clk.Tab w)) :
  Calls Tryz.prog 131 #[.agg #[vi ki s, .int .u8 117]] w fun e w' => e = zr (.tuple #[.string (((HT ++ ⟨#[58]⟩) ++ MT) ++ ⟨#[117]⟩), vi ki 0]) ∧ Below w.heap.size w w' := by
 have h1 : ¬ s < 0 := by omega
 have h2 : ¬ 86400 < s := by omega
 have en := enc_u
 subst hz
 have S0 : Hid (AtS w w.heap.size s 117 (w.alloc (.cells #[vi ki s, .int .u8 117] 40))) := AtS.new w _ _ _
 go_enter Tryz.func131, Tryz.ntmps131
 go_wp2_with fail
 refine (PA.out _).mono ?_
 rintro e v1 ⟨rfl, rfl⟩
 go_wp2_with fail
 refine (FI.out _).mono ?_
 rintro e v2 ⟨rfl, rfl⟩
 go_wp2_with fail
 refine (T1.out _ (hT.out.below S0.out.2.2.2)).mono ?_
 rintro e w1 ⟨rfl, hb⟩
 have S1 : Hid (AtS w w.heap.size s 117 w1) := S0.out.below hb
 clear hb S0
 obtain ⟨o1, o2, o3, o4⟩ := id S1.out
 clear o4
 go_wp2
 go_ret2
 exact ⟨rfl, S1.out.2.2.2⟩
theorem tat_un (s h m sc us : Int) (HT MT ST : ByteArray) (z1 : HT.size ≤ 21) (z2 : MT.size ≤ 21) (z3 : ST.size ≤ 21) (s0 : 0 ≤ s) (s1 : s ≤ 86400) (hz : sc ≠ 0) 
  (PA : Hid (∀ w : World, Calls Tryz.prog 138 #[vi ki (s * 1000000)] w fun e w' => e = zr (.tuple #[vi ki h, vi ki m, vi ki sc, vi ki us, vi ki 0]) ∧ w' = w))
  (FI : Hid (∀ w : World, Calls Tryz.prog 139 #[vi ki h, vi ki 10] w fun e w' => e = zr (.string HT) ∧ w' = w))
  (T1 : Hid (∀ w : World, Clk.Tab w → Calls Tryz.prog 140 #[vi ki m] w fun e w' => e = zr (.string MT) ∧ Below w.heap.size w w'))
  (T2 : Hid (∀ w : World, Clk.Tab w → Calls Tryz.prog 140 #[vi ki sc] w fun e w' => e = zr (.string ST) ∧ Below w.heap.size w w'))
  (w : World) (hT : Hid (Clk.Tab w)) :
  Calls Tryz.prog 131 #[.agg #[vi ki s, .int .u8 117]] w fun e w' => e = zr (.tuple #[.string ((((HT ++ ⟨#[58]⟩) ++ MT) ++ (⟨#[58]⟩ ++ ST)) ++ ⟨#[117]⟩), vi ki 0]) ∧ Below w.heap.size w w' := by
 have h1 : ¬ s < 0 := by omega
 have h2 : ¬ 86400 < s := by omega
 have en := enc_u
 have hz1 : (sc != 0) = true := bne_iff_ne.2 hz
 have S0 : Hid (AtS w w.heap.size s 117 (w.alloc (.cells #[vi ki s, .int .u8 117] 40))) := AtS.new w _ _ _
 go_enter Tryz.func131, Tryz.ntmps131
 go_wp2_with fail
 refine (PA.out _).mono ?_
 rintro e v1 ⟨rfl, rfl⟩
 go_wp2_with fail
 refine (FI.out _).mono ?_
 rintro e v2 ⟨rfl, rfl⟩
 go_wp2_with fail
 refine (T1.out _ (hT.out.below S0.out.2.2.2)).mono ?_
 rintro e w1 ⟨rfl, hb⟩
 have S1 : Hid (AtS w w.heap.size s 117 w1) := S0.out.below hb
 clear hb S0
 go_wp2_with fail
 refine (T2.out _ (hT.out.below S1.out.2.2.2)).mono ?_
 rintro e w2 ⟨rfl, hb⟩
 have S2 : Hid (AtS w w.heap.size s 117 w2) := S1.out.below hb
 clear hb S1
 obtain ⟨o1, o2, o3, o4⟩ := id S2.out
 clear o4
 go_wp2
 go_ret2
 exact ⟨rfl, S2.out.2.2.2⟩
theorem tat_xz (s k h m sc us : Int) (HT MT ST : ByteArray) (z1 : HT.size ≤ 21) (z2 : MT.size ≤ 21) (z3 : ST.size ≤ 21) (s0 : 0 ≤ s) (s1 : s ≤ 86400) (hz : sc = 0) (k0 : k ≠ 119) (k1 : k ≠ 115) (k2 : k ≠ 117)
  (PA : Hid (∀ w : World, Calls Tryz.prog 138 #[vi ki (s * 1000000)] w fun e w' => e = zr (.tuple #[vi ki h, vi ki m, vi ki sc, vi ki us, vi ki 0]) ∧ w' = w))
  (FI : Hid (∀ w : World, Calls Tryz.prog 139 #[vi ki h, vi ki 10] w fun e w' => e = zr (.string HT) ∧ w' = w))
  (T1 : Hid (∀ w : World, Clk.Tab w → Calls Tryz.prog 140 #[vi ki m] w fun e w' => e = zr (.string MT) ∧ Below w.heap.size w w'))
  (w : World) (hT : Hid (Clk.Tab w)) :
  Calls Tryz.prog 131 #[.agg #[vi ki s, .int .u8 k]] w fun e w' => e = zr (.tuple #[.string ⟨#[]⟩, vi ki 1]) ∧ Below w.heap.size w w' := by
 have h1 : ¬ s < 0 := by omega
 have h2 : ¬ 86400 < s := by omega
 have q0 : (k == 119) = false := beq_eq_false_iff_ne.2 k0
 have q1 : (k == 115) = false := beq_eq_false_iff_ne.2 k1
 have q2 : (k == 117) = false := beq_eq_false_iff_ne.2 k2
 subst hz
 have S0 : Hid (AtS w w.heap.size s k (w.alloc (.cells #[vi ki s, .int .u8 k] 40))) := AtS.new w _ _ _
 go_enter Tryz.func131, Tryz.ntmps131
 go_wp2_with fail
 refine (PA.out _).mono ?_
 rintro e v1 ⟨rfl, rfl⟩
 go_wp2_with fail
 refine (FI.out _).mono ?_
 rintro e v2 ⟨rfl, rfl⟩
 go_wp2_with fail
 refine (T1.out _ (hT.out.below S0.out.2.2.2)).mono ?_
 rintro e w1 ⟨rfl, hb⟩
 have S1 : Hid (AtS w w.heap.size s k w1) := S0.out.below hb
 clear hb S0
 obtain ⟨o1, o2, o3, o4⟩ := id S1.out
 clear o4
 go_wp2
 go_ret2
 exact ⟨rfl, S1.out.2.2.2⟩
theorem tat_xn (s k h m sc us : Int) (HT MT ST : ByteArray) (z1 : HT.size ≤ 21) (z2 : MT.size ≤ 21) (z3 : ST.size ≤ 21) (s0 : 0 ≤ s) (s1 : s ≤ 86400) (hz : sc ≠ 0) (k0 : k ≠ 119) (k1 : k ≠ 115) (k2 : k ≠ 117)
  (PA : Hid (∀ w : World, Calls Tryz.prog 138 #[vi ki (s * 1000000)] w fun e w' => e = zr (.tuple #[vi ki h, vi ki m, vi ki sc, vi ki us, vi ki 0]) ∧ w' = w))
  (FI : Hid (∀ w : World, Calls Tryz.prog 139 #[vi ki h, vi ki 10] w fun e w' => e = zr (.string HT) ∧ w' = w))
  (T1 : Hid (∀ w : World, Clk.Tab w → Calls Tryz.prog 140 #[vi ki m] w fun e w' => e = zr (.string MT) ∧ Below w.heap.size w w'))
  (T2 : Hid (∀ w : World, Clk.Tab w → Calls Tryz.prog 140 #[vi ki sc] w fun e w' => e = zr (.string ST) ∧ Below w.heap.size w w'))
  (w : World) (hT : Hid (Clk.Tab w)) :
  Calls Tryz.prog 131 #[.agg #[vi ki s, .int .u8 k]] w fun e w' => e = zr (.tuple #[.string ⟨#[]⟩, vi ki 1]) ∧ Below w.heap.size w w' := by
 have h1 : ¬ s < 0 := by omega
 have h2 : ¬ 86400 < s := by omega
 have q0 : (k == 119) = false := beq_eq_false_iff_ne.2 k0
 have q1 : (k == 115) = false := beq_eq_false_iff_ne.2 k1
 have q2 : (k == 117) = false := beq_eq_false_iff_ne.2 k2
 have hz1 : (sc != 0) = true := bne_iff_ne.2 hz
 have S0 : Hid (AtS w w.heap.size s k (w.alloc (.cells #[vi ki s, .int .u8 k] 40))) := AtS.new w _ _ _
 go_enter Tryz.func131, Tryz.ntmps131
 go_wp2_with fail
 refine (PA.out _).mono ?_
 rintro e v1 ⟨rfl, rfl⟩
 go_wp2_with fail
 refine (FI.out _).mono ?_
 rintro e v2 ⟨rfl, rfl⟩
 go_wp2_with fail
 refine (T1.out _ (hT.out.below S0.out.2.2.2)).mono ?_
 rintro e w1 ⟨rfl, hb⟩
 have S1 : Hid (AtS w w.heap.size s k w1) := S0.out.below hb
 clear hb S0
 go_wp2_with fail
 refine (T2.out _ (hT.out.below S1.out.2.2.2)).mono ?_
 rintro e w2 ⟨rfl, hb⟩
 have S2 : Hid (AtS w w.heap.size s k w2) := S1.out.below hb
 clear hb S1
 obtain ⟨o1, o2, o3, o4⟩ := id S2.out
 clear o4
 go_wp2
 go_ret2
 exact ⟨rfl, S2.out.2.2.2⟩
end Go.Proofs.YtpdmndlpgjjopaaGreatDoor
namespace Go.Proofs.YtpdmndlpgjjopaaGreatDoor.Fn
open Go.RowKit
theorem tat_yes (s k : Int) (h : okAt s k) (w : World) (hT : Clk.Tab w) :
  Calls Tryz.prog 131 #[.agg #[vi ki s, .int .u8 k]] w fun e w' => e = zr (.tuple #[.string (atT s k), vi ki 0]) ∧ Below w.heap.size w w' := by
 obtain ⟨s0, s1, hk⟩ := h
 have PA : Hid (∀ w : World, Calls Tryz.prog 138 #[vi ki (s * 1000000)] w fun e w' => e = zr (.tuple #[vi ki (s / 3600), vi ki (s / 60 % 60), vi ki (s % 60), vi ki 0, vi ki 0]) ∧ w' = w) := fun w => by
  have t0 : 0 ≤ s * 1000000 := by omega
  refine Clk.parts_in (s * 1000000) (s / 3600) (s / 60 % 60) (s % 60) 0 (s / 60) s t0 (by omega) ?_ ?_ ?_ ?_ ?_ ?_ (by omega) (by omega) (by omega) (by omega) s0 (by omega) w
  ·rw [Int.tdiv_eq_ediv_of_nonneg t0]; omega
  ·rw [Int.tdiv_eq_ediv_of_nonneg t0]; omega
  ·rw [Int.tmod_eq_emod_of_nonneg (by omega)]
  ·rw [Int.tdiv_eq_ediv_of_nonneg t0]; omega
  ·rw [Int.tmod_eq_emod_of_nonneg s0]
  ·rw [Int.tmod_eq_emod_of_nonneg t0]; omega
 have FI := format_small (s / 3600) (by omega) (by omega)
 have T1 := Clk.two_any (s / 60 % 60) (by omega) (by omega)
 have T2 := Clk.two_any (s % 60) (by omega) (by omega)
 have z1 := digB_size (s / 3600) (by omega) (by omega)
 have z2 := Clk.twoB_size (n := s / 60 % 60) (by omega) (by omega)
 have z3 := Clk.twoB_size (n := s % 60) (by omega) (by omega)
 unfold atT hmsT
 by_cases hz : s % 60 = 0
 ·simp only [if_pos hz]
  rcases hk with rfl | rfl | rfl
  ·exact tat_wz s _ _ _ _ _ _ _ z1 z2 z3 s0 s1 hz PA FI T1 w hT
  ·exact tat_sz s _ _ _ _ _ _ _ z1 z2 z3 s0 s1 hz PA FI T1 w hT
  ·exact tat_uz s _ _ _ _ _ _ _ z1 z2 z3 s0 s1 hz PA FI T1 w hT
 ·simp only [if_neg hz]
  rcases hk with rfl | rfl | rfl
  ·exact tat_wn s _ _ _ _ _ _ _ z1 z2 z3 s0 s1 hz PA FI T1 T2 w hT
  ·exact tat_sn s _ _ _ _ _ _ _ z1 z2 z3 s0 s1 hz PA FI T1 T2 w hT
  ·exact tat_un s _ _ _ _ _ _ _ z1 z2 z3 s0 s1 hz PA FI T1 T2 w hT
theorem tat_no (s k : Int) (h : ¬ okAt s k) (w : World) (hT : Clk.Tab w) :
  Calls Tryz.prog 131 #[.agg #[vi ki s, .int .u8 k]] w fun e w' => e = zr (.tuple #[.string ⟨#[]⟩, vi ki 1]) ∧ Below w.heap.size w w' := by
 by_cases a : s < 0
 ·exact tat_lo s k a w
 ·by_cases b : 86400 < s
  ·exact tat_hi s k b w
  ·have s0 : 0 ≤ s := by omega
   have s1 : s ≤ 86400 := by omega
   have hk : k ≠ 119 ∧ k ≠ 115 ∧ k ≠ 117 := by unfold okAt at h; omega
   have PA : Hid (∀ w : World, Calls Tryz.prog 138 #[vi ki (s * 1000000)] w fun e w' => e = zr (.tuple #[vi ki (s / 3600), vi ki (s / 60 % 60), vi ki (s % 60), vi ki 0, vi ki 0]) ∧ w' = w) := fun w => by
    have t0 : 0 ≤ s * 1000000 := by omega
    refine Clk.parts_in (s * 1000000) (s / 3600) (s / 60 % 60) (s % 60) 0 (s / 60) s t0 (by omega) ?_ ?_ ?_ ?_ ?_ ?_ (by omega) (by omega) (by omega) (by omega) s0 (by omega) w
    ·rw [Int.tdiv_eq_ediv_of_nonneg t0]; omega
    ·rw [Int.tdiv_eq_ediv_of_nonneg t0]; omega
    ·rw [Int.tmod_eq_emod_of_nonneg (by omega)]
    ·rw [Int.tdiv_eq_ediv_of_nonneg t0]; omega
    ·rw [Int.tmod_eq_emod_of_nonneg s0]
    ·rw [Int.tmod_eq_emod_of_nonneg t0]; omega
   have FI := format_small (s / 3600) (by omega) (by omega)
   have T1 := Clk.two_any (s / 60 % 60) (by omega) (by omega)
   have T2 := Clk.two_any (s % 60) (by omega) (by omega)
   have z1 := digB_size (s / 3600) (by omega) (by omega)
   have z2 := Clk.twoB_size (n := s / 60 % 60) (by omega) (by omega)
   have z3 := Clk.twoB_size (n := s % 60) (by omega) (by omega)
   by_cases hz : s % 60 = 0
   ·exact tat_xz s k _ _ _ _ _ _ _ z1 z2 z3 s0 s1 hz hk.1 hk.2.1 hk.2.2 PA FI T1 w hT
   ·exact tat_xn s k _ _ _ _ _ _ _ z1 z2 z3 s0 s1 hz hk.1 hk.2.1 hk.2.2 PA FI T1 T2 w hT
structure Hf where
 (m k d n s z v : Int)
 (t : ByteArray)
structure Ft where
 (h : Bool)
 (fr off : Int)
 (A B : Hf)
structure Tr where
 (t o : Int)
 (d : Bool)
 (a : ByteArray)
def hL (a : Hf) : List Value := [vi ki a.m, vi ki a.k, vi ki a.d, vi ki a.n, vi ki a.s, .int .u8 a.z, vi ki a.v, .string a.t]
def fL (f : Ft) : List Value := [.bool f.h, vi ki f.fr, vi ki f.off, vi ki f.A.m, vi ki f.A.k, vi ki f.A.d, vi ki f.A.n, vi ki f.A.s, .int .u8 f.A.z, vi ki f.A.v, .string f.A.t, vi ki f.B.m, vi ki f.B.k, vi ki f.B.d, vi ki f.B.n, vi ki f.B.s, .int .u8 f.B.z, vi ki f.B.v, .string f.B.t]
def tL (x : Tr) : List Value := [vi ki x.t, vi ki x.o, .bool x.d, .string x.a]
def Bx (W : World) (b : Nat) (l : List Value) : Prop := b < W.heap.size ∧ ∀ i v, l[i]? = some v → W.cell? ⟨b, i, none⟩ = some v ∧ W.frozen? ⟨b, i, none⟩ = false
theorem Bx.below {W W' : World} {b : Nat} {l : List Value} (h : Bx W b l) (hb : Below W.heap.size W W') : Bx W' b l :=
 ⟨Nat.lt_of_lt_of_le h.1 hb.size, fun i v e => ⟨(hb.cell (p := ⟨b, i, none⟩) h.1).trans (h.2 i v e).1, (hb.frozen (p := ⟨b, i, none⟩) h.1).trans (h.2 i v e).2⟩⟩
theorem Bx.alloc {W : World} {b : Nat} {l : List Value} (h : Bx W b l) (o : Obj) : Bx (W.alloc o) b l := h.below ((Below.refl _ W).alloc (Nat.le_refl _) o)
theorem Bx.new (w : World) (l : List Value) (t : TypeId) : Bx (w.alloc (.cells l.toArray t)) w.heap.size l :=
 ⟨by simp, fun i v e => ⟨by rw [World.cell?_alloc_at _ _ _ _ rfl]; simpa using e, by rw [World.frozen?_alloc_at _ _ _ _ rfl]⟩⟩
theorem Bx.newAt (w : World) (l : List Value) (t : TypeId) (b : Nat) (hb : w.heap.size = b) : Bx (w.alloc (.cells l.toArray t)) b l := hb ▸ Bx.new w l t
theorem Bx.c {W : World} {b : Nat} {l : List Value} (h : Bx W b l) (i : Nat) {v : Value} (e : l[i]? = some v) : W.cell? ⟨b, i, none⟩ = some v := (h.2 i v e).1
theorem Bx.f {W : World} {b : Nat} {l : List Value} (h : Bx W b l) (i : Nat) {v : Value} (e : l[i]? = some v) : W.frozen? ⟨b, i, none⟩ = false := (h.2 i v e).2
def okH (a : Hf) : Bool := decide (dyA a.m a.k a.d a.n ∧ okAt a.s a.z ∧ 0 ≤ a.v ∧ a.v ≤ 7200)
def okF (f : Ft) : Bool := f.h && decide (-50400 ≤ f.off) && decide (f.off ≤ 50400) && okH f.A && okH f.B && far f.A.m f.B.m
theorem half_run (a : Hf) (V E1 E2 : Int) (TT : ByteArray) (h1 : E1 = 0 ∨ E1 = 1) (h2 : E2 = 0 ∨ E2 = 1)
  (DY : Hid (∀ w : World, Cvl.Lens w → Calls Tryz.prog 130 #[vi ki 2000, vi ki a.m, .agg #[vi ki a.k, vi ki a.d, vi ki a.n]] w fun e w' => e = zr (.tuple #[vi ki V, vi ki E1]) ∧ Below w.heap.size w w'))
  (TA : Hid (∀ w : World, Clk.Tab w → Calls Tryz.prog 131 #[.agg #[vi ki a.s, .int .u8 a.z]] w fun e w' => e = zr (.tuple #[.string TT, vi ki E2]) ∧ Below w.heap.size w w'))
  (w : World) (hL0 : Hid (Cvl.Lens w)) (hT0 : Hid (Clk.Tab w)) :
  Calls Tryz.prog 120 #[.agg #[vi ki a.m, vi ki a.k, vi ki a.d, vi ki a.n, vi ki a.s, .int .u8 a.z, vi ki a.v, .string a.t]] w fun e w' => e = zr (.bool (decide (E1 = 0 ∧ E2 = 0 ∧ 0 ≤ a.v ∧ a.v ≤ 7200))) ∧ Below w.heap.size w w' := by
 have HB : Hid (Below w.heap.size w (w.alloc (.cells #[vi ki a.m, vi ki a.k, vi ki a.d, vi ki a.n, vi ki a.s, .int .u8 a.z, vi ki a.v, .string a.t] 42))) := (Below.refl _ _).alloc (Nat.le_refl _) _
 have X0 : Hid (Bx (w.alloc (.cells #[vi ki a.m, vi ki a.k, vi ki a.d, vi ki a.n, vi ki a.s, .int .u8 a.z, vi ki a.v, .string a.t] 42)) w.heap.size (hL a)) := Bx.new w (hL a) _
 have L1 : Hid (Cvl.Lens (w.alloc (.cells #[vi ki a.m, vi ki a.k, vi ki a.d, vi ki a.n, vi ki a.s, .int .u8 a.z, vi ki a.v, .string a.t] 42))) := Lens_below hL0.out HB.out (Lens_lt hL0.out)
 have T1 : Hid (Clk.Tab (w.alloc (.cells #[vi ki a.m, vi ki a.k, vi ki a.d, vi ki a.n, vi ki a.s, .int .u8 a.z, vi ki a.v, .string a.t] 42))) := hT0.out.below HB.out
 go_enter Tryz.func120, Tryz.ntmps120
 go_wp2_with fail
 refine (DY.out _ L1.out).mono ?_
 rintro e w1 ⟨rfl, hb⟩
 have X1 : Hid (Bx w1 w.heap.size (hL a)) := X0.out.below hb
 have HB1 : Hid (Below w.heap.size w w1) := HB.out.trans (hb.mono HB.out.size)
 have T2 : Hid (Clk.Tab w1) := T1.out.below hb
 clear hb X0 HB L1 T1
 have c4 : w1.cell? ⟨w.heap.size, 4, none⟩ = some (vi ki a.s) := X1.out.c 4 rfl
 have c5 : w1.cell? ⟨w.heap.size, 5, none⟩ = some (.int .u8 a.z) := X1.out.c 5 rfl
 go_wp2_with fail
 refine (TA.out _ T2.out).mono ?_
 rintro e w2 ⟨rfl, hb⟩
 have c6 : w2.cell? ⟨w.heap.size, 6, none⟩ = some (vi ki a.v) := (X1.out.below hb).c 6 rfl
 have HB2 : Hid (Below w.heap.size w w2) := HB1.out.trans (hb.mono HB1.out.size)
 clear hb X1 HB1 T2 c4 c5
 rcases h1 with rfl | rfl
 ·rcases h2 with rfl | rfl
  ·go_wp2
   all_goals (go_ret; refine ⟨Cvl.ret_bool ?_, HB2.out⟩)
   all_goals (clear DY TA; first | (simp; done) | (simp; omega))
  ·go_wp2
   go_ret
   exact ⟨rfl, HB2.out⟩
 ·go_wp2
  go_ret
  exact ⟨rfl, HB2.out⟩
theorem half_any (a : Hf) (w : World) (hL0 : Cvl.Lens w) (hT0 : Clk.Tab w) :
  Calls Tryz.prog 120 #[.agg #[vi ki a.m, vi ki a.k, vi ki a.d, vi ki a.n, vi ki a.s, .int .u8 a.z, vi ki a.v, .string a.t]] w fun e w' => e = zr (.bool (okH a)) ∧ Below w.heap.size w w' := by
 by_cases h1 : dyA a.m a.k a.d a.n
 ·have DY : Hid (∀ w : World, Cvl.Lens w → Calls Tryz.prog 130 #[vi ki 2000, vi ki a.m, .agg #[vi ki a.k, vi ki a.d, vi ki a.n]] w fun e w' => e = zr (.tuple #[vi ki (dyV 2000 a.m a.k a.d a.n), vi ki 0]) ∧ Below w.heap.size w w') := fun w hw => by
   have R := day_any 2000 a.m a.k a.d a.n w hw
   rw [show dyE 2000 a.m a.k a.d a.n = 0 by unfold dyE; rw [if_pos h1, if_pos (by unfold dyY; omega)]] at R
   exact R
  by_cases h2 : okAt a.s a.z
  ·have R := half_run a _ 0 0 _ (.inl rfl) (.inl rfl) DY (fun w hw => tat_yes a.s a.z h2 w hw) w hL0 hT0
   rw [show okH a = decide ((0 : Int) = 0 ∧ (0 : Int) = 0 ∧ 0 ≤ a.v ∧ a.v ≤ 7200) by unfold okH; simp [h1, h2]]
   exact R
  ·have R := half_run a _ 0 1 _ (.inl rfl) (.inr rfl) DY (fun w hw => tat_no a.s a.z h2 w hw) w hL0 hT0
   rw [show okH a = decide ((0 : Int) = 0 ∧ (1 : Int) = 0 ∧ 0 ≤ a.v ∧ a.v ≤ 7200) by unfold okH; simp [h2]]
   exact R
 ·have DY : Hid (∀ w : World, Cvl.Lens w → Calls Tryz.prog 130 #[vi ki 2000, vi ki a.m, .agg #[vi ki a.k, vi ki a.d, vi ki a.n]] w fun e w' => e = zr (.tuple #[vi ki (dyV 2000 a.m a.k a.d a.n), vi ki 1]) ∧ Below w.heap.size w w') := fun w hw => by
   have R := day_any 2000 a.m a.k a.d a.n w hw
   rw [show dyE 2000 a.m a.k a.d a.n = 1 by unfold dyE; rw [if_neg h1]] at R
   exact R
  have e0 : okH a = false := by unfold okH; simp [h1]
  by_cases h2 : okAt a.s a.z
  ·have R := half_run a _ 1 0 _ (.inr rfl) (.inl rfl) DY (fun w hw => tat_yes a.s a.z h2 w hw) w hL0 hT0
   rw [e0]; simpa using R
  ·have R := half_run a _ 1 1 _ (.inr rfl) (.inr rfl) DY (fun w hw => tat_no a.s a.z h2 w hw) w hL0 hT0
   rw [e0]; simpa using R
theorem okH_of {a : Hf} (h : okH a = true) : dyA a.m a.k a.d a.n ∧ okAt a.s a.z ∧ 0 ≤ a.v ∧ a.v ≤ 7200 := of_decide_eq_true h
theorem can_run (f : Ft) (bA bB c : Bool)
  (IA : Hid (∀ w : World, Cvl.Lens w → Clk.Tab w → Calls Tryz.prog 120 #[.agg #[vi ki f.A.m, vi ki f.A.k, vi ki f.A.d, vi ki f.A.n, vi ki f.A.s, .int .u8 f.A.z, vi ki f.A.v, .string f.A.t]] w fun e w' => e = zr (.bool bA) ∧ Below w.heap.size w w'))
  (IB : Hid (∀ w : World, Cvl.Lens w → Clk.Tab w → Calls Tryz.prog 120 #[.agg #[vi ki f.B.m, vi ki f.B.k, vi ki f.B.d, vi ki f.B.n, vi ki f.B.s, .int .u8 f.B.z, vi ki f.B.v, .string f.B.t]] w fun e w' => e = zr (.bool bB) ∧ Below w.heap.size w w'))
  (AP : Hid (bA = true → bB = true → ∀ w : World, Calls Tryz.prog 121 #[vi ki f.A.m, vi ki f.B.m] w fun e w' => e = zr (.bool c) ∧ w' = w))
  (w : World) (hL0 : Hid (Cvl.Lens w)) (hT0 : Hid (Clk.Tab w)) :
  Calls Tryz.prog 103 #[.agg #[.bool f.h, vi ki f.fr, vi ki f.off, vi ki f.A.m, vi ki f.A.k, vi ki f.A.d, vi ki f.A.n, vi ki f.A.s, .int .u8 f.A.z, vi ki f.A.v, .string f.A.t, vi ki f.B.m, vi ki f.B.k, vi ki f.B.d, vi ki f.B.n, vi ki f.B.s, .int .u8 f.B.z, vi ki f.B.v, .string f.B.t]] w fun e w' => e = zr (.bool (f.h && decide (-50400 ≤ f.off) && decide (f.off ≤ 50400) && bA && bB && c)) ∧ Below w.heap.size w w' := by
 have HB : Hid (Below w.heap.size w (w.alloc (.cells #[.bool f.h, vi ki f.fr, vi ki f.off, vi ki f.A.m, vi ki f.A.k, vi ki f.A.d, vi ki f.A.n, vi ki f.A.s, .int .u8 f.A.z, vi ki f.A.v, .string f.A.t, vi ki f.B.m, vi ki f.B.k, vi ki f.B.d, vi ki f.B.n, vi ki f.B.s, .int .u8 f.B.z, vi ki f.B.v, .string f.B.t] 44))) := (Below.refl _ _).alloc (Nat.le_refl _) _
 have X0 : Hid (Bx (w.alloc (.cells #[.bool f.h, vi ki f.fr, vi ki f.off, vi ki f.A.m, vi ki f.A.k, vi ki f.A.d, vi ki f.A.n, vi ki f.A.s, .int .u8 f.A.z, vi ki f.A.v, .string f.A.t, vi ki f.B.m, vi ki f.B.k, vi ki f.B.d, vi ki f.B.n, vi ki f.B.s, .int .u8 f.B.z, vi ki f.B.v, .string f.B.t] 44)) w.heap.size (fL f)) := Bx.new w (fL f) _
 have L1 : Hid (Cvl.Lens (w.alloc (.cells #[.bool f.h, vi ki f.fr, vi ki f.off, vi ki f.A.m, vi ki f.A.k, vi ki f.A.d, vi ki f.A.n, vi ki f.A.s, .int .u8 f.A.z, vi ki f.A.v, .string f.A.t, vi ki f.B.m, vi ki f.B.k, vi ki f.B.d, vi ki f.B.n, vi ki f.B.s, .int .u8 f.B.z, vi ki f.B.v, .string f.B.t] 44))) := Lens_below hL0.out HB.out (Lens_lt hL0.out)
 have T1 : Hid (Clk.Tab (w.alloc (.cells #[.bool f.h, vi ki f.fr, vi ki f.off, vi ki f.A.m, vi ki f.A.k, vi ki f.A.d, vi ki f.A.n, vi ki f.A.s, .int .u8 f.A.z, vi ki f.A.v, .string f.A.t, vi ki f.B.m, vi ki f.B.k, vi ki f.B.d, vi ki f.B.n, vi ki f.B.s, .int .u8 f.B.z, vi ki f.B.v, .string f.B.t] 44))) := hT0.out.below HB.out
 cases hh : f.h
 ·rw [hh] at HB X0 L1 T1
  go_enter Tryz.func103, Tryz.ntmps103
  go_wp2
  go_ret
  exact ⟨rfl, HB.out⟩
 rw [hh] at HB X0 L1 T1
 by_cases o1 : -50400 ≤ f.off
 case neg =>
  have e1 : decide (-50400 ≤ f.off) = false := decide_eq_false o1
  rw [e1]
  go_enter Tryz.func103, Tryz.ntmps103
  go_wp2
  go_ret
  exact ⟨rfl, HB.out⟩
 by_cases o2 : f.off ≤ 50400
 case neg =>
  have e1 : decide (f.off ≤ 50400) = false := decide_eq_false o2
  rw [e1, decide_eq_true o1]
  go_enter Tryz.func103, Tryz.ntmps103
  go_wp2
  go_ret
  exact ⟨rfl, HB.out⟩
 rw [decide_eq_true o1, decide_eq_true o2]
 go_enter Tryz.func103, Tryz.ntmps103
 go_wp2_with fail
 refine (IA.out _ L1.out T1.out).mono ?_
 rintro e w1 ⟨rfl, hb⟩
 have X1 : Hid (Bx w1 w.heap.size (fL f)) := by have := X0.out.below hb; exact this
 have HB1 : Hid (Below w.heap.size w w1) := HB.out.trans (hb.mono HB.out.size)
 have T2 : Hid (Clk.Tab w1) := T1.out.below hb
 have L2 : Hid (Cvl.Lens w1) := Lens_below hL0.out HB1.out (Lens_lt hL0.out)
 clear hb X0 HB L1 T1 IA
 cases bA
 ·go_wp2
  go_ret
  exact ⟨rfl, HB1.out⟩
 have c11 : w1.cell? ⟨w.heap.size, 11, none⟩ = some (vi ki f.B.m) := X1.out.c 11 rfl
 have c12 : w1.cell? ⟨w.heap.size, 12, none⟩ = some (vi ki f.B.k) := X1.out.c 12 rfl
 have c13 : w1.cell? ⟨w.heap.size, 13, none⟩ = some (vi ki f.B.d) := X1.out.c 13 rfl
 have c14 : w1.cell? ⟨w.heap.size, 14, none⟩ = some (vi ki f.B.n) := X1.out.c 14 rfl
 have c15 : w1.cell? ⟨w.heap.size, 15, none⟩ = some (vi ki f.B.s) := X1.out.c 15 rfl
 have c16 : w1.cell? ⟨w.heap.size, 16, none⟩ = some (.int .u8 f.B.z) := X1.out.c 16 rfl
 have c17 : w1.cell? ⟨w.heap.size, 17, none⟩ = some (vi ki f.B.v) := X1.out.c 17 rfl
 have c18 : w1.cell? ⟨w.heap.size, 18, none⟩ = some (.string f.B.t) := X1.out.c 18 rfl
 go_wp2_with fail
 refine (IB.out _ L2.out T2.out).mono ?_
 rintro e w2 ⟨rfl, hb⟩
 have X2 : Hid (Bx w2 w.heap.size (fL f)) := by have := X1.out.below hb; exact this
 have HB2 : Hid (Below w.heap.size w w2) := HB1.out.trans (hb.mono HB1.out.size)
 clear hb X1 HB1 T2 L2 IB c11 c12 c13 c14 c15 c16 c17 c18
 cases bB
 ·go_wp2
  go_ret
  exact ⟨rfl, HB2.out⟩
 have AP' : Hid (∀ w : World, Calls Tryz.prog 121 #[vi ki f.A.m, vi ki f.B.m] w fun e w' => e = zr (.bool c) ∧ w' = w) := by first | exact AP.out rfl rfl | exact AP.out trivial trivial | exact AP.out trivial rfl | exact AP.out rfl trivial | exact AP.out trivial | exact AP.out rfl | exact AP.out
 clear AP
 have c3 : w2.cell? ⟨w.heap.size, 3, none⟩ = some (vi ki f.A.m) := X2.out.c 3 rfl
 have c11 : w2.cell? ⟨w.heap.size, 11, none⟩ = some (vi ki f.B.m) := X2.out.c 11 rfl
 go_wp2_with fail
 refine (AP'.out _).mono ?_
 rintro e w3 ⟨rfl, rfl⟩
 go_wp2
 all_goals go_ret
 all_goals exact ⟨rfl, HB2.out⟩
theorem can_any (f : Ft) (w : World) (hL0 : Cvl.Lens w) (hT0 : Clk.Tab w) :
  Calls Tryz.prog 103 #[.agg #[.bool f.h, vi ki f.fr, vi ki f.off, vi ki f.A.m, vi ki f.A.k, vi ki f.A.d, vi ki f.A.n, vi ki f.A.s, .int .u8 f.A.z, vi ki f.A.v, .string f.A.t, vi ki f.B.m, vi ki f.B.k, vi ki f.B.d, vi ki f.B.n, vi ki f.B.s, .int .u8 f.B.z, vi ki f.B.v, .string f.B.t]] w fun e w' => e = zr (.bool (okF f)) ∧ Below w.heap.size w w' :=
 can_run f (okH f.A) (okH f.B) (far f.A.m f.B.m) (fun w a b => half_any f.A w a b) (fun w a b => half_any f.B w a b)
  (fun ha hb w => by
   have A := (okH_of ha).1
   have B := (okH_of hb).1
   exact apart_any f.A.m f.B.m A.2.1 A.2.2 B.2.1 B.2.2 w) w hL0 hT0
def cL (f : Ft) (m : Nat) : List Value := [.bool f.h, vi ki f.fr, vi ki f.off, vi ki f.A.m, vi ki f.A.k, vi ki f.A.d, vi ki f.A.n, vi ki f.A.s, .int .u8 f.A.z, vi ki f.A.v, .string f.A.t, vi ki f.B.m, vi ki f.B.k, vi ki f.B.d, vi ki f.B.n, vi ki f.B.s, .int .u8 f.B.z, vi ki f.B.v, .string f.B.t, .map (some m)]
def z4 : List Value := [vi ki 0, vi ki 0, .bool false, .string ⟨#[]⟩]
def trOf (off : Int) (h g : Hf) (y : Int) : Tr := ⟨inst (dyV y h.m h.k h.d h.n) h.s h.z off g.v, off + h.v, h.v != 0, h.t⟩
theorem adr_ne {b i j : Nat} (h : i ≠ j) : (⟨b, i, none⟩ : Addr) ≠ ⟨b, j, none⟩ := fun e => h (by cases e; rfl)
def set4 (W : World) (b : Nat) (i : Nat) (x y z u : Value) : World := (((W.setCell ⟨b, i, none⟩ x).setCell ⟨b, i + 1, none⟩ y).setCell ⟨b, i + 2, none⟩ z).setCell ⟨b, i + 3, none⟩ u
theorem four_set {W : World} {b i : Nat} {a c e d x y z u : Value} (h0 : W.cell? ⟨b, i, none⟩ = some a) (h1 : W.cell? ⟨b, i + 1, none⟩ = some c) (h2 : W.cell? ⟨b, i + 2, none⟩ = some e) (h3 : W.cell? ⟨b, i + 3, none⟩ = some d) :
  (set4 W b i x y z u).cell? ⟨b, i, none⟩ = some x ∧ (set4 W b i x y z u).cell? ⟨b, i + 1, none⟩ = some y ∧ (set4 W b i x y z u).cell? ⟨b, i + 2, none⟩ = some z ∧ (set4 W b i x y z u).cell? ⟨b, i + 3, none⟩ = some u := by
 have n : ∀ {p q : Nat}, p ≠ q → ∀ (V : World) (v : Value), (V.setCell ⟨b, p, none⟩ v).cell? ⟨b, q, none⟩ = V.cell? ⟨b, q, none⟩ := fun h V v => World.cell?_setCell_other _ _ _ _ (adr_ne h)
 unfold set4
 refine ⟨?_, ?_, ?_, ?_⟩
 ·rw [n (by omega), n (by omega), n (by omega)]; exact World.cell?_setCell_same _ _ _ h0
 ·rw [n (by omega), n (by omega)]; exact World.cell?_setCell_same _ _ _ ((n (by omega) _ _).trans h1)
 ·rw [n (by omega)]; exact World.cell?_setCell_same _ _ _ ((n (by omega) _ _).trans ((n (by omega) _ _).trans h2))
 ·exact World.cell?_setCell_same _ _ _ ((n (by omega) _ _).trans ((n (by omega) _ _).trans ((n (by omega) _ _).trans h3)))
theorem below_set4 {w W : World} {b i : Nat} (h : Below w.heap.size w W) (hb : w.heap.size ≤ b) (x y z u : Value) : Below w.heap.size w (set4 W b i x y z u) :=
 (((h.setCell (p := ⟨b, i, none⟩) hb x).setCell (p := ⟨b, i + 1, none⟩) hb y).setCell (p := ⟨b, i + 2, none⟩) hb z).setCell (p := ⟨b, i + 3, none⟩) hb u
theorem to_run (f : Ft) (m : Nat) (h g : Hf) (y V E R : Int)
  (DY : Hid (∀ w : World, Cvl.Lens w → Calls Tryz.prog 130 #[vi ki y, vi ki h.m, .agg #[vi ki h.k, vi ki h.d, vi ki h.n]] w fun e w' => e = zr (.tuple #[vi ki V, vi ki E]) ∧ Below w.heap.size w w'))
  (IN : Hid (∀ w : World, Calls Tryz.prog 146 #[vi ki V, vi ki h.s, .int .u8 h.z, vi ki f.off, vi ki g.v] w fun e w' => e = zr (vi ki R) ∧ w' = w))
  (o1 : -50400 ≤ f.off) (o2 : f.off ≤ 50400) (v1 : 0 ≤ h.v) (v2 : h.v ≤ 7200) (w : World) (hL0 : Hid (Cvl.Lens w)) :
  Calls Tryz.prog 141 #[.agg #[.bool f.h, vi ki f.fr, vi ki f.off, vi ki f.A.m, vi ki f.A.k, vi ki f.A.d, vi ki f.A.n, vi ki f.A.s, .int .u8 f.A.z, vi ki f.A.v, .string f.A.t, vi ki f.B.m, vi ki f.B.k, vi ki f.B.d, vi ki f.B.n, vi ki f.B.s, .int .u8 f.B.z, vi ki f.B.v, .string f.B.t, .map (some m)], .agg #[vi ki h.m, vi ki h.k, vi ki h.d, vi ki h.n, vi ki h.s, .int .u8 h.z, vi ki h.v, .string h.t], .agg #[vi ki g.m, vi ki g.k, vi ki g.d, vi ki g.n, vi ki g.s, .int .u8 g.z, vi ki g.v, .string g.t], vi ki y] w fun e w' => e = zr (.agg #[vi ki R, vi ki (f.off + h.v), .bool (h.v != 0), .string h.t]) ∧ Below w.heap.size w w' := by
 have HB : Hid (Below w.heap.size w ((((w.alloc (.cells #[.bool f.h, vi ki f.fr, vi ki f.off, vi ki f.A.m, vi ki f.A.k, vi ki f.A.d, vi ki f.A.n, vi ki f.A.s, .int .u8 f.A.z, vi ki f.A.v, .string f.A.t, vi ki f.B.m, vi ki f.B.k, vi ki f.B.d, vi ki f.B.n, vi ki f.B.s, .int .u8 f.B.z, vi ki f.B.v, .string f.B.t, .map (some m)] 159)).alloc (.cells #[vi ki h.m, vi ki h.k, vi ki h.d, vi ki h.n, vi ki h.s, .int .u8 h.z, vi ki h.v, .string h.t] 42)).alloc (.cells #[vi ki g.m, vi ki g.k, vi ki g.d, vi ki g.n, vi ki g.s, .int .u8 g.z, vi ki g.v, .string g.t] 42)).alloc (.cells #[vi ki 0, vi ki 0, .bool false, .string ⟨#[]⟩] 23))) := (((((Below.refl _ _).alloc (by simp <;> omega) _).alloc (by simp <;> omega) _).alloc (by simp <;> omega) _).alloc (by simp <;> omega) _)
 have X0 : Hid (Bx ((((w.alloc (.cells #[.bool f.h, vi ki f.fr, vi ki f.off, vi ki f.A.m, vi ki f.A.k, vi ki f.A.d, vi ki f.A.n, vi ki f.A.s, .int .u8 f.A.z, vi ki f.A.v, .string f.A.t, vi ki f.B.m, vi ki f.B.k, vi ki f.B.d, vi ki f.B.n, vi ki f.B.s, .int .u8 f.B.z, vi ki f.B.v, .string f.B.t, .map (some m)] 159)).alloc (.cells #[vi ki h.m, vi ki h.k, vi ki h.d, vi ki h.n, vi ki h.s, .int .u8 h.z, vi ki h.v, .string h.t] 42)).alloc (.cells #[vi ki g.m, vi ki g.k, vi ki g.d, vi ki g.n, vi ki g.s, .int .u8 g.z, vi ki g.v, .string g.t] 42)).alloc (.cells #[vi ki 0, vi ki 0, .bool false, .string ⟨#[]⟩] 23)) (w.heap.size) (cL f m)) := ((((Bx.newAt w (cL f m) _ _ (by simp)).alloc _).alloc _).alloc _)
 have X1 : Hid (Bx ((((w.alloc (.cells #[.bool f.h, vi ki f.fr, vi ki f.off, vi ki f.A.m, vi ki f.A.k, vi ki f.A.d, vi ki f.A.n, vi ki f.A.s, .int .u8 f.A.z, vi ki f.A.v, .string f.A.t, vi ki f.B.m, vi ki f.B.k, vi ki f.B.d, vi ki f.B.n, vi ki f.B.s, .int .u8 f.B.z, vi ki f.B.v, .string f.B.t, .map (some m)] 159)).alloc (.cells #[vi ki h.m, vi ki h.k, vi ki h.d, vi ki h.n, vi ki h.s, .int .u8 h.z, vi ki h.v, .string h.t] 42)).alloc (.cells #[vi ki g.m, vi ki g.k, vi ki g.d, vi ki g.n, vi ki g.s, .int .u8 g.z, vi ki g.v, .string g.t] 42)).alloc (.cells #[vi ki 0, vi ki 0, .bool false, .string ⟨#[]⟩] 23)) (w.heap.size + 1) (hL h)) := (((Bx.newAt (w.alloc (.cells #[.bool f.h, vi ki f.fr, vi ki f.off, vi ki f.A.m, vi ki f.A.k, vi ki f.A.d, vi ki f.A.n, vi ki f.A.s, .int .u8 f.A.z, vi ki f.A.v, .string f.A.t, vi ki f.B.m, vi ki f.B.k, vi ki f.B.d, vi ki f.B.n, vi ki f.B.s, .int .u8 f.B.z, vi ki f.B.v, .string f.B.t, .map (some m)] 159)) (hL h) _ _ (by simp)).alloc _).alloc _)
 have X2 : Hid (Bx ((((w.alloc (.cells #[.bool f.h, vi ki f.fr, vi ki f.off, vi ki f.A.m, vi ki f.A.k, vi ki f.A.d, vi ki f.A.n, vi ki f.A.s, .int .u8 f.A.z, vi ki f.A.v, .string f.A.t, vi ki f.B.m, vi ki f.B.k, vi ki f.B.d, vi ki f.B.n, vi ki f.B.s, .int .u8 f.B.z, vi ki f.B.v, .string f.B.t, .map (some m)] 159)).alloc (.cells #[vi ki h.m, vi ki h.k, vi ki h.d, vi ki h.n, vi ki h.s, .int .u8 h.z, vi ki h.v, .string h.t] 42)).alloc (.cells #[vi ki g.m, vi ki g.k, vi ki g.d, vi ki g.n, vi ki g.s, .int .u8 g.z, vi ki g.v, .string g.t] 42)).alloc (.cells #[vi ki 0, vi ki 0, .bool false, .string ⟨#[]⟩] 23)) (w.heap.size + 2) (hL g)) := ((Bx.newAt ((w.alloc (.cells #[.bool f.h, vi ki f.fr, vi ki f.off, vi ki f.A.m, vi ki f.A.k, vi ki f.A.d, vi ki f.A.n, vi ki f.A.s, .int .u8 f.A.z, vi ki f.A.v, .string f.A.t, vi ki f.B.m, vi ki f.B.k, vi ki f.B.d, vi ki f.B.n, vi ki f.B.s, .int .u8 f.B.z, vi ki f.B.v, .string f.B.t, .map (some m)] 159)).alloc (.cells #[vi ki h.m, vi ki h.k, vi ki h.d, vi ki h.n, vi ki h.s, .int .u8 h.z, vi ki h.v, .string h.t] 42)) (hL g) _ _ (by simp)).alloc _)
 have X3 : Hid (Bx ((((w.alloc (.cells #[.bool f.h, vi ki f.fr, vi ki f.off, vi ki f.A.m, vi ki f.A.k, vi ki f.A.d, vi ki f.A.n, vi ki f.A.s, .int .u8 f.A.z, vi ki f.A.v, .string f.A.t, vi ki f.B.m, vi ki f.B.k, vi ki f.B.d, vi ki f.B.n, vi ki f.B.s, .int .u8 f.B.z, vi ki f.B.v, .string f.B.t, .map (some m)] 159)).alloc (.cells #[vi ki h.m, vi ki h.k, vi ki h.d, vi ki h.n, vi ki h.s, .int .u8 h.z, vi ki h.v, .string h.t] 42)).alloc (.cells #[vi ki g.m, vi ki g.k, vi ki g.d, vi ki g.n, vi ki g.s, .int .u8 g.z, vi ki g.v, .string g.t] 42)).alloc (.cells #[vi ki 0, vi ki 0, .bool false, .string ⟨#[]⟩] 23)) (w.heap.size + 3) (z4)) := (Bx.newAt (((w.alloc (.cells #[.bool f.h, vi ki f.fr, vi ki f.off, vi ki f.A.m, vi ki f.A.k, vi ki f.A.d, vi ki f.A.n, vi ki f.A.s, .int .u8 f.A.z, vi ki f.A.v, .string f.A.t, vi ki f.B.m, vi ki f.B.k, vi ki f.B.d, vi ki f.B.n, vi ki f.B.s, .int .u8 f.B.z, vi ki f.B.v, .string f.B.t, .map (some m)] 159)).alloc (.cells #[vi ki h.m, vi ki h.k, vi ki h.d, vi ki h.n, vi ki h.s, .int .u8 h.z, vi ki h.v, .string h.t] 42)).alloc (.cells #[vi ki g.m, vi ki g.k, vi ki g.d, vi ki g.n, vi ki g.s, .int .u8 g.z, vi ki g.v, .string g.t] 42)) (z4) _ _ (by simp))
 have L1 : Hid (Cvl.Lens ((((w.alloc (.cells #[.bool f.h, vi ki f.fr, vi ki f.off, vi ki f.A.m, vi ki f.A.k, vi ki f.A.d, vi ki f.A.n, vi ki f.A.s, .int .u8 f.A.z, vi ki f.A.v, .string f.A.t, vi ki f.B.m, vi ki f.B.k, vi ki f.B.d, vi ki f.B.n, vi ki f.B.s, .int .u8 f.B.z, vi ki f.B.v, .string f.B.t, .map (some m)] 159)).alloc (.cells #[vi ki h.m, vi ki h.k, vi ki h.d, vi ki h.n, vi ki h.s, .int .u8 h.z, vi ki h.v, .string h.t] 42)).alloc (.cells #[vi ki g.m, vi ki g.k, vi ki g.d, vi ki g.n, vi ki g.s, .int .u8 g.z, vi ki g.v, .string g.t] 42)).alloc (.cells #[vi ki 0, vi ki 0, .bool false, .string ⟨#[]⟩] 23))) := Lens_below hL0.out HB.out (Lens_lt hL0.out)
 go_enter Tryz.func141, Tryz.ntmps141
 go_wp2_with fail
 refine (DY.out _ L1.out).mono ?_
 rintro e w1 ⟨rfl, hb⟩
 have HB1 : Hid (Below w.heap.size w w1) := HB.out.trans (hb.mono HB.out.size)
 have Y0 := X0.out.below hb
 have Y1 := X1.out.below hb
 have Y2 := X2.out.below hb
 have Y3 := X3.out.below hb
 clear hb HB L1 X0 X1 X2 X3
 have c1 : w1.cell? ⟨w.heap.size + 1, 4, none⟩ = some (vi ki h.s) := Y1.c 4 rfl
 have c2 : w1.cell? ⟨w.heap.size + 1, 5, none⟩ = some (.int .u8 h.z) := Y1.c 5 rfl
 have c3 : w1.cell? ⟨w.heap.size, 2, none⟩ = some (vi ki f.off) := Y0.c 2 rfl
 have c4 : w1.cell? ⟨w.heap.size + 2, 6, none⟩ = some (vi ki g.v) := Y2.c 6 rfl
 have c5 : w1.cell? ⟨w.heap.size + 1, 6, none⟩ = some (vi ki h.v) := Y1.c 6 rfl
 have c6 : w1.cell? ⟨w.heap.size + 1, 7, none⟩ = some (.string h.t) := Y1.c 7 rfl
 have d0 := Y3.c 0 rfl
 have d1 := Y3.c 1 rfl
 have d2 := Y3.c 2 rfl
 have d3 := Y3.c 3 rfl
 have f0 := Y3.f 0 rfl
 have f1 := Y3.f 1 rfl
 have f2 := Y3.f 2 rfl
 have f3 := Y3.f 3 rfl
 clear Y0 Y1 Y2 Y3
 go_wp2_with fail
 refine (IN.out _).mono ?_
 rintro e w2 ⟨rfl, rfl⟩
 obtain ⟨y1, y2, y3, y4⟩ := four_set (x := vi ki R) (y := vi ki (f.off + h.v)) (z := .bool (h.v != 0)) (u := .string h.t) d0 d1 d2 d3
 unfold set4 at y1 y2 y3 y4
 simp only [Nat.zero_add] at y1 y2 y3 y4
 go_wp2
 refine bodyPost_ret (v := .agg #[vi ki R, vi ki (f.off + h.v), .bool (h.v != 0), .string h.t]) (by simp [results, Tryz.results141, go_sem, y1, y2, y3, y4]) rfl ⟨rfl, ?_⟩
 exact below_set4 (i := 0) HB1.out (by omega) _ _ _ _
theorem dyV_bd {y m k d n : Int} (h : dyA m k d n) (hy : dyY y) : -1000000000 ≤ dyV y m k d n ∧ dyV y m k d n ≤ 1000000000 := by
 have b := fst1_bd hy h.2.1 h.2.2
 have l := Cv.len_bd y m
 unfold dyV
 rw [if_pos h, if_pos hy]
 unfold dayN
 have b1 := bk_bd (fst1 y m + Cv.len y m - 1) d
 have b2 := bk_bd (fst1 y m + n - 1) d
 have b3 := bk_bd (fst1 y m + n - 1 + 7 - 1) d
 have hn : -1 ≤ n ∧ n ≤ 31 := by rcases h.1 with a | a | a <;> omega
 split
 ·omega
 ·split
  ·omega
  ·split <;> omega
theorem to_any (f : Ft) (m : Nat) (h g : Hf) (y : Int) (hh : okH h = true) (hg : okH g = true) (o1 : -50400 ≤ f.off) (o2 : f.off ≤ 50400) (hy : dyY y) (w : World) (hL0 : Cvl.Lens w) :
  Calls Tryz.prog 141 #[.agg #[.bool f.h, vi ki f.fr, vi ki f.off, vi ki f.A.m, vi ki f.A.k, vi ki f.A.d, vi ki f.A.n, vi ki f.A.s, .int .u8 f.A.z, vi ki f.A.v, .string f.A.t, vi ki f.B.m, vi ki f.B.k, vi ki f.B.d, vi ki f.B.n, vi ki f.B.s, .int .u8 f.B.z, vi ki f.B.v, .string f.B.t, .map (some m)], .agg #[vi ki h.m, vi ki h.k, vi ki h.d, vi ki h.n, vi ki h.s, .int .u8 h.z, vi ki h.v, .string h.t], .agg #[vi ki g.m, vi ki g.k, vi ki g.d, vi ki g.n, vi ki g.s, .int .u8 g.z, vi ki g.v, .string g.t], vi ki y] w fun e w' => e = zr (.agg #[vi ki (trOf f.off h g y).t, vi ki (trOf f.off h g y).o, .bool (trOf f.off h g y).d, .string (trOf f.off h g y).a]) ∧ Below w.heap.size w w' := by
 obtain ⟨a1, a2, a3, a4⟩ := okH_of hh
 obtain ⟨b1, b2, b3, b4⟩ := okH_of hg
 obtain ⟨v1, v2⟩ := dyV_bd a1 hy
 obtain ⟨s1, s2, s3⟩ := a2
 exact to_run f m h g y _ _ _ (fun w hw => day_any y h.m h.k h.d h.n w hw) (fun w => inst_any _ h.s h.z f.off g.v v1 v2 s1 s2 o1 o2 b3 b4 w) o1 o2 a3 a4 w hL0
def pairL (p q : Tr) : List Value := if q.t < p.t then tL q ++ tL p else tL p ++ tL q
def pA (f : Ft) : List Value := [.bool f.h, vi ki f.fr, vi ki f.off]
theorem tL_one (x : Tr) : (tL x).toArray.all (·.oneCell') = true := all_oneCell_toArray (by intro v hv; simp [tL] at hv; rcases hv with rfl | rfl | rfl | rfl <;> rfl)
theorem below_setCells {w : World} {b : Nat} (hb : w.heap.size ≤ b) : ∀ (vs : List Value) (W : World) (i : Nat), Below w.heap.size w W → Below w.heap.size w (W.setCells b i vs)
 | [], _, _, h => h
 | v :: vs, W, i, h => below_setCells hb vs _ _ (h.setCell (p := ⟨b, i, none⟩) hb v)
theorem setCells_size (b : Nat) : ∀ (vs : List Value) (W : World) (i : Nat), (W.setCells b i vs).heap.size = W.heap.size
 | [], _, _ => rfl
 | v :: vs, W, i => by rw [World.setCells, setCells_size b vs]; simp
theorem setCells_off (b : Nat) (vs : List Value) (W : World) (i : Nat) (p : Addr) (h : p.block ≠ b) : (W.setCells b i vs).cell? p = W.cell? p :=
 World.cell?_setCells_out b vs i W p (fun e _ => absurd e h)
theorem Bx.there {W : World} {b : Nat} {l : List Value} (h : Bx W b l) : W.there b 0 l.length := fun j hj => by
 have := h.2 j l[j] (List.getElem?_eq_getElem hj)
 rw [Nat.zero_add]
 exact ⟨by rw [this.1]; rfl, this.2⟩
theorem Bx.rng {W : World} {b : Nat} {l : List Value} (h : Bx W b l) (p cs q : List Value) (e : l = p ++ (cs ++ q)) : W.rangeAt b p.length cs := fun j v hv => by
 refine (h.2 (p.length + j) v ?_).1
 have hj : j < cs.length := (List.getElem?_eq_some_iff.1 hv).1
 rw [e, List.getElem?_append_right (by omega), show p.length + j - p.length = j by omega, List.getElem?_append_left hj]
 exact hv
theorem Bx.all {W : World} {b : Nat} {l : List Value} (h : Bx W b l) : W.rangeAt b 0 l := fun j v hv => by rw [Nat.zero_add]; exact (h.2 j v hv).1
theorem Bx.setAll {W : World} {b : Nat} {l : List Value} (h : Bx W b l) (vs : List Value) (hl : l.length = vs.length) : Bx (W.setCells b 0 vs) b vs :=
 ⟨by rw [setCells_size]; exact h.1, fun i v e => by
  have hi := (List.getElem?_eq_some_iff.1 e).1
  refine ⟨?_, ?_⟩
  ·have := World.rangeAt_setCells_same W b 0 vs (hl ▸ h.there) i v e
   rwa [Nat.zero_add] at this
  ·rw [World.frozen?_setCells]; exact (h.2 i l[i] (List.getElem?_eq_getElem (by omega))).2⟩
theorem Bx.setOther {W : World} {b' b : Nat} {l : List Value} (h : Bx W b' l) (hb : b' ≠ b) (vs : List Value) (j : Nat := 0) : Bx (W.setCells b j vs) b' l :=
 ⟨by rw [setCells_size]; exact h.1, fun i v e => ⟨by rw [setCells_off b vs _ _ _ hb]; exact (h.2 i v e).1, by rw [World.frozen?_setCells]; exact (h.2 i v e).2⟩⟩
theorem gen_any {P : Program} {md : Region.Mode} {ops : Array Oper} {Q : Exit → Act → World → Prop} {S : World → Prop} {fuel : Nat} {listed : Array Bool} {a : Act} {w1 : World} (T : World → Prop) (h : T w1)
  (k : ∀ w2, T w2 → wpAnyH P md ops Q S fuel listed a w2) : wpAnyH P md ops Q S fuel listed a w1 := k _ h
def z8 : List Value := [vi ki 0, vi ki 0, .bool false, .string ⟨#[]⟩, vi ki 0, vi ki 0, .bool false, .string ⟨#[]⟩]
def RS (w : World) (f : Ft) (m : Nat) (W : World) : Prop := Below w.heap.size w W ∧ Cvl.Lens W ∧ Bx W w.heap.size (cL f m) ∧ Bx W (w.heap.size + 1) z8
theorem RS.below {w W V : World} {f : Ft} {m : Nat} (h : RS w f m W) (hb : Below W.heap.size W V) : RS w f m V :=
 ⟨h.1.trans (hb.mono h.1.size), Lens_below h.2.1 hb (Lens_lt h.2.1), h.2.2.1.below hb, h.2.2.2.below hb⟩
theorem RS.alloc {w W : World} {f : Ft} {m : Nat} (h : RS w f m W) (o : Obj) : RS w f m (W.alloc o) := h.below ((Below.refl _ W).alloc (Nat.le_refl _) o)
theorem RS.lens {w W : World} {f : Ft} {m : Nat} (h : RS w f m W) : Cvl.Lens W := h.2.1
theorem RS.room {w W : World} {f : Ft} {m : Nat} (h : RS w f m W) : w.heap.size + 2 ≤ W.heap.size := h.2.2.2.1
theorem Lens_setL {W : World} (h : Cvl.Lens W) {b : Nat} (hb : 0 ≠ b) (vs : List Value) (i : Nat) : Cvl.Lens (W.setCells b i vs) := fun j hj => (setCells_off b vs W i _ hb).trans (h j hj)
theorem RS.set {w W : World} {f : Ft} {m b : Nat} (h : RS w f m W) (hb : w.heap.size + 2 ≤ b) (vs : List Value) (hw : 0 < w.heap.size := by omega) : RS w f m (W.setCells b 0 vs) :=
 ⟨below_setCells (by omega) vs W 0 h.1, Lens_setL h.2.1 (by omega) vs 0, h.2.2.1.setOther (by omega) vs, h.2.2.2.setOther (by omega) vs⟩
theorem reckon_run (f : Ft) (m : Nat) (y : Int) (p q : Tr)
  (CA : Hid (∀ w : World, Cvl.Lens w → Calls Tryz.prog 141 #[.agg (cL f m).toArray, .agg (hL f.A).toArray, .agg (hL f.B).toArray, vi ki y] w fun e w' => e = zr (.agg (tL p).toArray) ∧ Below w.heap.size w w'))
  (CB : Hid (∀ w : World, Cvl.Lens w → Calls Tryz.prog 141 #[.agg (cL f m).toArray, .agg (hL f.B).toArray, .agg (hL f.A).toArray, vi ki y] w fun e w' => e = zr (.agg (tL q).toArray) ∧ Below w.heap.size w w'))
  (w : World) (hL0 : Hid (Cvl.Lens w)) :
  Calls Tryz.prog 132 #[.agg #[.bool f.h, vi ki f.fr, vi ki f.off, vi ki f.A.m, vi ki f.A.k, vi ki f.A.d, vi ki f.A.n, vi ki f.A.s, .int .u8 f.A.z, vi ki f.A.v, .string f.A.t, vi ki f.B.m, vi ki f.B.k, vi ki f.B.d, vi ki f.B.n, vi ki f.B.s, .int .u8 f.B.z, vi ki f.B.v, .string f.B.t, .map (some m)], vi ki y] w fun e w' => e = zr (.agg (pairL p q).toArray) ∧ Below w.heap.size w w' := by
 have hLl := Lens_lt hL0.out
 have HB : Hid (Below w.heap.size w ((w.alloc (.cells #[.bool f.h, vi ki f.fr, vi ki f.off, vi ki f.A.m, vi ki f.A.k, vi ki f.A.d, vi ki f.A.n, vi ki f.A.s, .int .u8 f.A.z, vi ki f.A.v, .string f.A.t, vi ki f.B.m, vi ki f.B.k, vi ki f.B.d, vi ki f.B.n, vi ki f.B.s, .int .u8 f.B.z, vi ki f.B.v, .string f.B.t, .map (some m)] 159)).alloc (.cells #[vi ki 0, vi ki 0, .bool false, .string ⟨#[]⟩, vi ki 0, vi ki 0, .bool false, .string ⟨#[]⟩] 188))) := (((Below.refl _ _).alloc (by simp <;> omega) _).alloc (by simp <;> omega) _)
 have X0 : Hid (Bx ((w.alloc (.cells #[.bool f.h, vi ki f.fr, vi ki f.off, vi ki f.A.m, vi ki f.A.k, vi ki f.A.d, vi ki f.A.n, vi ki f.A.s, .int .u8 f.A.z, vi ki f.A.v, .string f.A.t, vi ki f.B.m, vi ki f.B.k, vi ki f.B.d, vi ki f.B.n, vi ki f.B.s, .int .u8 f.B.z, vi ki f.B.v, .string f.B.t, .map (some m)] 159)).alloc (.cells #[vi ki 0, vi ki 0, .bool false, .string ⟨#[]⟩, vi ki 0, vi ki 0, .bool false, .string ⟨#[]⟩] 188)) (w.heap.size) (cL f m)) := ((Bx.newAt w (cL f m) _ _ (by simp)).alloc _)
 have X1 : Hid (Bx ((w.alloc (.cells #[.bool f.h, vi ki f.fr, vi ki f.off, vi ki f.A.m, vi ki f.A.k, vi ki f.A.d, vi ki f.A.n, vi ki f.A.s, .int .u8 f.A.z, vi ki f.A.v, .string f.A.t, vi ki f.B.m, vi ki f.B.k, vi ki f.B.d, vi ki f.B.n, vi ki f.B.s, .int .u8 f.B.z, vi ki f.B.v, .string f.B.t, .map (some m)] 159)).alloc (.cells #[vi ki 0, vi ki 0, .bool false, .string ⟨#[]⟩, vi ki 0, vi ki 0, .bool false, .string ⟨#[]⟩] 188)) (w.heap.size + 1) (z8)) := (Bx.newAt (w.alloc (.cells #[.bool f.h, vi ki f.fr, vi ki f.off, vi ki f.A.m, vi ki f.A.k, vi ki f.A.d, vi ki f.A.n, vi ki f.A.s, .int .u8 f.A.z, vi ki f.A.v, .string f.A.t, vi ki f.B.m, vi ki f.B.k, vi ki f.B.d, vi ki f.B.n, vi ki f.B.s, .int .u8 f.B.z, vi ki f.B.v, .string f.B.t, .map (some m)] 159)) (z8) _ _ (by simp))
 have L1 : Hid (Cvl.Lens ((w.alloc (.cells #[.bool f.h, vi ki f.fr, vi ki f.off, vi ki f.A.m, vi ki f.A.k, vi ki f.A.d, vi ki f.A.n, vi ki f.A.s, .int .u8 f.A.z, vi ki f.A.v, .string f.A.t, vi ki f.B.m, vi ki f.B.k, vi ki f.B.d, vi ki f.B.n, vi ki f.B.s, .int .u8 f.B.z, vi ki f.B.v, .string f.B.t, .map (some m)] 159)).alloc (.cells #[vi ki 0, vi ki 0, .bool false, .string ⟨#[]⟩, vi ki 0, vi ki 0, .bool false, .string ⟨#[]⟩] 188))) := Lens_below hL0.out HB.out (Lens_lt hL0.out)
 have S0 : RS w f m (((w.alloc (.cells #[.bool f.h, vi ki f.fr, vi ki f.off, vi ki f.A.m, vi ki f.A.k, vi ki f.A.d, vi ki f.A.n, vi ki f.A.s, .int .u8 f.A.z, vi ki f.A.v, .string f.A.t, vi ki f.B.m, vi ki f.B.k, vi ki f.B.d, vi ki f.B.n, vi ki f.B.s, .int .u8 f.B.z, vi ki f.B.v, .string f.B.t, .map (some m)] 159)).alloc (.cells #[vi ki 0, vi ki 0, .bool false, .string ⟨#[]⟩, vi ki 0, vi ki 0, .bool false, .string ⟨#[]⟩] 188))).drew := ⟨HB.out.drew, L1.out, X0.out, X1.out⟩
 clear HB X0 X1 L1
 go_enter Tryz.func132, Tryz.ntmps132
 go_wp2_with fail
 refine wp_region_held_drew (S := (RS w f m)) (by kernel_rfl) S0 (fun hHeld => ?_)
 refine gen_any ((RS w f m)) hHeld ?_
 clear hHeld
 rintro v0 hHeld
 refine wpAnyH_take (i := 0) (oi := ⟨some 7, _, _, _, _, none⟩) rfl (by kernel_rfl) (by kernel_rfl) (by kernel_rfl) (fun _ _ _ h => h) (yieldsIf_load_mid (by kernel_rfl) 159 _ rfl (w.heap.size) 0 rfl (cL f m) _ (fun w9 hSw => hSw.2.2.1.all) Tryz.underlying159 rfl (by kernel_rfl)) (by assumption) ?_
 simp only [za, zb, zc, zd]
 refine tks 1 ⟨some 8, _, _, _, _, none⟩ rfl ?_
 simp only [za, zb, zc, zd]
 refine tks 2 ⟨some 9, _, _, _, _, none⟩ rfl ?_
 simp only [za, zb, zc, zd]
 refine wpAnyH_take (i := 3) (oi := ⟨some 10, _, _, _, _, none⟩) rfl (by kernel_rfl) (by kernel_rfl) (by kernel_rfl) (fun _ _ _ h => h) (yieldsIf_load_mid (by kernel_rfl) 42 _ rfl (w.heap.size) 3 rfl (hL f.A) _ (fun w9 hSw => hSw.2.2.1.rng (pA f) (hL f.A) (hL f.B ++ [.map (some m)]) rfl) Tryz.underlying42 rfl (by kernel_rfl)) (by assumption) ?_
 simp only [za, zb, zc, zd]
 refine tks 4 ⟨some 11, _, _, _, _, none⟩ rfl ?_
 simp only [za, zb, zc, zd]
 refine tks 5 ⟨some 12, _, _, _, _, none⟩ rfl ?_
 simp only [za, zb, zc, zd]
 refine wpAnyH_take (i := 6) (oi := ⟨some 13, _, _, _, _, none⟩) rfl (by kernel_rfl) (by kernel_rfl) (by kernel_rfl) (fun _ _ _ h => h) (yieldsIf_load_mid (by kernel_rfl) 42 _ rfl (w.heap.size) 11 rfl (hL f.B) _ (fun w9 hSw => hSw.2.2.1.rng (pA f ++ hL f.A) (hL f.B) [.map (some m)] rfl) Tryz.underlying42 rfl (by kernel_rfl)) (by assumption) ?_
 simp only [za, zb, zc, zd]
 refine tks 7 ⟨some 14, _, _, _, _, none⟩ rfl ?_
 simp only [za, zb, zc, zd]
 refine wpAnyH_take (i := 9) (oi := ⟨some 16, _, _, _, _, none⟩) rfl (by kernel_rfl) (by kernel_rfl) (by kernel_rfl) (fun _ _ _ h => h) (yieldsIf_load_mid (by kernel_rfl) 159 _ rfl (w.heap.size) 0 rfl (cL f m) _ (fun w9 hSw => hSw.2.2.1.all) Tryz.underlying159 rfl (by kernel_rfl)) (by assumption) ?_
 simp only [za, zb, zc, zd]
 refine tks 10 ⟨some 17, _, _, _, _, none⟩ rfl ?_
 simp only [za, zb, zc, zd]
 refine tks 11 ⟨some 18, _, _, _, _, none⟩ rfl ?_
 simp only [za, zb, zc, zd]
 refine wpAnyH_take (i := 12) (oi := ⟨some 19, _, _, _, _, none⟩) rfl (by kernel_rfl) (by kernel_rfl) (by kernel_rfl) (fun _ _ _ h => h) (yieldsIf_load_mid (by kernel_rfl) 42 _ rfl (w.heap.size) 11 rfl (hL f.B) _ (fun w9 hSw => hSw.2.2.1.rng (pA f ++ hL f.A) (hL f.B) [.map (some m)] rfl) Tryz.underlying42 rfl (by kernel_rfl)) (by assumption) ?_
 simp only [za, zb, zc, zd]
 refine tks 13 ⟨some 20, _, _, _, _, none⟩ rfl ?_
 simp only [za, zb, zc, zd]
 refine tks 14 ⟨some 21, _, _, _, _, none⟩ rfl ?_
 simp only [za, zb, zc, zd]
 refine wpAnyH_take (i := 15) (oi := ⟨some 22, _, _, _, _, none⟩) rfl (by kernel_rfl) (by kernel_rfl) (by kernel_rfl) (fun _ _ _ h => h) (yieldsIf_load_mid (by kernel_rfl) 42 _ rfl (w.heap.size) 3 rfl (hL f.A) _ (fun w9 hSw => hSw.2.2.1.rng (pA f) (hL f.A) (hL f.B ++ [.map (some m)]) rfl) Tryz.underlying42 rfl (by kernel_rfl)) (by assumption) ?_
 simp only [za, zb, zc, zd]
 refine tks 16 ⟨some 23, _, _, _, _, none⟩ rfl ?_
 simp only [za, zb, zc, zd]
 refine wpAnyH_ready (rs := [8, 18, 19]) (by kernel_rfl) (by simp) (AllReadyH.cons (o := ⟨some 15, _, _, _, _, none⟩) rfl (fun K hK => ?_) (AllReadyH.cons (o := ⟨some 5, _, _, _, _, none⟩) rfl (fun K hK => ?_) (AllReadyH.cons (o := ⟨some 6, _, _, _, _, none⟩) rfl (fun K hK => ?_) AllReadyH.nil)))
 ·
  go_simp
  refine (CA.out _ hHeld.lens).mono ?_
  rintro e v1 ⟨rfl, hb1⟩
  have hH1 := hHeld.below hb1
  refine hK.out _ _ hH1 (fun _ => ?_)
  clear hK K hb1 hHeld
  have hHeld := hH1; clear hH1
  refine wpAnyH_ready (rs := [17, 18, 19]) (by kernel_rfl) (by simp) (AllReadyH.cons (o := ⟨some 24, _, _, _, _, none⟩) rfl (fun K hK => ?_) (AllReadyH.cons (o := ⟨some 5, _, _, _, _, none⟩) rfl (fun K hK => ?_) (AllReadyH.cons (o := ⟨some 6, _, _, _, _, none⟩) rfl (fun K hK => ?_) AllReadyH.nil)))
  ·
   go_simp
   refine (CB.out _ hHeld.lens).mono ?_
   rintro e v2 ⟨rfl, hb2⟩
   have hH2 := hHeld.below hb2
   refine hK.out _ _ hH2 (fun _ => ?_)
   clear hK K hb2 hHeld
   have hHeld := hH2; clear hH2
   refine wpAnyH_ready (rs := [18, 19]) (by kernel_rfl) (by simp) (AllReadyH.cons (o := ⟨some 5, _, _, _, _, none⟩) rfl (fun K hK => ?_) (AllReadyH.cons (o := ⟨some 6, _, _, _, _, none⟩) rfl (fun K hK => ?_) AllReadyH.nil))
   ·
    go_simp
    refine hK.out _ _ (hHeld.alloc _) (fun _ => ?_)
    clear hK K
    refine gen_any (fun V => RS w f m V ∧ (Bx V v2.heap.size z4 ∧ w.heap.size + 2 ≤ v2.heap.size)) ⟨hHeld.alloc _, ⟨Bx.new v2 z4 _, hHeld.room⟩⟩ ?_
    clear hHeld
    rintro v3 ⟨hHeld, Na⟩
    refine rd 19 ⟨some 6, _, _, _, _, none⟩ rfl (fun K hK => ?_)
    go_simp
    refine hK.out _ _ (hHeld.alloc _) (fun _ => ?_)
    clear hK K
    refine gen_any (fun V => RS w f m V ∧ (Bx V v3.heap.size z4 ∧ w.heap.size + 2 ≤ v3.heap.size) ∧ (Bx V v2.heap.size z4 ∧ w.heap.size + 2 ≤ v2.heap.size) ∧ v2.heap.size < v3.heap.size) ⟨hHeld.alloc _, ⟨Bx.new v3 z4 _, hHeld.room⟩, ⟨Na.1.alloc _, Na.2⟩, Na.1.1⟩ ?_
    clear hHeld Na
    rintro v4 ⟨hHeld, Nb, Na, ltab⟩
    refine rd 20 ⟨none, _, _, _, _, none⟩ rfl (fun K hK => ?_)
    refine (if_pos (by kernel_rfl)).mpr (wp_store_mid 23 _ _ rfl (v2.heap.size) 0 (tL p).toArray rfl rfl Na.1.there (by kernel_rfl) (tL_one _) ?_)
    refine hK.out _ _ (hHeld.set (b := v2.heap.size) Na.2 (tL p)) (fun _ => ?_)
    clear hK K
    refine gen_any (w1 := v4.setCells (v2.heap.size) 0 (tL p)) (fun V => RS w f m V ∧ (Bx V v2.heap.size (tL p) ∧ w.heap.size + 2 ≤ v2.heap.size) ∧ (Bx V v3.heap.size (z4) ∧ w.heap.size + 2 ≤ v3.heap.size)) ⟨hHeld.set Na.2 (tL p), ⟨Na.1.setAll (tL p) rfl, Na.2⟩, ⟨Nb.1.setOther (b := v2.heap.size) (by omega) (tL p), Nb.2⟩⟩ ?_
    clear hHeld Na Nb
    rintro v5 ⟨hHeld, Na, Nb⟩
    refine rd 21 ⟨none, _, _, _, _, none⟩ rfl (fun K hK => ?_)
    refine (if_pos (by kernel_rfl)).mpr (wp_store_mid 23 _ _ rfl (v3.heap.size) 0 (tL q).toArray rfl rfl Nb.1.there (by kernel_rfl) (tL_one _) ?_)
    refine hK.out _ _ (hHeld.set (b := v3.heap.size) Nb.2 (tL q)) (fun _ => ?_)
    clear hK K
    refine gen_any (w1 := v5.setCells (v3.heap.size) 0 (tL q)) (fun V => RS w f m V ∧ (Bx V v3.heap.size (tL q) ∧ w.heap.size + 2 ≤ v3.heap.size) ∧ (Bx V v2.heap.size (tL p) ∧ w.heap.size + 2 ≤ v2.heap.size)) ⟨hHeld.set Nb.2 (tL q), ⟨Nb.1.setAll (tL q) rfl, Nb.2⟩, ⟨Na.1.setOther (b := v3.heap.size) (by omega) (tL q), Na.2⟩⟩ ?_
    clear hHeld Na Nb
    rintro v6 ⟨hHeld, Nb, Na⟩
    refine wpAnyH_done (by kernel_rfl) ?_ _
    have d0 := Na.1.c 0 rfl
    have e0 := Nb.1.c 0 rfl
    have d1 := Na.1.c 1 rfl
    have e1 := Nb.1.c 1 rfl
    have d2 := Na.1.c 2 rfl
    have e2 := Nb.1.c 2 rfl
    have d3 := Na.1.c 3 rfl
    have e3 := Nb.1.c 3 rfl
    have r0 := hHeld.2.2.2.c 0 rfl
    have s0 := hHeld.2.2.2.f 0 rfl
    have r1 := hHeld.2.2.2.c 1 rfl
    have s1 := hHeld.2.2.2.f 1 rfl
    have r2 := hHeld.2.2.2.c 2 rfl
    have s2 := hHeld.2.2.2.f 2 rfl
    have r3 := hHeld.2.2.2.c 3 rfl
    have s3 := hHeld.2.2.2.f 3 rfl
    have r4 := hHeld.2.2.2.c 4 rfl
    have s4 := hHeld.2.2.2.f 4 rfl
    have r5 := hHeld.2.2.2.c 5 rfl
    have s5 := hHeld.2.2.2.f 5 rfl
    have r6 := hHeld.2.2.2.c 6 rfl
    have s6 := hHeld.2.2.2.f 6 rfl
    have r7 := hHeld.2.2.2.c 7 rfl
    have s7 := hHeld.2.2.2.f 7 rfl
    have HB := hHeld.1
    by_cases hlt : q.t < p.t
    ·have hp : Hid (pairL p q = tL q ++ tL p) := if_pos hlt
     have Y := hHeld.2.2.2.setAll (tL q ++ tL p) rfl
     have y0 := Y.c 0 rfl
     have y1 := Y.c 1 rfl
     have y2 := Y.c 2 rfl
     have y3 := Y.c 3 rfl
     have y4 := Y.c 4 rfl
     have y5 := Y.c 5 rfl
     have y6 := Y.c 6 rfl
     have y7 := Y.c 7 rfl
     simp only [World.setCells, tL, List.cons_append, List.nil_append, Nat.zero_add, Nat.reduceAdd] at y0 y1 y2 y3 y4 y5 y6 y7
     have hBB : Hid (Below w.heap.size w (v6.setCells (w.heap.size + 1) 0 (tL q ++ tL p))) := below_setCells (by omega) _ _ _ HB
     clear Y hHeld Na Nb HB
     go_wp2
     refine bodyPost_ret (v := .agg (tL q ++ tL p).toArray) (by simp [results, Tryz.results132, go_sem, y0, y1, y2, y3, y4, y5, y6, y7, tL]) rfl ⟨by rw [hp.out], hBB.out⟩
    ·have hp : Hid (pairL p q = tL p ++ tL q) := if_neg hlt
     have Y := hHeld.2.2.2.setAll (tL p ++ tL q) rfl
     have y0 := Y.c 0 rfl
     have y1 := Y.c 1 rfl
     have y2 := Y.c 2 rfl
     have y3 := Y.c 3 rfl
     have y4 := Y.c 4 rfl
     have y5 := Y.c 5 rfl
     have y6 := Y.c 6 rfl
     have y7 := Y.c 7 rfl
     simp only [World.setCells, tL, List.cons_append, List.nil_append, Nat.zero_add, Nat.reduceAdd] at y0 y1 y2 y3 y4 y5 y6 y7
     have hBB : Hid (Below w.heap.size w (v6.setCells (w.heap.size + 1) 0 (tL p ++ tL q))) := below_setCells (by omega) _ _ _ HB
     clear Y hHeld Na Nb HB
     go_wp2
     refine bodyPost_ret (v := .agg (tL p ++ tL q).toArray) (by simp [results, Tryz.results132, go_sem, y0, y1, y2, y3, y4, y5, y6, y7, tL]) rfl ⟨by rw [hp.out], hBB.out⟩
   ·
    go_simp
    refine hK.out _ _ (hHeld.alloc _) (fun _ => ?_)
    clear hK K
    refine gen_any (fun V => RS w f m V ∧ (Bx V v2.heap.size z4 ∧ w.heap.size + 2 ≤ v2.heap.size)) ⟨hHeld.alloc _, ⟨Bx.new v2 z4 _, hHeld.room⟩⟩ ?_
    clear hHeld
    rintro v7 ⟨hHeld, Nb⟩
    refine rd 18 ⟨some 5, _, _, _, _, none⟩ rfl (fun K hK => ?_)
    go_simp
    refine hK.out _ _ (hHeld.alloc _) (fun _ => ?_)
    clear hK K
    refine gen_any (fun V => RS w f m V ∧ (Bx V v7.heap.size z4 ∧ w.heap.size + 2 ≤ v7.heap.size) ∧ (Bx V v2.heap.size z4 ∧ w.heap.size + 2 ≤ v2.heap.size) ∧ v2.heap.size < v7.heap.size) ⟨hHeld.alloc _, ⟨Bx.new v7 z4 _, hHeld.room⟩, ⟨Nb.1.alloc _, Nb.2⟩, Nb.1.1⟩ ?_
    clear hHeld Nb
    rintro v8 ⟨hHeld, Na, Nb, ltba⟩
    refine rd 20 ⟨none, _, _, _, _, none⟩ rfl (fun K hK => ?_)
    refine (if_pos (by kernel_rfl)).mpr (wp_store_mid 23 _ _ rfl (v7.heap.size) 0 (tL p).toArray rfl rfl Na.1.there (by kernel_rfl) (tL_one _) ?_)
    refine hK.out _ _ (hHeld.set (b := v7.heap.size) Na.2 (tL p)) (fun _ => ?_)
    clear hK K
    refine gen_any (w1 := v8.setCells (v7.heap.size) 0 (tL p)) (fun V => RS w f m V ∧ (Bx V v7.heap.size (tL p) ∧ w.heap.size + 2 ≤ v7.heap.size) ∧ (Bx V v2.heap.size (z4) ∧ w.heap.size + 2 ≤ v2.heap.size)) ⟨hHeld.set Na.2 (tL p), ⟨Na.1.setAll (tL p) rfl, Na.2⟩, ⟨Nb.1.setOther (b := v7.heap.size) (by omega) (tL p), Nb.2⟩⟩ ?_
    clear hHeld Na Nb
    rintro v9 ⟨hHeld, Na, Nb⟩
    refine rd 21 ⟨none, _, _, _, _, none⟩ rfl (fun K hK => ?_)
    refine (if_pos (by kernel_rfl)).mpr (wp_store_mid 23 _ _ rfl (v2.heap.size) 0 (tL q).toArray rfl rfl Nb.1.there (by kernel_rfl) (tL_one _) ?_)
    refine hK.out _ _ (hHeld.set (b := v2.heap.size) Nb.2 (tL q)) (fun _ => ?_)
    clear hK K
    refine gen_any (w1 := v9.setCells (v2.heap.size) 0 (tL q)) (fun V => RS w f m V ∧ (Bx V v2.heap.size (tL q) ∧ w.heap.size + 2 ≤ v2.heap.size) ∧ (Bx V v7.heap.size (tL p) ∧ w.heap.size + 2 ≤ v7.heap.size)) ⟨hHeld.set Nb.2 (tL q), ⟨Nb.1.setAll (tL q) rfl, Nb.2⟩, ⟨Na.1.setOther (b := v2.heap.size) (by omega) (tL q), Na.2⟩⟩ ?_
    clear hHeld Na Nb
    rintro v10 ⟨hHeld, Nb, Na⟩
    refine wpAnyH_done (by kernel_rfl) ?_ _
    have d0 := Na.1.c 0 rfl
    have e0 := Nb.1.c 0 rfl
    have d1 := Na.1.c 1 rfl
    have e1 := Nb.1.c 1 rfl
    have d2 := Na.1.c 2 rfl
    have e2 := Nb.1.c 2 rfl
    have d3 := Na.1.c 3 rfl
    have e3 := Nb.1.c 3 rfl
    have r0 := hHeld.2.2.2.c 0 rfl
    have s0 := hHeld.2.2.2.f 0 rfl
    have r1 := hHeld.2.2.2.c 1 rfl
    have s1 := hHeld.2.2.2.f 1 rfl
    have r2 := hHeld.2.2.2.c 2 rfl
    have s2 := hHeld.2.2.2.f 2 rfl
    have r3 := hHeld.2.2.2.c 3 rfl
    have s3 := hHeld.2.2.2.f 3 rfl
    have r4 := hHeld.2.2.2.c 4 rfl
    have s4 := hHeld.2.2.2.f 4 rfl
    have r5 := hHeld.2.2.2.c 5 rfl
    have s5 := hHeld.2.2.2.f 5 rfl
    have r6 := hHeld.2.2.2.c 6 rfl
    have s6 := hHeld.2.2.2.f 6 rfl
    have r7 := hHeld.2.2.2.c 7 rfl
    have s7 := hHeld.2.2.2.f 7 rfl
    have HB := hHeld.1
    by_cases hlt : q.t < p.t
    ·have hp : Hid (pairL p q = tL q ++ tL p) := if_pos hlt
     have Y := hHeld.2.2.2.setAll (tL q ++ tL p) rfl
     have y0 := Y.c 0 rfl
     have y1 := Y.c 1 rfl
     have y2 := Y.c 2 rfl
     have y3 := Y.c 3 rfl
     have y4 := Y.c 4 rfl
     have y5 := Y.c 5 rfl
     have y6 := Y.c 6 rfl
     have y7 := Y.c 7 rfl
     simp only [World.setCells, tL, List.cons_append, List.nil_append, Nat.zero_add, Nat.reduceAdd] at y0 y1 y2 y3 y4 y5 y6 y7
     have hBB : Hid (Below w.heap.size w (v10.setCells (w.heap.size + 1) 0 (tL q ++ tL p))) := below_setCells (by omega) _ _ _ HB
     clear Y hHeld Na Nb HB
     go_wp2
     refine bodyPost_ret (v := .agg (tL q ++ tL p).toArray) (by simp [results, Tryz.results132, go_sem, y0, y1, y2, y3, y4, y5, y6, y7, tL]) rfl ⟨by rw [hp.out], hBB.out⟩
    ·have hp : Hid (pairL p q = tL p ++ tL q) := if_neg hlt
     have Y := hHeld.2.2.2.setAll (tL p ++ tL q) rfl
     have y0 := Y.c 0 rfl
     have y1 := Y.c 1 rfl
     have y2 := Y.c 2 rfl
     have y3 := Y.c 3 rfl
     have y4 := Y.c 4 rfl
     have y5 := Y.c 5 rfl
     have y6 := Y.c 6 rfl
     have y7 := Y.c 7 rfl
     simp only [World.setCells, tL, List.cons_append, List.nil_append, Nat.zero_add, Nat.reduceAdd] at y0 y1 y2 y3 y4 y5 y6 y7
     have hBB : Hid (Below w.heap.size w (v10.setCells (w.heap.size + 1) 0 (tL p ++ tL q))) := below_setCells (by omega) _ _ _ HB
     clear Y hHeld Na Nb HB
     go_wp2
     refine bodyPost_ret (v := .agg (tL p ++ tL q).toArray) (by simp [results, Tryz.results132, go_sem, y0, y1, y2, y3, y4, y5, y6, y7, tL]) rfl ⟨by rw [hp.out], hBB.out⟩
  ·
   go_simp
   refine hK.out _ _ (hHeld.alloc _) (fun _ => ?_)
   clear hK K
   refine gen_any (fun V => RS w f m V ∧ (Bx V v1.heap.size z4 ∧ w.heap.size + 2 ≤ v1.heap.size)) ⟨hHeld.alloc _, ⟨Bx.new v1 z4 _, hHeld.room⟩⟩ ?_
   clear hHeld
   rintro v11 ⟨hHeld, Na⟩
   refine wpAnyH_ready (rs := [17, 19]) (by kernel_rfl) (by simp) (AllReadyH.cons (o := ⟨some 24, _, _, _, _, none⟩) rfl (fun K hK => ?_) (AllReadyH.cons (o := ⟨some 6, _, _, _, _, none⟩) rfl (fun K hK => ?_) AllReadyH.nil))
   ·
    go_simp
    refine (CB.out _ hHeld.lens).mono ?_
    rintro e v12 ⟨rfl, hb12⟩
    have hH12 := hHeld.below hb12
    have Na12 := And.intro (Na.1.below hb12) Na.2
    refine hK.out _ _ hH12 (fun _ => ?_)
    clear hK K hb12 hHeld Na
    have hHeld := hH12; clear hH12
    have Na := Na12; clear Na12
    refine rd 19 ⟨some 6, _, _, _, _, none⟩ rfl (fun K hK => ?_)
    go_simp
    refine hK.out _ _ (hHeld.alloc _) (fun _ => ?_)
    clear hK K
    refine gen_any (fun V => RS w f m V ∧ (Bx V v12.heap.size z4 ∧ w.heap.size + 2 ≤ v12.heap.size) ∧ (Bx V v1.heap.size z4 ∧ w.heap.size + 2 ≤ v1.heap.size) ∧ v1.heap.size < v12.heap.size) ⟨hHeld.alloc _, ⟨Bx.new v12 z4 _, hHeld.room⟩, ⟨Na.1.alloc _, Na.2⟩, Na.1.1⟩ ?_
    clear hHeld Na
    rintro v13 ⟨hHeld, Nb, Na, ltab⟩
    refine rd 20 ⟨none, _, _, _, _, none⟩ rfl (fun K hK => ?_)
    refine (if_pos (by kernel_rfl)).mpr (wp_store_mid 23 _ _ rfl (v1.heap.size) 0 (tL p).toArray rfl rfl Na.1.there (by kernel_rfl) (tL_one _) ?_)
    refine hK.out _ _ (hHeld.set (b := v1.heap.size) Na.2 (tL p)) (fun _ => ?_)
    clear hK K
    refine gen_any (w1 := v13.setCells (v1.heap.size) 0 (tL p)) (fun V => RS w f m V ∧ (Bx V v1.heap.size (tL p) ∧ w.heap.size + 2 ≤ v1.heap.size) ∧ (Bx V v12.heap.size (z4) ∧ w.heap.size + 2 ≤ v12.heap.size)) ⟨hHeld.set Na.2 (tL p), ⟨Na.1.setAll (tL p) rfl, Na.2⟩, ⟨Nb.1.setOther (b := v1.heap.size) (by omega) (tL p), Nb.2⟩⟩ ?_
    clear hHeld Na Nb
    rintro v14 ⟨hHeld, Na, Nb⟩
    refine rd 21 ⟨none, _, _, _, _, none⟩ rfl (fun K hK => ?_)
    refine (if_pos (by kernel_rfl)).mpr (wp_store_mid 23 _ _ rfl (v12.heap.size) 0 (tL q).toArray rfl rfl Nb.1.there (by kernel_rfl) (tL_one _) ?_)
    refine hK.out _ _ (hHeld.set (b := v12.heap.size) Nb.2 (tL q)) (fun _ => ?_)
    clear hK K
    refine gen_any (w1 := v14.setCells (v12.heap.size) 0 (tL q)) (fun V => RS w f m V ∧ (Bx V v12.heap.size (tL q) ∧ w.heap.size + 2 ≤ v12.heap.size) ∧ (Bx V v1.heap.size (tL p) ∧ w.heap.size + 2 ≤ v1.heap.size)) ⟨hHeld.set Nb.2 (tL q), ⟨Nb.1.setAll (tL q) rfl, Nb.2⟩, ⟨Na.1.setOther (b := v12.heap.size) (by omega) (tL q), Na.2⟩⟩ ?_
    clear hHeld Na Nb
    rintro v15 ⟨hHeld, Nb, Na⟩
    refine wpAnyH_done (by kernel_rfl) ?_ _
    have d0 := Na.1.c 0 rfl
    have e0 := Nb.1.c 0 rfl
    have d1 := Na.1.c 1 rfl
    have e1 := Nb.1.c 1 rfl
    have d2 := Na.1.c 2 rfl
    have e2 := Nb.1.c 2 rfl
    have d3 := Na.1.c 3 rfl
    have e3 := Nb.1.c 3 rfl
    have r0 := hHeld.2.2.2.c 0 rfl
    have s0 := hHeld.2.2.2.f 0 rfl
    have r1 := hHeld.2.2.2.c 1 rfl
    have s1 := hHeld.2.2.2.f 1 rfl
    have r2 := hHeld.2.2.2.c 2 rfl
    have s2 := hHeld.2.2.2.f 2 rfl
    have r3 := hHeld.2.2.2.c 3 rfl
    have s3 := hHeld.2.2.2.f 3 rfl
    have r4 := hHeld.2.2.2.c 4 rfl
    have s4 := hHeld.2.2.2.f 4 rfl
    have r5 := hHeld.2.2.2.c 5 rfl
    have s5 := hHeld.2.2.2.f 5 rfl
    have r6 := hHeld.2.2.2.c 6 rfl
    have s6 := hHeld.2.2.2.f 6 rfl
    have r7 := hHeld.2.2.2.c 7 rfl
    have s7 := hHeld.2.2.2.f 7 rfl
    have HB := hHeld.1
    by_cases hlt : q.t < p.t
    ·have hp : Hid (pairL p q = tL q ++ tL p) := if_pos hlt
     have Y := hHeld.2.2.2.setAll (tL q ++ tL p) rfl
     have y0 := Y.c 0 rfl
     have y1 := Y.c 1 rfl
     have y2 := Y.c 2 rfl
     have y3 := Y.c 3 rfl
     have y4 := Y.c 4 rfl
     have y5 := Y.c 5 rfl
     have y6 := Y.c 6 rfl
     have y7 := Y.c 7 rfl
     simp only [World.setCells, tL, List.cons_append, List.nil_append, Nat.zero_add, Nat.reduceAdd] at y0 y1 y2 y3 y4 y5 y6 y7
     have hBB : Hid (Below w.heap.size w (v15.setCells (w.heap.size + 1) 0 (tL q ++ tL p))) := below_setCells (by omega) _ _ _ HB
     clear Y hHeld Na Nb HB
     go_wp2
     refine bodyPost_ret (v := .agg (tL q ++ tL p).toArray) (by simp [results, Tryz.results132, go_sem, y0, y1, y2, y3, y4, y5, y6, y7, tL]) rfl ⟨by rw [hp.out], hBB.out⟩
    ·have hp : Hid (pairL p q = tL p ++ tL q) := if_neg hlt
     have Y := hHeld.2.2.2.setAll (tL p ++ tL q) rfl
     have y0 := Y.c 0 rfl
     have y1 := Y.c 1 rfl
     have y2 := Y.c 2 rfl
     have y3 := Y.c 3 rfl
     have y4 := Y.c 4 rfl
     have y5 := Y.c 5 rfl
     have y6 := Y.c 6 rfl
     have y7 := Y.c 7 rfl
     simp only [World.setCells, tL, List.cons_append, List.nil_append, Nat.zero_add, Nat.reduceAdd] at y0 y1 y2 y3 y4 y5 y6 y7
     have hBB : Hid (Below w.heap.size w (v15.setCells (w.heap.size + 1) 0 (tL p ++ tL q))) := below_setCells (by omega) _ _ _ HB
     clear Y hHeld Na Nb HB
     go_wp2
     refine bodyPost_ret (v := .agg (tL p ++ tL q).toArray) (by simp [results, Tryz.results132, go_sem, y0, y1, y2, y3, y4, y5, y6, y7, tL]) rfl ⟨by rw [hp.out], hBB.out⟩
   ·
    go_simp
    refine hK.out _ _ (hHeld.alloc _) (fun _ => ?_)
    clear hK K
    refine gen_any (fun V => RS w f m V ∧ (Bx V v11.heap.size z4 ∧ w.heap.size + 2 ≤ v11.heap.size) ∧ (Bx V v1.heap.size z4 ∧ w.heap.size + 2 ≤ v1.heap.size) ∧ v1.heap.size < v11.heap.size) ⟨hHeld.alloc _, ⟨Bx.new v11 z4 _, hHeld.room⟩, ⟨Na.1.alloc _, Na.2⟩, Na.1.1⟩ ?_
    clear hHeld Na
    rintro v16 ⟨hHeld, Nb, Na, ltab⟩
    refine rd 17 ⟨some 24, _, _, _, _, none⟩ rfl (fun K hK => ?_)
    go_simp
    refine (CB.out _ hHeld.lens).mono ?_
    rintro e v17 ⟨rfl, hb17⟩
    have hH17 := hHeld.below hb17
    have Na17 := And.intro (Na.1.below hb17) Na.2
    have Nb17 := And.intro (Nb.1.below hb17) Nb.2
    refine hK.out _ _ hH17 (fun _ => ?_)
    clear hK K hb17 hHeld Na Nb
    have hHeld := hH17; clear hH17
    have Na := Na17; clear Na17
    have Nb := Nb17; clear Nb17
    refine rd 20 ⟨none, _, _, _, _, none⟩ rfl (fun K hK => ?_)
    refine (if_pos (by kernel_rfl)).mpr (wp_store_mid 23 _ _ rfl (v1.heap.size) 0 (tL p).toArray rfl rfl Na.1.there (by kernel_rfl) (tL_one _) ?_)
    refine hK.out _ _ (hHeld.set (b := v1.heap.size) Na.2 (tL p)) (fun _ => ?_)
    clear hK K
    refine gen_any (w1 := v17.setCells (v1.heap.size) 0 (tL p)) (fun V => RS w f m V ∧ (Bx V v1.heap.size (tL p) ∧ w.heap.size + 2 ≤ v1.heap.size) ∧ (Bx V v11.heap.size (z4) ∧ w.heap.size + 2 ≤ v11.heap.size)) ⟨hHeld.set Na.2 (tL p), ⟨Na.1.setAll (tL p) rfl, Na.2⟩, ⟨Nb.1.setOther (b := v1.heap.size) (by omega) (tL p), Nb.2⟩⟩ ?_
    clear hHeld Na Nb
    rintro v18 ⟨hHeld, Na, Nb⟩
    refine rd 21 ⟨none, _, _, _, _, none⟩ rfl (fun K hK => ?_)
    refine (if_pos (by kernel_rfl)).mpr (wp_store_mid 23 _ _ rfl (v11.heap.size) 0 (tL q).toArray rfl rfl Nb.1.there (by kernel_rfl) (tL_one _) ?_)
    refine hK.out _ _ (hHeld.set (b := v11.heap.size) Nb.2 (tL q)) (fun _ => ?_)
    clear hK K
    refine gen_any (w1 := v18.setCells (v11.heap.size) 0 (tL q)) (fun V => RS w f m V ∧ (Bx V v11.heap.size (tL q) ∧ w.heap.size + 2 ≤ v11.heap.size) ∧ (Bx V v1.heap.size (tL p) ∧ w.heap.size + 2 ≤ v1.heap.size)) ⟨hHeld.set Nb.2 (tL q), ⟨Nb.1.setAll (tL q) rfl, Nb.2⟩, ⟨Na.1.setOther (b := v11.heap.size) (by omega) (tL q), Na.2⟩⟩ ?_
    clear hHeld Na Nb
    rintro v19 ⟨hHeld, Nb, Na⟩
    refine wpAnyH_done (by kernel_rfl) ?_ _
    have d0 := Na.1.c 0 rfl
    have e0 := Nb.1.c 0 rfl
    have d1 := Na.1.c 1 rfl
    have e1 := Nb.1.c 1 rfl
    have d2 := Na.1.c 2 rfl
    have e2 := Nb.1.c 2 rfl
    have d3 := Na.1.c 3 rfl
    have e3 := Nb.1.c 3 rfl
    have r0 := hHeld.2.2.2.c 0 rfl
    have s0 := hHeld.2.2.2.f 0 rfl
    have r1 := hHeld.2.2.2.c 1 rfl
    have s1 := hHeld.2.2.2.f 1 rfl
    have r2 := hHeld.2.2.2.c 2 rfl
    have s2 := hHeld.2.2.2.f 2 rfl
    have r3 := hHeld.2.2.2.c 3 rfl
    have s3 := hHeld.2.2.2.f 3 rfl
    have r4 := hHeld.2.2.2.c 4 rfl
    have s4 := hHeld.2.2.2.f 4 rfl
    have r5 := hHeld.2.2.2.c 5 rfl
    have s5 := hHeld.2.2.2.f 5 rfl
    have r6 := hHeld.2.2.2.c 6 rfl
    have s6 := hHeld.2.2.2.f 6 rfl
    have r7 := hHeld.2.2.2.c 7 rfl
    have s7 := hHeld.2.2.2.f 7 rfl
    have HB := hHeld.1
    by_cases hlt : q.t < p.t
    ·have hp : Hid (pairL p q = tL q ++ tL p) := if_pos hlt
     have Y := hHeld.2.2.2.setAll (tL q ++ tL p) rfl
     have y0 := Y.c 0 rfl
     have y1 := Y.c 1 rfl
     have y2 := Y.c 2 rfl
     have y3 := Y.c 3 rfl
     have y4 := Y.c 4 rfl
     have y5 := Y.c 5 rfl
     have y6 := Y.c 6 rfl
     have y7 := Y.c 7 rfl
     simp only [World.setCells, tL, List.cons_append, List.nil_append, Nat.zero_add, Nat.reduceAdd] at y0 y1 y2 y3 y4 y5 y6 y7
     have hBB : Hid (Below w.heap.size w (v19.setCells (w.heap.size + 1) 0 (tL q ++ tL p))) := below_setCells (by omega) _ _ _ HB
     clear Y hHeld Na Nb HB
     go_wp2
     refine bodyPost_ret (v := .agg (tL q ++ tL p).toArray) (by simp [results, Tryz.results132, go_sem, y0, y1, y2, y3, y4, y5, y6, y7, tL]) rfl ⟨by rw [hp.out], hBB.out⟩
    ·have hp : Hid (pairL p q = tL p ++ tL q) := if_neg hlt
     have Y := hHeld.2.2.2.setAll (tL p ++ tL q) rfl
     have y0 := Y.c 0 rfl
     have y1 := Y.c 1 rfl
     have y2 := Y.c 2 rfl
     have y3 := Y.c 3 rfl
     have y4 := Y.c 4 rfl
     have y5 := Y.c 5 rfl
     have y6 := Y.c 6 rfl
     have y7 := Y.c 7 rfl
     simp only [World.setCells, tL, List.cons_append, List.nil_append, Nat.zero_add, Nat.reduceAdd] at y0 y1 y2 y3 y4 y5 y6 y7
     have hBB : Hid (Below w.heap.size w (v19.setCells (w.heap.size + 1) 0 (tL p ++ tL q))) := below_setCells (by omega) _ _ _ HB
     clear Y hHeld Na Nb HB
     go_wp2
     refine bodyPost_ret (v := .agg (tL p ++ tL q).toArray) (by simp [results, Tryz.results132, go_sem, y0, y1, y2, y3, y4, y5, y6, y7, tL]) rfl ⟨by rw [hp.out], hBB.out⟩
  ·
   go_simp
   refine hK.out _ _ (hHeld.alloc _) (fun _ => ?_)
   clear hK K
   refine gen_any (fun V => RS w f m V ∧ (Bx V v1.heap.size z4 ∧ w.heap.size + 2 ≤ v1.heap.size)) ⟨hHeld.alloc _, ⟨Bx.new v1 z4 _, hHeld.room⟩⟩ ?_
   clear hHeld
   rintro v20 ⟨hHeld, Nb⟩
   refine wpAnyH_ready (rs := [17, 18]) (by kernel_rfl) (by simp) (AllReadyH.cons (o := ⟨some 24, _, _, _, _, none⟩) rfl (fun K hK => ?_) (AllReadyH.cons (o := ⟨some 5, _, _, _, _, none⟩) rfl (fun K hK => ?_) AllReadyH.nil))
   ·
    go_simp
    refine (CB.out _ hHeld.lens).mono ?_
    rintro e v21 ⟨rfl, hb21⟩
    have hH21 := hHeld.below hb21
    have Nb21 := And.intro (Nb.1.below hb21) Nb.2
    refine hK.out _ _ hH21 (fun _ => ?_)
    clear hK K hb21 hHeld Nb
    have hHeld := hH21; clear hH21
    have Nb := Nb21; clear Nb21
    refine rd 18 ⟨some 5, _, _, _, _, none⟩ rfl (fun K hK => ?_)
    go_simp
    refine hK.out _ _ (hHeld.alloc _) (fun _ => ?_)
    clear hK K
    refine gen_any (fun V => RS w f m V ∧ (Bx V v21.heap.size z4 ∧ w.heap.size + 2 ≤ v21.heap.size) ∧ (Bx V v1.heap.size z4 ∧ w.heap.size + 2 ≤ v1.heap.size) ∧ v1.heap.size < v21.heap.size) ⟨hHeld.alloc _, ⟨Bx.new v21 z4 _, hHeld.room⟩, ⟨Nb.1.alloc _, Nb.2⟩, Nb.1.1⟩ ?_
    clear hHeld Nb
    rintro v22 ⟨hHeld, Na, Nb, ltba⟩
    refine rd 20 ⟨none, _, _, _, _, none⟩ rfl (fun K hK => ?_)
    refine (if_pos (by kernel_rfl)).mpr (wp_store_mid 23 _ _ rfl (v21.heap.size) 0 (tL p).toArray rfl rfl Na.1.there (by kernel_rfl) (tL_one _) ?_)
    refine hK.out _ _ (hHeld.set (b := v21.heap.size) Na.2 (tL p)) (fun _ => ?_)
    clear hK K
    refine gen_any (w1 := v22.setCells (v21.heap.size) 0 (tL p)) (fun V => RS w f m V ∧ (Bx V v21.heap.size (tL p) ∧ w.heap.size + 2 ≤ v21.heap.size) ∧ (Bx V v1.heap.size (z4) ∧ w.heap.size + 2 ≤ v1.heap.size)) ⟨hHeld.set Na.2 (tL p), ⟨Na.1.setAll (tL p) rfl, Na.2⟩, ⟨Nb.1.setOther (b := v21.heap.size) (by omega) (tL p), Nb.2⟩⟩ ?_
    clear hHeld Na Nb
    rintro v23 ⟨hHeld, Na, Nb⟩
    refine rd 21 ⟨none, _, _, _, _, none⟩ rfl (fun K hK => ?_)
    refine (if_pos (by kernel_rfl)).mpr (wp_store_mid 23 _ _ rfl (v1.heap.size) 0 (tL q).toArray rfl rfl Nb.1.there (by kernel_rfl) (tL_one _) ?_)
    refine hK.out _ _ (hHeld.set (b := v1.heap.size) Nb.2 (tL q)) (fun _ => ?_)
    clear hK K
    refine gen_any (w1 := v23.setCells (v1.heap.size) 0 (tL q)) (fun V => RS w f m V ∧ (Bx V v1.heap.size (tL q) ∧ w.heap.size + 2 ≤ v1.heap.size) ∧ (Bx V v21.heap.size (tL p) ∧ w.heap.size + 2 ≤ v21.heap.size)) ⟨hHeld.set Nb.2 (tL q), ⟨Nb.1.setAll (tL q) rfl, Nb.2⟩, ⟨Na.1.setOther (b := v1.heap.size) (by omega) (tL q), Na.2⟩⟩ ?_
    clear hHeld Na Nb
    rintro v24 ⟨hHeld, Nb, Na⟩
    refine wpAnyH_done (by kernel_rfl) ?_ _
    have d0 := Na.1.c 0 rfl
    have e0 := Nb.1.c 0 rfl
    have d1 := Na.1.c 1 rfl
    have e1 := Nb.1.c 1 rfl
    have d2 := Na.1.c 2 rfl
    have e2 := Nb.1.c 2 rfl
    have d3 := Na.1.c 3 rfl
    have e3 := Nb.1.c 3 rfl
    have r0 := hHeld.2.2.2.c 0 rfl
    have s0 := hHeld.2.2.2.f 0 rfl
    have r1 := hHeld.2.2.2.c 1 rfl
    have s1 := hHeld.2.2.2.f 1 rfl
    have r2 := hHeld.2.2.2.c 2 rfl
    have s2 := hHeld.2.2.2.f 2 rfl
    have r3 := hHeld.2.2.2.c 3 rfl
    have s3 := hHeld.2.2.2.f 3 rfl
    have r4 := hHeld.2.2.2.c 4 rfl
    have s4 := hHeld.2.2.2.f 4 rfl
    have r5 := hHeld.2.2.2.c 5 rfl
    have s5 := hHeld.2.2.2.f 5 rfl
    have r6 := hHeld.2.2.2.c 6 rfl
    have s6 := hHeld.2.2.2.f 6 rfl
    have r7 := hHeld.2.2.2.c 7 rfl
    have s7 := hHeld.2.2.2.f 7 rfl
    have HB := hHeld.1
    by_cases hlt : q.t < p.t
    ·have hp : Hid (pairL p q = tL q ++ tL p) := if_pos hlt
     have Y := hHeld.2.2.2.setAll (tL q ++ tL p) rfl
     have y0 := Y.c 0 rfl
     have y1 := Y.c 1 rfl
     have y2 := Y.c 2 rfl
     have y3 := Y.c 3 rfl
     have y4 := Y.c 4 rfl
     have y5 := Y.c 5 rfl
     have y6 := Y.c 6 rfl
     have y7 := Y.c 7 rfl
     simp only [World.setCells, tL, List.cons_append, List.nil_append, Nat.zero_add, Nat.reduceAdd] at y0 y1 y2 y3 y4 y5 y6 y7
     have hBB : Hid (Below w.heap.size w (v24.setCells (w.heap.size + 1) 0 (tL q ++ tL p))) := below_setCells (by omega) _ _ _ HB
     clear Y hHeld Na Nb HB
     go_wp2
     refine bodyPost_ret (v := .agg (tL q ++ tL p).toArray) (by simp [results, Tryz.results132, go_sem, y0, y1, y2, y3, y4, y5, y6, y7, tL]) rfl ⟨by rw [hp.out], hBB.out⟩
    ·have hp : Hid (pairL p q = tL p ++ tL q) := if_neg hlt
     have Y := hHeld.2.2.2.setAll (tL p ++ tL q) rfl
     have y0 := Y.c 0 rfl
     have y1 := Y.c 1 rfl
     have y2 := Y.c 2 rfl
     have y3 := Y.c 3 rfl
     have y4 := Y.c 4 rfl
     have y5 := Y.c 5 rfl
     have y6 := Y.c 6 rfl
     have y7 := Y.c 7 rfl
     simp only [World.setCells, tL, List.cons_append, List.nil_append, Nat.zero_add, Nat.reduceAdd] at y0 y1 y2 y3 y4 y5 y6 y7
     have hBB : Hid (Below w.heap.size w (v24.setCells (w.heap.size + 1) 0 (tL p ++ tL q))) := below_setCells (by omega) _ _ _ HB
     clear Y hHeld Na Nb HB
     go_wp2
     refine bodyPost_ret (v := .agg (tL p ++ tL q).toArray) (by simp [results, Tryz.results132, go_sem, y0, y1, y2, y3, y4, y5, y6, y7, tL]) rfl ⟨by rw [hp.out], hBB.out⟩
   ·
    go_simp
    refine hK.out _ _ (hHeld.alloc _) (fun _ => ?_)
    clear hK K
    refine gen_any (fun V => RS w f m V ∧ (Bx V v20.heap.size z4 ∧ w.heap.size + 2 ≤ v20.heap.size) ∧ (Bx V v1.heap.size z4 ∧ w.heap.size + 2 ≤ v1.heap.size) ∧ v1.heap.size < v20.heap.size) ⟨hHeld.alloc _, ⟨Bx.new v20 z4 _, hHeld.room⟩, ⟨Nb.1.alloc _, Nb.2⟩, Nb.1.1⟩ ?_
    clear hHeld Nb
    rintro v25 ⟨hHeld, Na, Nb, ltba⟩
    refine rd 17 ⟨some 24, _, _, _, _, none⟩ rfl (fun K hK => ?_)
    go_simp
    refine (CB.out _ hHeld.lens).mono ?_
    rintro e v26 ⟨rfl, hb26⟩
    have hH26 := hHeld.below hb26
    have Na26 := And.intro (Na.1.below hb26) Na.2
    have Nb26 := And.intro (Nb.1.below hb26) Nb.2
    refine hK.out _ _ hH26 (fun _ => ?_)
    clear hK K hb26 hHeld Na Nb
    have hHeld := hH26; clear hH26
    have Na := Na26; clear Na26
    have Nb := Nb26; clear Nb26
    refine rd 20 ⟨none, _, _, _, _, none⟩ rfl (fun K hK => ?_)
    refine (if_pos (by kernel_rfl)).mpr (wp_store_mid 23 _ _ rfl (v20.heap.size) 0 (tL p).toArray rfl rfl Na.1.there (by kernel_rfl) (tL_one _) ?_)
    refine hK.out _ _ (hHeld.set (b := v20.heap.size) Na.2 (tL p)) (fun _ => ?_)
    clear hK K
    refine gen_any (w1 := v26.setCells (v20.heap.size) 0 (tL p)) (fun V => RS w f m V ∧ (Bx V v20.heap.size (tL p) ∧ w.heap.size + 2 ≤ v20.heap.size) ∧ (Bx V v1.heap.size (z4) ∧ w.heap.size + 2 ≤ v1.heap.size)) ⟨hHeld.set Na.2 (tL p), ⟨Na.1.setAll (tL p) rfl, Na.2⟩, ⟨Nb.1.setOther (b := v20.heap.size) (by omega) (tL p), Nb.2⟩⟩ ?_
    clear hHeld Na Nb
    rintro v27 ⟨hHeld, Na, Nb⟩
    refine rd 21 ⟨none, _, _, _, _, none⟩ rfl (fun K hK => ?_)
    refine (if_pos (by kernel_rfl)).mpr (wp_store_mid 23 _ _ rfl (v1.heap.size) 0 (tL q).toArray rfl rfl Nb.1.there (by kernel_rfl) (tL_one _) ?_)
    refine hK.out _ _ (hHeld.set (b := v1.heap.size) Nb.2 (tL q)) (fun _ => ?_)
    clear hK K
    refine gen_any (w1 := v27.setCells (v1.heap.size) 0 (tL q)) (fun V => RS w f m V ∧ (Bx V v1.heap.size (tL q) ∧ w.heap.size + 2 ≤ v1.heap.size) ∧ (Bx V v20.heap.size (tL p) ∧ w.heap.size + 2 ≤ v20.heap.size)) ⟨hHeld.set Nb.2 (tL q), ⟨Nb.1.setAll (tL q) rfl, Nb.2⟩, ⟨Na.1.setOther (b := v1.heap.size) (by omega) (tL q), Na.2⟩⟩ ?_
    clear hHeld Na Nb
    rintro v28 ⟨hHeld, Nb, Na⟩
    refine wpAnyH_done (by kernel_rfl) ?_ _
    have d0 := Na.1.c 0 rfl
    have e0 := Nb.1.c 0 rfl
    have d1 := Na.1.c 1 rfl
    have e1 := Nb.1.c 1 rfl
    have d2 := Na.1.c 2 rfl
    have e2 := Nb.1.c 2 rfl
    have d3 := Na.1.c 3 rfl
    have e3 := Nb.1.c 3 rfl
    have r0 := hHeld.2.2.2.c 0 rfl
    have s0 := hHeld.2.2.2.f 0 rfl
    have r1 := hHeld.2.2.2.c 1 rfl
    have s1 := hHeld.2.2.2.f 1 rfl
    have r2 := hHeld.2.2.2.c 2 rfl
    have s2 := hHeld.2.2.2.f 2 rfl
    have r3 := hHeld.2.2.2.c 3 rfl
    have s3 := hHeld.2.2.2.f 3 rfl
    have r4 := hHeld.2.2.2.c 4 rfl
    have s4 := hHeld.2.2.2.f 4 rfl
    have r5 := hHeld.2.2.2.c 5 rfl
    have s5 := hHeld.2.2.2.f 5 rfl
    have r6 := hHeld.2.2.2.c 6 rfl
    have s6 := hHeld.2.2.2.f 6 rfl
    have r7 := hHeld.2.2.2.c 7 rfl
    have s7 := hHeld.2.2.2.f 7 rfl
    have HB := hHeld.1
    by_cases hlt : q.t < p.t
    ·have hp : Hid (pairL p q = tL q ++ tL p) := if_pos hlt
     have Y := hHeld.2.2.2.setAll (tL q ++ tL p) rfl
     have y0 := Y.c 0 rfl
     have y1 := Y.c 1 rfl
     have y2 := Y.c 2 rfl
     have y3 := Y.c 3 rfl
     have y4 := Y.c 4 rfl
     have y5 := Y.c 5 rfl
     have y6 := Y.c 6 rfl
     have y7 := Y.c 7 rfl
     simp only [World.setCells, tL, List.cons_append, List.nil_append, Nat.zero_add, Nat.reduceAdd] at y0 y1 y2 y3 y4 y5 y6 y7
     have hBB : Hid (Below w.heap.size w (v28.setCells (w.heap.size + 1) 0 (tL q ++ tL p))) := below_setCells (by omega) _ _ _ HB
     clear Y hHeld Na Nb HB
     go_wp2
     refine bodyPost_ret (v := .agg (tL q ++ tL p).toArray) (by simp [results, Tryz.results132, go_sem, y0, y1, y2, y3, y4, y5, y6, y7, tL]) rfl ⟨by rw [hp.out], hBB.out⟩
    ·have hp : Hid (pairL p q = tL p ++ tL q) := if_neg hlt
     have Y := hHeld.2.2.2.setAll (tL p ++ tL q) rfl
     have y0 := Y.c 0 rfl
     have y1 := Y.c 1 rfl
     have y2 := Y.c 2 rfl
     have y3 := Y.c 3 rfl
     have y4 := Y.c 4 rfl
     have y5 := Y.c 5 rfl
     have y6 := Y.c 6 rfl
     have y7 := Y.c 7 rfl
     simp only [World.setCells, tL, List.cons_append, List.nil_append, Nat.zero_add, Nat.reduceAdd] at y0 y1 y2 y3 y4 y5 y6 y7
     have hBB : Hid (Below w.heap.size w (v28.setCells (w.heap.size + 1) 0 (tL p ++ tL q))) := below_setCells (by omega) _ _ _ HB
     clear Y hHeld Na Nb HB
     go_wp2
     refine bodyPost_ret (v := .agg (tL p ++ tL q).toArray) (by simp [results, Tryz.results132, go_sem, y0, y1, y2, y3, y4, y5, y6, y7, tL]) rfl ⟨by rw [hp.out], hBB.out⟩
 ·
  go_simp
  refine hK.out _ _ (hHeld.alloc _) (fun _ => ?_)
  clear hK K
  refine gen_any (fun V => RS w f m V ∧ (Bx V v0.heap.size z4 ∧ w.heap.size + 2 ≤ v0.heap.size)) ⟨hHeld.alloc _, ⟨Bx.new v0 z4 _, hHeld.room⟩⟩ ?_
  clear hHeld
  rintro v29 ⟨hHeld, Na⟩
  refine wpAnyH_ready (rs := [8, 19]) (by kernel_rfl) (by simp) (AllReadyH.cons (o := ⟨some 15, _, _, _, _, none⟩) rfl (fun K hK => ?_) (AllReadyH.cons (o := ⟨some 6, _, _, _, _, none⟩) rfl (fun K hK => ?_) AllReadyH.nil))
  ·
   go_simp
   refine (CA.out _ hHeld.lens).mono ?_
   rintro e v30 ⟨rfl, hb30⟩
   have hH30 := hHeld.below hb30
   have Na30 := And.intro (Na.1.below hb30) Na.2
   refine hK.out _ _ hH30 (fun _ => ?_)
   clear hK K hb30 hHeld Na
   have hHeld := hH30; clear hH30
   have Na := Na30; clear Na30
   refine wpAnyH_ready (rs := [17, 19]) (by kernel_rfl) (by simp) (AllReadyH.cons (o := ⟨some 24, _, _, _, _, none⟩) rfl (fun K hK => ?_) (AllReadyH.cons (o := ⟨some 6, _, _, _, _, none⟩) rfl (fun K hK => ?_) AllReadyH.nil))
   ·
    go_simp
    refine (CB.out _ hHeld.lens).mono ?_
    rintro e v31 ⟨rfl, hb31⟩
    have hH31 := hHeld.below hb31
    have Na31 := And.intro (Na.1.below hb31) Na.2
    refine hK.out _ _ hH31 (fun _ => ?_)
    clear hK K hb31 hHeld Na
    have hHeld := hH31; clear hH31
    have Na := Na31; clear Na31
    refine rd 19 ⟨some 6, _, _, _, _, none⟩ rfl (fun K hK => ?_)
    go_simp
    refine hK.out _ _ (hHeld.alloc _) (fun _ => ?_)
    clear hK K
    refine gen_any (fun V => RS w f m V ∧ (Bx V v31.heap.size z4 ∧ w.heap.size + 2 ≤ v31.heap.size) ∧ (Bx V v0.heap.size z4 ∧ w.heap.size + 2 ≤ v0.heap.size) ∧ v0.heap.size < v31.heap.size) ⟨hHeld.alloc _, ⟨Bx.new v31 z4 _, hHeld.room⟩, ⟨Na.1.alloc _, Na.2⟩, Na.1.1⟩ ?_
    clear hHeld Na
    rintro v32 ⟨hHeld, Nb, Na, ltab⟩
    refine rd 20 ⟨none, _, _, _, _, none⟩ rfl (fun K hK => ?_)
    refine (if_pos (by kernel_rfl)).mpr (wp_store_mid 23 _ _ rfl (v0.heap.size) 0 (tL p).toArray rfl rfl Na.1.there (by kernel_rfl) (tL_one _) ?_)
    refine hK.out _ _ (hHeld.set (b := v0.heap.size) Na.2 (tL p)) (fun _ => ?_)
    clear hK K
    refine gen_any (w1 := v32.setCells (v0.heap.size) 0 (tL p)) (fun V => RS w f m V ∧ (Bx V v0.heap.size (tL p) ∧ w.heap.size + 2 ≤ v0.heap.size) ∧ (Bx V v31.heap.size (z4) ∧ w.heap.size + 2 ≤ v31.heap.size)) ⟨hHeld.set Na.2 (tL p), ⟨Na.1.setAll (tL p) rfl, Na.2⟩, ⟨Nb.1.setOther (b := v0.heap.size) (by omega) (tL p), Nb.2⟩⟩ ?_
    clear hHeld Na Nb
    rintro v33 ⟨hHeld, Na, Nb⟩
    refine rd 21 ⟨none, _, _, _, _, none⟩ rfl (fun K hK => ?_)
    refine (if_pos (by kernel_rfl)).mpr (wp_store_mid 23 _ _ rfl (v31.heap.size) 0 (tL q).toArray rfl rfl Nb.1.there (by kernel_rfl) (tL_one _) ?_)
    refine hK.out _ _ (hHeld.set (b := v31.heap.size) Nb.2 (tL q)) (fun _ => ?_)
    clear hK K
    refine gen_any (w1 := v33.setCells (v31.heap.size) 0 (tL q)) (fun V => RS w f m V ∧ (Bx V v31.heap.size (tL q) ∧ w.heap.size + 2 ≤ v31.heap.size) ∧ (Bx V v0.heap.size (tL p) ∧ w.heap.size + 2 ≤ v0.heap.size)) ⟨hHeld.set Nb.2 (tL q), ⟨Nb.1.setAll (tL q) rfl, Nb.2⟩, ⟨Na.1.setOther (b := v31.heap.size) (by omega) (tL q), Na.2⟩⟩ ?_
    clear hHeld Na Nb
    rintro v34 ⟨hHeld, Nb, Na⟩
    refine wpAnyH_done (by kernel_rfl) ?_ _
    have d0 := Na.1.c 0 rfl
    have e0 := Nb.1.c 0 rfl
    have d1 := Na.1.c 1 rfl
    have e1 := Nb.1.c 1 rfl
    have d2 := Na.1.c 2 rfl
    have e2 := Nb.1.c 2 rfl
    have d3 := Na.1.c 3 rfl
    have e3 := Nb.1.c 3 rfl
    have r0 := hHeld.2.2.2.c 0 rfl
    have s0 := hHeld.2.2.2.f 0 rfl
    have r1 := hHeld.2.2.2.c 1 rfl
    have s1 := hHeld.2.2.2.f 1 rfl
    have r2 := hHeld.2.2.2.c 2 rfl
    have s2 := hHeld.2.2.2.f 2 rfl
    have r3 := hHeld.2.2.2.c 3 rfl
    have s3 := hHeld.2.2.2.f 3 rfl
    have r4 := hHeld.2.2.2.c 4 rfl
    have s4 := hHeld.2.2.2.f 4 rfl
    have r5 := hHeld.2.2.2.c 5 rfl
    have s5 := hHeld.2.2.2.f 5 rfl
    have r6 := hHeld.2.2.2.c 6 rfl
    have s6 := hHeld.2.2.2.f 6 rfl
    have r7 := hHeld.2.2.2.c 7 rfl
    have s7 := hHeld.2.2.2.f 7 rfl
    have HB := hHeld.1
    by_cases hlt : q.t < p.t
    ·have hp : Hid (pairL p q = tL q ++ tL p) := if_pos hlt
     have Y := hHeld.2.2.2.setAll (tL q ++ tL p) rfl
     have y0 := Y.c 0 rfl
     have y1 := Y.c 1 rfl
     have y2 := Y.c 2 rfl
     have y3 := Y.c 3 rfl
     have y4 := Y.c 4 rfl
     have y5 := Y.c 5 rfl
     have y6 := Y.c 6 rfl
     have y7 := Y.c 7 rfl
     simp only [World.setCells, tL, List.cons_append, List.nil_append, Nat.zero_add, Nat.reduceAdd] at y0 y1 y2 y3 y4 y5 y6 y7
     have hBB : Hid (Below w.heap.size w (v34.setCells (w.heap.size + 1) 0 (tL q ++ tL p))) := below_setCells (by omega) _ _ _ HB
     clear Y hHeld Na Nb HB
     go_wp2
     refine bodyPost_ret (v := .agg (tL q ++ tL p).toArray) (by simp [results, Tryz.results132, go_sem, y0, y1, y2, y3, y4, y5, y6, y7, tL]) rfl ⟨by rw [hp.out], hBB.out⟩
    ·have hp : Hid (pairL p q = tL p ++ tL q) := if_neg hlt
     have Y := hHeld.2.2.2.setAll (tL p ++ tL q) rfl
     have y0 := Y.c 0 rfl
     have y1 := Y.c 1 rfl
     have y2 := Y.c 2 rfl
     have y3 := Y.c 3 rfl
     have y4 := Y.c 4 rfl
     have y5 := Y.c 5 rfl
     have y6 := Y.c 6 rfl
     have y7 := Y.c 7 rfl
     simp only [World.setCells, tL, List.cons_append, List.nil_append, Nat.zero_add, Nat.reduceAdd] at y0 y1 y2 y3 y4 y5 y6 y7
     have hBB : Hid (Below w.heap.size w (v34.setCells (w.heap.size + 1) 0 (tL p ++ tL q))) := below_setCells (by omega) _ _ _ HB
     clear Y hHeld Na Nb HB
     go_wp2
     refine bodyPost_ret (v := .agg (tL p ++ tL q).toArray) (by simp [results, Tryz.results132, go_sem, y0, y1, y2, y3, y4, y5, y6, y7, tL]) rfl ⟨by rw [hp.out], hBB.out⟩
   ·
    go_simp
    refine hK.out _ _ (hHeld.alloc _) (fun _ => ?_)
    clear hK K
    refine gen_any (fun V => RS w f m V ∧ (Bx V v30.heap.size z4 ∧ w.heap.size + 2 ≤ v30.heap.size) ∧ (Bx V v0.heap.size z4 ∧ w.heap.size + 2 ≤ v0.heap.size) ∧ v0.heap.size < v30.heap.size) ⟨hHeld.alloc _, ⟨Bx.new v30 z4 _, hHeld.room⟩, ⟨Na.1.alloc _, Na.2⟩, Na.1.1⟩ ?_
    clear hHeld Na
    rintro v35 ⟨hHeld, Nb, Na, ltab⟩
    refine rd 17 ⟨some 24, _, _, _, _, none⟩ rfl (fun K hK => ?_)
    go_simp
    refine (CB.out _ hHeld.lens).mono ?_
    rintro e v36 ⟨rfl, hb36⟩
    have hH36 := hHeld.below hb36
    have Na36 := And.intro (Na.1.below hb36) Na.2
    have Nb36 := And.intro (Nb.1.below hb36) Nb.2
    refine hK.out _ _ hH36 (fun _ => ?_)
    clear hK K hb36 hHeld Na Nb
    have hHeld := hH36; clear hH36
    have Na := Na36; clear Na36
    have Nb := Nb36; clear Nb36
    refine rd 20 ⟨none, _, _, _, _, none⟩ rfl (fun K hK => ?_)
    refine (if_pos (by kernel_rfl)).mpr (wp_store_mid 23 _ _ rfl (v0.heap.size) 0 (tL p).toArray rfl rfl Na.1.there (by kernel_rfl) (tL_one _) ?_)
    refine hK.out _ _ (hHeld.set (b := v0.heap.size) Na.2 (tL p)) (fun _ => ?_)
    clear hK K
    refine gen_any (w1 := v36.setCells (v0.heap.size) 0 (tL p)) (fun V => RS w f m V ∧ (Bx V v0.heap.size (tL p) ∧ w.heap.size + 2 ≤ v0.heap.size) ∧ (Bx V v30.heap.size (z4) ∧ w.heap.size + 2 ≤ v30.heap.size)) ⟨hHeld.set Na.2 (tL p), ⟨Na.1.setAll (tL p) rfl, Na.2⟩, ⟨Nb.1.setOther (b := v0.heap.size) (by omega) (tL p), Nb.2⟩⟩ ?_
    clear hHeld Na Nb
    rintro v37 ⟨hHeld, Na, Nb⟩
    refine rd 21 ⟨none, _, _, _, _, none⟩ rfl (fun K hK => ?_)
    refine (if_pos (by kernel_rfl)).mpr (wp_store_mid 23 _ _ rfl (v30.heap.size) 0 (tL q).toArray rfl rfl Nb.1.there (by kernel_rfl) (tL_one _) ?_)
    refine hK.out _ _ (hHeld.set (b := v30.heap.size) Nb.2 (tL q)) (fun _ => ?_)
    clear hK K
    refine gen_any (w1 := v37.setCells (v30.heap.size) 0 (tL q)) (fun V => RS w f m V ∧ (Bx V v30.heap.size (tL q) ∧ w.heap.size + 2 ≤ v30.heap.size) ∧ (Bx V v0.heap.size (tL p) ∧ w.heap.size + 2 ≤ v0.heap.size)) ⟨hHeld.set Nb.2 (tL q), ⟨Nb.1.setAll (tL q) rfl, Nb.2⟩, ⟨Na.1.setOther (b := v30.heap.size) (by omega) (tL q), Na.2⟩⟩ ?_
    clear hHeld Na Nb
    rintro v38 ⟨hHeld, Nb, Na⟩
    refine wpAnyH_done (by kernel_rfl) ?_ _
    have d0 := Na.1.c 0 rfl
    have e0 := Nb.1.c 0 rfl
    have d1 := Na.1.c 1 rfl
    have e1 := Nb.1.c 1 rfl
    have d2 := Na.1.c 2 rfl
    have e2 := Nb.1.c 2 rfl
    have d3 := Na.1.c 3 rfl
    have e3 := Nb.1.c 3 rfl
    have r0 := hHeld.2.2.2.c 0 rfl
    have s0 := hHeld.2.2.2.f 0 rfl
    have r1 := hHeld.2.2.2.c 1 rfl
    have s1 := hHeld.2.2.2.f 1 rfl
    have r2 := hHeld.2.2.2.c 2 rfl
    have s2 := hHeld.2.2.2.f 2 rfl
    have r3 := hHeld.2.2.2.c 3 rfl
    have s3 := hHeld.2.2.2.f 3 rfl
    have r4 := hHeld.2.2.2.c 4 rfl
    have s4 := hHeld.2.2.2.f 4 rfl
    have r5 := hHeld.2.2.2.c 5 rfl
    have s5 := hHeld.2.2.2.f 5 rfl
    have r6 := hHeld.2.2.2.c 6 rfl
    have s6 := hHeld.2.2.2.f 6 rfl
    have r7 := hHeld.2.2.2.c 7 rfl
    have s7 := hHeld.2.2.2.f 7 rfl
    have HB := hHeld.1
    by_cases hlt : q.t < p.t
    ·have hp : Hid (pairL p q = tL q ++ tL p) := if_pos hlt
     have Y := hHeld.2.2.2.setAll (tL q ++ tL p) rfl
     have y0 := Y.c 0 rfl
     have y1 := Y.c 1 rfl
     have y2 := Y.c 2 rfl
     have y3 := Y.c 3 rfl
     have y4 := Y.c 4 rfl
     have y5 := Y.c 5 rfl
     have y6 := Y.c 6 rfl
     have y7 := Y.c 7 rfl
     simp only [World.setCells, tL, List.cons_append, List.nil_append, Nat.zero_add, Nat.reduceAdd] at y0 y1 y2 y3 y4 y5 y6 y7
     have hBB : Hid (Below w.heap.size w (v38.setCells (w.heap.size + 1) 0 (tL q ++ tL p))) := below_setCells (by omega) _ _ _ HB
     clear Y hHeld Na Nb HB
     go_wp2
     refine bodyPost_ret (v := .agg (tL q ++ tL p).toArray) (by simp [results, Tryz.results132, go_sem, y0, y1, y2, y3, y4, y5, y6, y7, tL]) rfl ⟨by rw [hp.out], hBB.out⟩
    ·have hp : Hid (pairL p q = tL p ++ tL q) := if_neg hlt
     have Y := hHeld.2.2.2.setAll (tL p ++ tL q) rfl
     have y0 := Y.c 0 rfl
     have y1 := Y.c 1 rfl
     have y2 := Y.c 2 rfl
     have y3 := Y.c 3 rfl
     have y4 := Y.c 4 rfl
     have y5 := Y.c 5 rfl
     have y6 := Y.c 6 rfl
     have y7 := Y.c 7 rfl
     simp only [World.setCells, tL, List.cons_append, List.nil_append, Nat.zero_add, Nat.reduceAdd] at y0 y1 y2 y3 y4 y5 y6 y7
     have hBB : Hid (Below w.heap.size w (v38.setCells (w.heap.size + 1) 0 (tL p ++ tL q))) := below_setCells (by omega) _ _ _ HB
     clear Y hHeld Na Nb HB
     go_wp2
     refine bodyPost_ret (v := .agg (tL p ++ tL q).toArray) (by simp [results, Tryz.results132, go_sem, y0, y1, y2, y3, y4, y5, y6, y7, tL]) rfl ⟨by rw [hp.out], hBB.out⟩
  ·
   go_simp
   refine hK.out _ _ (hHeld.alloc _) (fun _ => ?_)
   clear hK K
   refine gen_any (fun V => RS w f m V ∧ (Bx V v29.heap.size z4 ∧ w.heap.size + 2 ≤ v29.heap.size) ∧ (Bx V v0.heap.size z4 ∧ w.heap.size + 2 ≤ v0.heap.size) ∧ v0.heap.size < v29.heap.size) ⟨hHeld.alloc _, ⟨Bx.new v29 z4 _, hHeld.room⟩, ⟨Na.1.alloc _, Na.2⟩, Na.1.1⟩ ?_
   clear hHeld Na
   rintro v39 ⟨hHeld, Nb, Na, ltab⟩
   refine rd 8 ⟨some 15, _, _, _, _, none⟩ rfl (fun K hK => ?_)
   go_simp
   refine (CA.out _ hHeld.lens).mono ?_
   rintro e v40 ⟨rfl, hb40⟩
   have hH40 := hHeld.below hb40
   have Na40 := And.intro (Na.1.below hb40) Na.2
   have Nb40 := And.intro (Nb.1.below hb40) Nb.2
   refine hK.out _ _ hH40 (fun _ => ?_)
   clear hK K hb40 hHeld Na Nb
   have hHeld := hH40; clear hH40
   have Na := Na40; clear Na40
   have Nb := Nb40; clear Nb40
   refine rd 17 ⟨some 24, _, _, _, _, none⟩ rfl (fun K hK => ?_)
   go_simp
   refine (CB.out _ hHeld.lens).mono ?_
   rintro e v41 ⟨rfl, hb41⟩
   have hH41 := hHeld.below hb41
   have Na41 := And.intro (Na.1.below hb41) Na.2
   have Nb41 := And.intro (Nb.1.below hb41) Nb.2
   refine hK.out _ _ hH41 (fun _ => ?_)
   clear hK K hb41 hHeld Na Nb
   have hHeld := hH41; clear hH41
   have Na := Na41; clear Na41
   have Nb := Nb41; clear Nb41
   refine rd 20 ⟨none, _, _, _, _, none⟩ rfl (fun K hK => ?_)
   refine (if_pos (by kernel_rfl)).mpr (wp_store_mid 23 _ _ rfl (v0.heap.size) 0 (tL p).toArray rfl rfl Na.1.there (by kernel_rfl) (tL_one _) ?_)
   refine hK.out _ _ (hHeld.set (b := v0.heap.size) Na.2 (tL p)) (fun _ => ?_)
   clear hK K
   refine gen_any (w1 := v41.setCells (v0.heap.size) 0 (tL p)) (fun V => RS w f m V ∧ (Bx V v0.heap.size (tL p) ∧ w.heap.size + 2 ≤ v0.heap.size) ∧ (Bx V v29.heap.size (z4) ∧ w.heap.size + 2 ≤ v29.heap.size)) ⟨hHeld.set Na.2 (tL p), ⟨Na.1.setAll (tL p) rfl, Na.2⟩, ⟨Nb.1.setOther (b := v0.heap.size) (by omega) (tL p), Nb.2⟩⟩ ?_
   clear hHeld Na Nb
   rintro v42 ⟨hHeld, Na, Nb⟩
   refine rd 21 ⟨none, _, _, _, _, none⟩ rfl (fun K hK => ?_)
   refine (if_pos (by kernel_rfl)).mpr (wp_store_mid 23 _ _ rfl (v29.heap.size) 0 (tL q).toArray rfl rfl Nb.1.there (by kernel_rfl) (tL_one _) ?_)
   refine hK.out _ _ (hHeld.set (b := v29.heap.size) Nb.2 (tL q)) (fun _ => ?_)
   clear hK K
   refine gen_any (w1 := v42.setCells (v29.heap.size) 0 (tL q)) (fun V => RS w f m V ∧ (Bx V v29.heap.size (tL q) ∧ w.heap.size + 2 ≤ v29.heap.size) ∧ (Bx V v0.heap.size (tL p) ∧ w.heap.size + 2 ≤ v0.heap.size)) ⟨hHeld.set Nb.2 (tL q), ⟨Nb.1.setAll (tL q) rfl, Nb.2⟩, ⟨Na.1.setOther (b := v29.heap.size) (by omega) (tL q), Na.2⟩⟩ ?_
   clear hHeld Na Nb
   rintro v43 ⟨hHeld, Nb, Na⟩
   refine wpAnyH_done (by kernel_rfl) ?_ _
   have d0 := Na.1.c 0 rfl
   have e0 := Nb.1.c 0 rfl
   have d1 := Na.1.c 1 rfl
   have e1 := Nb.1.c 1 rfl
   have d2 := Na.1.c 2 rfl
   have e2 := Nb.1.c 2 rfl
   have d3 := Na.1.c 3 rfl
   have e3 := Nb.1.c 3 rfl
   have r0 := hHeld.2.2.2.c 0 rfl
   have s0 := hHeld.2.2.2.f 0 rfl
   have r1 := hHeld.2.2.2.c 1 rfl
   have s1 := hHeld.2.2.2.f 1 rfl
   have r2 := hHeld.2.2.2.c 2 rfl
   have s2 := hHeld.2.2.2.f 2 rfl
   have r3 := hHeld.2.2.2.c 3 rfl
   have s3 := hHeld.2.2.2.f 3 rfl
   have r4 := hHeld.2.2.2.c 4 rfl
   have s4 := hHeld.2.2.2.f 4 rfl
   have r5 := hHeld.2.2.2.c 5 rfl
   have s5 := hHeld.2.2.2.f 5 rfl
   have r6 := hHeld.2.2.2.c 6 rfl
   have s6 := hHeld.2.2.2.f 6 rfl
   have r7 := hHeld.2.2.2.c 7 rfl
   have s7 := hHeld.2.2.2.f 7 rfl
   have HB := hHeld.1
   by_cases hlt : q.t < p.t
   ·have hp : Hid (pairL p q = tL q ++ tL p) := if_pos hlt
    have Y := hHeld.2.2.2.setAll (tL q ++ tL p) rfl
    have y0 := Y.c 0 rfl
    have y1 := Y.c 1 rfl
    have y2 := Y.c 2 rfl
    have y3 := Y.c 3 rfl
    have y4 := Y.c 4 rfl
    have y5 := Y.c 5 rfl
    have y6 := Y.c 6 rfl
    have y7 := Y.c 7 rfl
    simp only [World.setCells, tL, List.cons_append, List.nil_append, Nat.zero_add, Nat.reduceAdd] at y0 y1 y2 y3 y4 y5 y6 y7
    have hBB : Hid (Below w.heap.size w (v43.setCells (w.heap.size + 1) 0 (tL q ++ tL p))) := below_setCells (by omega) _ _ _ HB
    clear Y hHeld Na Nb HB
    go_wp2
    refine bodyPost_ret (v := .agg (tL q ++ tL p).toArray) (by simp [results, Tryz.results132, go_sem, y0, y1, y2, y3, y4, y5, y6, y7, tL]) rfl ⟨by rw [hp.out], hBB.out⟩
   ·have hp : Hid (pairL p q = tL p ++ tL q) := if_neg hlt
    have Y := hHeld.2.2.2.setAll (tL p ++ tL q) rfl
    have y0 := Y.c 0 rfl
    have y1 := Y.c 1 rfl
    have y2 := Y.c 2 rfl
    have y3 := Y.c 3 rfl
    have y4 := Y.c 4 rfl
    have y5 := Y.c 5 rfl
    have y6 := Y.c 6 rfl
    have y7 := Y.c 7 rfl
    simp only [World.setCells, tL, List.cons_append, List.nil_append, Nat.zero_add, Nat.reduceAdd] at y0 y1 y2 y3 y4 y5 y6 y7
    have hBB : Hid (Below w.heap.size w (v43.setCells (w.heap.size + 1) 0 (tL p ++ tL q))) := below_setCells (by omega) _ _ _ HB
    clear Y hHeld Na Nb HB
    go_wp2
    refine bodyPost_ret (v := .agg (tL p ++ tL q).toArray) (by simp [results, Tryz.results132, go_sem, y0, y1, y2, y3, y4, y5, y6, y7, tL]) rfl ⟨by rw [hp.out], hBB.out⟩
 ·
  go_simp
  refine hK.out _ _ (hHeld.alloc _) (fun _ => ?_)
  clear hK K
  refine gen_any (fun V => RS w f m V ∧ (Bx V v0.heap.size z4 ∧ w.heap.size + 2 ≤ v0.heap.size)) ⟨hHeld.alloc _, ⟨Bx.new v0 z4 _, hHeld.room⟩⟩ ?_
  clear hHeld
  rintro v44 ⟨hHeld, Nb⟩
  refine wpAnyH_ready (rs := [8, 18]) (by kernel_rfl) (by simp) (AllReadyH.cons (o := ⟨some 15, _, _, _, _, none⟩) rfl (fun K hK => ?_) (AllReadyH.cons (o := ⟨some 5, _, _, _, _, none⟩) rfl (fun K hK => ?_) AllReadyH.nil))
  ·
   go_simp
   refine (CA.out _ hHeld.lens).mono ?_
   rintro e v45 ⟨rfl, hb45⟩
   have hH45 := hHeld.below hb45
   have Nb45 := And.intro (Nb.1.below hb45) Nb.2
   refine hK.out _ _ hH45 (fun _ => ?_)
   clear hK K hb45 hHeld Nb
   have hHeld := hH45; clear hH45
   have Nb := Nb45; clear Nb45
   refine wpAnyH_ready (rs := [17, 18]) (by kernel_rfl) (by simp) (AllReadyH.cons (o := ⟨some 24, _, _, _, _, none⟩) rfl (fun K hK => ?_) (AllReadyH.cons (o := ⟨some 5, _, _, _, _, none⟩) rfl (fun K hK => ?_) AllReadyH.nil))
   ·
    go_simp
    refine (CB.out _ hHeld.lens).mono ?_
    rintro e v46 ⟨rfl, hb46⟩
    have hH46 := hHeld.below hb46
    have Nb46 := And.intro (Nb.1.below hb46) Nb.2
    refine hK.out _ _ hH46 (fun _ => ?_)
    clear hK K hb46 hHeld Nb
    have hHeld := hH46; clear hH46
    have Nb := Nb46; clear Nb46
    refine rd 18 ⟨some 5, _, _, _, _, none⟩ rfl (fun K hK => ?_)
    go_simp
    refine hK.out _ _ (hHeld.alloc _) (fun _ => ?_)
    clear hK K
    refine gen_any (fun V => RS w f m V ∧ (Bx V v46.heap.size z4 ∧ w.heap.size + 2 ≤ v46.heap.size) ∧ (Bx V v0.heap.size z4 ∧ w.heap.size + 2 ≤ v0.heap.size) ∧ v0.heap.size < v46.heap.size) ⟨hHeld.alloc _, ⟨Bx.new v46 z4 _, hHeld.room⟩, ⟨Nb.1.alloc _, Nb.2⟩, Nb.1.1⟩ ?_
    clear hHeld Nb
    rintro v47 ⟨hHeld, Na, Nb, ltba⟩
    refine rd 20 ⟨none, _, _, _, _, none⟩ rfl (fun K hK => ?_)
    refine (if_pos (by kernel_rfl)).mpr (wp_store_mid 23 _ _ rfl (v46.heap.size) 0 (tL p).toArray rfl rfl Na.1.there (by kernel_rfl) (tL_one _) ?_)
    refine hK.out _ _ (hHeld.set (b := v46.heap.size) Na.2 (tL p)) (fun _ => ?_)
    clear hK K
    refine gen_any (w1 := v47.setCells (v46.heap.size) 0 (tL p)) (fun V => RS w f m V ∧ (Bx V v46.heap.size (tL p) ∧ w.heap.size + 2 ≤ v46.heap.size) ∧ (Bx V v0.heap.size (z4) ∧ w.heap.size + 2 ≤ v0.heap.size)) ⟨hHeld.set Na.2 (tL p), ⟨Na.1.setAll (tL p) rfl, Na.2⟩, ⟨Nb.1.setOther (b := v46.heap.size) (by omega) (tL p), Nb.2⟩⟩ ?_
    clear hHeld Na Nb
    rintro v48 ⟨hHeld, Na, Nb⟩
    refine rd 21 ⟨none, _, _, _, _, none⟩ rfl (fun K hK => ?_)
    refine (if_pos (by kernel_rfl)).mpr (wp_store_mid 23 _ _ rfl (v0.heap.size) 0 (tL q).toArray rfl rfl Nb.1.there (by kernel_rfl) (tL_one _) ?_)
    refine hK.out _ _ (hHeld.set (b := v0.heap.size) Nb.2 (tL q)) (fun _ => ?_)
    clear hK K
    refine gen_any (w1 := v48.setCells (v0.heap.size) 0 (tL q)) (fun V => RS w f m V ∧ (Bx V v0.heap.size (tL q) ∧ w.heap.size + 2 ≤ v0.heap.size) ∧ (Bx V v46.heap.size (tL p) ∧ w.heap.size + 2 ≤ v46.heap.size)) ⟨hHeld.set Nb.2 (tL q), ⟨Nb.1.setAll (tL q) rfl, Nb.2⟩, ⟨Na.1.setOther (b := v0.heap.size) (by omega) (tL q), Na.2⟩⟩ ?_
    clear hHeld Na Nb
    rintro v49 ⟨hHeld, Nb, Na⟩
    refine wpAnyH_done (by kernel_rfl) ?_ _
    have d0 := Na.1.c 0 rfl
    have e0 := Nb.1.c 0 rfl
    have d1 := Na.1.c 1 rfl
    have e1 := Nb.1.c 1 rfl
    have d2 := Na.1.c 2 rfl
    have e2 := Nb.1.c 2 rfl
    have d3 := Na.1.c 3 rfl
    have e3 := Nb.1.c 3 rfl
    have r0 := hHeld.2.2.2.c 0 rfl
    have s0 := hHeld.2.2.2.f 0 rfl
    have r1 := hHeld.2.2.2.c 1 rfl
    have s1 := hHeld.2.2.2.f 1 rfl
    have r2 := hHeld.2.2.2.c 2 rfl
    have s2 := hHeld.2.2.2.f 2 rfl
    have r3 := hHeld.2.2.2.c 3 rfl
    have s3 := hHeld.2.2.2.f 3 rfl
    have r4 := hHeld.2.2.2.c 4 rfl
    have s4 := hHeld.2.2.2.f 4 rfl
    have r5 := hHeld.2.2.2.c 5 rfl
    have s5 := hHeld.2.2.2.f 5 rfl
    have r6 := hHeld.2.2.2.c 6 rfl
    have s6 := hHeld.2.2.2.f 6 rfl
    have r7 := hHeld.2.2.2.c 7 rfl
    have s7 := hHeld.2.2.2.f 7 rfl
    have HB := hHeld.1
    by_cases hlt : q.t < p.t
    ·have hp : Hid (pairL p q = tL q ++ tL p) := if_pos hlt
     have Y := hHeld.2.2.2.setAll (tL q ++ tL p) rfl
     have y0 := Y.c 0 rfl
     have y1 := Y.c 1 rfl
     have y2 := Y.c 2 rfl
     have y3 := Y.c 3 rfl
     have y4 := Y.c 4 rfl
     have y5 := Y.c 5 rfl
     have y6 := Y.c 6 rfl
     have y7 := Y.c 7 rfl
     simp only [World.setCells, tL, List.cons_append, List.nil_append, Nat.zero_add, Nat.reduceAdd] at y0 y1 y2 y3 y4 y5 y6 y7
     have hBB : Hid (Below w.heap.size w (v49.setCells (w.heap.size + 1) 0 (tL q ++ tL p))) := below_setCells (by omega) _ _ _ HB
     clear Y hHeld Na Nb HB
     go_wp2
     refine bodyPost_ret (v := .agg (tL q ++ tL p).toArray) (by simp [results, Tryz.results132, go_sem, y0, y1, y2, y3, y4, y5, y6, y7, tL]) rfl ⟨by rw [hp.out], hBB.out⟩
    ·have hp : Hid (pairL p q = tL p ++ tL q) := if_neg hlt
     have Y := hHeld.2.2.2.setAll (tL p ++ tL q) rfl
     have y0 := Y.c 0 rfl
     have y1 := Y.c 1 rfl
     have y2 := Y.c 2 rfl
     have y3 := Y.c 3 rfl
     have y4 := Y.c 4 rfl
     have y5 := Y.c 5 rfl
     have y6 := Y.c 6 rfl
     have y7 := Y.c 7 rfl
     simp only [World.setCells, tL, List.cons_append, List.nil_append, Nat.zero_add, Nat.reduceAdd] at y0 y1 y2 y3 y4 y5 y6 y7
     have hBB : Hid (Below w.heap.size w (v49.setCells (w.heap.size + 1) 0 (tL p ++ tL q))) := below_setCells (by omega) _ _ _ HB
     clear Y hHeld Na Nb HB
     go_wp2
     refine bodyPost_ret (v := .agg (tL p ++ tL q).toArray) (by simp [results, Tryz.results132, go_sem, y0, y1, y2, y3, y4, y5, y6, y7, tL]) rfl ⟨by rw [hp.out], hBB.out⟩
   ·
    go_simp
    refine hK.out _ _ (hHeld.alloc _) (fun _ => ?_)
    clear hK K
    refine gen_any (fun V => RS w f m V ∧ (Bx V v45.heap.size z4 ∧ w.heap.size + 2 ≤ v45.heap.size) ∧ (Bx V v0.heap.size z4 ∧ w.heap.size + 2 ≤ v0.heap.size) ∧ v0.heap.size < v45.heap.size) ⟨hHeld.alloc _, ⟨Bx.new v45 z4 _, hHeld.room⟩, ⟨Nb.1.alloc _, Nb.2⟩, Nb.1.1⟩ ?_
    clear hHeld Nb
    rintro v50 ⟨hHeld, Na, Nb, ltba⟩
    refine rd 17 ⟨some 24, _, _, _, _, none⟩ rfl (fun K hK => ?_)
    go_simp
    refine (CB.out _ hHeld.lens).mono ?_
    rintro e v51 ⟨rfl, hb51⟩
    have hH51 := hHeld.below hb51
    have Na51 := And.intro (Na.1.below hb51) Na.2
    have Nb51 := And.intro (Nb.1.below hb51) Nb.2
    refine hK.out _ _ hH51 (fun _ => ?_)
    clear hK K hb51 hHeld Na Nb
    have hHeld := hH51; clear hH51
    have Na := Na51; clear Na51
    have Nb := Nb51; clear Nb51
    refine rd 20 ⟨none, _, _, _, _, none⟩ rfl (fun K hK => ?_)
    refine (if_pos (by kernel_rfl)).mpr (wp_store_mid 23 _ _ rfl (v45.heap.size) 0 (tL p).toArray rfl rfl Na.1.there (by kernel_rfl) (tL_one _) ?_)
    refine hK.out _ _ (hHeld.set (b := v45.heap.size) Na.2 (tL p)) (fun _ => ?_)
    clear hK K
    refine gen_any (w1 := v51.setCells (v45.heap.size) 0 (tL p)) (fun V => RS w f m V ∧ (Bx V v45.heap.size (tL p) ∧ w.heap.size + 2 ≤ v45.heap.size) ∧ (Bx V v0.heap.size (z4) ∧ w.heap.size + 2 ≤ v0.heap.size)) ⟨hHeld.set Na.2 (tL p), ⟨Na.1.setAll (tL p) rfl, Na.2⟩, ⟨Nb.1.setOther (b := v45.heap.size) (by omega) (tL p), Nb.2⟩⟩ ?_
    clear hHeld Na Nb
    rintro v52 ⟨hHeld, Na, Nb⟩
    refine rd 21 ⟨none, _, _, _, _, none⟩ rfl (fun K hK => ?_)
    refine (if_pos (by kernel_rfl)).mpr (wp_store_mid 23 _ _ rfl (v0.heap.size) 0 (tL q).toArray rfl rfl Nb.1.there (by kernel_rfl) (tL_one _) ?_)
    refine hK.out _ _ (hHeld.set (b := v0.heap.size) Nb.2 (tL q)) (fun _ => ?_)
    clear hK K
    refine gen_any (w1 := v52.setCells (v0.heap.size) 0 (tL q)) (fun V => RS w f m V ∧ (Bx V v0.heap.size (tL q) ∧ w.heap.size + 2 ≤ v0.heap.size) ∧ (Bx V v45.heap.size (tL p) ∧ w.heap.size + 2 ≤ v45.heap.size)) ⟨hHeld.set Nb.2 (tL q), ⟨Nb.1.setAll (tL q) rfl, Nb.2⟩, ⟨Na.1.setOther (b := v0.heap.size) (by omega) (tL q), Na.2⟩⟩ ?_
    clear hHeld Na Nb
    rintro v53 ⟨hHeld, Nb, Na⟩
    refine wpAnyH_done (by kernel_rfl) ?_ _
    have d0 := Na.1.c 0 rfl
    have e0 := Nb.1.c 0 rfl
    have d1 := Na.1.c 1 rfl
    have e1 := Nb.1.c 1 rfl
    have d2 := Na.1.c 2 rfl
    have e2 := Nb.1.c 2 rfl
    have d3 := Na.1.c 3 rfl
    have e3 := Nb.1.c 3 rfl
    have r0 := hHeld.2.2.2.c 0 rfl
    have s0 := hHeld.2.2.2.f 0 rfl
    have r1 := hHeld.2.2.2.c 1 rfl
    have s1 := hHeld.2.2.2.f 1 rfl
    have r2 := hHeld.2.2.2.c 2 rfl
    have s2 := hHeld.2.2.2.f 2 rfl
    have r3 := hHeld.2.2.2.c 3 rfl
    have s3 := hHeld.2.2.2.f 3 rfl
    have r4 := hHeld.2.2.2.c 4 rfl
    have s4 := hHeld.2.2.2.f 4 rfl
    have r5 := hHeld.2.2.2.c 5 rfl
    have s5 := hHeld.2.2.2.f 5 rfl
    have r6 := hHeld.2.2.2.c 6 rfl
    have s6 := hHeld.2.2.2.f 6 rfl
    have r7 := hHeld.2.2.2.c 7 rfl
    have s7 := hHeld.2.2.2.f 7 rfl
    have HB := hHeld.1
    by_cases hlt : q.t < p.t
    ·have hp : Hid (pairL p q = tL q ++ tL p) := if_pos hlt
     have Y := hHeld.2.2.2.setAll (tL q ++ tL p) rfl
     have y0 := Y.c 0 rfl
     have y1 := Y.c 1 rfl
     have y2 := Y.c 2 rfl
     have y3 := Y.c 3 rfl
     have y4 := Y.c 4 rfl
     have y5 := Y.c 5 rfl
     have y6 := Y.c 6 rfl
     have y7 := Y.c 7 rfl
     simp only [World.setCells, tL, List.cons_append, List.nil_append, Nat.zero_add, Nat.reduceAdd] at y0 y1 y2 y3 y4 y5 y6 y7
     have hBB : Hid (Below w.heap.size w (v53.setCells (w.heap.size + 1) 0 (tL q ++ tL p))) := below_setCells (by omega) _ _ _ HB
     clear Y hHeld Na Nb HB
     go_wp2
     refine bodyPost_ret (v := .agg (tL q ++ tL p).toArray) (by simp [results, Tryz.results132, go_sem, y0, y1, y2, y3, y4, y5, y6, y7, tL]) rfl ⟨by rw [hp.out], hBB.out⟩
    ·have hp : Hid (pairL p q = tL p ++ tL q) := if_neg hlt
     have Y := hHeld.2.2.2.setAll (tL p ++ tL q) rfl
     have y0 := Y.c 0 rfl
     have y1 := Y.c 1 rfl
     have y2 := Y.c 2 rfl
     have y3 := Y.c 3 rfl
     have y4 := Y.c 4 rfl
     have y5 := Y.c 5 rfl
     have y6 := Y.c 6 rfl
     have y7 := Y.c 7 rfl
     simp only [World.setCells, tL, List.cons_append, List.nil_append, Nat.zero_add, Nat.reduceAdd] at y0 y1 y2 y3 y4 y5 y6 y7
     have hBB : Hid (Below w.heap.size w (v53.setCells (w.heap.size + 1) 0 (tL p ++ tL q))) := below_setCells (by omega) _ _ _ HB
     clear Y hHeld Na Nb HB
     go_wp2
     refine bodyPost_ret (v := .agg (tL p ++ tL q).toArray) (by simp [results, Tryz.results132, go_sem, y0, y1, y2, y3, y4, y5, y6, y7, tL]) rfl ⟨by rw [hp.out], hBB.out⟩
  ·
   go_simp
   refine hK.out _ _ (hHeld.alloc _) (fun _ => ?_)
   clear hK K
   refine gen_any (fun V => RS w f m V ∧ (Bx V v44.heap.size z4 ∧ w.heap.size + 2 ≤ v44.heap.size) ∧ (Bx V v0.heap.size z4 ∧ w.heap.size + 2 ≤ v0.heap.size) ∧ v0.heap.size < v44.heap.size) ⟨hHeld.alloc _, ⟨Bx.new v44 z4 _, hHeld.room⟩, ⟨Nb.1.alloc _, Nb.2⟩, Nb.1.1⟩ ?_
   clear hHeld Nb
   rintro v54 ⟨hHeld, Na, Nb, ltba⟩
   refine rd 8 ⟨some 15, _, _, _, _, none⟩ rfl (fun K hK => ?_)
   go_simp
   refine (CA.out _ hHeld.lens).mono ?_
   rintro e v55 ⟨rfl, hb55⟩
   have hH55 := hHeld.below hb55
   have Na55 := And.intro (Na.1.below hb55) Na.2
   have Nb55 := And.intro (Nb.1.below hb55) Nb.2
   refine hK.out _ _ hH55 (fun _ => ?_)
   clear hK K hb55 hHeld Na Nb
   have hHeld := hH55; clear hH55
   have Na := Na55; clear Na55
   have Nb := Nb55; clear Nb55
   refine rd 17 ⟨some 24, _, _, _, _, none⟩ rfl (fun K hK => ?_)
   go_simp
   refine (CB.out _ hHeld.lens).mono ?_
   rintro e v56 ⟨rfl, hb56⟩
   have hH56 := hHeld.below hb56
   have Na56 := And.intro (Na.1.below hb56) Na.2
   have Nb56 := And.intro (Nb.1.below hb56) Nb.2
   refine hK.out _ _ hH56 (fun _ => ?_)
   clear hK K hb56 hHeld Na Nb
   have hHeld := hH56; clear hH56
   have Na := Na56; clear Na56
   have Nb := Nb56; clear Nb56
   refine rd 20 ⟨none, _, _, _, _, none⟩ rfl (fun K hK => ?_)
   refine (if_pos (by kernel_rfl)).mpr (wp_store_mid 23 _ _ rfl (v44.heap.size) 0 (tL p).toArray rfl rfl Na.1.there (by kernel_rfl) (tL_one _) ?_)
   refine hK.out _ _ (hHeld.set (b := v44.heap.size) Na.2 (tL p)) (fun _ => ?_)
   clear hK K
   refine gen_any (w1 := v56.setCells (v44.heap.size) 0 (tL p)) (fun V => RS w f m V ∧ (Bx V v44.heap.size (tL p) ∧ w.heap.size + 2 ≤ v44.heap.size) ∧ (Bx V v0.heap.size (z4) ∧ w.heap.size + 2 ≤ v0.heap.size)) ⟨hHeld.set Na.2 (tL p), ⟨Na.1.setAll (tL p) rfl, Na.2⟩, ⟨Nb.1.setOther (b := v44.heap.size) (by omega) (tL p), Nb.2⟩⟩ ?_
   clear hHeld Na Nb
   rintro v57 ⟨hHeld, Na, Nb⟩
   refine rd 21 ⟨none, _, _, _, _, none⟩ rfl (fun K hK => ?_)
   refine (if_pos (by kernel_rfl)).mpr (wp_store_mid 23 _ _ rfl (v0.heap.size) 0 (tL q).toArray rfl rfl Nb.1.there (by kernel_rfl) (tL_one _) ?_)
   refine hK.out _ _ (hHeld.set (b := v0.heap.size) Nb.2 (tL q)) (fun _ => ?_)
   clear hK K
   refine gen_any (w1 := v57.setCells (v0.heap.size) 0 (tL q)) (fun V => RS w f m V ∧ (Bx V v0.heap.size (tL q) ∧ w.heap.size + 2 ≤ v0.heap.size) ∧ (Bx V v44.heap.size (tL p) ∧ w.heap.size + 2 ≤ v44.heap.size)) ⟨hHeld.set Nb.2 (tL q), ⟨Nb.1.setAll (tL q) rfl, Nb.2⟩, ⟨Na.1.setOther (b := v0.heap.size) (by omega) (tL q), Na.2⟩⟩ ?_
   clear hHeld Na Nb
   rintro v58 ⟨hHeld, Nb, Na⟩
   refine wpAnyH_done (by kernel_rfl) ?_ _
   have d0 := Na.1.c 0 rfl
   have e0 := Nb.1.c 0 rfl
   have d1 := Na.1.c 1 rfl
   have e1 := Nb.1.c 1 rfl
   have d2 := Na.1.c 2 rfl
   have e2 := Nb.1.c 2 rfl
   have d3 := Na.1.c 3 rfl
   have e3 := Nb.1.c 3 rfl
   have r0 := hHeld.2.2.2.c 0 rfl
   have s0 := hHeld.2.2.2.f 0 rfl
   have r1 := hHeld.2.2.2.c 1 rfl
   have s1 := hHeld.2.2.2.f 1 rfl
   have r2 := hHeld.2.2.2.c 2 rfl
   have s2 := hHeld.2.2.2.f 2 rfl
   have r3 := hHeld.2.2.2.c 3 rfl
   have s3 := hHeld.2.2.2.f 3 rfl
   have r4 := hHeld.2.2.2.c 4 rfl
   have s4 := hHeld.2.2.2.f 4 rfl
   have r5 := hHeld.2.2.2.c 5 rfl
   have s5 := hHeld.2.2.2.f 5 rfl
   have r6 := hHeld.2.2.2.c 6 rfl
   have s6 := hHeld.2.2.2.f 6 rfl
   have r7 := hHeld.2.2.2.c 7 rfl
   have s7 := hHeld.2.2.2.f 7 rfl
   have HB := hHeld.1
   by_cases hlt : q.t < p.t
   ·have hp : Hid (pairL p q = tL q ++ tL p) := if_pos hlt
    have Y := hHeld.2.2.2.setAll (tL q ++ tL p) rfl
    have y0 := Y.c 0 rfl
    have y1 := Y.c 1 rfl
    have y2 := Y.c 2 rfl
    have y3 := Y.c 3 rfl
    have y4 := Y.c 4 rfl
    have y5 := Y.c 5 rfl
    have y6 := Y.c 6 rfl
    have y7 := Y.c 7 rfl
    simp only [World.setCells, tL, List.cons_append, List.nil_append, Nat.zero_add, Nat.reduceAdd] at y0 y1 y2 y3 y4 y5 y6 y7
    have hBB : Hid (Below w.heap.size w (v58.setCells (w.heap.size + 1) 0 (tL q ++ tL p))) := below_setCells (by omega) _ _ _ HB
    clear Y hHeld Na Nb HB
    go_wp2
    refine bodyPost_ret (v := .agg (tL q ++ tL p).toArray) (by simp [results, Tryz.results132, go_sem, y0, y1, y2, y3, y4, y5, y6, y7, tL]) rfl ⟨by rw [hp.out], hBB.out⟩
   ·have hp : Hid (pairL p q = tL p ++ tL q) := if_neg hlt
    have Y := hHeld.2.2.2.setAll (tL p ++ tL q) rfl
    have y0 := Y.c 0 rfl
    have y1 := Y.c 1 rfl
    have y2 := Y.c 2 rfl
    have y3 := Y.c 3 rfl
    have y4 := Y.c 4 rfl
    have y5 := Y.c 5 rfl
    have y6 := Y.c 6 rfl
    have y7 := Y.c 7 rfl
    simp only [World.setCells, tL, List.cons_append, List.nil_append, Nat.zero_add, Nat.reduceAdd] at y0 y1 y2 y3 y4 y5 y6 y7
    have hBB : Hid (Below w.heap.size w (v58.setCells (w.heap.size + 1) 0 (tL p ++ tL q))) := below_setCells (by omega) _ _ _ HB
    clear Y hHeld Na Nb HB
    go_wp2
    refine bodyPost_ret (v := .agg (tL p ++ tL q).toArray) (by simp [results, Tryz.results132, go_sem, y0, y1, y2, y3, y4, y5, y6, y7, tL]) rfl ⟨by rw [hp.out], hBB.out⟩
open Go Go.RowKit
open Go.ChangeMaps (setBlock heap_setBlock_same heap_setBlock_other)
def Ab (m : Nat) (J : Nat → World → Prop) : Prop :=
 ∀ k W W' row, J k W → W.grownBy W' row → (∀ r, row = some r → r = m) → J k W'
def Kept (S : List Nat) (W W' : World) : Prop := W.heap.size ≤ W'.heap.size ∧ ∀ k ∈ S, W'.heap[k]? = W.heap[k]?
theorem Kept.refl (S : List Nat) (W : World) : Kept S W W := ⟨Nat.le_refl _, fun _ _ => rfl⟩
theorem Kept.trans {S : List Nat} {A B C : World} (h : Kept S A B) (k : Kept S B C) : Kept S A C :=
 ⟨Nat.le_trans h.1 k.1, fun i hi => (k.2 i hi).trans (h.2 i hi)⟩
theorem Kept.putObj {S : List Nat} {W : World} {l : Nat} (o : Obj) (hl : l ∉ S) : Kept S W (W.putObj l o) :=
 ⟨by simp, fun k hk => World.putObj_heap_other (by intro e; subst e; exact hl hk)⟩
def SeqM (F : Fence) (n : Nat) (P : Program) (gf : Nat) (lb : Array Value) (m : Nat) (S : List Nat) (vs : Nat → Value) (N : Nat) (w : World) : Prop :=
 ∀ (l : Nat) (J Jx : Nat → World → Prop) (W : World), Below w.heap.size w W → Ab m J → Ab m Jx →
  (∀ k W1, k < N → J k W1 → YieldAt F (n - 1) P l #[vs k] W1 fun e W' =>
   (e = zr (.bool true) ∧ J (k + 1) W' ∧ Kept S W1 W') ∨ (e = zr (.bool false) ∧ Jx (k + 1) W')) →
  J 0 W →
  CallsIn F n P gf (#[.func (.yield l) #[] #[]] ++ lb) W fun e W' => (∃ v, e = .returned v) ∧ (J N W' ∨ ∃ k, k < N ∧ Jx (k + 1) W')
def OwnM (m B : Nat) (I : Nat → World → Prop) : Prop :=
 ∀ k W W' row, I k W → W.grownBy W' row → (∀ r, row = some r → r = m ∨ (B ≤ r ∧ ∃ o : Obj, W.heap[r]? = some o ∧ o.isCells = false)) → I k W'
theorem OwnM.putObj {m B : Nat} {I : Nat → World → Prop} (h : OwnM m B I) {k : Nat} {W : World} {l : Nat} {o : Obj} (o' : Obj) (hs : I k W) (hB : B ≤ l) (hl : W.heap[l]? = some o) (ho : o.isCells = false) : I k (W.putObj l o') :=
 h k W _ (some l) hs (grownBy_putObj' W l o') (fun r e => by cases e; exact .inr ⟨hB, o, hl, ho⟩)
theorem OwnM.alloc {m B : Nat} {I : Nat → World → Prop} (h : OwnM m B I) {k : Nat} {W : World} (o : Obj) (hs : I k W) : I k (W.alloc o) :=
 h k W _ none hs (World.grownBy_alloc W o none) (fun r e => by cases e)
def roundM (B : Nat) (S : List Nat) (I : Nat → World → Prop) (Ix : Code → Nat → World → Prop) (k : Nat) (W : World) : Exit → Act → World → Prop
 | .normal, _, W' => KeepsFrom B W W' ∧ Kept S W W' ∧ I k W'
 | .ret, _, W' => KeepsFrom B W W' ∧ Ix .ret k W'
 | .exit id, _, W' => KeepsFrom B W W' ∧ Ix (.exit id) k W'
 | .goto _, _, _ => False
 | .panic _, _, _ => False
 | .outgrown, _, _ => False
theorem grown_keeps {W W' : World} {row : Option Nat} {k m : Nat} {o : Obj} (hg : W.grownBy W' row) (hr : ∀ r, row = some r → r = m) (hk : k ≠ m) (h : W.heap[k]? = some o) : W'.heap[k]? = some o :=
 (hg.block k (Array.getElem?_eq_some_iff.1 h).1 (fun e => hk (hr k e.symm))).trans h
theorem rangeM {F : Fence} {n : Nat} {P : Program} {g : Operand} {ps : Array Tmp} {assign body : Code} {Q : Exit → Act → World → Prop} {a : Act} {w : World}
  (hro : F.round = none) (h1 : 1 ≤ n) {gf : Nat} {lb : Array Value} (hg : a.eval g = .func (.func gf) #[] lb) (hFg : F.fn gf) (eg : ∀ args w, (callFunc gf args).run P w = .ok (.enter gf args) w)
  {m : Nat} {S : List Nat} {vs : Nat → Value} {N : Nat} (hseq : SeqM F (n - 1) P gf lb m S vs N w) (hm : m < w.heap.size) (hS : ∀ k ∈ S, k < w.heap.size) (hps : ps.size = 1)
  (I : Nat → World → Prop) (Ix : Code → Nat → World → Prop) (hI : OwnM m w.heap.size I) (hIx : ∀ c, OwnM m w.heap.size (Ix c)) (h0 : I 0 w) (Ax : Nat → Act → World → Prop)
  (hAx : ∀ k a' W l o o', Ax k a' W → w.heap.size ≤ l → W.heap[l]? = some o → o.isCells = false → Ax k a' (W.putObj l o'))
  (hassign : ∀ (l k : Nat) (W : World) (K : Act → World → Prop), I k W → w.heap.size < W.heap.size → (∀ a' W', KeepsFrom w.heap.size W W' → Kept S W W' → I k W' → Ax k a' W' → K a' W') →
   assign.wpIn (F.inRound l) (n - 1 - 1) P (Exit.then K (fun _ _ _ => False)) { tmps := (ps.zip #[vs k]).foldl (fun t (p, v) => t.setIfInBounds p v) a.tmps, defers := [] } W)
  (hbody : ∀ (l k : Nat) (a' : Act) (W : World), I k W → Ax k a' W → k < N → w.heap.size < W.heap.size → body.wpIn (F.inRound l) (n - 1 - 1) P (roundM w.heap.size S I Ix (k + 1) W) a' W)
  (hdone : ∀ (D : Nat) (W : World), w.heap.size ≤ D → I N W → W.heap[D]? = some (.deferred (some [])) → Q .normal { a with defers := { target := .collected D, args := #[] } :: a.defers } W)
  (hstop : ∀ (D : Nat) (c : Code) (k : Nat) (W : World), w.heap.size ≤ D → k < N → Ix c (k + 1) W → W.heap[D]? = some (.deferred (some [])) → c.wpIn F n P Q { a with defers := { target := .collected D, args := #[] } :: a.defers } W) :
  (Code.rangeFunc g ps assign body).wpIn F n P Q a w := by
 refine wpIn_rangeFunc ?_
 intro fn hfn
 rw [hro]
 let rec' : LoopState → Option Code → Loop := fun st pe => { state := st, pending := pe, fn, tmps := a.tmps, params := ps, assign, body, defers := w.heap.size }
 obtain ⟨W1, hW1⟩ : ∃ W1, (w.alloc (.deferred (some []))).alloc (.loop (rec' .ready none)) = W1 := ⟨_, rfl⟩
 have hz1 : W1.heap.size = w.heap.size + 2 := by rw [← hW1]; simp
 have hL1 : W1.heap[w.heap.size + 1]? = some (.loop (rec' .ready none)) := by
  rw [← hW1]; have := World.alloc_heap_new (w.alloc (.deferred (some []))) (.loop (rec' .ready none)); rwa [World.size_alloc] at this
 have hK1 : W1.heap[w.heap.size]? = some (.deferred (some [])) := by
  rw [← hW1]; exact (Below.heap_alloc _ _ _ (by simp)).trans (World.alloc_heap_new w _)
 have hI1 : I 0 W1 := by rw [← hW1]; exact hI.alloc _ (hI.alloc _ h0)
 have hb1 : Below w.heap.size w W1 := by
  rw [← hW1]; exact ((Below.refl _ w).alloc (Nat.le_refl _) _).alloc (by simp) _
 have hlS : w.heap.size + 1 ∉ S := fun h => by have := hS _ h; omega
 have inj : ∀ {A : World} {row : Option Nat}, (∀ r, row = some r → r = m) → (∀ r, row = some r → r = m ∨ (w.heap.size ≤ r ∧ ∃ o : Obj, A.heap[r]? = some o ∧ o.isCells = false)) := fun h r e => .inl (h r e)
 refine ⟨w.heap.size + 1, [{ target := .collected w.heap.size, args := #[] }], W1, { target := .fn (.func gf) lb, args := #[.func (.yield (w.heap.size + 1)) #[] #[]] }, W1, gf,
  #[.func (.yield (w.heap.size + 1)) #[] #[]] ++ lb, W1, ?_, ?_, ?_, ?_, fun _ => h1, ?_⟩
 ·rw [← hW1]; exact run_enterLoop_outer _ _ _ _ _
 ·simp only [resolve, hg]
  simp [go_sem]
 ·intro f' hf'; simp [Target.leads] at hf'; subst hf'; exact hFg
 ·simp [invoke, go_sem, eg]
 ·refine (hseq (w.heap.size + 1)
   (fun k W => I k W ∧ W.heap[w.heap.size + 1]? = some (.loop (rec' .ready none)) ∧ W.heap[w.heap.size]? = some (.deferred (some [])))
   (fun k W => ∃ c, Ix c k W ∧ W.heap[w.heap.size + 1]? = some (.loop (rec' .done (some c))) ∧ W.heap[w.heap.size]? = some (.deferred (some [])))
   W1 hb1
   (fun k A B row hs hg' hr => ⟨hI k A B row hs.1 hg' (inj hr), grown_keeps hg' hr (by omega) hs.2.1, grown_keeps hg' hr (by omega) hs.2.2⟩)
   (fun k A B row hs hg' hr => by
    obtain ⟨c, hc, hl, hk⟩ := hs
    exact ⟨c, hIx c k A B row hc hg' (inj hr), grown_keeps hg' hr (by omega) hl, grown_keeps hg' hr (by omega) hk⟩)
   ?_ ⟨hI1, hL1, hK1⟩).mono ?_
  ·rintro k W hkN ⟨hi, hl, hk⟩
   have hlt : w.heap.size + 1 < W.heap.size := (Array.getElem?_eq_some_iff.1 hl).1
   have hy := run_yield (P := P) (args := #[vs k]) hl (by simp [rec', hps])
   refine ⟨fn, _, assign, body, hy, roundIn_of_wpIn hfn (hassign _ k W _ hi (by omega) (fun a' V hkV hpV hiV hxV => ?_))⟩
   have hlV : V.heap[w.heap.size + 1]? = some (.loop (rec' .ready none)) := hkV.same _ _ (by omega) hl rfl
   have hdV : V.heap[w.heap.size]? = some (.deferred (some [])) := hkV.same _ _ (Nat.le_refl _) hk rfl
   have hltV : w.heap.size + 1 < V.heap.size := (Array.getElem?_eq_some_iff.1 hlV).1
   refine ⟨_, run_beginRound hlV rfl, ?_⟩
   have hl2 : (V.putObj (w.heap.size + 1) (.loop { rec' .ready none with state := .busy })).heap[w.heap.size + 1]? = some (.loop { rec' .ready none with state := .busy }) := World.putObj_heap_same hltV
   have hk2 : (V.putObj (w.heap.size + 1) (.loop { rec' .ready none with state := .busy })).heap[w.heap.size]? = some (.deferred (some [])) := (World.putObj_heap_other (by omega)).trans hdV
   refine wpIn_mono (hbody _ k a' _ (hI.putObj _ hiV (by omega) hlV rfl) (hAx _ _ _ _ _ _ hxV (by omega) hlV rfl) hkN (by simp; omega)) ?_
   have fin : ∀ (jump : Option Code) (W3 : World), KeepsFrom w.heap.size (V.putObj (w.heap.size + 1) (.loop { rec' .ready none with state := .busy })) W3 →
     (Instr.endRound (w.heap.size + 1) jump).run P W3 = .ok (.bool jump.isNone) (W3.putObj (w.heap.size + 1) (.loop (rec' (if jump.isNone then .ready else .done) jump))) ∧
     W3.heap[w.heap.size + 1]? = some (.loop { rec' .ready none with state := .busy }) ∧
     (W3.putObj (w.heap.size + 1) (.loop (rec' (if jump.isNone then .ready else .done) jump))).heap[w.heap.size + 1]? = some (.loop (rec' (if jump.isNone then .ready else .done) jump)) ∧
     (W3.putObj (w.heap.size + 1) (.loop (rec' (if jump.isNone then .ready else .done) jump))).heap[w.heap.size]? = some (.deferred (some [])) := fun jump W3 hk3 => by
    have hl3 := hk3.same _ _ (by omega) hl2 rfl
    exact ⟨run_endRound (P := P) jump hl3, hl3, World.putObj_heap_same (Array.getElem?_eq_some_iff.1 hl3).1, (World.putObj_heap_other (by omega)).trans (hk3.same _ _ (Nat.le_refl _) hk2 rfl)⟩
   rintro e a3 W3 hp
   cases e with
   | normal =>
    obtain ⟨hk3, hkp3, hi3⟩ := hp
    obtain ⟨hr, hl3, hl4, hk4⟩ := fin none W3 hk3
    exact ⟨_, _, hr, .inl ⟨rfl, ⟨hI.putObj _ hi3 (by omega) hl3 rfl, hl4, hk4⟩, (hpV.trans ((Kept.putObj _ hlS).trans hkp3)).trans (Kept.putObj _ hlS)⟩⟩
   | ret =>
    obtain ⟨hk3, hi3⟩ := hp
    obtain ⟨hr, hl3, hl4, hk4⟩ := fin (some .ret) W3 hk3
    exact ⟨_, _, hr, .inr ⟨rfl, .ret, (hIx _).putObj _ hi3 (by omega) hl3 rfl, hl4, hk4⟩⟩
   | exit id =>
    obtain ⟨hk3, hi3⟩ := hp
    obtain ⟨hr, hl3, hl4, hk4⟩ := fin (some (.exit id)) W3 hk3
    exact ⟨_, _, hr, .inr ⟨rfl, .exit id, (hIx _).putObj _ hi3 (by omega) hl3 rfl, hl4, hk4⟩⟩
   | goto t => exact hp.elim
   | panic ch => exact hp.elim
   | outgrown => exact hp.elim
  ·rintro e W2 ⟨⟨v, rfl⟩, (⟨hi, hl, hk⟩ | ⟨k, hkN, c, hi, hl, hk⟩)⟩
   ·exact ⟨none, _, run_endLoop (P := P) hl (by simp [rec']), hdone _ _ (Nat.le_refl _) (hI.putObj _ hi (by omega) hl rfl) ((World.putObj_heap_other (by omega)).trans hk)⟩
   ·exact ⟨some c, _, run_endLoop (P := P) hl (by simp [rec']), hstop _ c k _ (Nat.le_refl _) hkN ((hIx c).putObj _ hi (by omega) hl rfl) ((World.putObj_heap_other (by omega)).trans hk)⟩
theorem wpListIn_load_mid {F : Fence} {n : Nat} {P : Program} {ops : Array Oper} {rest : List Oper} {op : Oper} {a : Act} {w : World} {Q : Exit → Act → World → Prop} (hgd : op.guard = none) (ty : TypeId) (x : Operand) (ho : op.op = .load ty x)
  (b o : Nat) (hx : a.eval x = .pointer (some ⟨b, o, none⟩)) (cs : List Value) (d : TypeDesc) (hc : w.rangeAt b o cs)
  (hu : P.underlying ty = some d) (hd : d.isRow = true) (hi : (P.info? ty).map (·.size) = some cs.length)
  (h : wpListIn F n P ops Q rest (a.put op.dst (.agg cs.toArray)) w) : wpListIn F n P ops Q (op :: rest) a w := by
 refine wpListIn_plain hgd fun K' hK' => ?_
 unfold Oper.wpIn
 refine ⟨by simp [Oper.about, ho], ?_⟩
 rw [Oper.semAt_plain F _ _ (by rw [ho]; intro c hc'; cases hc')]
 simp only [execOp, ho, hx, Sem.run_bind, run_loadAt_mid w b o ty cs d hc hu hd hi, Sem.run_pure, Result.andThen_ok]
 exact hK' _ _ h
theorem gen_listIn {F : Fence} {n : Nat} {P : Program} {ops : Array Oper} {Q : Exit → Act → World → Prop} {rest : List Oper} {a : Act} {w1 : World} (T : World → Prop) (h : T w1) (k : ∀ w2, T w2 → wpListIn F n P ops Q rest a w2) : wpListIn F n P ops Q rest a w1 := k _ h
def MapF (W : World) (b : Nat) (f : Int → Value) : Prop :=
 ∃ es clock, W.heap[b]? = some (.map es clock) ∧ ∀ e ∈ es.toList, ∃ k : Int, e.key = vi ki k ∧ e.val = f k
theorem findNow_F {f : Int → Value} (y : Int) : ∀ (es : List MapEntry) (i : Nat), (∀ e ∈ es, ∃ k : Int, e.key = vi ki k ∧ e.val = f k) →
  Instr.findNow (.int .i64) (vi ki y) es i = some none ∨ ∃ j, Instr.findNow (.int .i64) (vi ki y) es i = some (some (j, f y)) ∧ j - i < es.length ∧ i ≤ j ∧ (es[j - i]?).map (·.key) = some (vi ki y)
 | [], i, _ => .inl rfl
 | e :: es, i, h => by
  obtain ⟨k, hk, hv⟩ := h e (by simp)
  by_cases hy : y = k
  ·subst hy
   exact .inr ⟨i, by simp [Instr.findNow, Instr.sameNow, hk, hv], by simp, Nat.le_refl _, by simp [hk]⟩
  ·have hyb : (y == k) = false := by simpa using hy
   rcases findNow_F y es (i + 1) (fun e' he' => h e' (by simp [he'])) with h1 | ⟨j, h1, h2, h3, h4⟩
   ·exact .inl (by simp [Instr.findNow, Instr.sameNow, hk, hyb, h1])
   ·refine .inr ⟨j, by simp [Instr.findNow, Instr.sameNow, hk, hyb, h1], ?_, by omega, ?_⟩
    ·simp; omega
    ·have : j - i = (j - (i + 1)) + 1 := by omega
     rw [this]; simpa using h4
theorem sameBits_int (y : Int) : Instr.sameBits 10000 (vi ki y) (vi ki y) = true := by
 unfold Instr.sameBits; simp
theorem lookup_F {P : Program} {t K E : TypeId} (ht : P.underlying t = some (.map K E)) (hK : P.underlying K = some (.int .i64)) {z : Value} {W : World} (hz : (zeroValue E).run P W = .ok z W)
  {b : Nat} {f : Int → Value} (h : MapF W b f) (y : Int) :
  (Instr.lookup t (.map (some b)) (vi ki y) true).run P W = .ok (.tuple #[z, .bool false]) W ∨ (Instr.lookup t (.map (some b)) (vi ki y) true).run P W = .ok (.tuple #[f y, .bool true]) W := by
 obtain ⟨es, clock, hb, hes⟩ := h
 have hc : ∀ e, (Instr.checkKey e 10000 K (vi ki y)).run P W = .ok () W := fun e => MapKept.run_checkKey hK (by trivial) e 9999
 rcases findNow_F y es.toList 0 hes with h1 | ⟨j, h1, _⟩
 ·left
  simp [Instr.lookup, Instr.findKey, run_underlying ht, run_underlying hK, MapKept.run_getObj_map hb, hc, h1, hz, Result.andThen]
 ·right
  simp [Instr.lookup, Instr.findKey, run_underlying ht, run_underlying hK, MapKept.run_getObj_map hb, hc, h1, Result.andThen]
theorem update_F {P : Program} {t K E : TypeId} (ht : P.underlying t = some (.map K E)) (hK : P.underlying K = some (.int .i64)) {W : World}
  {b : Nat} {f : Int → Value} (h : MapF W b f) (y : Int) :
  ∃ W', (Instr.mapUpdate t (.map (some b)) (vi ki y) (f y)).run P W = .ok () W' ∧ MapF W' b f ∧ W.grownBy W' (some b) := by
 obtain ⟨es, clock, hb, hes⟩ := h
 have hc : ∀ e, (Instr.checkKey e 10000 K (vi ki y)).run P W = .ok () W := fun e => MapKept.run_checkKey hK (by trivial) e 9999
 rcases findNow_F y es.toList 0 hes with h1 | ⟨j, h1, h2, h3, h4⟩
 ·refine ⟨setBlock W b (.map (es.push ⟨vi ki y, f y, clock⟩) (clock + 1)), ?_, ⟨_, _, heap_setBlock_same hb _, ?_⟩, ⟨rfl, rfl, rfl, by simp [setBlock], fun i _ hi => heap_setBlock_other hb _ (fun e => hi (by rw [e]))⟩⟩
  ·simp [Instr.mapUpdate, Instr.findKey, run_underlying ht, run_underlying hK, MapKept.run_getObj_map hb, hc, h1, MapKept.run_setObj_map _ hb, Result.andThen, setBlock]
  ·intro e he
   simp only [Array.toList_push, List.mem_append, List.mem_singleton] at he
   rcases he with he | rfl
   ·exact hes e he
   ·exact ⟨y, rfl, rfl⟩
 ·have hk : ((es[j]?).map (·.key)).getD (vi ki y) = vi ki y := by
   rw [Nat.sub_zero, Array.getElem?_toList] at h4; rw [h4]; rfl
  refine ⟨setBlock W b (.map (es.modify j fun e => { e with key := vi ki y, val := f y }) clock), ?_, ⟨_, _, heap_setBlock_same hb _, ?_⟩, ⟨rfl, rfl, rfl, by simp [setBlock], fun i _ hi => heap_setBlock_other hb _ (fun e => hi (by rw [e]))⟩⟩
  ·simp [Instr.mapUpdate, Instr.findKey, run_underlying ht, run_underlying hK, MapKept.run_getObj_map hb, hc, h1, hk, Instr.keyThatStays, sameBits_int, MapKept.run_setObj_map _ hb, Result.andThen, setBlock]
  ·intro e he
   rw [Array.toList_modify] at he
   obtain ⟨i, hi, rfl⟩ := List.mem_iff_getElem.1 he
   rw [List.getElem_modify]
   split
   ·exact ⟨y, rfl, rfl⟩
   ·exact hes _ (List.getElem_mem _)
theorem MapF.kept {W W' : World} {row : Option Nat} {b : Nat} {f : Int → Value} (h : MapF W b f) (hg : W.grownBy W' row) (hne : row ≠ some b) : MapF W' b f := by
 obtain ⟨es, clock, hb, hes⟩ := h
 exact ⟨es, clock, (hg.block b (Array.getElem?_eq_some_iff.1 hb).1 (fun e => hne e.symm)).trans hb, hes⟩
theorem MapF.same {W W' : World} {b : Nat} {f : Int → Value} (h : MapF W b f) (hg : W'.heap[b]? = W.heap[b]?) : MapF W' b f := by
 obtain ⟨es, clock, hb, hes⟩ := h
 exact ⟨es, clock, hg.trans hb, hes⟩
theorem MapF.made (W : World) (f : Int → Value) : MapF (W.alloc (.map #[] 0)) W.heap.size f :=
 ⟨#[], 0, World.alloc_heap_new W _, by simp⟩
theorem okF_of {f : Ft} (h : okF f = true) : -50400 ≤ f.off ∧ f.off ≤ 50400 ∧ okH f.A = true ∧ okH f.B = true ∧ far f.A.m f.B.m = true ∧ f.h = true := by
 simp only [okF, Bool.and_eq_true, decide_eq_true_eq] at h
 exact ⟨h.1.1.1.1.2, h.1.1.1.2, h.1.1.2, h.1.2, h.2, h.1.1.1.1.1⟩
theorem reckon_any (f : Ft) (m : Nat) (y : Int) (hf : okF f = true) (hy : dyY y) (w : World) (hL0 : Cvl.Lens w) :
  Calls Tryz.prog 132 #[.agg (cL f m).toArray, vi ki y] w fun e w' => e = zr (.agg (pairL (trOf f.off f.A f.B y) (trOf f.off f.B f.A y)).toArray) ∧ Below w.heap.size w w' := by
 obtain ⟨o1, o2, hA, hB, _⟩ := okF_of hf
 exact reckon_run f m y _ _ (fun w hw => to_any f m f.A f.B y hA hB o1 o2 hy w hw) (fun w hw => to_any f m f.B f.A y hB hA o1 o2 hy w hw) w hL0
def sh1 (f : Ft) (y : Int) : Tr := if (trOf f.off f.B f.A y).t < (trOf f.off f.A f.B y).t then trOf f.off f.B f.A y else trOf f.off f.A f.B y
def sh2 (f : Ft) (y : Int) : Tr := if (trOf f.off f.B f.A y).t < (trOf f.off f.A f.B y).t then trOf f.off f.A f.B y else trOf f.off f.B f.A y
def prL (f : Ft) (y : Int) : List Value := tL (sh1 f y) ++ tL (sh2 f y)
def prV (f : Ft) (y : Int) : Value := .agg (prL f y).toArray
theorem pair_pr (f : Ft) (y : Int) : pairL (trOf f.off f.A f.B y) (trOf f.off f.B f.A y) = prL f y := by unfold pairL prL sh1 sh2; split <;> rfl
theorem lens_map {W : World} {m : Nat} {f : Int → Value} (hL : Cvl.Lens W) (hM : MapF W m f) : 0 ≠ m := fun e => by
 obtain ⟨es, c, hb, _⟩ := hM
 have := hL 0 (by decide)
 rw [e] at this
 simp [World.cell?, hb] at this
theorem setCells_heap (b : Nat) : ∀ (vs : List Value) (W : World) (i k : Nat), k ≠ b → (W.setCells b i vs).heap[k]? = W.heap[k]?
 | [], _, _, _, _ => rfl
 | v :: vs, W, i, k, h => by
  rw [World.setCells, setCells_heap b vs _ _ _ h]
  exact Below.heap_setCell _ _ _ _ h
theorem Bx.grown {W W' : World} {b m : Nat} {l : List Value} (h : Bx W b l) (hg : W.grownBy W' (some m)) (hb : b ≠ m) : Bx W' b l := by
 have e : W'.heap[b]? = W.heap[b]? := hg.block b h.1 (fun q => hb (by cases q; rfl))
 exact ⟨Nat.lt_of_lt_of_le h.1 hg.size, fun i v q => ⟨(World.cell?_of_block (w := W) e).trans (h.2 i v q).1, (World.frozen?_of_block (w := W) e).trans (h.2 i v q).2⟩⟩
theorem grown_of_below {w w' : World} {row : Option Nat} (h : Below w.heap.size w w') : w.grownBy w' row := ⟨h.os, h.tape, h.output, h.size, fun k hk _ => h.block k hk⟩
theorem grown_setCells {w : World} (b m : Nat) (hb : w.heap.size ≤ b) (vs : List Value) (W : World) (i : Nat) (h : w.grownBy W (some m)) : w.grownBy (W.setCells b i vs) (some m) := by
 induction vs generalizing W i with
 | nil => exact h
 | cons v vs ih =>
  refine ih _ _ ⟨h.os, h.tape, h.output, by simpa [World.setCell] using h.size, fun k hk hn => ?_⟩
  exact (Below.heap_setCell _ _ _ _ (by simp; omega)).trans (h.block k hk hn)
theorem gen_list {P : Program} {ops : Array Oper} {Q : Exit → Act → World → Prop} {rest : List Oper} {a : Act} {w1 : World} (T : World → Prop) (h : T w1) (k : ∀ w2, T w2 → wpList P ops Q rest a w2) : wpList P ops Q rest a w1 := k _ h
theorem gen_code {P : Program} {c : Code} {Q : Exit → Act → World → Prop} {a : Act} {w1 : World} (T : World → Prop) (h : T w1) (k : ∀ w2, T w2 → Code.wp P c Q a w2) : Code.wp P c Q a w1 := k _ h
theorem ret_tr {p q : Tr} (h : p = q) : Ending.returned (.agg #[vi ki p.t, vi ki p.o, .bool p.d, .string p.a]) = zr (.agg (tL q).toArray) := by rw [h]; rfl
theorem pq_one (p q : Tr) : (#[vi ki p.t, vi ki p.o, .bool p.d, .string p.a, vi ki q.t, vi ki q.o, .bool q.d, .string q.a] : Array Value).all (·.oneCell') = true := all_oneCell_toArray (cs := [vi ki p.t, vi ki p.o, .bool p.d, .string p.a, vi ki q.t, vi ki q.o, .bool q.d, .string q.a]) (by intro v hv; simp at hv; rcases hv with rfl | rfl | rfl | rfl | rfl | rfl | rfl | rfl <;> rfl)
theorem shift_run (f : Ft) (m : Nat) (y i : Int) (hi : i = 0 ∨ i = 1) (p q : Tr) (F : Int → Value) (hF : F y = .agg #[vi ki p.t, vi ki p.o, .bool p.d, .string p.a, vi ki q.t, vi ki q.o, .bool q.d, .string q.a])
  (RK : Hid (∀ w : World, Cvl.Lens w → Calls Tryz.prog 132 #[.agg (cL f m).toArray, vi ki y] w fun e w' => e = zr (.agg #[vi ki p.t, vi ki p.o, .bool p.d, .string p.a, vi ki q.t, vi ki q.o, .bool q.d, .string q.a]) ∧ Below w.heap.size w w'))
  (w : World) (hL0 : Hid (Cvl.Lens w)) (hM : MapF w m F) :
  Calls Tryz.prog 123 #[.agg #[.bool f.h, vi ki f.fr, vi ki f.off, vi ki f.A.m, vi ki f.A.k, vi ki f.A.d, vi ki f.A.n, vi ki f.A.s, .int .u8 f.A.z, vi ki f.A.v, .string f.A.t, vi ki f.B.m, vi ki f.B.k, vi ki f.B.d, vi ki f.B.n, vi ki f.B.s, .int .u8 f.B.z, vi ki f.B.v, .string f.B.t, .map (some m)], vi ki y, vi ki i] w fun e w' => e = zr (.agg (tL (if i = 0 then p else q)).toArray) ∧ MapF w' m F ∧ w.grownBy w' (some m) := by
 have hml : m < w.heap.size := by obtain ⟨es, c, hb, _⟩ := hM; exact (Array.getElem?_eq_some_iff.1 hb).1
 have HB1 : Hid (Below w.heap.size w (((w.alloc (.cells #[.bool f.h, vi ki f.fr, vi ki f.off, vi ki f.A.m, vi ki f.A.k, vi ki f.A.d, vi ki f.A.n, vi ki f.A.s, .int .u8 f.A.z, vi ki f.A.v, .string f.A.t, vi ki f.B.m, vi ki f.B.k, vi ki f.B.d, vi ki f.B.n, vi ki f.B.s, .int .u8 f.B.z, vi ki f.B.v, .string f.B.t, .map (some m)] 159)).alloc (.cells #[vi ki 0, vi ki 0, .bool false, .string ⟨#[]⟩] 23)).alloc (.cells #[vi ki 0, vi ki 0, .bool false, .string ⟨#[]⟩, vi ki 0, vi ki 0, .bool false, .string ⟨#[]⟩] 188))) := ((((Below.refl _ _).alloc (by simp <;> omega) _).alloc (by simp <;> omega) _).alloc (by simp <;> omega) _)
 have Y0 : Hid (Bx (((w.alloc (.cells #[.bool f.h, vi ki f.fr, vi ki f.off, vi ki f.A.m, vi ki f.A.k, vi ki f.A.d, vi ki f.A.n, vi ki f.A.s, .int .u8 f.A.z, vi ki f.A.v, .string f.A.t, vi ki f.B.m, vi ki f.B.k, vi ki f.B.d, vi ki f.B.n, vi ki f.B.s, .int .u8 f.B.z, vi ki f.B.v, .string f.B.t, .map (some m)] 159)).alloc (.cells #[vi ki 0, vi ki 0, .bool false, .string ⟨#[]⟩] 23)).alloc (.cells #[vi ki 0, vi ki 0, .bool false, .string ⟨#[]⟩, vi ki 0, vi ki 0, .bool false, .string ⟨#[]⟩] 188)) (w.heap.size) (cL f m)) := (((Bx.newAt w (cL f m) _ _ (by simp)).alloc _).alloc _)
 have Y1 : Hid (Bx (((w.alloc (.cells #[.bool f.h, vi ki f.fr, vi ki f.off, vi ki f.A.m, vi ki f.A.k, vi ki f.A.d, vi ki f.A.n, vi ki f.A.s, .int .u8 f.A.z, vi ki f.A.v, .string f.A.t, vi ki f.B.m, vi ki f.B.k, vi ki f.B.d, vi ki f.B.n, vi ki f.B.s, .int .u8 f.B.z, vi ki f.B.v, .string f.B.t, .map (some m)] 159)).alloc (.cells #[vi ki 0, vi ki 0, .bool false, .string ⟨#[]⟩] 23)).alloc (.cells #[vi ki 0, vi ki 0, .bool false, .string ⟨#[]⟩, vi ki 0, vi ki 0, .bool false, .string ⟨#[]⟩] 188)) (w.heap.size + 1) (z4)) := ((Bx.newAt (w.alloc (.cells #[.bool f.h, vi ki f.fr, vi ki f.off, vi ki f.A.m, vi ki f.A.k, vi ki f.A.d, vi ki f.A.n, vi ki f.A.s, .int .u8 f.A.z, vi ki f.A.v, .string f.A.t, vi ki f.B.m, vi ki f.B.k, vi ki f.B.d, vi ki f.B.n, vi ki f.B.s, .int .u8 f.B.z, vi ki f.B.v, .string f.B.t, .map (some m)] 159)) (z4) _ _ (by simp)).alloc _)
 have Y2 : Hid (Bx (((w.alloc (.cells #[.bool f.h, vi ki f.fr, vi ki f.off, vi ki f.A.m, vi ki f.A.k, vi ki f.A.d, vi ki f.A.n, vi ki f.A.s, .int .u8 f.A.z, vi ki f.A.v, .string f.A.t, vi ki f.B.m, vi ki f.B.k, vi ki f.B.d, vi ki f.B.n, vi ki f.B.s, .int .u8 f.B.z, vi ki f.B.v, .string f.B.t, .map (some m)] 159)).alloc (.cells #[vi ki 0, vi ki 0, .bool false, .string ⟨#[]⟩] 23)).alloc (.cells #[vi ki 0, vi ki 0, .bool false, .string ⟨#[]⟩, vi ki 0, vi ki 0, .bool false, .string ⟨#[]⟩] 188)) (w.heap.size + 2) (z8)) := (Bx.newAt ((w.alloc (.cells #[.bool f.h, vi ki f.fr, vi ki f.off, vi ki f.A.m, vi ki f.A.k, vi ki f.A.d, vi ki f.A.n, vi ki f.A.s, .int .u8 f.A.z, vi ki f.A.v, .string f.A.t, vi ki f.B.m, vi ki f.B.k, vi ki f.B.d, vi ki f.B.n, vi ki f.B.s, .int .u8 f.B.z, vi ki f.B.v, .string f.B.t, .map (some m)] 159)).alloc (.cells #[vi ki 0, vi ki 0, .bool false, .string ⟨#[]⟩] 23)) (z8) _ _ (by simp))
 have L1 : Hid (Cvl.Lens (((w.alloc (.cells #[.bool f.h, vi ki f.fr, vi ki f.off, vi ki f.A.m, vi ki f.A.k, vi ki f.A.d, vi ki f.A.n, vi ki f.A.s, .int .u8 f.A.z, vi ki f.A.v, .string f.A.t, vi ki f.B.m, vi ki f.B.k, vi ki f.B.d, vi ki f.B.n, vi ki f.B.s, .int .u8 f.B.z, vi ki f.B.v, .string f.B.t, .map (some m)] 159)).alloc (.cells #[vi ki 0, vi ki 0, .bool false, .string ⟨#[]⟩] 23)).alloc (.cells #[vi ki 0, vi ki 0, .bool false, .string ⟨#[]⟩, vi ki 0, vi ki 0, .bool false, .string ⟨#[]⟩] 188))) := Lens_below hL0.out HB1.out (Lens_lt hL0.out)
 have M0 : MapF ((w.alloc (.cells #[.bool f.h, vi ki f.fr, vi ki f.off, vi ki f.A.m, vi ki f.A.k, vi ki f.A.d, vi ki f.A.n, vi ki f.A.s, .int .u8 f.A.z, vi ki f.A.v, .string f.A.t, vi ki f.B.m, vi ki f.B.k, vi ki f.B.d, vi ki f.B.n, vi ki f.B.s, .int .u8 f.B.z, vi ki f.B.v, .string f.B.t, .map (some m)] 159)).alloc (.cells #[vi ki 0, vi ki 0, .bool false, .string ⟨#[]⟩] 23)) m F := hM.same (((Below.refl _ w).alloc (Nat.le_refl _) _ |>.alloc (by simp) _).block m hml)
 rcases lookup_F (P := Tryz.prog) (t := 157) Tryz.underlying157 Tryz.underlying2 (Tryz.zeroValue188 _) M0 y with hlk | hlk
 ·clear M0
  go_enter Tryz.func123, Tryz.ntmps123
  go_wp2_with (refine wpList_load_mid rfl 159 _ rfl w.heap.size 0 rfl (cL f m) _ Y0.out.all Tryz.underlying159 rfl (by kernel_rfl) ?_)
  refine (RK.out _ L1.out).mono ?_
  rintro e w1 ⟨rfl, hb⟩
  have HB2 := HB1.out.trans (hb.mono HB1.out.size)
  have M1 : MapF w1 m F := hM.same (HB2.block m hml)
  have A0 := Y0.out.below hb
  have A1 := Y1.out.below hb
  have A2 := Y2.out.below hb
  clear hb hlk HB1 Y0 Y1 Y2 L1 RK
  rcases hi with rfl | rfl
  ·go_wp2_with (refine wpList_store_mid rfl 188 _ _ rfl (w.heap.size + 1 + 1) 0 #[vi ki p.t, vi ki p.o, .bool p.d, .string p.a, vi ki q.t, vi ki q.o, .bool q.d, .string q.a] rfl rfl A2.there (by kernel_rfl) (pq_one p q) ?_; refine gen_list (fun V => Bx V w.heap.size (cL f m) ∧ Bx V (w.heap.size + 1) z4 ∧ Bx V (w.heap.size + 1 + 1) [vi ki p.t, vi ki p.o, .bool p.d, .string p.a, vi ki q.t, vi ki q.o, .bool q.d, .string q.a] ∧ MapF V m F ∧ Below w.heap.size w V) ⟨A0.setOther (b := (w.heap.size + 1 + 1)) (by omega) [vi ki p.t, vi ki p.o, .bool p.d, .string p.a, vi ki q.t, vi ki q.o, .bool q.d, .string q.a], A1.setOther (b := (w.heap.size + 1 + 1)) (by omega) [vi ki p.t, vi ki p.o, .bool p.d, .string p.a, vi ki q.t, vi ki q.o, .bool q.d, .string q.a], A2.setAll [vi ki p.t, vi ki p.o, .bool p.d, .string p.a, vi ki q.t, vi ki q.o, .bool q.d, .string q.a] rfl, M1.same (setCells_heap _ _ _ _ _ (by omega)), below_setCells (by omega) _ _ _ HB2⟩ ?_; rintro V ⟨E0, E1, E2, N1, BV⟩; clear A0 A1 A2 M1 HB2; obtain ⟨w2, hup, M3, hg⟩ := update_F (P := Tryz.prog) (t := 157) Tryz.underlying157 Tryz.underlying2 N1 y; rw [hF] at hup; have C1 := E1.grown hg (by omega); have C2 := E2.grown hg (by omega); have G2 : w.grownBy w2 (some m) := (grown_of_below BV).trans hg; have a0 := E2.c 0 rfl; have a1 := E2.c 1 rfl; have a2 := E2.c 2 rfl; have a3 := E2.c 3 rfl; have a4 := E2.c 4 rfl; have a5 := E2.c 5 rfl; have a6 := E2.c 6 rfl; have a7 := E2.c 7 rfl; have k19 : V.cell? ⟨w.heap.size, 19, none⟩ = some (Value.map (some m)) := E0.c 19 rfl; clear E0 E1 E2 N1 BV hg; have c0 := C2.c 0 rfl; have c1 := C2.c 1 rfl; have c2 := C2.c 2 rfl; have c3 := C2.c 3 rfl; have r0 := C1.c 0 rfl; have s0 := C1.f 0 rfl; have r1 := C1.c 1 rfl; have s1 := C1.f 1 rfl; have r2 := C1.c 2 rfl; have s2 := C1.f 2 rfl; have r3 := C1.c 3 rfl; have s3 := C1.f 3 rfl; have D := C1.setAll (tL p) rfl; have y0 := D.c 0 rfl; have y1 := D.c 1 rfl; have y2 := D.c 2 rfl; have y3 := D.c 3 rfl; have M4 : Hid (MapF (w2.setCells (w.heap.size + 1) 0 (tL p)) m F) := M3.same (setCells_heap _ _ _ _ _ (by omega)); have G4 : Hid (w.grownBy (w2.setCells (w.heap.size + 1) 0 (tL p)) (some m)) := grown_setCells _ _ (by omega) _ _ _ G2; simp only [World.setCells, tL, Nat.zero_add, Nat.reduceAdd] at y0 y1 y2 y3 M4 G4; clear D C1 C2 M3 G2)
   refine bodyPost_ret (v := .agg #[vi ki p.t, vi ki p.o, .bool p.d, .string p.a]) (by simp [results, Tryz.results123, go_sem, y0, y1, y2, y3]) rfl ⟨ret_tr (by simp), M4.out, G4.out⟩
  ·go_wp2_with (refine wpList_store_mid rfl 188 _ _ rfl (w.heap.size + 1 + 1) 0 #[vi ki p.t, vi ki p.o, .bool p.d, .string p.a, vi ki q.t, vi ki q.o, .bool q.d, .string q.a] rfl rfl A2.there (by kernel_rfl) (pq_one p q) ?_; refine gen_list (fun V => Bx V w.heap.size (cL f m) ∧ Bx V (w.heap.size + 1) z4 ∧ Bx V (w.heap.size + 1 + 1) [vi ki p.t, vi ki p.o, .bool p.d, .string p.a, vi ki q.t, vi ki q.o, .bool q.d, .string q.a] ∧ MapF V m F ∧ Below w.heap.size w V) ⟨A0.setOther (b := (w.heap.size + 1 + 1)) (by omega) [vi ki p.t, vi ki p.o, .bool p.d, .string p.a, vi ki q.t, vi ki q.o, .bool q.d, .string q.a], A1.setOther (b := (w.heap.size + 1 + 1)) (by omega) [vi ki p.t, vi ki p.o, .bool p.d, .string p.a, vi ki q.t, vi ki q.o, .bool q.d, .string q.a], A2.setAll [vi ki p.t, vi ki p.o, .bool p.d, .string p.a, vi ki q.t, vi ki q.o, .bool q.d, .string q.a] rfl, M1.same (setCells_heap _ _ _ _ _ (by omega)), below_setCells (by omega) _ _ _ HB2⟩ ?_; rintro V ⟨E0, E1, E2, N1, BV⟩; clear A0 A1 A2 M1 HB2; obtain ⟨w2, hup, M3, hg⟩ := update_F (P := Tryz.prog) (t := 157) Tryz.underlying157 Tryz.underlying2 N1 y; rw [hF] at hup; have C1 := E1.grown hg (by omega); have C2 := E2.grown hg (by omega); have G2 : w.grownBy w2 (some m) := (grown_of_below BV).trans hg; have a0 := E2.c 0 rfl; have a1 := E2.c 1 rfl; have a2 := E2.c 2 rfl; have a3 := E2.c 3 rfl; have a4 := E2.c 4 rfl; have a5 := E2.c 5 rfl; have a6 := E2.c 6 rfl; have a7 := E2.c 7 rfl; have k19 : V.cell? ⟨w.heap.size, 19, none⟩ = some (Value.map (some m)) := E0.c 19 rfl; clear E0 E1 E2 N1 BV hg; have c0 := C2.c 4 rfl; have c1 := C2.c 5 rfl; have c2 := C2.c 6 rfl; have c3 := C2.c 7 rfl; have r0 := C1.c 0 rfl; have s0 := C1.f 0 rfl; have r1 := C1.c 1 rfl; have s1 := C1.f 1 rfl; have r2 := C1.c 2 rfl; have s2 := C1.f 2 rfl; have r3 := C1.c 3 rfl; have s3 := C1.f 3 rfl; have D := C1.setAll (tL q) rfl; have y0 := D.c 0 rfl; have y1 := D.c 1 rfl; have y2 := D.c 2 rfl; have y3 := D.c 3 rfl; have M4 : Hid (MapF (w2.setCells (w.heap.size + 1) 0 (tL q)) m F) := M3.same (setCells_heap _ _ _ _ _ (by omega)); have G4 : Hid (w.grownBy (w2.setCells (w.heap.size + 1) 0 (tL q)) (some m)) := grown_setCells _ _ (by omega) _ _ _ G2; simp only [World.setCells, tL, Nat.zero_add, Nat.reduceAdd] at y0 y1 y2 y3 M4 G4; clear D C1 C2 M3 G2)
   refine bodyPost_ret (v := .agg #[vi ki q.t, vi ki q.o, .bool q.d, .string q.a]) (by simp [results, Tryz.results123, go_sem, y0, y1, y2, y3]) rfl ⟨ret_tr (by simp), M4.out, G4.out⟩
 ·clear RK L1
  rw [hF] at hlk
  have M1 := hM.same (HB1.out.block m hml)
  clear M0
  rcases hi with rfl | rfl
  ·go_enter Tryz.func123, Tryz.ntmps123
   go_wp2_with (refine wpList_store_mid rfl 188 _ _ rfl (w.heap.size + 1 + 1) 0 #[vi ki p.t, vi ki p.o, .bool p.d, .string p.a, vi ki q.t, vi ki q.o, .bool q.d, .string q.a] rfl rfl Y2.out.there (by kernel_rfl) (pq_one p q) ?_; refine gen_list (fun V => Bx V w.heap.size (cL f m) ∧ Bx V (w.heap.size + 1) z4 ∧ Bx V (w.heap.size + 1 + 1) [vi ki p.t, vi ki p.o, .bool p.d, .string p.a, vi ki q.t, vi ki q.o, .bool q.d, .string q.a] ∧ MapF V m F ∧ Below w.heap.size w V) ⟨Y0.out.setOther (b := (w.heap.size + 1 + 1)) (by omega) [vi ki p.t, vi ki p.o, .bool p.d, .string p.a, vi ki q.t, vi ki q.o, .bool q.d, .string q.a], Y1.out.setOther (b := (w.heap.size + 1 + 1)) (by omega) [vi ki p.t, vi ki p.o, .bool p.d, .string p.a, vi ki q.t, vi ki q.o, .bool q.d, .string q.a], Y2.out.setAll [vi ki p.t, vi ki p.o, .bool p.d, .string p.a, vi ki q.t, vi ki q.o, .bool q.d, .string q.a] rfl, M1.same (setCells_heap _ _ _ _ _ (by omega)), below_setCells (by omega) _ _ _ HB1.out⟩ ?_; rintro V ⟨E0, E1, E2, N1, BV⟩; clear M1 HB1 Y0 Y1 Y2; have C1 := E1; have C2 := E2; have M3 := N1; have G2 : w.grownBy V (some m) := grown_of_below BV; clear E0 E1 E2 N1 BV; have c0 := C2.c 0 rfl; have c1 := C2.c 1 rfl; have c2 := C2.c 2 rfl; have c3 := C2.c 3 rfl; have r0 := C1.c 0 rfl; have s0 := C1.f 0 rfl; have r1 := C1.c 1 rfl; have s1 := C1.f 1 rfl; have r2 := C1.c 2 rfl; have s2 := C1.f 2 rfl; have r3 := C1.c 3 rfl; have s3 := C1.f 3 rfl; have D := C1.setAll (tL p) rfl; have y0 := D.c 0 rfl; have y1 := D.c 1 rfl; have y2 := D.c 2 rfl; have y3 := D.c 3 rfl; have M4 : Hid (MapF (V.setCells (w.heap.size + 1) 0 (tL p)) m F) := M3.same (setCells_heap _ _ _ _ _ (by omega)); have G4 : Hid (w.grownBy (V.setCells (w.heap.size + 1) 0 (tL p)) (some m)) := grown_setCells _ _ (by omega) _ _ _ G2; simp only [World.setCells, tL, Nat.zero_add, Nat.reduceAdd] at y0 y1 y2 y3 M4 G4; clear D C1 C2 M3 G2)
   refine bodyPost_ret (v := .agg #[vi ki p.t, vi ki p.o, .bool p.d, .string p.a]) (by simp [results, Tryz.results123, go_sem, y0, y1, y2, y3]) rfl ⟨ret_tr (by simp), M4.out, G4.out⟩
  ·go_enter Tryz.func123, Tryz.ntmps123
   go_wp2_with (refine wpList_store_mid rfl 188 _ _ rfl (w.heap.size + 1 + 1) 0 #[vi ki p.t, vi ki p.o, .bool p.d, .string p.a, vi ki q.t, vi ki q.o, .bool q.d, .string q.a] rfl rfl Y2.out.there (by kernel_rfl) (pq_one p q) ?_; refine gen_list (fun V => Bx V w.heap.size (cL f m) ∧ Bx V (w.heap.size + 1) z4 ∧ Bx V (w.heap.size + 1 + 1) [vi ki p.t, vi ki p.o, .bool p.d, .string p.a, vi ki q.t, vi ki q.o, .bool q.d, .string q.a] ∧ MapF V m F ∧ Below w.heap.size w V) ⟨Y0.out.setOther (b := (w.heap.size + 1 + 1)) (by omega) [vi ki p.t, vi ki p.o, .bool p.d, .string p.a, vi ki q.t, vi ki q.o, .bool q.d, .string q.a], Y1.out.setOther (b := (w.heap.size + 1 + 1)) (by omega) [vi ki p.t, vi ki p.o, .bool p.d, .string p.a, vi ki q.t, vi ki q.o, .bool q.d, .string q.a], Y2.out.setAll [vi ki p.t, vi ki p.o, .bool p.d, .string p.a, vi ki q.t, vi ki q.o, .bool q.d, .string q.a] rfl, M1.same (setCells_heap _ _ _ _ _ (by omega)), below_setCells (by omega) _ _ _ HB1.out⟩ ?_; rintro V ⟨E0, E1, E2, N1, BV⟩; clear M1 HB1 Y0 Y1 Y2; have C1 := E1; have C2 := E2; have M3 := N1; have G2 : w.grownBy V (some m) := grown_of_below BV; clear E0 E1 E2 N1 BV; have c0 := C2.c 4 rfl; have c1 := C2.c 5 rfl; have c2 := C2.c 6 rfl; have c3 := C2.c 7 rfl; have r0 := C1.c 0 rfl; have s0 := C1.f 0 rfl; have r1 := C1.c 1 rfl; have s1 := C1.f 1 rfl; have r2 := C1.c 2 rfl; have s2 := C1.f 2 rfl; have r3 := C1.c 3 rfl; have s3 := C1.f 3 rfl; have D := C1.setAll (tL q) rfl; have y0 := D.c 0 rfl; have y1 := D.c 1 rfl; have y2 := D.c 2 rfl; have y3 := D.c 3 rfl; have M4 : Hid (MapF (V.setCells (w.heap.size + 1) 0 (tL q)) m F) := M3.same (setCells_heap _ _ _ _ _ (by omega)); have G4 : Hid (w.grownBy (V.setCells (w.heap.size + 1) 0 (tL q)) (some m)) := grown_setCells _ _ (by omega) _ _ _ G2; simp only [World.setCells, tL, Nat.zero_add, Nat.reduceAdd] at y0 y1 y2 y3 M4 G4; clear D C1 C2 M3 G2)
   refine bodyPost_ret (v := .agg #[vi ki q.t, vi ki q.o, .bool q.d, .string q.a]) (by simp [results, Tryz.results123, go_sem, y0, y1, y2, y3]) rfl ⟨ret_tr (by simp), M4.out, G4.out⟩
theorem shift_any (f : Ft) (m : Nat) (y i : Int) (hi : i = 0 ∨ i = 1) (hf : okF f = true) (hy : dyY y) (w : World) (hL0 : Cvl.Lens w) (hM : MapF w m (prV f)) :
  Calls Tryz.prog 123 #[.agg (cL f m).toArray, vi ki y, vi ki i] w fun e w' => e = zr (.agg (tL (if i = 0 then sh1 f y else sh2 f y)).toArray) ∧ MapF w' m (prV f) ∧ w.grownBy w' (some m) :=
 shift_run f m y i hi (sh1 f y) (sh2 f y) (prV f) rfl (fun w hw => by
  have R := reckon_any f m y hf hy w hw
  rw [pair_pr] at R
  exact R) w hL0 hM
theorem results_cell1 {P : Program} {fn : Func} {p : Tmp} {ty : TypeId} (h : fn.results = #[.cell p ty]) (tmps : Array Value) (w : World) (a : Addr) (v : Value) (hp : tmps[p]?.getD undef = .pointer (some a)) (hl : (loadVar ty a).run P w = .ok v w) :
  (results fn tmps).run P w = .ok v w := by
 simp [results, h, hp, asAddr, hl]
theorem MapF.madeAt (W : World) (f : Int → Value) (b : Nat) (h : W.heap.size = b) : MapF (W.alloc (.map #[] 0)) b f := h ▸ MapF.made W f
theorem cal_one (f : Ft) (m : Nat) : (#[.bool f.h, vi ki f.fr, vi ki f.off, vi ki f.A.m, vi ki f.A.k, vi ki f.A.d, vi ki f.A.n, vi ki f.A.s, .int .u8 f.A.z, vi ki f.A.v, .string f.A.t, vi ki f.B.m, vi ki f.B.k, vi ki f.B.d, vi ki f.B.n, vi ki f.B.s, .int .u8 f.B.z, vi ki f.B.v, .string f.B.t, .map (some m)] : Array Value).all (·.oneCell') = true := all_oneCell_toArray (cs := cL f m) (by
 intro v hv
 simp only [cL, List.mem_cons, List.not_mem_nil, or_false] at hv
 repeat' (rcases hv with rfl | hv)
 all_goals first | rfl | (subst hv; rfl))
attribute [local go_sem] Oper.semAt_some
def shK (f : Ft) (y0 : Int) (k : Nat) : Tr := if k % 2 = 0 then sh1 f (y0 + (k / 2 : Nat)) else sh2 f (y0 + (k / 2 : Nat))
theorem shK_0 (f : Ft) (y0 : Int) (j : Nat) : shK f y0 (2 * j) = sh1 f (y0 + j) := by unfold shK; rw [if_pos (by omega), show 2 * j / 2 = j by omega]
theorem shK_1 (f : Ft) (y0 : Int) (j : Nat) : shK f y0 (2 * j + 1) = sh2 f (y0 + j) := by unfold shK; rw [if_neg (by omega), show (2 * j + 1) / 2 = j by omega]
structure ItS (f : Ft) (m bf bt bc : Nat) (y0 y1 : Int) (W : World) : Prop where
 cf : W.cell? ⟨bf, 0, none⟩ = some (vi ki y0)
 ct : W.cell? ⟨bt, 0, none⟩ = some (vi ki y1)
 cc : Bx W bc (cL f m)
 mp : MapF W m (prV f)
 ln : Cvl.Lens W
 lf : bf < W.heap.size
 lt : bt < W.heap.size
 nf : bf ≠ m
 nt : bt ≠ m
 nc : bc ≠ m
theorem Lens_same {W V : World} (h : Cvl.Lens W) (e : V.heap[0]? = W.heap[0]?) : Cvl.Lens V := fun i hi => (World.cell?_of_block (w := W) e).trans (h i hi)
theorem ItS.grown {f : Ft} {m bf bt bc : Nat} {y0 y1 : Int} {W V : World} (h : ItS f m bf bt bc y0 y1 W) (hg : W.grownBy V (some m)) (hM : MapF V m (prV f)) : ItS f m bf bt bc y0 y1 V :=
 ⟨(World.cell?_of_block (w := W) (hg.block bf h.lf (fun q => h.nf (by cases q; rfl)))).trans h.cf, (World.cell?_of_block (w := W) (hg.block bt h.lt (fun q => h.nt (by cases q; rfl)))).trans h.ct, h.cc.grown hg h.nc, hM,
  Lens_same h.ln (hg.block _ (Lens_lt h.ln) (fun q => lens_map h.ln h.mp (by cases q; rfl))), Nat.lt_of_lt_of_le h.lf hg.size, Nat.lt_of_lt_of_le h.lt hg.size, h.nf, h.nt, h.nc⟩
theorem Bx.same {W V : World} {b : Nat} {l : List Value} (h : Bx W b l) (hs : W.heap.size ≤ V.heap.size) (e : V.heap[b]? = W.heap[b]?) : Bx V b l :=
 ⟨Nat.lt_of_lt_of_le h.1 hs, fun i v q => ⟨(World.cell?_of_block (w := W) e).trans (h.2 i v q).1, (World.frozen?_of_block (w := W) e).trans (h.2 i v q).2⟩⟩
theorem ItS.kept {f : Ft} {m bf bt bc : Nat} {y0 y1 : Int} {W V : World} (h : ItS f m bf bt bc y0 y1 W) (hk : Kept [bf, bt, bc, m, 0] W V) : ItS f m bf bt bc y0 y1 V :=
 ⟨(World.cell?_of_block (w := W) (hk.2 bf (by simp))).trans h.cf, (World.cell?_of_block (w := W) (hk.2 bt (by simp))).trans h.ct, h.cc.same hk.1 (hk.2 bc (by simp)), h.mp.same (hk.2 m (by simp)),
  Lens_same h.ln (hk.2 _ (by simp)), Nat.lt_of_lt_of_le h.lf hk.1, Nat.lt_of_lt_of_le h.lt hk.1, h.nf, h.nt, h.nc⟩
theorem it_in (f : Ft) (hf : okF f = true) (m bf bt bc n l : Nat) (y0 y1 : Int) (Y : Nat) (hY1 : y1 = y0 + Y - 1) (a1 : -4718 < y0) (a2 : y1 < 294282) (a3 : y0 ≤ 294282) (J Jx : Nat → World → Prop) (hJ : Ab m J)
  (hY : ∀ k W1, k < 2 * Y → J k W1 → YieldAt Fence.wide (n - 1) Tryz.prog l #[.agg (tL (shK f y0 k)).toArray] W1 fun e W' =>
   (e = zr (.bool true) ∧ J (k + 1) W' ∧ Kept [bf, bt, bc, m, 0] W1 W') ∨ (e = zr (.bool false) ∧ Jx (k + 1) W'))
  (W : World) (hS : ItS f m bf bt bc y0 y1 W) (h0 : J 0 W) :
  CallsIn Fence.wide n Tryz.prog 122 #[.func (.yield l) #[] #[], .pointer (some ⟨bf, 0, none⟩), .pointer (some ⟨bt, 0, none⟩), .pointer (some ⟨bc, 0, none⟩)] W fun e W' => (∃ v, e = .returned v) ∧ (J (2 * Y) W' ∨ ∃ k, k < 2 * Y ∧ Jx (k + 1) W') := by
 refine callsIn_of_wp Tryz.func122 rfl trivial ?_ rfl
 simp only [Tryz.ntmps122, List.size_toArray, List.length_cons, List.length_nil, Nat.reduceAdd, Nat.reduceSub, Array.replicate_succ, Array.replicate_zero, List.push_toArray, List.append_toArray, List.nil_append, List.cons_append]
 have cf := hS.cf
 have HY1 : Hid (y1 = y0 + Y - 1) := hY1
 clear hY1
 gi_wp2
 gi_loopw [5] (fun yv wr => ∃ j : Nat, yv = vi ki (y0 + j) ∧ j ≤ Y ∧ J (2 * j) wr ∧ ItS f m bf bt bc y0 y1 wr) (fun yv _ => (y1 + 1 - intOf yv).toNat)
 case atStart => exact ⟨0, by simp, by omega, h0, hS⟩
 case round =>
  obtain ⟨j, rfl, hj, hJj, hSj⟩ := hrel
  have ct := hSj.ct
  by_cases hlt : j < Y
  ·have hle : y0 + (j : Int) ≤ y1 := by have := HY1.out; omega
   gi_wp2
   gi_loopw [13] (fun iv wr => ∃ i : Nat, iv = vi ki (i : Int) ∧ i ≤ 2 ∧ J (2 * j + i) wr ∧ ItS f m bf bt bc y0 y1 wr) (fun iv _ => (2 - intOf iv).toNat)
   case atStart => exact ⟨0, rfl, by omega, hJj, hSj⟩
   case round =>
    obtain ⟨i, rfl, hi, hJi, hSi⟩ := hrel
    by_cases hi2 : i < 2
    ·have hi3 : (i : Int) < 2 := by omega
     have SH : Hid (∀ w : World, Cvl.Lens w → MapF w m (prV f) → Calls Tryz.prog 123 #[.agg (cL f m).toArray, vi ki (y0 + j), vi ki i] w fun e w' => e = zr (.agg (tL (shK f y0 (2 * j + i))).toArray) ∧ MapF w' m (prV f) ∧ w.grownBy w' (some m)) := fun w hw hm => by
      have R := shift_any f m (y0 + j) i (by omega) hf (by unfold dyY; omega) w hw hm
      have e : (if (i : Int) = 0 then sh1 f (y0 + j) else sh2 f (y0 + j)) = shK f y0 (2 * j + i) := by
       by_cases h : i = 0
       ·subst h; rw [if_pos (by rfl)]; exact (shK_0 f y0 j).symm
       ·obtain rfl : i = 1 := by omega
        rw [if_neg (by omega)]; exact (shK_1 f y0 j).symm
      rw [e] at R
      exact R
     have HS : Hid (ItS f m bf bt bc y0 y1 wr) := hSi
     have HJ : Hid (J (2 * j + i) wr) := hJi
     clear hSi hJi hSj hJj hS h0 cf ct
     gi_wp2_with (first | (refine wpListIn_load_mid rfl 159 _ rfl bc 0 rfl (cL f m) _ HS.out.cc.all Tryz.underlying159 rfl (by kernel_rfl) ?_) | fail)
     refine ⟨trivial, (fun h => by cases h), (callsIn_wide.2 (SH.out _ HS.out.ln HS.out.mp)).mono ?_⟩
     rintro e w1 ⟨rfl, M1, G1⟩
     have S1 : Hid (ItS f m bf bt bc y0 y1 w1) := HS.out.grown G1 M1
     have J1 : J (2 * j + i) w1 := hJ _ _ _ _ HJ.out G1 (fun r e => by cases e; rfl)
     clear HS HJ M1 G1 SH
     obtain ⟨fn, tmps, assign, body, hy, hR⟩ := hY (2 * j + i) w1 (by omega) J1
     have HR : Hid (RoundIn Fence.wide (n - 1) Tryz.prog l fn tmps assign body w1 fun e W' => (e = zr (.bool true) ∧ J (2 * j + i + 1) W' ∧ Kept [bf, bt, bc, m, 0] w1 W') ∨ (e = zr (.bool false) ∧ Jx (2 * j + i + 1) W')) := hR
     clear hR
     gi_wp2
     refine ⟨(fun h => by cases h), HR.out.mono ?_⟩
     rintro e w2 (⟨rfl, hJ2, hk2⟩ | ⟨rfl, hJx2⟩)
     ·have S2 : Hid (ItS f m bf bt bc y0 y1 w2) := S1.out.kept hk2
      have J2 : Hid (J (2 * j + i + 1) w2) := hJ2
      clear S1 hJ2 hk2 HR hy J1
      gi_wp2
      go_roundw
      case rel => exact ⟨i + 1, by simp, by omega, J2.out, S2.out⟩
      case measure => simp [intOf]; omega
     ·have J2 : Hid (Jx (2 * j + i + 1) w2) := hJx2
      clear S1 hJx2 HR hy J1
      gi_wp2
      refine bodyPost_ret (results_none rfl _ _ _) rfl ?_
      exact ⟨⟨_, rfl⟩, .inr ⟨2 * j + i, by omega, J2.out⟩⟩
    ·obtain rfl : i = 2 := by omega
     gi_wp2
     refine ⟨⟨j + 1, by rw [show y0 + ((j + 1 : Nat) : Int) = y0 + j + 1 by omega], by omega, by rw [show 2 * (j + 1) = 2 * j + 2 by omega]; exact hJi, hSi⟩, ?_⟩
     simp [intOf]; omega
  ·have hle : ¬ y0 + (j : Int) ≤ y1 := by have := HY1.out; omega
   gi_wp2
   go_end0
   exact ⟨⟨_, rfl⟩, .inl (by rw [show Y = j by omega]; exact hJj)⟩
theorem it_seq (f : Ft) (hf : okF f = true) (m bf bt bc n : Nat) (y0 y1 : Int) (Y : Nat) (hY1 : y1 = y0 + Y - 1) (a1 : -4718 < y0) (a2 : y1 < 294282) (a3 : y0 ≤ 294282) (w : World) (hS : ItS f m bf bt bc y0 y1 w) :
  SeqM Fence.wide n Tryz.prog 122 #[.pointer (some ⟨bf, 0, none⟩), .pointer (some ⟨bt, 0, none⟩), .pointer (some ⟨bc, 0, none⟩)] m [bf, bt, bc, m, 0] (fun k => .agg (tL (shK f y0 k)).toArray) (2 * Y) w :=
 fun l J Jx W hW hJ hJx hY h0 => by
  have hml : m < w.heap.size := by obtain ⟨es, c, hb, _⟩ := hS.mp; exact (Array.getElem?_eq_some_iff.1 hb).1
  exact it_in f hf m bf bt bc n l y0 y1 Y hY1 a1 a2 a3 J Jx hJ hY W (hS.kept ⟨hW.size, fun k hk => by
   simp at hk
   rcases hk with rfl | rfl | rfl | rfl | rfl
   ·exact hW.block _ hS.lf
   ·exact hW.block _ hS.lt
   ·exact hW.block _ hS.cc.1
   ·exact hW.block _ hml
   ·exact hW.block _ (Lens_lt hS.ln)⟩) h0
theorem shifts_any (f : Ft) (m : Nat) (y0 y1 : Int) (w : World) :
  Calls Tryz.prog 105 #[.agg #[.bool f.h, vi ki f.fr, vi ki f.off, vi ki f.A.m, vi ki f.A.k, vi ki f.A.d, vi ki f.A.n, vi ki f.A.s, .int .u8 f.A.z, vi ki f.A.v, .string f.A.t, vi ki f.B.m, vi ki f.B.k, vi ki f.B.d, vi ki f.B.n, vi ki f.B.s, .int .u8 f.B.z, vi ki f.B.v, .string f.B.t, .map (some m)], vi ki y0, vi ki y1] w fun e w' => e = zr (.func (.func 122) #[] #[.pointer (some ⟨w.heap.size + 1, 0, none⟩), .pointer (some ⟨w.heap.size + 2, 0, none⟩), .pointer (some ⟨w.heap.size, 0, none⟩)]) ∧ w' = (((w.alloc (.cells #[.bool f.h, vi ki f.fr, vi ki f.off, vi ki f.A.m, vi ki f.A.k, vi ki f.A.d, vi ki f.A.n, vi ki f.A.s, .int .u8 f.A.z, vi ki f.A.v, .string f.A.t, vi ki f.B.m, vi ki f.B.k, vi ki f.B.d, vi ki f.B.n, vi ki f.B.s, .int .u8 f.B.z, vi ki f.B.v, .string f.B.t, .map (some m)] 159)).alloc (.cells #[vi ki y0] 2)).alloc (.cells #[vi ki y1] 2)) := by
 have hmf : ∀ (fn : Fn) (first cap : Array Value) (w : World), (Instr.makeFunc fn first cap).run Tryz.prog w = .ok (.func fn first cap) w := fun _ _ _ _ => rfl
 go_enter Tryz.func105, Tryz.ntmps105
 go_wp2
 go_ret
 exact ⟨rfl, rfl⟩
theorem begin_any (f : Ft) (w : World) :
  Calls Tryz.prog 104 #[.agg #[.bool f.h, vi ki f.fr, vi ki f.off, vi ki f.A.m, vi ki f.A.k, vi ki f.A.d, vi ki f.A.n, vi ki f.A.s, .int .u8 f.A.z, vi ki f.A.v, .string f.A.t, vi ki f.B.m, vi ki f.B.k, vi ki f.B.d, vi ki f.B.n, vi ki f.B.s, .int .u8 f.B.z, vi ki f.B.v, .string f.B.t]] w fun e w' => e = zr (.agg (cL f (w.heap.size + 2)).toArray) ∧ MapF w' (w.heap.size + 2) (prV f) ∧ Below w.heap.size w w' := by
 have hmm := @run_makeMap Tryz.prog
 have X0 : Hid (Bx ((w.alloc (.cells #[.bool f.h, vi ki f.fr, vi ki f.off, vi ki f.A.m, vi ki f.A.k, vi ki f.A.d, vi ki f.A.n, vi ki f.A.s, .int .u8 f.A.z, vi ki f.A.v, .string f.A.t, vi ki f.B.m, vi ki f.B.k, vi ki f.B.d, vi ki f.B.n, vi ki f.B.s, .int .u8 f.B.z, vi ki f.B.v, .string f.B.t] 44)).alloc (.cells #[.bool false, vi ki 0, vi ki 0, vi ki 0, vi ki 0, vi ki 0, vi ki 0, vi ki 0, .int .u8 0, vi ki 0, .string ⟨#[]⟩, vi ki 0, vi ki 0, vi ki 0, vi ki 0, vi ki 0, .int .u8 0, vi ki 0, .string ⟨#[]⟩, .map none] 159)) w.heap.size [.bool f.h, vi ki f.fr, vi ki f.off, vi ki f.A.m, vi ki f.A.k, vi ki f.A.d, vi ki f.A.n, vi ki f.A.s, .int .u8 f.A.z, vi ki f.A.v, .string f.A.t, vi ki f.B.m, vi ki f.B.k, vi ki f.B.d, vi ki f.B.n, vi ki f.B.s, .int .u8 f.B.z, vi ki f.B.v, .string f.B.t]) := (Bx.new w [.bool f.h, vi ki f.fr, vi ki f.off, vi ki f.A.m, vi ki f.A.k, vi ki f.A.d, vi ki f.A.n, vi ki f.A.s, .int .u8 f.A.z, vi ki f.A.v, .string f.A.t, vi ki f.B.m, vi ki f.B.k, vi ki f.B.d, vi ki f.B.n, vi ki f.B.s, .int .u8 f.B.z, vi ki f.B.v, .string f.B.t] _).alloc _
 have X1 : Hid (Bx (((w.alloc (.cells #[.bool f.h, vi ki f.fr, vi ki f.off, vi ki f.A.m, vi ki f.A.k, vi ki f.A.d, vi ki f.A.n, vi ki f.A.s, .int .u8 f.A.z, vi ki f.A.v, .string f.A.t, vi ki f.B.m, vi ki f.B.k, vi ki f.B.d, vi ki f.B.n, vi ki f.B.s, .int .u8 f.B.z, vi ki f.B.v, .string f.B.t] 44)).alloc (.cells #[.bool false, vi ki 0, vi ki 0, vi ki 0, vi ki 0, vi ki 0, vi ki 0, vi ki 0, .int .u8 0, vi ki 0, .string ⟨#[]⟩, vi ki 0, vi ki 0, vi ki 0, vi ki 0, vi ki 0, .int .u8 0, vi ki 0, .string ⟨#[]⟩, .map none] 159)).alloc (.map #[] 0)) (w.heap.size + 1) [.bool false, vi ki 0, vi ki 0, vi ki 0, vi ki 0, vi ki 0, vi ki 0, vi ki 0, .int .u8 0, vi ki 0, .string ⟨#[]⟩, vi ki 0, vi ki 0, vi ki 0, vi ki 0, vi ki 0, .int .u8 0, vi ki 0, .string ⟨#[]⟩, .map none]) := (Bx.newAt (w.alloc (.cells #[.bool f.h, vi ki f.fr, vi ki f.off, vi ki f.A.m, vi ki f.A.k, vi ki f.A.d, vi ki f.A.n, vi ki f.A.s, .int .u8 f.A.z, vi ki f.A.v, .string f.A.t, vi ki f.B.m, vi ki f.B.k, vi ki f.B.d, vi ki f.B.n, vi ki f.B.s, .int .u8 f.B.z, vi ki f.B.v, .string f.B.t] 44)) [.bool false, vi ki 0, vi ki 0, vi ki 0, vi ki 0, vi ki 0, vi ki 0, vi ki 0, .int .u8 0, vi ki 0, .string ⟨#[]⟩, vi ki 0, vi ki 0, vi ki 0, vi ki 0, vi ki 0, .int .u8 0, vi ki 0, .string ⟨#[]⟩, .map none] _ _ (by simp)).alloc _
 have BB : Hid (Below w.heap.size w (((w.alloc (.cells #[.bool f.h, vi ki f.fr, vi ki f.off, vi ki f.A.m, vi ki f.A.k, vi ki f.A.d, vi ki f.A.n, vi ki f.A.s, .int .u8 f.A.z, vi ki f.A.v, .string f.A.t, vi ki f.B.m, vi ki f.B.k, vi ki f.B.d, vi ki f.B.n, vi ki f.B.s, .int .u8 f.B.z, vi ki f.B.v, .string f.B.t] 44)).alloc (.cells #[.bool false, vi ki 0, vi ki 0, vi ki 0, vi ki 0, vi ki 0, vi ki 0, vi ki 0, .int .u8 0, vi ki 0, .string ⟨#[]⟩, vi ki 0, vi ki 0, vi ki 0, vi ki 0, vi ki 0, .int .u8 0, vi ki 0, .string ⟨#[]⟩, .map none] 159)).alloc (.map #[] 0))) := (((Below.refl _ _).alloc (by simp) _).alloc (by simp) _).alloc (by simp; omega) _
 have MM : Hid (MapF (((w.alloc (.cells #[.bool f.h, vi ki f.fr, vi ki f.off, vi ki f.A.m, vi ki f.A.k, vi ki f.A.d, vi ki f.A.n, vi ki f.A.s, .int .u8 f.A.z, vi ki f.A.v, .string f.A.t, vi ki f.B.m, vi ki f.B.k, vi ki f.B.d, vi ki f.B.n, vi ki f.B.s, .int .u8 f.B.z, vi ki f.B.v, .string f.B.t] 44)).alloc (.cells #[.bool false, vi ki 0, vi ki 0, vi ki 0, vi ki 0, vi ki 0, vi ki 0, vi ki 0, .int .u8 0, vi ki 0, .string ⟨#[]⟩, vi ki 0, vi ki 0, vi ki 0, vi ki 0, vi ki 0, .int .u8 0, vi ki 0, .string ⟨#[]⟩, .map none] 159)).alloc (.map #[] 0)) (w.heap.size + 1 + 1) (prV f)) := by
  exact MapF.madeAt ((w.alloc (.cells #[.bool f.h, vi ki f.fr, vi ki f.off, vi ki f.A.m, vi ki f.A.k, vi ki f.A.d, vi ki f.A.n, vi ki f.A.s, .int .u8 f.A.z, vi ki f.A.v, .string f.A.t, vi ki f.B.m, vi ki f.B.k, vi ki f.B.d, vi ki f.B.n, vi ki f.B.s, .int .u8 f.B.z, vi ki f.B.v, .string f.B.t] 44)).alloc (.cells #[.bool false, vi ki 0, vi ki 0, vi ki 0, vi ki 0, vi ki 0, vi ki 0, vi ki 0, .int .u8 0, vi ki 0, .string ⟨#[]⟩, vi ki 0, vi ki 0, vi ki 0, vi ki 0, vi ki 0, .int .u8 0, vi ki 0, .string ⟨#[]⟩, .map none] 159)) (prV f) _ (by simp)
 go_enter Tryz.func104, Tryz.ntmps104
 go_wp2_with (first | (refine wpList_load_mid rfl 44 _ rfl w.heap.size 0 rfl [.bool f.h, vi ki f.fr, vi ki f.off, vi ki f.A.m, vi ki f.A.k, vi ki f.A.d, vi ki f.A.n, vi ki f.A.s, .int .u8 f.A.z, vi ki f.A.v, .string f.A.t, vi ki f.B.m, vi ki f.B.k, vi ki f.B.d, vi ki f.B.n, vi ki f.B.s, .int .u8 f.B.z, vi ki f.B.v, .string f.B.t] _ X0.out.all Tryz.underlying44 rfl (by kernel_rfl) ?_) | (refine wpList_store_mid rfl 159 _ _ rfl (w.heap.size + 1) 0 #[.bool f.h, vi ki f.fr, vi ki f.off, vi ki f.A.m, vi ki f.A.k, vi ki f.A.d, vi ki f.A.n, vi ki f.A.s, .int .u8 f.A.z, vi ki f.A.v, .string f.A.t, vi ki f.B.m, vi ki f.B.k, vi ki f.B.d, vi ki f.B.n, vi ki f.B.s, .int .u8 f.B.z, vi ki f.B.v, .string f.B.t, .map (some (w.heap.size + 1 + 1))] rfl rfl X1.out.there (by kernel_rfl) (cal_one f _) ?_; refine gen_list (fun V => Bx V (w.heap.size + 1) (cL f (w.heap.size + 1 + 1)) ∧ MapF V (w.heap.size + 1 + 1) (prV f) ∧ Below w.heap.size w V) ⟨X1.out.setAll (cL f (w.heap.size + 1 + 1)) rfl, MM.out.same (setCells_heap _ _ _ _ _ (by omega)), below_setCells (by omega) _ _ _ BB.out⟩ ?_; rintro V ⟨E1, E2, E3⟩) | fail)
 have lv : (loadVar 159 ⟨w.heap.size + 1, 0, none⟩).run Tryz.prog V = .ok (.agg (cL f (w.heap.size + 1 + 1)).toArray) V := run_loadVar_mid V _ _ _ (cL f (w.heap.size + 1 + 1)) _ E1.all Tryz.underlying159 rfl (by kernel_rfl)
 refine bodyPost_ret (v := .agg (cL f (w.heap.size + 1 + 1)).toArray) ?_ rfl ⟨rfl, E2, E3⟩
 exact results_cell1 rfl _ _ _ _ rfl lv
attribute [local go_sem] Oper.semAt_some
theorem bel_lens {w V : World} (h : Below w.heap.size w V) (hL : Cvl.Lens w) : Cvl.Lens V := Lens_below hL h (Lens_lt hL)
theorem gen_codeIn {F : Fence} {n : Nat} {P : Program} {c : Code} {Q : Exit → Act → World → Prop} {a : Act} {w1 : World} (T : World → Prop) (h : T w1) (k : ∀ w2, T w2 → c.wpIn F n P Q a w2) : c.wpIn F n P Q a w1 := k _ h
end Go.Proofs.YtpdmndlpgjjopaaGreatDoor.Fn
