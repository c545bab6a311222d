import Derived.Test.YtklehbmghjcmaaaGreatDoorSz
import Derived.Test.YtklehbmghjcmaaaGreatDoorS1
import Derived.Deep.RegionHeld3
import Derived.Deep.RegionWith
import Derived.Deep.DeepMust
import Derived.Deep.QuietTactic
import Derived.BigQuiet
import Derived.Deep.LoopGhost
open Go.Value renaming int → vi
open Go.IntKind renaming i64 → ki
open List renaming setIfInBounds_toArray → zb, set_cons_zero → zc, set_cons_succ → zd
open Go.Act renaming put → za
open Go.Ending renaming returned → zr
set_option maxRecDepth 100000
set_option maxHeartbeats 16000000
set_option linter.unusedVariables false
namespace Go.Proofs.YtklehbmghjcmaaaGreatDoor
open Go.RowKit
def okOn (k d n : Int) : Prop := (k = 0 ∧ 1 ≤ n ∧ n ≤ 31 ∧ d = 0) ∨ (k = 1 ∧ 0 ≤ d ∧ d ≤ 6 ∧ n = 0) ∨ ((k = 2 ∨ k = 3) ∧ 0 ≤ d ∧ d ≤ 6 ∧ 1 ≤ n ∧ n ≤ 31)
instance (k d n : Int) : Decidable (okOn k d n) := by unfold okOn; infer_instance
def formV (k d n : Int) : Value :=
 if k = 0 then .iface 261 (.agg #[vi ki n]) else if k = 1 then .iface 263 (.agg #[vi ki d]) else .iface 265 (.agg #[vi ki d, vi ki n, .bool (decide (k = 3))])
def onV (k d n : Int) : Value := .agg #[vi ki k, vi ki d, vi ki n]
def OnS (w : World) (b : Nat) (k d n : Int) (W : World) : Prop :=
 b < W.heap.size ∧ W.cell? ⟨b, 0, none⟩ = some (vi ki k) ∧ W.cell? ⟨b, 1, none⟩ = some (vi ki d) ∧ W.cell? ⟨b, 2, none⟩ = some (vi ki n) ∧ Below w.heap.size w W
theorem OnS.below {w W W1 : World} {b : Nat} {k d n : Int} (h : OnS w b k d n W) (hb : Below W.heap.size W W1) : OnS w b k d n W1 :=
 ⟨Nat.lt_of_lt_of_le h.1 hb.size, (hb.cell (p := ⟨b, 0, none⟩) h.1).trans h.2.1, (hb.cell (p := ⟨b, 1, none⟩) h.1).trans h.2.2.1, (hb.cell (p := ⟨b, 2, none⟩) h.1).trans h.2.2.2.1, h.2.2.2.2.trans (hb.mono h.2.2.2.2.size)⟩
theorem OnS.drew {w W : World} {b : Nat} {k d n : Int} (h : OnS w b k d n W) : OnS w b k d n W.drew := ⟨h.1, h.2.1, h.2.2.1, h.2.2.2.1, h.2.2.2.2.drew⟩
theorem OnS.drewN {w W : World} {b : Nat} {k d n : Int} (h : OnS w b k d n W) (q : Nat) : OnS w b k d n (W.drewN q) := ⟨h.1, h.2.1, h.2.2.1, h.2.2.2.1, h.2.2.2.2.trans ⟨rfl, rfl, rfl, Nat.le_refl _, fun _ _ => rfl⟩⟩
theorem OnS.new (w : World) (k d n : Int) (t : TypeId) : OnS w w.heap.size k d n (w.alloc (.cells #[vi ki k, vi ki d, vi ki n] t)) :=
 ⟨by simp, by rw [World.cell?_alloc_at _ _ _ _ rfl]; rfl, by rw [World.cell?_alloc_at _ _ _ _ rfl]; rfl, by rw [World.cell?_alloc_at _ _ _ _ rfl]; rfl, (Below.refl _ _).alloc (Nat.le_refl _) _⟩
theorem canNum_yes (n : Int) (h1 : 1 ≤ n) (h2 : n ≤ 31) (w : World) :
  Calls Tryz.prog 265 #[.agg #[vi ki n]] w fun e w' => e = zr (.bool true) ∧ Below w.heap.size w w' := by
 go_enter Tryz.func265, Tryz.ntmps265
 go_wp2
 go_ret
 exact ⟨rfl, (by repeat' (first | assumption | exact Below.refl _ _ | exact Nat.le_refl _ | refine Below.alloc ?_ ?_ _ | (simp; done) | (simp; omega) | omega))⟩
theorem canNum_no (n : Int) (h : n < 1 ∨ 31 < n) (w : World) :
  Calls Tryz.prog 265 #[.agg #[vi ki n]] w fun e w' => e = zr (.bool false) ∧ Below w.heap.size w w' := by
 rcases h with h | h
 ·have h1 : ¬ 1 ≤ n := by omega
  go_enter Tryz.func265, Tryz.ntmps265
  go_wp2
  go_ret
  exact ⟨rfl, (by repeat' (first | assumption | exact Below.refl _ _ | exact Nat.le_refl _ | refine Below.alloc ?_ ?_ _ | (simp; done) | (simp; omega) | omega))⟩
 ·have h1 : 1 ≤ n := by omega
  have h2 : ¬ n ≤ 31 := by omega
  go_enter Tryz.func265, Tryz.ntmps265
  go_wp2
  go_ret
  exact ⟨rfl, (by repeat' (first | assumption | exact Below.refl _ _ | exact Nat.le_refl _ | refine Below.alloc ?_ ?_ _ | (simp; done) | (simp; omega) | omega))⟩
theorem canFin_yes (n : Int) (h1 : 0 ≤ n) (h2 : n ≤ 6) (w : World) :
  Calls Tryz.prog 268 #[.agg #[vi ki n]] w fun e w' => e = zr (.bool true) ∧ Below w.heap.size w w' := by
 have h3 : n < 7 := by omega
 go_enter Tryz.func268, Tryz.ntmps268
 go_wp2
 go_ret
 exact ⟨rfl, (by repeat' (first | assumption | exact Below.refl _ _ | exact Nat.le_refl _ | refine Below.alloc ?_ ?_ _ | (simp; done) | (simp; omega) | omega))⟩
theorem canFin_no (n : Int) (h : n < 0 ∨ 6 < n) (w : World) :
  Calls Tryz.prog 268 #[.agg #[vi ki n]] w fun e w' => e = zr (.bool false) ∧ Below w.heap.size w w' := by
 rcases h with h | h
 ·have h1 : ¬ 0 ≤ n := by omega
  go_enter Tryz.func268, Tryz.ntmps268
  go_wp2
  go_ret
  exact ⟨rfl, (by repeat' (first | assumption | exact Below.refl _ _ | exact Nat.le_refl _ | refine Below.alloc ?_ ?_ _ | (simp; done) | (simp; omega) | omega))⟩
 ·have h1 : 0 ≤ n := by omega
  have h2 : ¬ n < 7 := by omega
  go_enter Tryz.func268, Tryz.ntmps268
  go_wp2
  go_ret
  exact ⟨rfl, (by repeat' (first | assumption | exact Below.refl _ _ | exact Nat.le_refl _ | refine Below.alloc ?_ ?_ _ | (simp; done) | (simp; omega) | omega))⟩
theorem canBes_yes (d n : Int) (b : Bool) (h1 : 0 ≤ d) (h2 : d ≤ 6) (h3 : 1 ≤ n) (h4 : n ≤ 31) (w : World) :
  Calls Tryz.prog 271 #[.agg #[vi ki d, vi ki n, .bool b]] w fun e w' => e = zr (.bool true) ∧ Below w.heap.size w w' := by
 have h5 : d < 7 := by omega
 go_enter Tryz.func271, Tryz.ntmps271
 go_wp2
 go_ret
 exact ⟨rfl, (by repeat' (first | assumption | exact Below.refl _ _ | exact Nat.le_refl _ | refine Below.alloc ?_ ?_ _ | (simp; done) | (simp; omega) | omega))⟩
theorem canBes_no (d n : Int) (b : Bool) (h : d < 0 ∨ 6 < d ∨ (0 ≤ d ∧ d ≤ 6 ∧ n < 1) ∨ (0 ≤ d ∧ d ≤ 6 ∧ 31 < n)) (w : World) :
  Calls Tryz.prog 271 #[.agg #[vi ki d, vi ki n, .bool b]] w fun e w' => e = zr (.bool false) ∧ Below w.heap.size w w' := by
 rcases h with h | h | ⟨h1, h2, h3⟩ | ⟨h1, h2, h3⟩
 ·have h1 : ¬ 0 ≤ d := by omega
  go_enter Tryz.func271, Tryz.ntmps271
  go_wp2
  go_ret
  exact ⟨rfl, (by repeat' (first | assumption | exact Below.refl _ _ | exact Nat.le_refl _ | refine Below.alloc ?_ ?_ _ | (simp; done) | (simp; omega) | omega))⟩
 ·have h1 : 0 ≤ d := by omega
  have h2 : ¬ d < 7 := by omega
  go_enter Tryz.func271, Tryz.ntmps271
  go_wp2
  go_ret
  exact ⟨rfl, (by repeat' (first | assumption | exact Below.refl _ _ | exact Nat.le_refl _ | refine Below.alloc ?_ ?_ _ | (simp; done) | (simp; omega) | omega))⟩
 ·have h4 : d < 7 := by omega
  have h5 : ¬ 1 ≤ n := by omega
  go_enter Tryz.func271, Tryz.ntmps271
  go_wp2
  go_ret
  exact ⟨rfl, (by repeat' (first | assumption | exact Below.refl _ _ | exact Nat.le_refl _ | refine Below.alloc ?_ ?_ _ | (simp; done) | (simp; omega) | omega))⟩
 ·have h4 : d < 7 := by omega
  have h5 : 1 ≤ n := by omega
  have h6 : ¬ n ≤ 31 := by omega
  go_enter Tryz.func271, Tryz.ntmps271
  go_wp2
  go_ret
  exact ⟨rfl, (by repeat' (first | assumption | exact Below.refl _ _ | exact Nat.le_refl _ | refine Below.alloc ?_ ?_ _ | (simp; done) | (simp; omega) | omega))⟩
theorem onNum (n : Int) (w : World) :
  Calls Tryz.prog 266 #[.agg #[vi ki n]] w fun e w' => e = zr (.agg #[vi ki 0, vi ki 0, vi ki n]) ∧ Below w.heap.size w w' := by
 go_enter Tryz.func266, Tryz.ntmps266
 go_wp2
 refine bodyPost_ret (v := .agg #[vi ki 0, vi ki 0, vi ki n]) (by simp [results, Tryz.results266, go_sem]) rfl ⟨rfl, (by repeat' (first | assumption | exact Below.refl _ _ | exact Nat.le_refl _ | refine Below.alloc ?_ ?_ _ | (simp; done) | (simp; omega) | omega))⟩
theorem onFin (d : Int) (w : World) :
  Calls Tryz.prog 269 #[.agg #[vi ki d]] w fun e w' => e = zr (.agg #[vi ki 1, vi ki d, vi ki 0]) ∧ Below w.heap.size w w' := by
 go_enter Tryz.func269, Tryz.ntmps269
 go_wp2
 refine bodyPost_ret (v := .agg #[vi ki 1, vi ki d, vi ki 0]) (by simp [results, Tryz.results269, go_sem]) rfl ⟨rfl, (by repeat' (first | assumption | exact Below.refl _ _ | exact Nat.le_refl _ | refine Below.alloc ?_ ?_ _ | (simp; done) | (simp; omega) | omega))⟩
theorem onBesT (d n : Int) (w : World) :
  Calls Tryz.prog 272 #[.agg #[vi ki d, vi ki n, .bool true]] w fun e w' => e = zr (.agg #[vi ki 3, vi ki d, vi ki n]) ∧ Below w.heap.size w w' := by
 go_enter Tryz.func272, Tryz.ntmps272
 go_wp2
 refine bodyPost_ret (v := .agg #[vi ki 3, vi ki d, vi ki n]) (by simp [results, Tryz.results272, go_sem]) rfl ⟨rfl, (by repeat' (first | assumption | exact Below.refl _ _ | exact Nat.le_refl _ | refine Below.alloc ?_ ?_ _ | (simp; done) | (simp; omega) | omega))⟩
theorem onBesF (d n : Int) (w : World) :
  Calls Tryz.prog 272 #[.agg #[vi ki d, vi ki n, .bool false]] w fun e w' => e = zr (.agg #[vi ki 2, vi ki d, vi ki n]) ∧ Below w.heap.size w w' := by
 go_enter Tryz.func272, Tryz.ntmps272
 go_wp2
 refine bodyPost_ret (v := .agg #[vi ki 2, vi ki d, vi ki n]) (by simp [results, Tryz.results272, go_sem]) rfl ⟨rfl, (by repeat' (first | assumption | exact Below.refl _ _ | exact Nat.le_refl _ | refine Below.alloc ?_ ?_ _ | (simp; done) | (simp; omega) | omega))⟩
theorem fo_num (n : Int) (h1 : 1 ≤ n) (h2 : n ≤ 31) (w : World) :
  Calls Tryz.prog 224 #[.agg #[vi ki 0, vi ki 0, vi ki n]] w fun e w' => e = zr (.iface 261 (.agg #[vi ki n])) ∧ Below w.heap.size w w' := by
 have C : Hid (∀ w : World, Calls Tryz.prog 265 #[.agg #[vi ki n]] w fun e w' => e = zr (.bool true) ∧ Below w.heap.size w w') := canNum_yes n h1 h2
 have O : Hid (∀ w : World, Calls Tryz.prog 266 #[.agg #[vi ki n]] w fun e w' => e = zr (.agg #[vi ki 0, vi ki 0, vi ki n]) ∧ Below w.heap.size w w') := onNum n
 have S0 : Hid (OnS w w.heap.size 0 0 n (w.alloc (.cells #[vi ki 0, vi ki 0, vi ki n] 37))) := OnS.new w _ _ _ _
 go_enter Tryz.func224, Tryz.ntmps224
 go_wp2_with fail
 refine wp_region_held_drew (S := OnS w w.heap.size 0 0 n) (by kernel_rfl) S0.out.drew (fun hHeld => ?_)
 refine tks 0 ⟨some 30, _, _, _, _, none⟩ rfl ?_
 simp only [za, zb, zc, zd]
 refine rd 1 ⟨some 31, _, _, _, _, none⟩ rfl (fun K hK => ?_)
 go_simp
 refine (C.out _).mono ?_
 rintro e v1 ⟨rfl, hb1⟩
 refine hK.out _ _ (hHeld.below hb1) (fun hHeld => ?_)
 clear hK K hb1
 refine tks 2 ⟨some 32, _, _, _, _, none⟩ rfl ?_
 simp only [za, zb, zc, zd]
 refine tks 3 ⟨some 33, _, _, _, _, none⟩ rfl ?_
 simp only [za, zb, zc, zd]
 refine tks 4 ⟨some 34, _, _, _, _, some (3, false)⟩ rfl ?_
 simp only [za, zb, zc, zd]
 refine tk (v := ?_) 6 ⟨some 36, _, _, _, _, some (3, false)⟩ rfl ?_ ?_
 case refine_2 => (intro w9 hSw; obtain ⟨sa, sb, sc, sd, se⟩ := hSw; clear se; go_simp; try with_reducible rfl)
 simp only [za, zb, zc, zd]
 refine rd 5 ⟨some 35, _, _, _, _, some (3, false)⟩ rfl (fun K hK => ?_)
 go_simp
 refine (O.out _).mono ?_
 rintro e v2 ⟨rfl, hb2⟩
 refine hK.out _ _ (hHeld.below hb2) (fun hHeld => ?_)
 clear hK K hb2
 refine tks 7 ⟨some 37, _, _, _, _, some (3, false)⟩ rfl ?_
 simp only [za, zb, zc, zd]
 refine tks 8 ⟨some 38, _, _, _, _, none⟩ rfl ?_
 simp only [za, zb, zc, zd]
 refine wpAnyH_done (by kernel_rfl) ?_ _
 have HB : Hid (Below w.heap.size w _) := hHeld.2.2.2.2
 clear hHeld
 go_wp2
 go_ret
 exact ⟨rfl, HB.out⟩
theorem fo_fin (d : Int) (h1 : 0 ≤ d) (h2 : d ≤ 6) (w : World) :
  Calls Tryz.prog 224 #[.agg #[vi ki 1, vi ki d, vi ki 0]] w fun e w' => e = zr (.iface 263 (.agg #[vi ki d])) ∧ Below w.heap.size w w' := by
 have C : Hid (∀ w : World, Calls Tryz.prog 268 #[.agg #[vi ki d]] w fun e w' => e = zr (.bool true) ∧ Below w.heap.size w w') := canFin_yes d h1 h2
 have O : Hid (∀ w : World, Calls Tryz.prog 269 #[.agg #[vi ki d]] w fun e w' => e = zr (.agg #[vi ki 1, vi ki d, vi ki 0]) ∧ Below w.heap.size w w') := onFin d
 have S0 : Hid (OnS w w.heap.size 1 d 0 (w.alloc (.cells #[vi ki 1, vi ki d, vi ki 0] 37))) := OnS.new w _ _ _ _
 go_enter Tryz.func224, Tryz.ntmps224
 go_wp2_with fail
 refine wp_region_held_drew (S := OnS w w.heap.size 1 d 0) (by kernel_rfl) S0.out.drew (fun hHeld => ?_)
 refine tks 0 ⟨some 30, _, _, _, _, none⟩ rfl ?_
 simp only [za, zb, zc, zd]
 refine rd 1 ⟨some 31, _, _, _, _, none⟩ rfl (fun K hK => ?_)
 go_simp
 refine (C.out _).mono ?_
 rintro e v1 ⟨rfl, hb1⟩
 refine hK.out _ _ (hHeld.below hb1) (fun hHeld => ?_)
 clear hK K hb1
 refine tks 2 ⟨some 32, _, _, _, _, none⟩ rfl ?_
 simp only [za, zb, zc, zd]
 refine tks 3 ⟨some 33, _, _, _, _, none⟩ rfl ?_
 simp only [za, zb, zc, zd]
 refine tks 4 ⟨some 34, _, _, _, _, some (3, false)⟩ rfl ?_
 simp only [za, zb, zc, zd]
 refine tk (v := ?_) 6 ⟨some 36, _, _, _, _, some (3, false)⟩ rfl ?_ ?_
 case refine_2 => (intro w9 hSw; obtain ⟨sa, sb, sc, sd, se⟩ := hSw; clear se; go_simp; try with_reducible rfl)
 simp only [za, zb, zc, zd]
 refine rd 5 ⟨some 35, _, _, _, _, some (3, false)⟩ rfl (fun K hK => ?_)
 go_simp
 refine (O.out _).mono ?_
 rintro e v2 ⟨rfl, hb2⟩
 refine hK.out _ _ (hHeld.below hb2) (fun hHeld => ?_)
 clear hK K hb2
 refine tks 7 ⟨some 37, _, _, _, _, some (3, false)⟩ rfl ?_
 simp only [za, zb, zc, zd]
 refine tks 8 ⟨some 38, _, _, _, _, none⟩ rfl ?_
 simp only [za, zb, zc, zd]
 refine wpAnyH_done (by kernel_rfl) ?_ _
 have HB : Hid (Below w.heap.size w _) := hHeld.2.2.2.2
 clear hHeld
 go_wp2
 go_ret
 exact ⟨rfl, HB.out⟩
theorem fo_bes2 (d n : Int) (h1 : 0 ≤ d) (h2 : d ≤ 6) (h3 : 1 ≤ n) (h4 : n ≤ 31) (w : World) :
  Calls Tryz.prog 224 #[.agg #[vi ki 2, vi ki d, vi ki n]] w fun e w' => e = zr (.iface 265 (.agg #[vi ki d, vi ki n, .bool false])) ∧ Below w.heap.size w w' := by
 have C : Hid (∀ w : World, Calls Tryz.prog 271 #[.agg #[vi ki d, vi ki n, .bool false]] w fun e w' => e = zr (.bool true) ∧ Below w.heap.size w w') := canBes_yes d n false h1 h2 h3 h4
 have O : Hid (∀ w : World, Calls Tryz.prog 272 #[.agg #[vi ki d, vi ki n, .bool false]] w fun e w' => e = zr (.agg #[vi ki 2, vi ki d, vi ki n]) ∧ Below w.heap.size w w') := onBesF d n
 have S0 : Hid (OnS w w.heap.size 2 d n (w.alloc (.cells #[vi ki 2, vi ki d, vi ki n] 37))) := OnS.new w _ _ _ _
 go_enter Tryz.func224, Tryz.ntmps224
 go_wp2_with fail
 refine wp_region_held_drew (S := OnS w w.heap.size 2 d n) (by kernel_rfl) S0.out.drew (fun hHeld => ?_)
 refine tks 0 ⟨some 30, _, _, _, _, none⟩ rfl ?_
 simp only [za, zb, zc, zd]
 refine rd 1 ⟨some 31, _, _, _, _, none⟩ rfl (fun K hK => ?_)
 go_simp
 refine (C.out _).mono ?_
 rintro e v1 ⟨rfl, hb1⟩
 refine hK.out _ _ (hHeld.below hb1) (fun hHeld => ?_)
 clear hK K hb1
 refine tks 2 ⟨some 32, _, _, _, _, none⟩ rfl ?_
 simp only [za, zb, zc, zd]
 refine tks 3 ⟨some 33, _, _, _, _, none⟩ rfl ?_
 simp only [za, zb, zc, zd]
 refine tks 4 ⟨some 34, _, _, _, _, some (3, false)⟩ rfl ?_
 simp only [za, zb, zc, zd]
 refine tk (v := ?_) 6 ⟨some 36, _, _, _, _, some (3, false)⟩ rfl ?_ ?_
 case refine_2 => (intro w9 hSw; obtain ⟨sa, sb, sc, sd, se⟩ := hSw; clear se; go_simp; try with_reducible rfl)
 simp only [za, zb, zc, zd]
 refine rd 5 ⟨some 35, _, _, _, _, some (3, false)⟩ rfl (fun K hK => ?_)
 go_simp
 refine (O.out _).mono ?_
 rintro e v2 ⟨rfl, hb2⟩
 refine hK.out _ _ (hHeld.below hb2) (fun hHeld => ?_)
 clear hK K hb2
 refine tks 7 ⟨some 37, _, _, _, _, some (3, false)⟩ rfl ?_
 simp only [za, zb, zc, zd]
 refine tks 8 ⟨some 38, _, _, _, _, none⟩ rfl ?_
 simp only [za, zb, zc, zd]
 refine wpAnyH_done (by kernel_rfl) ?_ _
 have HB : Hid (Below w.heap.size w _) := hHeld.2.2.2.2
 clear hHeld
 go_wp2
 go_ret
 exact ⟨rfl, HB.out⟩
theorem fo_bes3 (d n : Int) (h1 : 0 ≤ d) (h2 : d ≤ 6) (h3 : 1 ≤ n) (h4 : n ≤ 31) (w : World) :
  Calls Tryz.prog 224 #[.agg #[vi ki 3, vi ki d, vi ki n]] w fun e w' => e = zr (.iface 265 (.agg #[vi ki d, vi ki n, .bool true])) ∧ Below w.heap.size w w' := by
 have C : Hid (∀ w : World, Calls Tryz.prog 271 #[.agg #[vi ki d, vi ki n, .bool true]] w fun e w' => e = zr (.bool true) ∧ Below w.heap.size w w') := canBes_yes d n true h1 h2 h3 h4
 have O : Hid (∀ w : World, Calls Tryz.prog 272 #[.agg #[vi ki d, vi ki n, .bool true]] w fun e w' => e = zr (.agg #[vi ki 3, vi ki d, vi ki n]) ∧ Below w.heap.size w w') := onBesT d n
 have S0 : Hid (OnS w w.heap.size 3 d n (w.alloc (.cells #[vi ki 3, vi ki d, vi ki n] 37))) := OnS.new w _ _ _ _
 go_enter Tryz.func224, Tryz.ntmps224
 go_wp2_with fail
 refine wp_region_held_drew (S := OnS w w.heap.size 3 d n) (by kernel_rfl) S0.out.drew (fun hHeld => ?_)
 refine tks 0 ⟨some 30, _, _, _, _, none⟩ rfl ?_
 simp only [za, zb, zc, zd]
 refine rd 1 ⟨some 31, _, _, _, _, none⟩ rfl (fun K hK => ?_)
 go_simp
 refine (C.out _).mono ?_
 rintro e v1 ⟨rfl, hb1⟩
 refine hK.out _ _ (hHeld.below hb1) (fun hHeld => ?_)
 clear hK K hb1
 refine tks 2 ⟨some 32, _, _, _, _, none⟩ rfl ?_
 simp only [za, zb, zc, zd]
 refine tks 3 ⟨some 33, _, _, _, _, none⟩ rfl ?_
 simp only [za, zb, zc, zd]
 refine tks 4 ⟨some 34, _, _, _, _, some (3, false)⟩ rfl ?_
 simp only [za, zb, zc, zd]
 refine tk (v := ?_) 6 ⟨some 36, _, _, _, _, some (3, false)⟩ rfl ?_ ?_
 case refine_2 => (intro w9 hSw; obtain ⟨sa, sb, sc, sd, se⟩ := hSw; clear se; go_simp; try with_reducible rfl)
 simp only [za, zb, zc, zd]
 refine rd 5 ⟨some 35, _, _, _, _, some (3, false)⟩ rfl (fun K hK => ?_)
 go_simp
 refine (O.out _).mono ?_
 rintro e v2 ⟨rfl, hb2⟩
 refine hK.out _ _ (hHeld.below hb2) (fun hHeld => ?_)
 clear hK K hb2
 refine tks 7 ⟨some 37, _, _, _, _, some (3, false)⟩ rfl ?_
 simp only [za, zb, zc, zd]
 refine tks 8 ⟨some 38, _, _, _, _, none⟩ rfl ?_
 simp only [za, zb, zc, zd]
 refine wpAnyH_done (by kernel_rfl) ?_ _
 have HB : Hid (Below w.heap.size w _) := hHeld.2.2.2.2
 clear hHeld
 go_wp2
 go_ret
 exact ⟨rfl, HB.out⟩
theorem fo_num_x (d n : Int) (h1 : 1 ≤ n) (h2 : n ≤ 31) (hd : d ≠ 0) (w : World) :
  Calls Tryz.prog 224 #[.agg #[vi ki 0, vi ki d, vi ki n]] w fun e w' => e = zr (.nilIface) ∧ Below w.heap.size w w' := by
 have C : Hid (∀ w : World, Calls Tryz.prog 265 #[.agg #[vi ki n]] w fun e w' => e = zr (.bool true) ∧ Below w.heap.size w w') := canNum_yes n h1 h2
 have O : Hid (∀ w : World, Calls Tryz.prog 266 #[.agg #[vi ki n]] w fun e w' => e = zr (.agg #[vi ki 0, vi ki 0, vi ki n]) ∧ Below w.heap.size w w') := onNum n
 have S0 : Hid (OnS w w.heap.size 0 d n (w.alloc (.cells #[vi ki 0, vi ki d, vi ki n] 37))) := OnS.new w _ _ _ _
 have hd1 : (0 == d) = false := beq_eq_false_iff_ne.2 (fun e => hd e.symm)
 have hd2 : (d == 0) = false := beq_eq_false_iff_ne.2 hd
 go_enter Tryz.func224, Tryz.ntmps224
 go_wp2_with fail
 refine wp_region_held_drew (S := OnS w w.heap.size 0 d n) (by kernel_rfl) S0.out.drew (fun hHeld => ?_)
 refine tks 0 ⟨some 30, _, _, _, _, none⟩ rfl ?_
 simp only [za, zb, zc, zd]
 refine rd 1 ⟨some 31, _, _, _, _, none⟩ rfl (fun K hK => ?_)
 go_simp
 refine (C.out _).mono ?_
 rintro e v1 ⟨rfl, hb1⟩
 refine hK.out _ _ (hHeld.below hb1) (fun hHeld => ?_)
 clear hK K hb1
 refine tks 2 ⟨some 32, _, _, _, _, none⟩ rfl ?_
 simp only [za, zb, zc, zd]
 refine tks 3 ⟨some 33, _, _, _, _, none⟩ rfl ?_
 simp only [za, zb, zc, zd]
 refine tks 4 ⟨some 34, _, _, _, _, some (3, false)⟩ rfl ?_
 simp only [za, zb, zc, zd]
 refine tk (v := ?_) 6 ⟨some 36, _, _, _, _, some (3, false)⟩ rfl ?_ ?_
 case refine_2 => (intro w9 hSw; obtain ⟨sa, sb, sc, sd, se⟩ := hSw; clear se; go_simp; try with_reducible rfl)
 simp only [za, zb, zc, zd]
 refine rd 5 ⟨some 35, _, _, _, _, some (3, false)⟩ rfl (fun K hK => ?_)
 go_simp
 refine (O.out _).mono ?_
 rintro e v2 ⟨rfl, hb2⟩
 refine hK.out _ _ (hHeld.below hb2) (fun hHeld => ?_)
 clear hK K hb2
 refine tks 7 ⟨some 37, _, _, _, _, some (3, false)⟩ rfl ?_
 simp only [za, zb, zc, zd]
 refine tks 8 ⟨some 38, _, _, _, _, none⟩ rfl ?_
 simp only [za, zb, zc, zd]
 refine wpAnyH_done (by kernel_rfl) ?_ _
 have HB : Hid (Below w.heap.size w _) := hHeld.2.2.2.2
 clear hHeld
 go_wp2
 go_ret
 exact ⟨rfl, HB.out⟩
theorem fo_fin_x (d n : Int) (h1 : 0 ≤ d) (h2 : d ≤ 6) (hd : n ≠ 0) (w : World) :
  Calls Tryz.prog 224 #[.agg #[vi ki 1, vi ki d, vi ki n]] w fun e w' => e = zr (.nilIface) ∧ Below w.heap.size w w' := by
 have C : Hid (∀ w : World, Calls Tryz.prog 268 #[.agg #[vi ki d]] w fun e w' => e = zr (.bool true) ∧ Below w.heap.size w w') := canFin_yes d h1 h2
 have O : Hid (∀ w : World, Calls Tryz.prog 269 #[.agg #[vi ki d]] w fun e w' => e = zr (.agg #[vi ki 1, vi ki d, vi ki 0]) ∧ Below w.heap.size w w') := onFin d
 have S0 : Hid (OnS w w.heap.size 1 d n (w.alloc (.cells #[vi ki 1, vi ki d, vi ki n] 37))) := OnS.new w _ _ _ _
 have hd1 : (0 == n) = false := beq_eq_false_iff_ne.2 (fun e => hd e.symm)
 have hd2 : (n == 0) = false := beq_eq_false_iff_ne.2 hd
 go_enter Tryz.func224, Tryz.ntmps224
 go_wp2_with fail
 refine wp_region_held_drew (S := OnS w w.heap.size 1 d n) (by kernel_rfl) S0.out.drew (fun hHeld => ?_)
 refine tks 0 ⟨some 30, _, _, _, _, none⟩ rfl ?_
 simp only [za, zb, zc, zd]
 refine rd 1 ⟨some 31, _, _, _, _, none⟩ rfl (fun K hK => ?_)
 go_simp
 refine (C.out _).mono ?_
 rintro e v1 ⟨rfl, hb1⟩
 refine hK.out _ _ (hHeld.below hb1) (fun hHeld => ?_)
 clear hK K hb1
 refine tks 2 ⟨some 32, _, _, _, _, none⟩ rfl ?_
 simp only [za, zb, zc, zd]
 refine tks 3 ⟨some 33, _, _, _, _, none⟩ rfl ?_
 simp only [za, zb, zc, zd]
 refine tks 4 ⟨some 34, _, _, _, _, some (3, false)⟩ rfl ?_
 simp only [za, zb, zc, zd]
 refine tk (v := ?_) 6 ⟨some 36, _, _, _, _, some (3, false)⟩ rfl ?_ ?_
 case refine_2 => (intro w9 hSw; obtain ⟨sa, sb, sc, sd, se⟩ := hSw; clear se; go_simp; try with_reducible rfl)
 simp only [za, zb, zc, zd]
 refine rd 5 ⟨some 35, _, _, _, _, some (3, false)⟩ rfl (fun K hK => ?_)
 go_simp
 refine (O.out _).mono ?_
 rintro e v2 ⟨rfl, hb2⟩
 refine hK.out _ _ (hHeld.below hb2) (fun hHeld => ?_)
 clear hK K hb2
 refine tks 7 ⟨some 37, _, _, _, _, some (3, false)⟩ rfl ?_
 simp only [za, zb, zc, zd]
 refine tks 8 ⟨some 38, _, _, _, _, none⟩ rfl ?_
 simp only [za, zb, zc, zd]
 refine wpAnyH_done (by kernel_rfl) ?_ _
 have HB : Hid (Below w.heap.size w _) := hHeld.2.2.2.2
 clear hHeld
 go_wp2
 go_ret
 exact ⟨rfl, HB.out⟩
theorem fo_num_n (d n : Int) (h : n < 1 ∨ 31 < n) (w : World) :
  Calls Tryz.prog 224 #[.agg #[vi ki 0, vi ki d, vi ki n]] w fun e w' => e = zr (.nilIface) ∧ Below w.heap.size w w' := by
 have C : Hid (∀ w : World, Calls Tryz.prog 265 #[.agg #[vi ki n]] w fun e w' => e = zr (.bool false) ∧ Below w.heap.size w w') := canNum_no n h
 have S0 : Hid (OnS w w.heap.size 0 d n (w.alloc (.cells #[vi ki 0, vi ki d, vi ki n] 37))) := OnS.new w _ _ _ _
 go_enter Tryz.func224, Tryz.ntmps224
 go_wp2_with fail
 refine wp_region_held_drew (S := OnS w w.heap.size 0 d n) (by kernel_rfl) S0.out.drew (fun hHeld => ?_)
 refine tks 0 ⟨some 30, _, _, _, _, none⟩ rfl ?_
 simp only [za, zb, zc, zd]
 refine rd 1 ⟨some 31, _, _, _, _, none⟩ rfl (fun K hK => ?_)
 go_simp
 refine (C.out _).mono ?_
 rintro e v1 ⟨rfl, hb1⟩
 refine hK.out _ _ (hHeld.below hb1) (fun hHeld => ?_)
 clear hK K hb1
 refine tks 2 ⟨some 32, _, _, _, _, none⟩ rfl ?_
 simp only [za, zb, zc, zd]
 refine tks 3 ⟨some 33, _, _, _, _, none⟩ rfl ?_
 simp only [za, zb, zc, zd]
 refine tku 4 ⟨some 34, _, _, _, _, some (3, false)⟩ rfl ?_
 simp only [za, zb, zc, zd]
 refine tku 5 ⟨some 35, _, _, _, _, some (3, false)⟩ rfl ?_
 simp only [za, zb, zc, zd]
 refine tku 6 ⟨some 36, _, _, _, _, some (3, false)⟩ rfl ?_
 simp only [za, zb, zc, zd]
 refine tku 7 ⟨some 37, _, _, _, _, some (3, false)⟩ rfl ?_
 simp only [za, zb, zc, zd]
 refine tks 8 ⟨some 38, _, _, _, _, none⟩ rfl ?_
 simp only [za, zb, zc, zd]
 refine wpAnyH_done (by kernel_rfl) ?_ _
 have HB : Hid (Below w.heap.size w _) := hHeld.2.2.2.2
 clear hHeld
 go_wp2
 go_ret
 exact ⟨rfl, HB.out⟩
theorem fo_fin_n (d n : Int) (h : d < 0 ∨ 6 < d) (w : World) :
  Calls Tryz.prog 224 #[.agg #[vi ki 1, vi ki d, vi ki n]] w fun e w' => e = zr (.nilIface) ∧ Below w.heap.size w w' := by
 have C : Hid (∀ w : World, Calls Tryz.prog 268 #[.agg #[vi ki d]] w fun e w' => e = zr (.bool false) ∧ Below w.heap.size w w') := canFin_no d h
 have S0 : Hid (OnS w w.heap.size 1 d n (w.alloc (.cells #[vi ki 1, vi ki d, vi ki n] 37))) := OnS.new w _ _ _ _
 go_enter Tryz.func224, Tryz.ntmps224
 go_wp2_with fail
 refine wp_region_held_drew (S := OnS w w.heap.size 1 d n) (by kernel_rfl) S0.out.drew (fun hHeld => ?_)
 refine tks 0 ⟨some 30, _, _, _, _, none⟩ rfl ?_
 simp only [za, zb, zc, zd]
 refine rd 1 ⟨some 31, _, _, _, _, none⟩ rfl (fun K hK => ?_)
 go_simp
 refine (C.out _).mono ?_
 rintro e v1 ⟨rfl, hb1⟩
 refine hK.out _ _ (hHeld.below hb1) (fun hHeld => ?_)
 clear hK K hb1
 refine tks 2 ⟨some 32, _, _, _, _, none⟩ rfl ?_
 simp only [za, zb, zc, zd]
 refine tks 3 ⟨some 33, _, _, _, _, none⟩ rfl ?_
 simp only [za, zb, zc, zd]
 refine tku 4 ⟨some 34, _, _, _, _, some (3, false)⟩ rfl ?_
 simp only [za, zb, zc, zd]
 refine tku 5 ⟨some 35, _, _, _, _, some (3, false)⟩ rfl ?_
 simp only [za, zb, zc, zd]
 refine tku 6 ⟨some 36, _, _, _, _, some (3, false)⟩ rfl ?_
 simp only [za, zb, zc, zd]
 refine tku 7 ⟨some 37, _, _, _, _, some (3, false)⟩ rfl ?_
 simp only [za, zb, zc, zd]
 refine tks 8 ⟨some 38, _, _, _, _, none⟩ rfl ?_
 simp only [za, zb, zc, zd]
 refine wpAnyH_done (by kernel_rfl) ?_ _
 have HB : Hid (Below w.heap.size w _) := hHeld.2.2.2.2
 clear hHeld
 go_wp2
 go_ret
 exact ⟨rfl, HB.out⟩
theorem fo_bes2_n (d n : Int) (h : d < 0 ∨ 6 < d ∨ (0 ≤ d ∧ d ≤ 6 ∧ n < 1) ∨ (0 ≤ d ∧ d ≤ 6 ∧ 31 < n)) (w : World) :
  Calls Tryz.prog 224 #[.agg #[vi ki 2, vi ki d, vi ki n]] w fun e w' => e = zr (.nilIface) ∧ Below w.heap.size w w' := by
 have C : Hid (∀ w : World, Calls Tryz.prog 271 #[.agg #[vi ki d, vi ki n, .bool false]] w fun e w' => e = zr (.bool false) ∧ Below w.heap.size w w') := canBes_no d n false h
 have S0 : Hid (OnS w w.heap.size 2 d n (w.alloc (.cells #[vi ki 2, vi ki d, vi ki n] 37))) := OnS.new w _ _ _ _
 go_enter Tryz.func224, Tryz.ntmps224
 go_wp2_with fail
 refine wp_region_held_drew (S := OnS w w.heap.size 2 d n) (by kernel_rfl) S0.out.drew (fun hHeld => ?_)
 refine tks 0 ⟨some 30, _, _, _, _, none⟩ rfl ?_
 simp only [za, zb, zc, zd]
 refine rd 1 ⟨some 31, _, _, _, _, none⟩ rfl (fun K hK => ?_)
 go_simp
 refine (C.out _).mono ?_
 rintro e v1 ⟨rfl, hb1⟩
 refine hK.out _ _ (hHeld.below hb1) (fun hHeld => ?_)
 clear hK K hb1
 refine tks 2 ⟨some 32, _, _, _, _, none⟩ rfl ?_
 simp only [za, zb, zc, zd]
 refine tks 3 ⟨some 33, _, _, _, _, none⟩ rfl ?_
 simp only [za, zb, zc, zd]
 refine tku 4 ⟨some 34, _, _, _, _, some (3, false)⟩ rfl ?_
 simp only [za, zb, zc, zd]
 refine tku 5 ⟨some 35, _, _, _, _, some (3, false)⟩ rfl ?_
 simp only [za, zb, zc, zd]
 refine tku 6 ⟨some 36, _, _, _, _, some (3, false)⟩ rfl ?_
 simp only [za, zb, zc, zd]
 refine tku 7 ⟨some 37, _, _, _, _, some (3, false)⟩ rfl ?_
 simp only [za, zb, zc, zd]
 refine tks 8 ⟨some 38, _, _, _, _, none⟩ rfl ?_
 simp only [za, zb, zc, zd]
 refine wpAnyH_done (by kernel_rfl) ?_ _
 have HB : Hid (Below w.heap.size w _) := hHeld.2.2.2.2
 clear hHeld
 go_wp2
 go_ret
 exact ⟨rfl, HB.out⟩
theorem fo_bes3_n (d n : Int) (h : d < 0 ∨ 6 < d ∨ (0 ≤ d ∧ d ≤ 6 ∧ n < 1) ∨ (0 ≤ d ∧ d ≤ 6 ∧ 31 < n)) (w : World) :
  Calls Tryz.prog 224 #[.agg #[vi ki 3, vi ki d, vi ki n]] w fun e w' => e = zr (.nilIface) ∧ Below w.heap.size w w' := by
 have C : Hid (∀ w : World, Calls Tryz.prog 271 #[.agg #[vi ki d, vi ki n, .bool true]] w fun e w' => e = zr (.bool false) ∧ Below w.heap.size w w') := canBes_no d n true h
 have S0 : Hid (OnS w w.heap.size 3 d n (w.alloc (.cells #[vi ki 3, vi ki d, vi ki n] 37))) := OnS.new w _ _ _ _
 go_enter Tryz.func224, Tryz.ntmps224
 go_wp2_with fail
 refine wp_region_held_drew (S := OnS w w.heap.size 3 d n) (by kernel_rfl) S0.out.drew (fun hHeld => ?_)
 refine tks 0 ⟨some 30, _, _, _, _, none⟩ rfl ?_
 simp only [za, zb, zc, zd]
 refine rd 1 ⟨some 31, _, _, _, _, none⟩ rfl (fun K hK => ?_)
 go_simp
 refine (C.out _).mono ?_
 rintro e v1 ⟨rfl, hb1⟩
 refine hK.out _ _ (hHeld.below hb1) (fun hHeld => ?_)
 clear hK K hb1
 refine tks 2 ⟨some 32, _, _, _, _, none⟩ rfl ?_
 simp only [za, zb, zc, zd]
 refine tks 3 ⟨some 33, _, _, _, _, none⟩ rfl ?_
 simp only [za, zb, zc, zd]
 refine tku 4 ⟨some 34, _, _, _, _, some (3, false)⟩ rfl ?_
 simp only [za, zb, zc, zd]
 refine tku 5 ⟨some 35, _, _, _, _, some (3, false)⟩ rfl ?_
 simp only [za, zb, zc, zd]
 refine tku 6 ⟨some 36, _, _, _, _, some (3, false)⟩ rfl ?_
 simp only [za, zb, zc, zd]
 refine tku 7 ⟨some 37, _, _, _, _, some (3, false)⟩ rfl ?_
 simp only [za, zb, zc, zd]
 refine tks 8 ⟨some 38, _, _, _, _, none⟩ rfl ?_
 simp only [za, zb, zc, zd]
 refine wpAnyH_done (by kernel_rfl) ?_ _
 have HB : Hid (Below w.heap.size w _) := hHeld.2.2.2.2
 clear hHeld
 go_wp2
 go_ret
 exact ⟨rfl, HB.out⟩
theorem fo_other (k d n : Int) (h0 : k ≠ 0) (h1 : k ≠ 1) (h2 : k ≠ 2) (h3 : k ≠ 3) (w : World) :
  Calls Tryz.prog 224 #[.agg #[vi ki k, vi ki d, vi ki n]] w fun e w' => e = .returned .nilIface ∧ Below w.heap.size w w' := by
 have a0 : (k == 0) = false := beq_eq_false_iff_ne.2 h0
 have a1 : (k == 1) = false := beq_eq_false_iff_ne.2 h1
 have a2 : (k == 2) = false := beq_eq_false_iff_ne.2 h2
 have a3 : (k == 3) = false := beq_eq_false_iff_ne.2 h3
 go_enter Tryz.func224, Tryz.ntmps224
 go_wp2
 go_ret
 exact ⟨rfl, (by repeat' (first | assumption | exact Below.refl _ _ | exact Nat.le_refl _ | refine Below.alloc ?_ ?_ _ | (simp; done) | (simp; omega) | omega))⟩
theorem formOf_yes (k d n : Int) (h : okOn k d n) (w : World) :
  Calls Tryz.prog 224 #[onV k d n] w fun e w' => e = zr (formV k d n) ∧ Below w.heap.size w w' := by
 rcases h with ⟨rfl, h1, h2, rfl⟩ | ⟨rfl, h1, h2, rfl⟩ | ⟨rfl | rfl, h1, h2, h3, h4⟩
 ·exact fo_num n h1 h2 w
 ·exact fo_fin d h1 h2 w
 ·exact fo_bes2 d n h1 h2 h3 h4 w
 ·exact fo_bes3 d n h1 h2 h3 h4 w
theorem formOf_no (k d n : Int) (h : ¬ okOn k d n) (w : World) :
  Calls Tryz.prog 224 #[onV k d n] w fun e w' => e = .returned .nilIface ∧ Below w.heap.size w w' := by
 unfold okOn at h
 by_cases k0 : k = 0
 ·subst k0
  by_cases c : 1 ≤ n ∧ n ≤ 31
  ·exact fo_num_x d n c.1 c.2 (by omega) w
  ·exact fo_num_n d n (by omega) w
 ·by_cases k1 : k = 1
  ·subst k1
   by_cases c : 0 ≤ d ∧ d ≤ 6
   ·exact fo_fin_x d n c.1 c.2 (by omega) w
   ·exact fo_fin_n d n (by omega) w
  ·by_cases k2 : k = 2
   ·subst k2
    exact fo_bes2_n d n (by omega) w
   ·by_cases k3 : k = 3
    ·subst k3
     exact fo_bes3_n d n (by omega) w
    ·exact fo_other k d n k0 k1 k2 k3 w
def bk (n d : Int) : Int := n - ((n + 6) % 7 + 7 - d) % 7
def dayN (f l k d n : Int) : Int := if k = 0 then f + n - 1 else if k = 1 then bk (f + l - 1) d else if k = 3 then bk (f + n - 1) d else bk (f + n - 1 + 7 - 1) d
theorem bk_bd (n d : Int) : n - 6 ≤ bk n d ∧ bk n d ≤ n := by unfold bk; omega
theorem back_any (n d : Int) (h1 : -1000000000000 ≤ n) (h2 : n ≤ 1000000000000) (d1 : 0 ≤ d) (d2 : d ≤ 6) (w : World) :
  Calls Tryz.prog 230 #[vi ki n, vi ki d] w fun e w' => e = zr (vi ki (bk n d)) ∧ Below w.heap.size w w' := by
 have W1 : Hid (∀ w : World, Calls Tryz.prog 191 #[vi ki n] w fun e w' => e = zr (vi ki ((n + 6) % 7)) ∧ w' = w) := fun w => Cvl.weekday_any n w
 obtain ⟨V, hV⟩ : ∃ V, V = bk n d := ⟨_, rfl⟩
 rw [← hV]
 unfold bk at hV
 obtain ⟨q, hq⟩ : ∃ q, q = (n + 6) % 7 := ⟨_, rfl⟩
 rw [← hq] at W1 hV
 have q0 : 0 ≤ q := by omega
 have q1 : q ≤ 6 := by omega
 have e1 : (q + 7 - d).tmod 7 = (q + 7 - d) % 7 := Int.tmod_eq_emod_of_nonneg (by omega)
 clear hq
 subst hV
 go_enter Tryz.func230, Tryz.ntmps230
 go_wp2_with fail
 refine (W1.out _).mono ?_
 rintro e w1 ⟨rfl, rfl⟩
 go_wp2
 go_ret
 exact ⟨rfl, Below.refl _ _⟩
theorem ta_num (n : Int) (w : World) : (Instr.typeAssert (.iface 261 (.agg #[vi ki n])) 252 261 true).run Tryz.prog w = .ok (.tuple #[.agg #[vi ki n], .bool true]) w := by
 simp [Instr.typeAssert, run_underlying Tryz.underlying261, go_sem, Result.andThen]
theorem ta_fin (n : Int) (w : World) : (Instr.typeAssert (.iface 263 (.agg #[vi ki n])) 252 263 true).run Tryz.prog w = .ok (.tuple #[.agg #[vi ki n], .bool true]) w := by
 simp [Instr.typeAssert, run_underlying Tryz.underlying263, go_sem, Result.andThen]
theorem ta_bes (v : Value) (w : World) : (Instr.typeAssert (.iface 265 v) 252 265 false).run Tryz.prog w = .ok v w := by
 simp [Instr.typeAssert, run_underlying Tryz.underlying265, go_sem, Result.andThen]
theorem zNum : (Tryz.prog.info? 261).map (·.zero) = some (some (.agg #[vi ki 0])) := by kernel_rfl
theorem zFin : (Tryz.prog.info? 263).map (·.zero) = some (some (.agg #[vi ki 0])) := by kernel_rfl
theorem ta_not {t a xT : TypeId} {fs : _} {z : Value} (hu : Tryz.prog.underlying a = some (.struct fs)) (hz : (Tryz.prog.info? a).map (·.zero) = some (some z)) (hne : t ≠ a) (v : Value) (w : World) : (Instr.typeAssert (.iface t v) xT a true).run Tryz.prog w = .ok (.tuple #[z, .bool false]) w := by
 obtain ⟨j, hj, hz'⟩ := Option.map_eq_some_iff.1 hz
 simp [Instr.typeAssert, run_underlying hu, zeroValue, typeInfo, hj, hz', hne, go_sem, Result.andThen]
theorem dayOf_num (f l n : Int) (f1 : -1000000000 ≤ f) (f2 : f ≤ 1000000000) (n1 : 1 ≤ n) (n2 : n ≤ 31) (w : World) :
  Calls Tryz.prog 225 #[.iface 261 (.agg #[vi ki n]), vi ki f, vi ki l] w fun e w' => e = zr (vi ki (f + n - 1)) ∧ Below w.heap.size w w' := by
 have t1 := ta_num n
 go_enter Tryz.func225, Tryz.ntmps225
 go_wp2
 go_ret
 exact ⟨rfl, (by repeat' (first | assumption | exact Below.refl _ _ | exact Nat.le_refl _ | refine Below.alloc ?_ ?_ _ | (simp; done) | (simp; omega) | omega))⟩
theorem dayOf_fin (f l d : Int) (f1 : -1000000000 ≤ f) (f2 : f ≤ 1000000000) (l1 : 0 ≤ l) (l2 : l ≤ 31) (d1 : 0 ≤ d) (d2 : d ≤ 6) (w : World) :
  Calls Tryz.prog 225 #[.iface 263 (.agg #[vi ki d]), vi ki f, vi ki l] w fun e w' => e = zr (vi ki (bk (f + l - 1) d)) ∧ Below w.heap.size w w' := by
 have BK : Hid (∀ w : World, Calls Tryz.prog 230 #[vi ki (f + l - 1), vi ki d] w fun e w' => e = zr (vi ki (bk (f + l - 1) d)) ∧ Below w.heap.size w w') := back_any (f + l - 1) d (by omega) (by omega) d1 d2
 generalize bk (f + l - 1) d = V at *
 have t1 : ∀ w0 : World, (Instr.typeAssert (.iface 263 (.agg #[vi ki d])) 252 261 true).run Tryz.prog w0 = .ok (.tuple #[.agg #[vi ki 0], .bool false]) w0 := ta_not Tryz.underlying261 zNum (by decide) _
 have t2 := ta_fin d
 go_enter Tryz.func225, Tryz.ntmps225
 go_wp2_with fail
 refine (BK.out _).mono ?_
 rintro e w1 ⟨rfl, hb⟩
 go_wp2
 go_ret
 exact ⟨rfl, Below.trans (by repeat' (first | assumption | exact Below.refl _ _ | exact Nat.le_refl _ | refine Below.alloc ?_ ?_ _ | (simp; done) | (simp; omega) | omega)) (hb.mono (by simp; omega))⟩
theorem dayOf_bes3 (f l d n : Int) (f1 : -1000000000 ≤ f) (f2 : f ≤ 1000000000) (n1 : 1 ≤ n) (n2 : n ≤ 31) (d1 : 0 ≤ d) (d2 : d ≤ 6) (w : World) :
  Calls Tryz.prog 225 #[.iface 265 (.agg #[vi ki d, vi ki n, .bool true]), vi ki f, vi ki l] w fun e w' => e = zr (vi ki (bk (f + n - 1) d)) ∧ Below w.heap.size w w' := by
 have BK : Hid (∀ w : World, Calls Tryz.prog 230 #[vi ki (f + n - 1), vi ki d] w fun e w' => e = zr (vi ki (bk (f + n - 1) d)) ∧ Below w.heap.size w w') := back_any (f + n - 1) d (by omega) (by omega) d1 d2
 generalize bk (f + n - 1) d = V at *
 have t1 : ∀ w0 : World, (Instr.typeAssert (.iface 265 (.agg #[vi ki d, vi ki n, .bool true])) 252 261 true).run Tryz.prog w0 = .ok (.tuple #[.agg #[vi ki 0], .bool false]) w0 := ta_not Tryz.underlying261 zNum (by decide) _
 have t2 : ∀ w0 : World, (Instr.typeAssert (.iface 265 (.agg #[vi ki d, vi ki n, .bool true])) 252 263 true).run Tryz.prog w0 = .ok (.tuple #[.agg #[vi ki 0], .bool false]) w0 := ta_not Tryz.underlying263 zFin (by decide) _
 have t3 := ta_bes (.agg #[vi ki d, vi ki n, .bool true])
 go_enter Tryz.func225, Tryz.ntmps225
 go_wp2_with fail
 refine (BK.out _).mono ?_
 rintro e w1 ⟨rfl, hb⟩
 go_wp2
 go_ret
 exact ⟨rfl, Below.trans (by repeat' (first | assumption | exact Below.refl _ _ | exact Nat.le_refl _ | refine Below.alloc ?_ ?_ _ | (simp; done) | (simp; omega) | omega)) (hb.mono (by simp; omega))⟩
theorem dayOf_bes2 (f l d n : Int) (f1 : -1000000000 ≤ f) (f2 : f ≤ 1000000000) (n1 : 1 ≤ n) (n2 : n ≤ 31) (d1 : 0 ≤ d) (d2 : d ≤ 6) (w : World) :
  Calls Tryz.prog 225 #[.iface 265 (.agg #[vi ki d, vi ki n, .bool false]), vi ki f, vi ki l] w fun e w' => e = zr (vi ki (bk (f + n - 1 + 7 - 1) d)) ∧ Below w.heap.size w w' := by
 have BK : Hid (∀ w : World, Calls Tryz.prog 230 #[vi ki (f + n - 1 + 7 - 1), vi ki d] w fun e w' => e = zr (vi ki (bk (f + n - 1 + 7 - 1) d)) ∧ Below w.heap.size w w') := back_any (f + n - 1 + 7 - 1) d (by omega) (by omega) d1 d2
 generalize bk (f + n - 1 + 7 - 1) d = V at *
 have t1 : ∀ w0 : World, (Instr.typeAssert (.iface 265 (.agg #[vi ki d, vi ki n, .bool false])) 252 261 true).run Tryz.prog w0 = .ok (.tuple #[.agg #[vi ki 0], .bool false]) w0 := ta_not Tryz.underlying261 zNum (by decide) _
 have t2 : ∀ w0 : World, (Instr.typeAssert (.iface 265 (.agg #[vi ki d, vi ki n, .bool false])) 252 263 true).run Tryz.prog w0 = .ok (.tuple #[.agg #[vi ki 0], .bool false]) w0 := ta_not Tryz.underlying263 zFin (by decide) _
 have t3 := ta_bes (.agg #[vi ki d, vi ki n, .bool false])
 go_enter Tryz.func225, Tryz.ntmps225
 go_wp2_with fail
 refine (BK.out _).mono ?_
 rintro e w1 ⟨rfl, hb⟩
 go_wp2
 go_ret
 exact ⟨rfl, Below.trans (by repeat' (first | assumption | exact Below.refl _ _ | exact Nat.le_refl _ | refine Below.alloc ?_ ?_ _ | (simp; done) | (simp; omega) | omega)) (hb.mono (by simp; omega))⟩
theorem dayOf_any (f l k d n : Int) (h : okOn k d n) (f1 : -1000000000 ≤ f) (f2 : f ≤ 1000000000) (l1 : 0 ≤ l) (l2 : l ≤ 31) (w : World) :
  Calls Tryz.prog 225 #[formV k d n, vi ki f, vi ki l] w fun e w' => e = zr (vi ki (dayN f l k d n)) ∧ Below w.heap.size w w' := by
 rcases h with ⟨rfl, h1, h2, rfl⟩ | ⟨rfl, h1, h2, rfl⟩ | ⟨rfl | rfl, h1, h2, h3, h4⟩
 ·exact dayOf_num f l n f1 f2 h1 h2 w
 ·exact dayOf_fin f l d f1 f2 l1 l2 h1 h2 w
 ·exact dayOf_bes2 f l d n f1 f2 h3 h4 h1 h2 w
 ·exact dayOf_bes3 f l d n f1 f2 h3 h4 h1 h2 w
theorem rightOn_yes (k d n : Int) (h : okOn k d n) (w : World) :
  Calls Tryz.prog 211 #[onV k d n] w fun e w' => e = zr (.bool true) ∧ Below w.heap.size w w' := by
 have HO : Hid (okOn k d n) := h
 unfold onV
 rcases h with ⟨rfl, h1, h2, rfl⟩ | ⟨rfl, h1, h2, rfl⟩ | ⟨rfl | rfl, h1, h2, h3, h4⟩
 ·go_enter Tryz.func211, Tryz.ntmps211
  go_wp2
  all_goals first
   | (go_ret; exact ⟨rfl, (by repeat' (first | assumption | exact Below.refl _ _ | exact Nat.le_refl _ | refine Below.alloc ?_ ?_ _ | (simp; done) | (simp; omega) | omega))⟩)
   | (exfalso; have := HO.out; unfold okOn at this; omega)
   | (exfalso; omega)
 ·go_enter Tryz.func211, Tryz.ntmps211
  go_wp2
  all_goals first
   | (go_ret; exact ⟨rfl, (by repeat' (first | assumption | exact Below.refl _ _ | exact Nat.le_refl _ | refine Below.alloc ?_ ?_ _ | (simp; done) | (simp; omega) | omega))⟩)
   | (exfalso; have := HO.out; unfold okOn at this; omega)
   | (exfalso; omega)
 ·go_enter Tryz.func211, Tryz.ntmps211
  go_wp2
  all_goals first
   | (go_ret; exact ⟨rfl, (by repeat' (first | assumption | exact Below.refl _ _ | exact Nat.le_refl _ | refine Below.alloc ?_ ?_ _ | (simp; done) | (simp; omega) | omega))⟩)
   | (exfalso; have := HO.out; unfold okOn at this; omega)
   | (exfalso; omega)
 ·go_enter Tryz.func211, Tryz.ntmps211
  go_wp2
  all_goals first
   | (go_ret; exact ⟨rfl, (by repeat' (first | assumption | exact Below.refl _ _ | exact Nat.le_refl _ | refine Below.alloc ?_ ?_ _ | (simp; done) | (simp; omega) | omega))⟩)
   | (exfalso; have := HO.out; unfold okOn at this; omega)
   | (exfalso; omega)
theorem rightOn_no (k d n : Int) (h : ¬ okOn k d n) (w : World) :
  Calls Tryz.prog 211 #[onV k d n] w fun e w' => e = zr (.bool false) ∧ Below w.heap.size w w' := by
 have HO : Hid (¬ okOn k d n) := h
 clear h
 unfold onV
 by_cases k0 : k = 0
 ·subst k0
  by_cases d0 : d = 0
  ·subst d0
   go_enter Tryz.func211, Tryz.ntmps211
   go_wp2
   all_goals first
    | (go_ret; exact ⟨rfl, (by repeat' (first | assumption | exact Below.refl _ _ | exact Nat.le_refl _ | refine Below.alloc ?_ ?_ _ | (simp; done) | (simp; omega) | omega))⟩)
    | (exfalso; have := HO.out; unfold okOn at this; omega)
    | (exfalso; omega)
  ·have d1 : (d == 0) = false := beq_eq_false_iff_ne.2 d0
   go_enter Tryz.func211, Tryz.ntmps211
   go_wp2
   all_goals first
    | (go_ret; exact ⟨rfl, (by repeat' (first | assumption | exact Below.refl _ _ | exact Nat.le_refl _ | refine Below.alloc ?_ ?_ _ | (simp; done) | (simp; omega) | omega))⟩)
    | (exfalso; have := HO.out; unfold okOn at this; omega)
    | (exfalso; omega)
 have e0 : (k == 0) = false := beq_eq_false_iff_ne.2 k0
 by_cases k1 : k = 1
 ·subst k1
  by_cases d0 : n = 0
  ·subst d0
   go_enter Tryz.func211, Tryz.ntmps211
   go_wp2
   all_goals first
    | (go_ret; exact ⟨rfl, (by repeat' (first | assumption | exact Below.refl _ _ | exact Nat.le_refl _ | refine Below.alloc ?_ ?_ _ | (simp; done) | (simp; omega) | omega))⟩)
    | (exfalso; have := HO.out; unfold okOn at this; omega)
    | (exfalso; omega)
  ·have d1 : (n == 0) = false := beq_eq_false_iff_ne.2 d0
   go_enter Tryz.func211, Tryz.ntmps211
   go_wp2
   all_goals first
    | (go_ret; exact ⟨rfl, (by repeat' (first | assumption | exact Below.refl _ _ | exact Nat.le_refl _ | refine Below.alloc ?_ ?_ _ | (simp; done) | (simp; omega) | omega))⟩)
    | (exfalso; have := HO.out; unfold okOn at this; omega)
    | (exfalso; omega)
 have e1 : (k == 1) = false := beq_eq_false_iff_ne.2 k1
 by_cases k2 : k = 2
 ·subst k2
  by_cases c : n ≤ 31
  ·go_enter Tryz.func211, Tryz.ntmps211
   go_wp2
   all_goals first
    | (go_ret; exact ⟨rfl, (by repeat' (first | assumption | exact Below.refl _ _ | exact Nat.le_refl _ | refine Below.alloc ?_ ?_ _ | (simp; done) | (simp; omega) | omega))⟩)
    | (exfalso; have := HO.out; unfold okOn at this; omega)
    | (exfalso; omega)
  ·go_enter Tryz.func211, Tryz.ntmps211
   go_wp2
   all_goals first
    | (go_ret; exact ⟨rfl, (by repeat' (first | assumption | exact Below.refl _ _ | exact Nat.le_refl _ | refine Below.alloc ?_ ?_ _ | (simp; done) | (simp; omega) | omega))⟩)
    | (exfalso; have := HO.out; unfold okOn at this; omega)
    | (exfalso; omega)
 have e2 : (k == 2) = false := beq_eq_false_iff_ne.2 k2
 by_cases k3 : k = 3
 ·subst k3
  by_cases c : n ≤ 31
  ·go_enter Tryz.func211, Tryz.ntmps211
   go_wp2
   all_goals first
    | (go_ret; exact ⟨rfl, (by repeat' (first | assumption | exact Below.refl _ _ | exact Nat.le_refl _ | refine Below.alloc ?_ ?_ _ | (simp; done) | (simp; omega) | omega))⟩)
    | (exfalso; have := HO.out; unfold okOn at this; omega)
    | (exfalso; omega)
  ·go_enter Tryz.func211, Tryz.ntmps211
   go_wp2
   all_goals first
    | (go_ret; exact ⟨rfl, (by repeat' (first | assumption | exact Below.refl _ _ | exact Nat.le_refl _ | refine Below.alloc ?_ ?_ _ | (simp; done) | (simp; omega) | omega))⟩)
    | (exfalso; have := HO.out; unfold okOn at this; omega)
    | (exfalso; omega)
 have e3 : (k == 3) = false := beq_eq_false_iff_ne.2 k3
 go_enter Tryz.func211, Tryz.ntmps211
 go_wp2
 all_goals first
  | (go_ret; exact ⟨rfl, (by repeat' (first | assumption | exact Below.refl _ _ | exact Nat.le_refl _ | refine Below.alloc ?_ ?_ _ | (simp; done) | (simp; omega) | omega))⟩)
  | (exfalso; have := HO.out; unfold okOn at this; omega)
  | (exfalso; omega)
end Go.Proofs.YtklehbmghjcmaaaGreatDoor
