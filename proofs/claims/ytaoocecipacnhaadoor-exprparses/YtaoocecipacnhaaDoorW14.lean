import Derived.Test.YtaoocecipacnhaaDoorWz
import Derived.Test.YtaoocecipacnhaaDoorW13
import Derived.Test.YtaoocecipacnhaaDoorW2
open Go.Value renaming int → vi
open Go.IntKind renaming i64 → ki
open List renaming setIfInBounds_toArray → zb, set_cons_zero → zc, set_cons_succ → zd
open Go.Act renaming put → za
open Go.Ending renaming returned → zr
set_option maxRecDepth 100000
set_option maxHeartbeats 16000000
set_option linter.unusedVariables false
namespace Go.Proofs.YtaoocecipacnhaaDoor
open Go.RowKit
theorem lit_eq (t : ByteArray) (l : List UInt8) : (t.toList == l) = decide (t = ⟨l.toArray⟩) := by
 rw [← toList_eq t ⟨l.toArray⟩, Lib.toList_data ⟨l.toArray⟩]
theorem drewB (w : World) : Below w.heap.size w w.drew := ⟨rfl, rfl, rfl, Nat.le_refl _, fun _ _ => rfl⟩
theorem behind_any (k : Int) (t : ByteArray) (a : Int) (w : World) (a0 : 0 ≤ a) (a1 : a ≤ 4096) (ht : t.size ≤ 4096) :
  Calls Tryd.prog 26 #[.agg #[vi ki k, .string t, vi ki a]] w fun e w' => e = zr (vi ki (a + (t.size : Int))) ∧ Below w.heap.size w w' := by
 have hs : (t.size : Int) ≤ 4096 := by omega
 have hs0 : (0 : Int) ≤ (t.size : Int) := by omega
 go_enter Tryd.func26, Tryd.ntmps26
 go_wp2
 go_ret
 exact ⟨by simp, (Below.refl _ w).alloc (Nat.le_refl _) _⟩
theorem beside_in (b o n cap k : Nat) (p q : Tk) (w : World) (hn : k + 1 < n) (hnm : n ≤ 4096) (hn2 : n ≤ cap) (hcap : cap ≤ 9223372036854775807) (hb : b < w.heap.size) (a0 : 0 ≤ p.2.2) (a1 : p.2.2 ≤ 4096) (hs : p.2.1.size ≤ 4096)
  (c0 : w.cell? ⟨b, o + k * 3, none⟩ = some (vi ki p.1)) (c1 : w.cell? ⟨b, o + k * 3 + 1, none⟩ = some (.string p.2.1)) (c2 : w.cell? ⟨b, o + k * 3 + 2, none⟩ = some (vi ki p.2.2)) (c3 : w.cell? ⟨b, o + (k + 1) * 3 + 2, none⟩ = some (vi ki q.2.2)) :
  Calls Tryd.prog 48 #[.slice (some ⟨b, o, none⟩) n cap, vi ki ((k : Int) + 1)] w fun e w' => e = zr (.bool (besT p q)) ∧ Below w.heap.size w w' := by
 have hn' : (k : Int) + 1 < (n : Int) := by omega
 have hnm' : (n : Int) ≤ 4096 := by omega
 have hk0 : (0 : Int) ≤ (k : Int) := by omega
 go_enter Tryd.func48, Tryd.ntmps48
 go_upto_region 1 with fail
 refine wp_region_held_drew (S := Below w.heap.size w) (by kernel_rfl) (drewB w) (fun hHeld => ?_)
 refine tk (v := ?_) 0 ⟨some 5, _, _, _, _, none⟩ rfl ?_ ?_
 case refine_2 => (rintro w9 -; (go_simp); (try omega); (try (rw [show IntKind.i64.wrap (k : Int) = (k : Int) by rw [IntKind.wrap_i64]; omega])); (try go_simp); (try omega); try with_reducible rfl)
 simp only [za, zb, zc, zd]
 refine tk (v := ?_) 1 ⟨some 6, _, _, _, _, none⟩ rfl ?_ ?_
 case refine_2 => (rintro w9 -; (go_simp); (try omega); (try (rw [show IntKind.i64.wrap (k : Int) = (k : Int) by rw [IntKind.wrap_i64]; omega])); (try go_simp); (try omega); try with_reducible rfl)
 simp only [za, zb, zc, zd]
 refine tk (v := ?_) 2 ⟨some 7, _, _, _, _, none⟩ rfl ?_ ?_
 case refine_2 => (rintro w9 -; (go_simp); (try omega); (try (rw [show IntKind.i64.wrap (k : Int) = (k : Int) by rw [IntKind.wrap_i64]; omega])); (try go_simp); (try omega); try with_reducible rfl)
 simp only [za, zb, zc, zd]
 refine tk (v := ?_) 3 ⟨some 8, _, _, _, _, none⟩ rfl ?_ ?_
 case refine_2 => (rintro w9 -; (go_simp); (try omega); (try (rw [show IntKind.i64.wrap (k : Int) = (k : Int) by rw [IntKind.wrap_i64]; omega])); (try go_simp); (try omega); try with_reducible rfl)
 simp only [za, zb, zc, zd]
 refine tk (v := ?_) 4 ⟨some 9, _, _, _, _, none⟩ rfl ?_ ?_
 case refine_2 => (rintro w9 -; (go_simp); (try omega); (try (rw [show IntKind.i64.wrap (k : Int) = (k : Int) by rw [IntKind.wrap_i64]; omega])); (try go_simp); (try omega); try with_reducible rfl)
 simp only [za, zb, zc, zd]
 refine tk (v := ?_) 5 ⟨some 10, _, _, _, _, some (4, true)⟩ rfl ?_ ?_
 case refine_2 => (rintro w9 -; (go_simp); (try omega); (try (rw [show IntKind.i64.wrap (k : Int) = (k : Int) by rw [IntKind.wrap_i64]; omega])); (try go_simp); (try omega); try with_reducible rfl)
 simp only [za, zb, zc, zd]
 refine tk (v := ?_) 6 ⟨some 11, _, _, _, _, some (4, true)⟩ rfl ?_ ?_
 case refine_2 => (rintro w9 -; (go_simp); (try omega); (try (rw [show IntKind.i64.wrap (k : Int) = (k : Int) by rw [IntKind.wrap_i64]; omega])); (try go_simp); (try omega); try with_reducible rfl)
 simp only [za, zb, zc, zd]
 refine wpAnyH_take (i := 7) (v := .pointer (some ⟨b, o + (k + 1) * 3, none⟩)) (oi := ⟨some 12, _, _, _, _, some (4, true)⟩) rfl (by kernel_rfl) (by kernel_rfl) (by kernel_rfl) (fun _ _ _ h => h) (Or.inl ⟨by kernel_rfl, ?_⟩) (by assumption) ?_
 case refine_1 => (rintro w9 -; (go_simp); (try omega); (try (rw [show IntKind.i64.wrap (k : Int) = (k : Int) by rw [IntKind.wrap_i64]; omega])); (try go_simp); (try omega); try with_reducible rfl)
 simp only [za, zb, zc, zd]
 refine wpAnyH_take (i := 8) (v := .pointer (some ⟨b, o + (k + 1) * 3 + 2, none⟩)) (oi := ⟨some 13, _, _, _, _, some (4, true)⟩) rfl (by kernel_rfl) (by kernel_rfl) (by kernel_rfl) (fun _ _ _ h => h) (Or.inl ⟨by kernel_rfl, ?_⟩) (by assumption) ?_
 case refine_1 => (rintro w9 -; (go_simp); (try omega); (try (rw [show IntKind.i64.wrap (k : Int) = (k : Int) by rw [IntKind.wrap_i64]; omega])); (try go_simp); (try omega); try with_reducible rfl)
 simp only [za, zb, zc, zd]
 refine tk (v := ?_) 9 ⟨some 14, _, _, _, _, some (4, true)⟩ rfl ?_ ?_
 case refine_2 => (intro w9 hSw; have q0 := (hSw.cell (p := ⟨b, o + k * 3, none⟩) hb).trans c0; have q1 := (hSw.cell (p := ⟨b, o + k * 3 + 1, none⟩) hb).trans c1; have q2 := (hSw.cell (p := ⟨b, o + k * 3 + 2, none⟩) hb).trans c2; have q3 := (hSw.cell (p := ⟨b, o + (k + 1) * 3 + 2, none⟩) hb).trans c3; clear hSw; (go_simp); (try omega); (try (rw [show IntKind.i64.wrap (k : Int) = (k : Int) by rw [IntKind.wrap_i64]; omega])); (try go_simp); (try omega); try with_reducible rfl)
 simp only [za, zb, zc, zd]
 refine tk (v := ?_) 10 ⟨some 15, _, _, _, _, some (4, true)⟩ rfl ?_ ?_
 case refine_2 => (rintro w9 -; (go_simp); (try omega); (try (rw [show IntKind.i64.wrap (k : Int) = (k : Int) by rw [IntKind.wrap_i64]; omega])); (try go_simp); (try omega); try with_reducible rfl)
 simp only [za, zb, zc, zd]
 refine tk (v := ?_) 11 ⟨some 16, _, _, _, _, some (4, true)⟩ rfl ?_ ?_
 case refine_2 => (rintro w9 -; (go_simp); (try omega); (try (rw [show IntKind.i64.wrap (k : Int) = (k : Int) by rw [IntKind.wrap_i64]; omega])); (try go_simp); (try omega); try with_reducible rfl)
 simp only [za, zb, zc, zd]
 refine wpAnyH_take (i := 12) (v := vi ki (IntKind.i64.wrap (k : Int))) (oi := ⟨some 17, _, _, _, _, some (4, true)⟩) rfl (by kernel_rfl) (by kernel_rfl) (by kernel_rfl) (fun _ _ _ h => h) (Or.inl ⟨by kernel_rfl, ?_⟩) (by assumption) ?_
 case refine_1 => (rintro w9 -; (go_simp); (try omega); (try (rw [show IntKind.i64.wrap (k : Int) = (k : Int) by rw [IntKind.wrap_i64]; omega])); (try go_simp); (try omega); try with_reducible rfl)
 simp only [za, zb, zc, zd]
 refine wpAnyH_take (i := 13) (v := .pointer (some ⟨b, o + k * 3, none⟩)) (oi := ⟨some 18, _, _, _, _, some (4, true)⟩) rfl (by kernel_rfl) (by kernel_rfl) (by kernel_rfl) (fun _ _ _ h => h) (Or.inl ⟨by kernel_rfl, ?_⟩) (by assumption) ?_
 case refine_1 => (rintro w9 -; (go_simp); (try omega); (try (rw [show IntKind.i64.wrap (k : Int) = (k : Int) by rw [IntKind.wrap_i64]; omega])); (try go_simp); (try omega); try with_reducible rfl)
 simp only [za, zb, zc, zd]
 refine tk (v := ?_) 14 ⟨some 19, _, _, _, _, some (4, true)⟩ rfl ?_ ?_
 case refine_2 => (intro w9 hSw; have q0 := (hSw.cell (p := ⟨b, o + k * 3, none⟩) hb).trans c0; have q1 := (hSw.cell (p := ⟨b, o + k * 3 + 1, none⟩) hb).trans c1; have q2 := (hSw.cell (p := ⟨b, o + k * 3 + 2, none⟩) hb).trans c2; have q3 := (hSw.cell (p := ⟨b, o + (k + 1) * 3 + 2, none⟩) hb).trans c3; clear hSw; (go_simp); (try omega); (try (rw [show IntKind.i64.wrap (k : Int) = (k : Int) by rw [IntKind.wrap_i64]; omega])); (try go_simp); (try omega); try with_reducible rfl)
 simp only [za, zb, zc, zd]
 refine rd 15 ⟨some 20, _, _, _, _, some (4, true)⟩ rfl (fun K hK => ?_)
 go_simp
 refine (behind_any p.1 p.2.1 p.2.2 _ a0 a1 hs).mono ?_
 rintro e v1 ⟨rfl, hb1⟩
 refine hK.out _ _ (hHeld.trans (hb1.mono hHeld.size)) (fun hHeld => ?_)
 clear hK K hb1
 refine tk (v := ?_) 16 ⟨some 21, _, _, _, _, some (4, true)⟩ rfl ?_ ?_
 case refine_2 => (rintro w9 -; (go_simp); (try omega); (try (rw [show IntKind.i64.wrap (k : Int) = (k : Int) by rw [IntKind.wrap_i64]; omega])); (try go_simp); (try omega); try with_reducible rfl)
 simp only [za, zb, zc, zd]
 refine tk (v := ?_) 17 ⟨some 22, _, _, _, _, none⟩ rfl ?_ ?_
 case refine_2 => (rintro w9 -; (go_simp); (try omega); (try (rw [show IntKind.i64.wrap (k : Int) = (k : Int) by rw [IntKind.wrap_i64]; omega])); (try go_simp); (try omega); try with_reducible rfl)
 simp only [za, zb, zc, zd]
 refine tk (v := ?_) 18 ⟨some 4, _, _, _, _, none⟩ rfl ?_ ?_
 case refine_2 => (rintro w9 -; (go_simp); (try omega); (try (rw [show IntKind.i64.wrap (k : Int) = (k : Int) by rw [IntKind.wrap_i64]; omega])); (try go_simp); (try omega); try with_reducible rfl)
 simp only [za, zb, zc, zd]
 refine wpAnyH_done (by kernel_rfl) ?_ _
 go_wp2_with fail
 exact bodyPost_ret (v := .bool (besT p q)) (by simp [results, Tryd.results48, go_sem, besT]; rfl) rfl ⟨rfl, hHeld⟩
theorem beside_out (b o n cap : Nat) (i : Int) (w : World) (hn : (n : Int) ≤ i) (hi : i ≤ 8192) (hnm : n ≤ 4096) (hn2 : n ≤ cap) (hcap : cap ≤ 9223372036854775807) :
  Calls Tryd.prog 48 #[.slice (some ⟨b, o, none⟩) n cap, vi ki i] w fun e w' => e = zr (.bool false) ∧ Below w.heap.size w w' := by
 have hnm' : (n : Int) ≤ 4096 := by omega
 have hn' : ¬ i < (n : Int) := by omega
 go_enter Tryd.func48, Tryd.ntmps48
 go_upto_region 1 with fail
 refine wp_region_held_drew (S := Below w.heap.size w) (by kernel_rfl) (drewB w) (fun hHeld => ?_)
 refine tk (v := ?_) 0 ⟨some 5, _, _, _, _, none⟩ rfl ?_ ?_
 case refine_2 => (rintro w9 -; (go_simp); (try omega); try with_reducible rfl)
 simp only [za, zb, zc, zd]
 refine tk (v := ?_) 1 ⟨some 6, _, _, _, _, none⟩ rfl ?_ ?_
 case refine_2 => (rintro w9 -; (go_simp); (try omega); try with_reducible rfl)
 simp only [za, zb, zc, zd]
 refine tk (v := ?_) 2 ⟨some 7, _, _, _, _, none⟩ rfl ?_ ?_
 case refine_2 => (rintro w9 -; (go_simp); (try omega); try with_reducible rfl)
 simp only [za, zb, zc, zd]
 refine tk (v := ?_) 3 ⟨some 8, _, _, _, _, none⟩ rfl ?_ ?_
 case refine_2 => (rintro w9 -; (go_simp); (try omega); try with_reducible rfl)
 simp only [za, zb, zc, zd]
 refine tk (v := ?_) 4 ⟨some 9, _, _, _, _, none⟩ rfl ?_ ?_
 case refine_2 => (rintro w9 -; (go_simp); (try omega); try with_reducible rfl)
 simp only [za, zb, zc, zd]
 refine tku 5 ⟨some 10, _, _, _, _, some (4, true)⟩ rfl ?_
 simp only [za, zb, zc, zd]
 refine tku 6 ⟨some 11, _, _, _, _, some (4, true)⟩ rfl ?_
 simp only [za, zb, zc, zd]
 refine tku 7 ⟨some 12, _, _, _, _, some (4, true)⟩ rfl ?_
 simp only [za, zb, zc, zd]
 refine tku 8 ⟨some 13, _, _, _, _, some (4, true)⟩ rfl ?_
 simp only [za, zb, zc, zd]
 refine tku 9 ⟨some 14, _, _, _, _, some (4, true)⟩ rfl ?_
 simp only [za, zb, zc, zd]
 refine tku 10 ⟨some 15, _, _, _, _, some (4, true)⟩ rfl ?_
 simp only [za, zb, zc, zd]
 refine tku 11 ⟨some 16, _, _, _, _, some (4, true)⟩ rfl ?_
 simp only [za, zb, zc, zd]
 refine tku 12 ⟨some 17, _, _, _, _, some (4, true)⟩ rfl ?_
 simp only [za, zb, zc, zd]
 refine tku 13 ⟨some 18, _, _, _, _, some (4, true)⟩ rfl ?_
 simp only [za, zb, zc, zd]
 refine tku 14 ⟨some 19, _, _, _, _, some (4, true)⟩ rfl ?_
 simp only [za, zb, zc, zd]
 refine tku 15 ⟨some 20, _, _, _, _, some (4, true)⟩ rfl ?_
 simp only [za, zb, zc, zd]
 refine tku 16 ⟨some 21, _, _, _, _, some (4, true)⟩ rfl ?_
 simp only [za, zb, zc, zd]
 refine tk (v := ?_) 17 ⟨some 22, _, _, _, _, none⟩ rfl ?_ ?_
 case refine_2 => (rintro w9 -; (go_simp); (try omega); try with_reducible rfl)
 simp only [za, zb, zc, zd]
 refine tk (v := ?_) 18 ⟨some 4, _, _, _, _, none⟩ rfl ?_ ?_
 case refine_2 => (rintro w9 -; (go_simp); (try omega); try with_reducible rfl)
 simp only [za, zb, zc, zd]
 refine wpAnyH_done (by kernel_rfl) ?_ _
 go_wp2_with fail
 exact bodyPost_ret (v := .bool false) (by simp [results, Tryd.results48, go_sem]) rfl ⟨rfl, hHeld⟩
def PV (b o cap : Nat) (L : List Tk) (w : World) : Prop := b < w.heap.size ∧ L.length ≤ 4096 ∧ L.length ≤ cap ∧ cap ≤ 9223372036854775807 ∧ ∀ j p, L[j]? = some p → (w.cell? ⟨b, o + j * 3, none⟩ = some (vi ki p.1) ∧ w.cell? ⟨b, o + j * 3 + 1, none⟩ = some (.string p.2.1) ∧ w.cell? ⟨b, o + j * 3 + 2, none⟩ = some (vi ki p.2.2)) ∧ 0 ≤ p.2.2 ∧ p.2.2 ≤ 4096 ∧ p.2.1.size ≤ 4096
theorem PV.below {b o cap : Nat} {L : List Tk} {w W : World} (h : PV b o cap L w) (k : Below w.heap.size w W) : PV b o cap L W := by
 refine ⟨Nat.lt_of_lt_of_le h.1 k.size, h.2.1, h.2.2.1, h.2.2.2.1, fun j p e => ?_⟩
 obtain ⟨⟨q1, q2, q3⟩, q4⟩ := h.2.2.2.2 j p e
 exact ⟨⟨(k.cell (p := ⟨b, o + j * 3, none⟩) h.1).trans q1, (k.cell (p := ⟨b, o + j * 3 + 1, none⟩) h.1).trans q2, (k.cell (p := ⟨b, o + j * 3 + 2, none⟩) h.1).trans q3⟩, q4⟩
theorem PV.drop {b o cap : Nat} {L : List Tk} {w : World} (h : PV b o cap L w) (m : Nat) (hm : m ≤ L.length) : PV b (o + m * 3) (cap - m) (L.drop m) w := by
 refine ⟨h.1, by simp; have := h.2.1; omega, by simp; have := h.2.2.1; omega, by have := h.2.2.2.1; omega, fun j p e => ?_⟩
 rw [List.getElem?_drop] at e
 have q := h.2.2.2.2 (m + j) p e
 rw [show o + m * 3 + j * 3 = o + (m + j) * 3 by omega]
 exact q
def bsd (L : List Tk) (k : Nat) : Bool := match L[k]?, L[k + 1]? with | some p, some q => besT p q | _, _ => false
theorem beside_any (b o cap : Nat) (L : List Tk) (k : Nat) (i : Int) (w : World) (h : PV b o cap L w) (hi : i = (k : Int) + 1) (hk : k ≤ 8000) :
  Calls Tryd.prog 48 #[.slice (some ⟨b, o, none⟩) L.length cap, vi ki i] w fun e w' => e = zr (.bool (bsd L k)) ∧ Below w.heap.size w w' := by
 subst hi
 obtain ⟨h1, h2, h3, h4, h5⟩ := h
 by_cases hn : k + 1 < L.length
 ·have e1 : L[k]? = some (L[k]'(by omega)) := List.getElem?_eq_getElem (by omega)
  have e2 : L[k + 1]? = some (L[k + 1]'hn) := List.getElem?_eq_getElem hn
  obtain ⟨⟨q0, q1, q2⟩, q3, q4, q5⟩ := h5 _ _ e1
  obtain ⟨⟨_, _, r2⟩, _⟩ := h5 _ _ e2
  have e3 : bsd L k = besT (L[k]'(by omega)) (L[k + 1]'hn) := by unfold bsd; rw [e1, e2]
  rw [e3]
  exact beside_in b o L.length cap k _ _ w hn h2 h3 h4 h1 q3 q4 q5 q0 q1 q2 r2
 ·have e2 : L[k + 1]? = none := List.getElem?_eq_none (by omega)
  have e3 : bsd L k = false := by unfold bsd; rw [e2]; cases L[k]? <;> rfl
  rw [e3]
  exact beside_out b o L.length cap _ w (by omega) (by omega) h2 h3 h4
theorem pair_any (b o cap : Nat) (p : Tk) (l : List Tk) (w : World) (h : PV b o cap (p :: l) w) :
  Calls Tryd.prog 47 #[.slice (some ⟨b, o, none⟩) (l.length + 1) cap] w fun e w' => e = zr (.bool (prT p l)) ∧ Below w.heap.size w w' := by
 have HV : Hid _ := h
 have hl := h.2.1
 have hc := h.2.2.1
 have hc2 := h.2.2.2.1
 have hb := h.1
 simp only [List.length_cons] at hl hc
 obtain ⟨⟨c0, c1, c2⟩, -⟩ := h.2.2.2.2 0 p rfl
 simp only [Nat.zero_mul, Nat.add_zero] at c0 c1 c2
 go_enter Tryd.func47, Tryd.ntmps47
 go_wp2_with fail
 refine (beside_any b o cap (p :: l) 0 _ w h (by simp) (by omega)).mono ?_
 rintro e W ⟨rfl, hk⟩
 have HK : Hid (Below w.heap.size w W) := hk
 cases l with
 | nil =>
  have e0 : bsd [p] 0 = false := rfl
  rw [e0]
  clear h hk
  go_wp2
  go_ret
  exact ⟨rfl, HK.out⟩
 | cons q l =>
  have e0 : bsd (p :: q :: l) 0 = besT p q := rfl
  rw [e0]
  obtain ⟨⟨d0, d1, d2⟩, -⟩ := h.2.2.2.2 1 q rfl
  have c1' := (hk.cell (p := ⟨b, o + 1, none⟩) hb).trans c1
  have d1' := (hk.cell (p := ⟨b, o + 1 * 3 + 1, none⟩) hb).trans d1
  have hs := hk.size
  clear h hk c0 c1 c2 d0 d1 d2
  simp only [Nat.one_mul, List.length_cons] at d1' hl hc ⊢
  cases hq : besT p q with
  | false =>
   have e1 : prT p (q :: l) = false := by simp [prT, hq]
   have HE : Hid _ := e1
   clear e1
   go_wp2
   go_ret
   exact ⟨by rw [HE.out]; rfl, HK.out⟩
  | true =>
   have HE : Hid (prT p (q :: l) = isPr (p.2.1 ++ q.2.1)) := by show prT p (q :: l) = _; simp [prT, hq]
   have hw : b < W.heap.size := by omega
   have hs1 : p.2.1.size ≤ 4096 := (HV.out.2.2.2.2 0 p rfl).2.2.2
   have hs2 : q.2.1.size ≤ 4096 := (HV.out.2.2.2.2 1 q rfl).2.2.2
   go_upto_region 3 with fail
   refine wp_region_held_drew (S := Below W.heap.size W) (by kernel_rfl) (drewB W) (fun hHeld => ?_)
   refine tk (v := ?_) 0 ⟨some 6, _, _, _, _, none⟩ rfl ?_ ?_
   case refine_2 => (rintro w9 -; (go_simp); (try omega); (try rw [if_neg (by omega)]); try with_reducible rfl)
   simp only [za, zb, zc, zd]
   refine wpAnyH_take (i := 1) (v := .pointer (some ⟨b, o, none⟩)) (oi := ⟨some 7, _, _, _, _, none⟩) rfl (by kernel_rfl) (by kernel_rfl) (by kernel_rfl) (fun _ _ _ h => h) (Or.inl ⟨by kernel_rfl, ?_⟩) (by assumption) ?_
   case refine_1 => (rintro w9 -; (go_simp); (try omega); (try rw [if_neg (by omega)]); try with_reducible rfl)
   simp only [za, zb, zc, zd]
   refine wpAnyH_take (i := 2) (v := .pointer (some ⟨b, o + 1, none⟩)) (oi := ⟨some 8, _, _, _, _, none⟩) rfl (by kernel_rfl) (by kernel_rfl) (by kernel_rfl) (fun _ _ _ h => h) (Or.inl ⟨by kernel_rfl, ?_⟩) (by assumption) ?_
   case refine_1 => (rintro w9 -; (go_simp); (try omega); (try rw [if_neg (by omega)]); try with_reducible rfl)
   simp only [za, zb, zc, zd]
   refine tk (v := ?_) 3 ⟨some 9, _, _, _, _, none⟩ rfl ?_ ?_
   case refine_2 => (intro w9 hSw; have q0 := (hSw.cell (p := ⟨b, o + 1, none⟩) hw).trans c1'; have q1 := (hSw.cell (p := ⟨b, o + 3 + 1, none⟩) hw).trans d1'; clear hSw; (go_simp); (try omega); (try rw [if_neg (by omega)]); try with_reducible rfl)
   simp only [za, zb, zc, zd]
   refine tk (v := ?_) 4 ⟨some 10, _, _, _, _, none⟩ rfl ?_ ?_
   case refine_2 => (rintro w9 -; (go_simp); (try omega); (try rw [if_neg (by omega)]); try with_reducible rfl)
   simp only [za, zb, zc, zd]
   refine wpAnyH_take (i := 5) (v := .pointer (some ⟨b, o + 3, none⟩)) (oi := ⟨some 11, _, _, _, _, none⟩) rfl (by kernel_rfl) (by kernel_rfl) (by kernel_rfl) (fun _ _ _ h => h) (Or.inl ⟨by kernel_rfl, ?_⟩) (by assumption) ?_
   case refine_1 => (rintro w9 -; (go_simp); (try omega); (try rw [if_neg (by omega)]); try with_reducible rfl)
   simp only [za, zb, zc, zd]
   refine wpAnyH_take (i := 6) (v := .pointer (some ⟨b, o + 3 + 1, none⟩)) (oi := ⟨some 12, _, _, _, _, none⟩) rfl (by kernel_rfl) (by kernel_rfl) (by kernel_rfl) (fun _ _ _ h => h) (Or.inl ⟨by kernel_rfl, ?_⟩) (by assumption) ?_
   case refine_1 => (rintro w9 -; (go_simp); (try omega); (try rw [if_neg (by omega)]); try with_reducible rfl)
   simp only [za, zb, zc, zd]
   refine tk (v := ?_) 7 ⟨some 13, _, _, _, _, none⟩ rfl ?_ ?_
   case refine_2 => (intro w9 hSw; have q0 := (hSw.cell (p := ⟨b, o + 1, none⟩) hw).trans c1'; have q1 := (hSw.cell (p := ⟨b, o + 3 + 1, none⟩) hw).trans d1'; clear hSw; (go_simp); (try omega); (try rw [if_neg (by omega)]); try with_reducible rfl)
   simp only [za, zb, zc, zd]
   refine wpAnyH_take (i := 8) (v := .string (p.2.1 ++ q.2.1)) (oi := ⟨some 14, _, _, _, _, none⟩) rfl (by kernel_rfl) (by kernel_rfl) (by kernel_rfl) (fun _ _ _ h => h) (Or.inl ⟨by kernel_rfl, ?_⟩) (by assumption) ?_
   case refine_1 => (rintro w9 -; (go_simp); (try omega); (try rw [if_neg (by omega)]); try with_reducible rfl)
   simp only [za, zb, zc, zd]
   refine wpAnyH_done (by kernel_rfl) ?_ _
   obtain ⟨t, ht⟩ : ∃ t, t = p.2.1 ++ q.2.1 := ⟨_, rfl⟩
   rw [← ht]
   have HE2 : Hid (prT p (q :: l) = isPr t) := by rw [ht]; exact HE.out
   have HH : Hid (Below w.heap.size w W.drew) := HK.out.trans (hHeld.mono HK.out.size)
   clear hHeld ht HE
   rcases Classical.em (t = ⟨#[60, 61]⟩) with rfl | h0
   ·go_wp2
    go_ret
    exact ⟨by rw [HE2.out]; rfl, HH.out⟩
   ·have g0 : (t.toList == [60, 61]) = false := by rw [lit_eq]; exact decide_eq_false h0
    rcases Classical.em (t = ⟨#[62, 61]⟩) with rfl | h1
    ·go_wp2
     go_ret
     exact ⟨by rw [HE2.out]; rfl, HH.out⟩
    ·have g1 : (t.toList == [62, 61]) = false := by rw [lit_eq]; exact decide_eq_false h1
     rcases Classical.em (t = ⟨#[60, 62]⟩) with rfl | h2
     ·go_wp2
      go_ret
      exact ⟨by rw [HE2.out]; rfl, HH.out⟩
     ·have g2 : (t.toList == [60, 62]) = false := by rw [lit_eq]; exact decide_eq_false h2
      rcases Classical.em (t = ⟨#[58, 58]⟩) with rfl | h3
      ·go_wp2
       go_ret
       exact ⟨by rw [HE2.out]; rfl, HH.out⟩
      ·have g3 : (t.toList == [58, 58]) = false := by rw [lit_eq]; exact decide_eq_false h3
       go_wp2
       go_ret
       exact ⟨by rw [HE2.out]; simp [isPr, h0, h1, h2, h3], HH.out⟩
theorem drop_at {L : List Tk} {j : Nat} {p : Tk} {l : List Tk} (h : L.drop j = p :: l) : L[j]? = some p ∧ L.drop (j + 1) = l ∧ j < L.length := by
 refine ⟨?_, ?_, ?_⟩
 ·have := congrArg (fun x => x[0]?) h; simpa using this
 ·have := congrArg (fun x => x.drop 1) h; simpa [List.drop_drop] using this
 ·have := congrArg List.length h; simp at this; omega
def bs0 (p : Tk) : List Tk → Bool
 | q :: _ => besT p q
 | [] => false
theorem bsd_drop {L : List Tk} {j : Nat} {p : Tk} {l : List Tk} (h : L.drop j = p :: l) : bsd L j = bs0 p l := by
 obtain ⟨h1, h2, h3⟩ := drop_at h
 have h4 : L[j + 1]? = l[0]? := by rw [← h2]; simp
 unfold bsd
 rw [h1, h4]
 cases l <;> rfl
theorem sign_any (b o cap : Nat) (p : Tk) (l : List Tk) (w : World) (h : PV b o cap (p :: l) w) :
  Calls Tryd.prog 46 #[.slice (some ⟨b, o, none⟩) (l.length + 1) cap] w fun e w' => e = zr (vi ki (toS 1 p l : Nat)) ∧ Below w.heap.size w w' := by
 have HV : Hid (PV b o cap (p :: l) w) := h
 have hl : l.length + 1 ≤ 4096 := h.2.1
 have hc : l.length + 1 ≤ cap := h.2.2.1
 have hc2 := h.2.2.2.1
 have hb := h.1
 clear h
 go_enter Tryd.func46, Tryd.ntmps46
 go_wp2_with fail
 go_loopw [3] (fun i W => ∃ (j : Nat) (p' : Tk) (l' : List Tk), i = vi ki ((j : Int) + 1) ∧ Hid ((p :: l).drop j = p' :: l') ∧ Hid (toS (j + 1) p' l' = toS 1 p l) ∧ Hid (Below w.heap.size w W)) (fun i _ => l.length + 1 - (intOf i).toNat)
 case atStart => exact ⟨0, p, l, rfl, rfl, rfl, Below.refl _ _⟩
 case round =>
  obtain ⟨j, p', l', rfl, HD, HS, HW⟩ := hrel
  have hj : j < l.length + 1 := (drop_at HD.out).2.2
  go_wp2_with fail
  refine (beside_any b o cap (p :: l) j _ _ (HV.out.below HW.out) rfl (by omega)).mono ?_
  rintro e V ⟨rfl, hk⟩
  rw [bsd_drop HD.out]
  have HU : Hid (Below w.heap.size w V) := HW.out.trans (hk.mono HW.out.size)
  have hs := HU.out.size
  clear hk
  cases l' with
  | nil =>
   have HE : Hid (toS 1 p l = j + 1) := HS.out.symm
   clear HS HD
   rw [show bs0 p' [] = false from rfl]
   go_wp2
   go_ret
   exact ⟨by rw [HE.out]; rfl, HU.out⟩
  | cons q l' =>
   obtain ⟨e1, e2, e3⟩ := drop_at HD.out
   have e4 : (p :: l).drop (j + 1) = q :: l' := e2
   obtain ⟨f1, f2, f3⟩ := drop_at e4
   obtain ⟨⟨c0, -, -⟩, -⟩ := (HV.out.below HU.out).2.2.2.2 (j + 1) q f1
   have HD2 : Hid ((p :: l).drop (j + 1) = q :: l') := e4
   simp only [List.length_cons] at f3
   clear e1 e2 e3 e4 f1 f2
   have f3' : (j : Int) + 1 < (l.length : Int) + 1 := by omega
   have hj0 : (0 : Int) ≤ (j : Int) := by omega
   have hlI : (l.length : Int) + 1 ≤ 4096 := by omega
   have hbV : b < V.heap.size := by omega
   rw [show bs0 p' (q :: l') = besT p' q from rfl]
   cases hq : besT p' q with
   | false =>
    have HE : Hid (toS 1 p l = j + 1) := by show _ = _; rw [← HS.out]; simp [toS, hq]
    clear HS HD
    go_wp2
    go_ret
    exact ⟨by rw [HE.out]; rfl, HU.out⟩
   | true =>
    have q9 : ((j : Int) + 1).toNat = j + 1 := by omega
    rcases Classical.em (q.1 = 3) with h3 | h3
    ·have HE : Hid (toS 1 p l = j + 1) := by show _ = _; rw [← HS.out]; simp [toS, hq, h3]
     rw [h3] at c0
     clear HS HD
     go_wp2
     go_ret
     exact ⟨by rw [HE.out]; rfl, HU.out⟩
    ·have HE : Hid (toS (j + 1 + 1) q l' = toS 1 p l) := by show _ = _; rw [← HS.out]; simp [toS, hq, h3]
     have h4 : (q.1 == 3) = false := by simpa using h3
     clear HS HD
     go_wp2
     exact ⟨⟨j + 1, q, l', by simp, HD2.out, HE.out, HU.out⟩, by simp [intOf]; omega⟩
theorem quote_any (b o cap : Nat) (p : Tk) (l : List Tk) (w : World) (h : PV b o cap (p :: l) w) :
  Calls Tryd.prog 45 #[.slice (some ⟨b, o, none⟩) (l.length + 1) cap] w fun e w' => e = zr (vi ki (toQ 1 l : Nat)) ∧ Below w.heap.size w w' := by
 have HV : Hid (PV b o cap (p :: l) w) := h
 have hl : l.length + 1 ≤ 4096 := h.2.1
 have hc : l.length + 1 ≤ cap := h.2.2.1
 have hc2 := h.2.2.2.1
 have hb := h.1
 clear h
 go_enter Tryd.func45, Tryd.ntmps45
 go_wp2_with fail
 go_loopw [3] (fun i W => ∃ (j : Nat), i = vi ki (j : Int) ∧ j ≤ l.length + 1 ∧ Hid (toQ j ((p :: l).drop j) = toQ 1 l) ∧ Hid (Below w.heap.size w W)) (fun i _ => l.length + 1 - (intOf i).toNat)
 case atStart => exact ⟨1, rfl, by omega, rfl, Below.refl _ _⟩
 case round =>
  obtain ⟨j, rfl, hj, HS, HW⟩ := hrel
  have hjI : (j : Int) ≤ 4096 := by omega
  have hj0 : (0 : Int) ≤ (j : Int) := by omega
  have hs := HW.out.size
  cases hd : (p :: l).drop j with
  | nil =>
   have hx : ¬ (j : Int) < (l.length : Int) + 1 := by have := congrArg List.length hd; simp at this; omega
   have HE : Hid (toQ 1 l = 0) := by show _ = _; rw [← HS.out, hd]; rfl
   clear HS hd
   go_wp2
   go_ret
   exact ⟨by rw [HE.out]; rfl, HW.out⟩
  | cons p' l' =>
   have HD : Hid ((p :: l).drop j = p' :: l') := hd
   obtain ⟨e1, e2, e3⟩ := drop_at hd
   simp only [List.length_cons] at e3
   obtain ⟨⟨-, c1, -⟩, -⟩ := (HV.out.below HW.out).2.2.2.2 j p' e1
   have e3' : (j : Int) < (l.length : Int) + 1 := by omega
   have hlI : (l.length : Int) + 1 ≤ 4096 := by omega
   have HS2 : Hid (toQ j (p' :: l') = toQ 1 l) := by show _ = _; rw [← HS.out, hd]
   have E2 : Hid (List.drop (j + 1) (p :: l) = l') := e2
   have hbV : b < wr.heap.size := by omega
   clear hd HS e1 e2
   rcases Classical.em (p'.2.1 = qB) with hp | hp
   ·have g1 : (p'.2.1.toList == [39]) = true := by rw [lit_eq]; exact decide_eq_true hp
    have HP : Hid (p'.2.1 = qB) := hp
    clear hp
    go_wp2_with fail
    refine (beside_any b o cap (p :: l) j _ _ (HV.out.below HW.out) rfl (by omega)).mono ?_
    rintro e V ⟨rfl, hk⟩
    rw [bsd_drop HD.out]
    have HU : Hid (Below w.heap.size w V) := HW.out.trans (hk.mono HW.out.size)
    have hsV := HU.out.size
    clear hk c1 HW
    cases l' with
    | nil =>
     have HE : Hid (toQ 1 l = j + 1) := by show _ = _; rw [← HS2.out]; simp [toQ, qt, HP.out]
     rw [show bs0 p' [] = false from rfl]
     clear HS2 HD E2
     go_wp2
     go_ret
     exact ⟨by rw [HE.out]; rfl, HU.out⟩
    | cons q l' =>
     rw [show bs0 p' (q :: l') = besT p' q from rfl]
     obtain ⟨f1, f2, f3⟩ := drop_at E2.out
     simp only [List.length_cons] at f3
     obtain ⟨⟨-, d1, -⟩, -⟩ := (HV.out.below HU.out).2.2.2.2 (j + 1) q f1
     have E3 : Hid (List.drop (j + 1 + 1) (p :: l) = l') := f2
     have f3' : (j : Int) + 1 < (l.length : Int) + 1 := by omega
     have hbV2 : b < V.heap.size := by omega
     have q9 : ((j : Int) + 1).toNat = j + 1 := by omega
     clear f1 f2
     cases hq : besT p' q with
     | false =>
      have HE : Hid (toQ 1 l = j + 1) := by show _ = _; rw [← HS2.out]; simp [toQ, qt, HP.out, hq]
      clear HS2 HD E2
      go_wp2
      go_ret
      exact ⟨by rw [HE.out]; rfl, HU.out⟩
     | true =>
      rcases Classical.em (q.2.1 = qB) with hp | hp
      ·have g2 : (q.2.1.toList == [39]) = true := by rw [lit_eq]; exact decide_eq_true hp
       have HE : Hid (toQ (j + 2) ((p :: l).drop (j + 2)) = toQ 1 l) := by show _ = _; rw [← HS2.out, E3.out]; simp [toQ, qt, HP.out, hq, hp]
       clear HS2 HD E2 hp
       go_wp2
       exact ⟨⟨j + 2, by simp; omega, by omega, HE.out, HU.out⟩, by simp [intOf]; omega⟩
      ·have g2 : (q.2.1.toList == [39]) = false := by rw [lit_eq]; exact decide_eq_false hp
       have HE : Hid (toQ 1 l = j + 1) := by show _ = _; rw [← HS2.out]; simp [toQ, qt, HP.out, hq, hp]
       clear HS2 HD E2 hp
       go_wp2
       go_ret
       exact ⟨by rw [HE.out]; rfl, HU.out⟩
   ·have g1 : (p'.2.1.toList == [39]) = false := by rw [lit_eq]; exact decide_eq_false hp
    have HE : Hid (toQ (j + 1) ((p :: l).drop (j + 1)) = toQ 1 l) := by
     show _ = _
     rw [← HS2.out, E2.out]
     cases l' <;> simp [toQ, qt, hp]
    go_wp2
    exact ⟨⟨j + 1, by simp, by omega, HE.out, HW.out⟩, by simp [intOf]; omega⟩
theorem dcT_no1 {p q : Tk} {l : List Tk} (h : besT p q = false) : dcT p (q :: l) = false := by cases l <;> simp [dcT, h]
theorem dcT_no2 {p q : Tk} {l : List Tk} (h : ¬ q.2.1 = ⟨#[46]⟩) : dcT p (q :: l) = false := by cases l <;> simp [dcT, h]
theorem dcT_no3 {p q r : Tk} {l : List Tk} (h : besT q r = false) : dcT p (q :: r :: l) = false := by simp [dcT, h]
theorem dcT_no4 {p q r : Tk} {l : List Tk} (h : ¬ r.1 = 1) : dcT p (q :: r :: l) = false := by simp [dcT, h]
theorem first_any (b o cap : Nat) (p : Tk) (l : List Tk) (w : World) (h : PV b o cap (p :: l) w) :
  Calls Tryd.prog 24 #[.slice (some ⟨b, o, none⟩) (l.length + 1) cap] w fun e w' => e = zr (.tuple #[vi ki (fstT p l).1, vi ki ((fstT p l).2 : Nat)]) ∧ Below w.heap.size w w' := by
 have HV : Hid (PV b o cap (p :: l) w) := h
 have hl : l.length + 1 ≤ 4096 := h.2.1
 have hlI : (l.length : Int) + 1 ≤ 4096 := by omega
 have hl0 : (0 : Int) < (l.length : Int) + 1 := by omega
 have hc : l.length + 1 ≤ cap := h.2.2.1
 have hc2 := h.2.2.2.1
 have hb := h.1
 obtain ⟨⟨c0, c1, -⟩, -⟩ := h.2.2.2.2 0 p rfl
 simp only [Nat.zero_mul, Nat.add_zero] at c0 c1
 clear h
 rcases Classical.em (p.2.1 = qB) with hp | hp
 ·have g1 : (p.2.1.toList == [39]) = true := by rw [lit_eq]; exact decide_eq_true hp
  have HE : Hid (fstT p l = (3, toQ 1 l)) := by show _ = _; simp [fstT, qt, hp]
  clear hp
  go_enter Tryd.func24, Tryd.ntmps24
  go_wp2_with fail
  refine (quote_any b o cap p l w HV.out).mono ?_
  rintro e V ⟨rfl, hk⟩
  have HU : Hid (Below w.heap.size w V) := hk
  clear hk
  go_wp2
  exact bodyPost_ret (v := .tuple #[vi ki 3, vi ki (toQ 1 l : Nat)]) (by simp [results, Tryd.results24, go_sem]) rfl ⟨by rw [HE.out], HU.out⟩
 have g1 : (p.2.1.toList == [39]) = false := by rw [lit_eq]; exact decide_eq_false hp
 rcases Classical.em (p.1 = 2) with h2 | h2
 ·have HE : Hid (fstT p l = (4, toS 1 p l)) := by show _ = _; simp [fstT, qt, hp, h2]
  rw [h2] at c0
  clear hp h2
  go_enter Tryd.func24, Tryd.ntmps24
  go_wp2_with fail
  refine (sign_any b o cap p l w HV.out).mono ?_
  rintro e V ⟨rfl, hk⟩
  have HU : Hid (Below w.heap.size w V) := hk
  clear hk
  go_wp2
  exact bodyPost_ret (v := .tuple #[vi ki 4, vi ki (toS 1 p l : Nat)]) (by simp [results, Tryd.results24, go_sem]) rfl ⟨by rw [HE.out], HU.out⟩
 have g2 : (p.1 == 2) = false := by simpa using h2
 rcases Classical.em (p.1 = 3) with h3 | h3
 ·have HE : Hid (fstT p l = (5, if prT p l then 2 else 1)) := by show _ = _; simp [fstT, qt, hp, h3]
  rw [h3] at c0
  clear hp h2 g2 h3
  go_enter Tryd.func24, Tryd.ntmps24
  go_wp2_with fail
  refine (pair_any b o cap p l w HV.out).mono ?_
  rintro e V ⟨rfl, hk⟩
  have HU : Hid (Below w.heap.size w V) := hk
  have c0' := (hk.cell (p := ⟨b, o, none⟩) hb).trans c0
  have hbV : b < V.heap.size := Nat.lt_of_lt_of_le hb hk.size
  clear hk
  cases hpr : prT p l with
  | false =>
   have HE2 : Hid (fstT p l = (5, 1)) := by show _ = _; rw [HE.out, hpr]; rfl
   go_wp2
   exact bodyPost_ret (v := .tuple #[vi ki 5, vi ki 1]) (by simp [results, Tryd.results24, go_sem]) rfl ⟨by rw [HE2.out]; rfl, HU.out⟩
  | true =>
   have HE2 : Hid (fstT p l = (5, 2)) := by show _ = _; rw [HE.out, hpr]; rfl
   go_wp2
   exact bodyPost_ret (v := .tuple #[vi ki 5, vi ki 2]) (by simp [results, Tryd.results24, go_sem]) rfl ⟨by rw [HE2.out]; rfl, HU.out⟩
 have g3 : (p.1 == 3) = false := by simpa using h3
 have HE : Hid (fstT p l = if dcT p l then (2, 3) else (1, 1)) := by show _ = _; simp [fstT, qt, hp, h2, h3]
 clear hp h2 h3
 go_enter Tryd.func24, Tryd.ntmps24
 go_wp2_with fail
 refine (beside_any b o cap (p :: l) 0 _ w HV.out (by simp) (by omega)).mono ?_
 rintro e V ⟨rfl, hk⟩
 rw [bsd_drop (show (p :: l).drop 0 = p :: l from rfl)]
 have HU : Hid (Below w.heap.size w V) := hk
 have hsV := hk.size
 clear hk c0 c1
 cases l with
 | nil =>
  rw [show bs0 p [] = false from rfl]
  have HE2 : Hid (fstT p [] = (1, 1)) := by show _ = _; rw [HE.out, if_neg (by simp [dcT])]
  clear HE
  go_wp2
  exact bodyPost_ret (v := .tuple #[vi ki 1, vi ki 1]) (by simp [results, Tryd.results24, go_sem]) rfl ⟨by rw [HE2.out]; rfl, HU.out⟩
 | cons q l =>
  rw [show bs0 p (q :: l) = besT p q from rfl]
  obtain ⟨⟨-, d1, -⟩, -⟩ := (HV.out.below HU.out).2.2.2.2 1 q rfl
  simp only [Nat.one_mul] at d1
  have hbV : b < V.heap.size := by omega
  simp only [List.length_cons] at hl hc hlI hl0 ⊢
  have hl1 : (1 : Int) < (l.length : Int) + 1 + 1 := by omega
  cases hq : besT p q with
  | false =>
   have HE2 : Hid (fstT p (q :: l) = (1, 1)) := by show _ = _; rw [HE.out, if_neg (by simp [dcT_no1 hq])]
   clear HE
   go_wp2
   exact bodyPost_ret (v := .tuple #[vi ki 1, vi ki 1]) (by simp [results, Tryd.results24, go_sem]) rfl ⟨by rw [HE2.out]; rfl, HU.out⟩
  | true =>
   rcases Classical.em (q.2.1 = ⟨#[46]⟩) with hp | hp
   rotate_left
   ·have g4 : (q.2.1.toList == [46]) = false := by rw [lit_eq]; exact decide_eq_false hp
    have HE2 : Hid (fstT p (q :: l) = (1, 1)) := by show _ = _; rw [HE.out, if_neg (by simp [dcT_no2 hp])]
    clear HE
    go_wp2
    exact bodyPost_ret (v := .tuple #[vi ki 1, vi ki 1]) (by simp [results, Tryd.results24, go_sem]) rfl ⟨by rw [HE2.out]; rfl, HU.out⟩
   ·have g4 : (q.2.1.toList == [46]) = true := by rw [lit_eq]; exact decide_eq_true hp
    have HP : Hid (q.2.1 = ⟨#[46]⟩) := hp
    clear hp
    go_wp2_with fail
    refine (beside_any b o cap (p :: q :: l) 1 _ _ (HV.out.below HU.out) (by simp) (by omega)).mono ?_
    rintro e U ⟨rfl, hk⟩
    rw [bsd_drop (show (p :: q :: l).drop 1 = q :: l from rfl)]
    replace HU : Hid (Below w.heap.size w U) := HU.out.trans (hk.mono hsV)
    have hsU := HU.out.size
    clear hk d1
    cases l with
    | nil =>
     rw [show bs0 q [] = false from rfl]
     have HE2 : Hid (fstT p [q] = (1, 1)) := by show _ = _; rw [HE.out, if_neg (by simp [dcT])]
     clear HE
     go_wp2
     exact bodyPost_ret (v := .tuple #[vi ki 1, vi ki 1]) (by simp [results, Tryd.results24, go_sem]) rfl ⟨by rw [HE2.out]; rfl, HU.out⟩
    | cons r l =>
     rw [show bs0 q (r :: l) = besT q r from rfl]
     obtain ⟨⟨d0, -, -⟩, -⟩ := (HV.out.below HU.out).2.2.2.2 2 r rfl
     simp only [Nat.reduceMul] at d0
     have hbU : b < U.heap.size := by omega
     simp only [List.length_cons] at hl hc hlI hl0 hl1 ⊢
     have hl2 : (2 : Int) < (l.length : Int) + 1 + 1 + 1 := by omega
     cases hq2 : besT q r with
     | false =>
      have HE2 : Hid (fstT p (q :: r :: l) = (1, 1)) := by show _ = _; rw [HE.out, if_neg (by simp [dcT_no3 hq2])]
      clear HE
      go_wp2
      exact bodyPost_ret (v := .tuple #[vi ki 1, vi ki 1]) (by simp [results, Tryd.results24, go_sem]) rfl ⟨by rw [HE2.out]; rfl, HU.out⟩
     | true =>
      rcases Classical.em (r.1 = 1) with h1 | h1
      ·have HE2 : Hid (fstT p (q :: r :: l) = (2, 3)) := by show _ = _; rw [HE.out, if_pos (by simp [dcT, hq, hq2, h1, HP.out])]
       rw [h1] at d0
       clear HE
       go_wp2
       exact bodyPost_ret (v := .tuple #[vi ki 2, vi ki 3]) (by simp [results, Tryd.results24, go_sem]) rfl ⟨by rw [HE2.out]; rfl, HU.out⟩
      ·have g5 : (r.1 == 1) = false := by simpa using h1
       have HE2 : Hid (fstT p (q :: r :: l) = (1, 1)) := by show _ = _; rw [HE.out, if_neg (by simp [dcT_no4 h1])]
       clear HE
       go_wp2
       exact bodyPost_ret (v := .tuple #[vi ki 1, vi ki 1]) (by simp [results, Tryd.results24, go_sem]) rfl ⟨by rw [HE2.out]; rfl, HU.out⟩
theorem rep_unq : ∀ l : List UInt8, Lib.replaceK [39, 39] [39] (Lib.count l [39, 39]) l = unq l
 | [] => rfl
 | [c] => by
  have e : Lib.index [c] [39, 39] = -1 := by simp [Lib.index, List.isPrefixOf]
  rw [Lib.count_miss e]; rfl
 | a :: b :: l => by
  by_cases h : a = 39 ∧ b = 39
  ·obtain ⟨rfl, rfl⟩ := h
   have e : Lib.index (39 :: 39 :: l) [39, 39] = (0 : Nat) := by simp [Lib.index, List.isPrefixOf]
   rw [Lib.count_hit (by simp) e, Nat.add_comm, Lib.replaceK_hit _ _ _ _ 0 e]
   simp only [List.length_cons, List.length_nil, Nat.zero_add, List.take_zero, List.nil_append, List.drop_succ_cons, List.drop_zero]
   rw [rep_unq l]
   simp [unq]
  ·have ih := rep_unq (b :: l)
   have hp : List.isPrefixOf [39, 39] (a :: b :: l) = false := by
    simp only [List.isPrefixOf, Bool.and_true, Bool.and_eq_false_iff, beq_eq_false_iff_ne]
    rcases Classical.em (a = 39) with rfl | ha
    ·exact .inr fun q => h ⟨rfl, q.symm⟩
    ·exact .inl fun q => ha q.symm
   have e0 : Lib.index (a :: b :: l) [39, 39] = if Lib.index (b :: l) [39, 39] == -1 then -1 else Lib.index (b :: l) [39, 39] + 1 := by
    rw [Lib.index, hp]; simp
   rw [show unq (a :: b :: l) = a :: unq (b :: l) by rw [unq, if_neg h], ← ih]
   have hge := Lib.index_ge (b :: l) [39, 39]
   by_cases hm : Lib.index (b :: l) [39, 39] = -1
   ·rw [hm] at e0
    rw [Lib.count_miss e0, Lib.count_miss hm]; rfl
   ·obtain ⟨i, hi⟩ : ∃ i : Nat, Lib.index (b :: l) [39, 39] = i := ⟨(Lib.index (b :: l) [39, 39]).toNat, by omega⟩
    have e1 : Lib.index (a :: b :: l) [39, 39] = (i + 1 : Nat) := by
     rw [e0, hi, if_neg (by simp <;> omega)]; simp
    rw [Lib.count_hit (by simp) e1, Lib.count_hit (by simp) hi, Nat.add_comm 1, Nat.add_comm 1, Lib.replaceK_hit _ _ _ _ _ e1, Lib.replaceK_hit _ _ _ _ _ hi]
    simp only [List.length_cons, List.length_nil, Nat.zero_add, Nat.add_assoc, List.take_succ_cons, List.cons_append]
    rw [show i + (1 + (1 + 1)) = i + (1 + 1) + 1 by omega, List.drop_succ_cons]
theorem repl_unq (l : List UInt8) : Lib.replaceAll l [39, 39] [39] = unq l := by
 rw [← rep_unq l]
 simp [Lib.replaceAll, Lib.replace, Lib.replaceNum]
def saidT (k : Int) (t : ByteArray) : ByteArray := if k = 4 then lowB t else if k = 3 then ⟨(unq (t.extract 1 (t.size - 1)).data.toList).toArray⟩ else t
theorem said_any (k : Int) (t : ByteArray) (m : Int) (w : World) (hm : w.cell? ⟨2, 0, none⟩ = some (vi ki m)) (ht : t.size ≤ 4096) (h3 : k = 3 → 2 ≤ t.size) :
  Calls Tryd.prog 25 #[vi ki k, .string t] w fun e w' => e = zr (.string (saidT k t)) ∧ Below w.heap.size w w' := by
 have htI : (t.size : Int) ≤ 4096 := by omega
 rcases Classical.em (k = 4) with rfl | h4
 ·have HE : Hid (saidT 4 t = lowB t) := by show _ = _; simp [saidT]
  clear h3
  go_enter Tryd.func25, Tryd.ntmps25
  go_wp2_with fail
  refine (lower_any t (by unfold maxLen; omega) w).mono ?_
  rintro e V ⟨rfl, hk⟩
  have HU : Hid (Below w.heap.size w V) := hk
  clear hk
  go_wp2
  go_ret
  exact ⟨by rw [HE.out]; rfl, HU.out⟩
 have g4 : (k == 4) = false := by simpa using h4
 rcases Classical.em (k = 3) with rfl | hk3
 ·have HE : Hid (saidT 3 t = ⟨(unq (t.extract 1 (t.size - 1)).data.toList).toArray⟩) := by show _ = _; simp [saidT]
  have hz : 2 ≤ t.size := h3 rfl
  have hzI : (2 : Int) ≤ (t.size : Int) := by omega
  have q9 : ((t.size : Int) - 1).toNat = t.size - 1 := by omega
  have hsz : (t.extract 1 (t.size - 1)).size ≤ 4096 := by rw [ByteArray.size_extract]; omega
  have RC : Hid (Calls Tryd.prog 41 #[.string (t.extract 1 (t.size - 1)), .string ⟨#[39, 39]⟩, .string ⟨#[39]⟩] w fun e w' => e = zr (.string (saidT 3 t)) ∧ Below w.heap.size w w') := by
   have hl := Lib.countB_le ⟨#[39, 39]⟩ (by decide) _ (t.extract 1 (t.size - 1)) (Nat.le_refl _)
   have := Tryd.strings_ReplaceAll (t.extract 1 (t.size - 1)) ⟨#[39, 39]⟩ ⟨#[39]⟩ m w (by omega) hm (by decide) (by rw [show (⟨#[39]⟩ : ByteArray).size = 1 from rfl]; omega)
   rw [repl_unq] at this
   rw [HE.out]
   exact this
  clear HE
  clear h3 h4 g4
  go_enter Tryd.func25, Tryd.ntmps25
  go_wp2_with fail
  refine RC.out.mono ?_
  rintro e V ⟨rfl, hk⟩
  have HU : Hid (Below w.heap.size w V) := hk
  clear hk
  go_wp2
  go_ret
  exact ⟨rfl, HU.out⟩
 have g3 : (k == 3) = false := by simpa using hk3
 have HE : Hid (saidT k t = t) := by show _ = _; simp [saidT, h4, hk3]
 go_enter Tryd.func25, Tryd.ntmps25
 go_wp2
 go_ret
 exact ⟨by rw [HE.out]; rfl, Below.refl _ _⟩
end Go.Proofs.YtaoocecipacnhaaDoor
