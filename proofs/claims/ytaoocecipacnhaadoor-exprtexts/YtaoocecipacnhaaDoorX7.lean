import Derived.Test.YtaoocecipacnhaaDoorX6
import Derived.Shelf.Strings.BuilderK
open Go.Value renaming int → vi, string → vS, slice → vL
open Go.IntKind renaming i64 → ki
open List renaming setIfInBounds_toArray → zb, set_cons_zero → zc, set_cons_succ → zd, length_cons → zl
open Go.Act renaming put → za
open Go.Ending renaming returned → zr
set_option maxRecDepth 100000
set_option maxHeartbeats 16000000
set_option linter.all false
namespace Go.Proofs.YtaoocecipacnhaaDoor
open Go.RowKit
theorem lit_eq (t : ByteArray) (l : List UInt8) : (t.toList == l) = decide (t = ⟨l.toArray⟩) := by
 rw [← toList_eq t ⟨l.toArray⟩, Lib.toList_data ⟨l.toArray⟩]
theorem drewB (w : World) : Below w.heap.size w w.drew := ⟨rfl, rfl, rfl, Nat.le_refl _, fun _ _ => rfl⟩
theorem behind_any (k : Int) (t : ByteArray) (a : Int) (w : World) (a0 : 0 ≤ a) (a1 : a ≤ 4096) (ht : t.size ≤ 4096) :
  Calls Tryd.prog 26 #[.agg #[vi ki k, vS t, vi ki a]] w fun e w' => e = zr (vi ki (a + (t.size : Int))) ∧ Below w.heap.size w w' := by
 have hs : (t.size : Int) ≤ 4096 := by omega
 have hs0 : (0 : Int) ≤ (t.size : Int) := by omega
 go_enter Tryd.func26, Tryd.ntmps26
 go_wp2
 go_ret
 exact ⟨by simp, (Below.refl _ w).alloc (Nat.le_refl _) _⟩
theorem beside_in (b o n cap k : Nat) (p q : Tk) (w : World) (hn : k + 1 < n) (hnm : n ≤ 4096) (hn2 : n ≤ cap) (hcap : cap ≤ 9223372036854775807) (hb : b < w.heap.size) (a0 : 0 ≤ p.2.2) (a1 : p.2.2 ≤ 4096) (hs : p.2.1.size ≤ 4096)
  (c0 : w.cell? ⟨b, o + k * 3, none⟩ = some (vi ki p.1)) (c1 : w.cell? ⟨b, o + k * 3 + 1, none⟩ = some (vS p.2.1)) (c2 : w.cell? ⟨b, o + k * 3 + 2, none⟩ = some (vi ki p.2.2)) (c3 : w.cell? ⟨b, o + (k + 1) * 3 + 2, none⟩ = some (vi ki q.2.2)) :
  Calls Tryd.prog 48 #[vL (some ⟨b, o, none⟩) n cap, vi ki ((k : Int) + 1)] w fun e w' => e = zr (.bool (besT p q)) ∧ Below w.heap.size w w' := by
 have hn' : (k : Int) + 1 < (n : Int) := by omega
 have hnm' : (n : Int) ≤ 4096 := by omega
 have hk0 : (0 : Int) ≤ (k : Int) := by omega
 go_enter Tryd.func48, Tryd.ntmps48
 go_upto_region 1 with fail
 refine wp_region_held_drew (S := Below w.heap.size w) (by kernel_rfl) (drewB w) (fun hHeld => ?_)
 refine tk (v := ?_) 0 (oi := ⟨some 5, _, _, _, _, none⟩) ?_ ?_
 case refine_2 => (rintro w9 -; (go_simp); (try omega); (try (rw [show IntKind.i64.wrap (k : Int) = (k : Int) by rw [IntKind.wrap_i64]; omega])); (try go_simp); (try omega); try with_reducible rfl)
 simp only [za, zb, zc, zd]
 refine tk (v := ?_) 1 (oi := ⟨some 6, _, _, _, _, none⟩) ?_ ?_
 case refine_2 => (rintro w9 -; (go_simp); (try omega); (try (rw [show IntKind.i64.wrap (k : Int) = (k : Int) by rw [IntKind.wrap_i64]; omega])); (try go_simp); (try omega); try with_reducible rfl)
 simp only [za, zb, zc, zd]
 refine tk (v := ?_) 2 (oi := ⟨some 7, _, _, _, _, none⟩) ?_ ?_
 case refine_2 => (rintro w9 -; (go_simp); (try omega); (try (rw [show IntKind.i64.wrap (k : Int) = (k : Int) by rw [IntKind.wrap_i64]; omega])); (try go_simp); (try omega); try with_reducible rfl)
 simp only [za, zb, zc, zd]
 refine tk (v := ?_) 3 (oi := ⟨some 8, _, _, _, _, none⟩) ?_ ?_
 case refine_2 => (rintro w9 -; (go_simp); (try omega); (try (rw [show IntKind.i64.wrap (k : Int) = (k : Int) by rw [IntKind.wrap_i64]; omega])); (try go_simp); (try omega); try with_reducible rfl)
 simp only [za, zb, zc, zd]
 refine tk (v := ?_) 4 (oi := ⟨some 9, _, _, _, _, none⟩) ?_ ?_
 case refine_2 => (rintro w9 -; (go_simp); (try omega); (try (rw [show IntKind.i64.wrap (k : Int) = (k : Int) by rw [IntKind.wrap_i64]; omega])); (try go_simp); (try omega); try with_reducible rfl)
 simp only [za, zb, zc, zd]
 refine tk (v := ?_) 5 (oi := ⟨some 10, _, _, _, _, some (4, true)⟩) ?_ ?_
 case refine_2 => (rintro w9 -; (go_simp); (try omega); (try (rw [show IntKind.i64.wrap (k : Int) = (k : Int) by rw [IntKind.wrap_i64]; omega])); (try go_simp); (try omega); try with_reducible rfl)
 simp only [za, zb, zc, zd]
 refine tk (v := ?_) 6 (oi := ⟨some 11, _, _, _, _, some (4, true)⟩) ?_ ?_
 case refine_2 => (rintro w9 -; (go_simp); (try omega); (try (rw [show IntKind.i64.wrap (k : Int) = (k : Int) by rw [IntKind.wrap_i64]; omega])); (try go_simp); (try omega); try with_reducible rfl)
 simp only [za, zb, zc, zd]
 refine wpAnyH_take (i := 7) (v := .pointer (some ⟨b, o + (k + 1) * 3, none⟩)) (oi := ⟨some 12, _, _, _, _, some (4, true)⟩) rfl (by kernel_rfl) (by kernel_rfl) (by kernel_rfl) (fun _ _ _ h => h) (Or.inl ⟨by kernel_rfl, ?_⟩) (by assumption) ?_
 case refine_1 => (rintro w9 -; (go_simp); (try omega); (try (rw [show IntKind.i64.wrap (k : Int) = (k : Int) by rw [IntKind.wrap_i64]; omega])); (try go_simp); (try omega); try with_reducible rfl)
 simp only [za, zb, zc, zd]
 refine wpAnyH_take (i := 8) (v := .pointer (some ⟨b, o + (k + 1) * 3 + 2, none⟩)) (oi := ⟨some 13, _, _, _, _, some (4, true)⟩) rfl (by kernel_rfl) (by kernel_rfl) (by kernel_rfl) (fun _ _ _ h => h) (Or.inl ⟨by kernel_rfl, ?_⟩) (by assumption) ?_
 case refine_1 => (rintro w9 -; (go_simp); (try omega); (try (rw [show IntKind.i64.wrap (k : Int) = (k : Int) by rw [IntKind.wrap_i64]; omega])); (try go_simp); (try omega); try with_reducible rfl)
 simp only [za, zb, zc, zd]
 refine tk (v := ?_) 9 (oi := ⟨some 14, _, _, _, _, some (4, true)⟩) ?_ ?_
 case refine_2 => (intro w9 hSw; have q0 := (hSw.cell (p := ⟨b, o + k * 3, none⟩) hb).trans c0; have q1 := (hSw.cell (p := ⟨b, o + k * 3 + 1, none⟩) hb).trans c1; have q2 := (hSw.cell (p := ⟨b, o + k * 3 + 2, none⟩) hb).trans c2; have q3 := (hSw.cell (p := ⟨b, o + (k + 1) * 3 + 2, none⟩) hb).trans c3; clear hSw; (go_simp); (try omega); (try (rw [show IntKind.i64.wrap (k : Int) = (k : Int) by rw [IntKind.wrap_i64]; omega])); (try go_simp); (try omega); try with_reducible rfl)
 simp only [za, zb, zc, zd]
 refine tk (v := ?_) 10 (oi := ⟨some 15, _, _, _, _, some (4, true)⟩) ?_ ?_
 case refine_2 => (rintro w9 -; (go_simp); (try omega); (try (rw [show IntKind.i64.wrap (k : Int) = (k : Int) by rw [IntKind.wrap_i64]; omega])); (try go_simp); (try omega); try with_reducible rfl)
 simp only [za, zb, zc, zd]
 refine tk (v := ?_) 11 (oi := ⟨some 16, _, _, _, _, some (4, true)⟩) ?_ ?_
 case refine_2 => (rintro w9 -; (go_simp); (try omega); (try (rw [show IntKind.i64.wrap (k : Int) = (k : Int) by rw [IntKind.wrap_i64]; omega])); (try go_simp); (try omega); try with_reducible rfl)
 simp only [za, zb, zc, zd]
 refine wpAnyH_take (i := 12) (v := vi ki (IntKind.i64.wrap (k : Int))) (oi := ⟨some 17, _, _, _, _, some (4, true)⟩) rfl (by kernel_rfl) (by kernel_rfl) (by kernel_rfl) (fun _ _ _ h => h) (Or.inl ⟨by kernel_rfl, ?_⟩) (by assumption) ?_
 case refine_1 => (rintro w9 -; (go_simp); (try omega); (try (rw [show IntKind.i64.wrap (k : Int) = (k : Int) by rw [IntKind.wrap_i64]; omega])); (try go_simp); (try omega); try with_reducible rfl)
 simp only [za, zb, zc, zd]
 refine wpAnyH_take (i := 13) (v := .pointer (some ⟨b, o + k * 3, none⟩)) (oi := ⟨some 18, _, _, _, _, some (4, true)⟩) rfl (by kernel_rfl) (by kernel_rfl) (by kernel_rfl) (fun _ _ _ h => h) (Or.inl ⟨by kernel_rfl, ?_⟩) (by assumption) ?_
 case refine_1 => (rintro w9 -; (go_simp); (try omega); (try (rw [show IntKind.i64.wrap (k : Int) = (k : Int) by rw [IntKind.wrap_i64]; omega])); (try go_simp); (try omega); try with_reducible rfl)
 simp only [za, zb, zc, zd]
 refine tk (v := ?_) 14 (oi := ⟨some 19, _, _, _, _, some (4, true)⟩) ?_ ?_
 case refine_2 => (intro w9 hSw; have q0 := (hSw.cell (p := ⟨b, o + k * 3, none⟩) hb).trans c0; have q1 := (hSw.cell (p := ⟨b, o + k * 3 + 1, none⟩) hb).trans c1; have q2 := (hSw.cell (p := ⟨b, o + k * 3 + 2, none⟩) hb).trans c2; have q3 := (hSw.cell (p := ⟨b, o + (k + 1) * 3 + 2, none⟩) hb).trans c3; clear hSw; (go_simp); (try omega); (try (rw [show IntKind.i64.wrap (k : Int) = (k : Int) by rw [IntKind.wrap_i64]; omega])); (try go_simp); (try omega); try with_reducible rfl)
 simp only [za, zb, zc, zd]
 refine rd 15 (fun K hK => ?_)
 go_simp
 refine (behind_any p.1 p.2.1 p.2.2 _ a0 a1 hs).mono ?_
 rintro e v1 ⟨rfl, hb1⟩
 refine hK.out _ _ (hHeld.trans (hb1.mono hHeld.size)) (fun hHeld => ?_)
 clear hK K hb1
 refine tk (v := ?_) 16 (oi := ⟨some 21, _, _, _, _, some (4, true)⟩) ?_ ?_
 case refine_2 => (rintro w9 -; (go_simp); (try omega); (try (rw [show IntKind.i64.wrap (k : Int) = (k : Int) by rw [IntKind.wrap_i64]; omega])); (try go_simp); (try omega); try with_reducible rfl)
 simp only [za, zb, zc, zd]
 refine tk (v := ?_) 17 (oi := ⟨some 22, _, _, _, _, none⟩) ?_ ?_
 case refine_2 => (rintro w9 -; (go_simp); (try omega); (try (rw [show IntKind.i64.wrap (k : Int) = (k : Int) by rw [IntKind.wrap_i64]; omega])); (try go_simp); (try omega); try with_reducible rfl)
 simp only [za, zb, zc, zd]
 refine tk (v := ?_) 18 (oi := ⟨some 4, _, _, _, _, none⟩) ?_ ?_
 case refine_2 => (rintro w9 -; (go_simp); (try omega); (try (rw [show IntKind.i64.wrap (k : Int) = (k : Int) by rw [IntKind.wrap_i64]; omega])); (try go_simp); (try omega); try with_reducible rfl)
 simp only [za, zb, zc, zd]
 refine dn ?_
 go_wp2_with fail
 exact bodyPost_ret (v := .bool (besT p q)) (by simp [results, Tryd.results48, go_sem, besT]; rfl) rfl ⟨rfl, hHeld⟩
theorem beside_out (b o n cap : Nat) (i : Int) (w : World) (hn : (n : Int) ≤ i) (hi : i ≤ 8192) (hnm : n ≤ 4096) (hn2 : n ≤ cap) (hcap : cap ≤ 9223372036854775807) :
  Calls Tryd.prog 48 #[vL (some ⟨b, o, none⟩) n cap, vi ki i] w fun e w' => e = zr (.bool false) ∧ Below w.heap.size w w' := by
 have hnm' : (n : Int) ≤ 4096 := by omega
 have hn' : ¬ i < (n : Int) := by omega
 go_enter Tryd.func48, Tryd.ntmps48
 go_upto_region 1 with fail
 refine wp_region_held_drew (S := Below w.heap.size w) (by kernel_rfl) (drewB w) (fun hHeld => ?_)
 refine tk (v := ?_) 0 ?_ ?_
 case refine_2 => (rintro w9 -; (go_simp); (try omega); try with_reducible rfl)
 simp only [za, zb, zc, zd]
 refine tk (v := ?_) 1 ?_ ?_
 case refine_2 => (rintro w9 -; (go_simp); (try omega); try with_reducible rfl)
 simp only [za, zb, zc, zd]
 refine tk (v := ?_) 2 ?_ ?_
 case refine_2 => (rintro w9 -; (go_simp); (try omega); try with_reducible rfl)
 simp only [za, zb, zc, zd]
 refine tk (v := ?_) 3 ?_ ?_
 case refine_2 => (rintro w9 -; (go_simp); (try omega); try with_reducible rfl)
 simp only [za, zb, zc, zd]
 refine tk (v := ?_) 4 ?_ ?_
 case refine_2 => (rintro w9 -; (go_simp); (try omega); try with_reducible rfl)
 simp only [za, zb, zc, zd]
 refine tku 5 ?_
 simp only [za, zb, zc, zd]
 refine tku 6 ?_
 simp only [za, zb, zc, zd]
 refine tku 7 ?_
 simp only [za, zb, zc, zd]
 refine tku 8 ?_
 simp only [za, zb, zc, zd]
 refine tku 9 ?_
 simp only [za, zb, zc, zd]
 refine tku 10 ?_
 simp only [za, zb, zc, zd]
 refine tku 11 ?_
 simp only [za, zb, zc, zd]
 refine tku 12 ?_
 simp only [za, zb, zc, zd]
 refine tku 13 ?_
 simp only [za, zb, zc, zd]
 refine tku 14 ?_
 simp only [za, zb, zc, zd]
 refine tku 15 ?_
 simp only [za, zb, zc, zd]
 refine tku 16 ?_
 simp only [za, zb, zc, zd]
 refine tk (v := ?_) 17 ?_ ?_
 case refine_2 => (rintro w9 -; (go_simp); (try omega); try with_reducible rfl)
 simp only [za, zb, zc, zd]
 refine tk (v := ?_) 18 ?_ ?_
 case refine_2 => (rintro w9 -; (go_simp); (try omega); try with_reducible rfl)
 simp only [za, zb, zc, zd]
 refine dn ?_
 go_wp2_with fail
 exact bodyPost_ret (v := .bool false) (by simp [results, Tryd.results48, go_sem]) rfl ⟨rfl, hHeld⟩
def PV (b o cap : Nat) (L : List Tk) (w : World) : Prop := b < w.heap.size ∧ L.length ≤ 4096 ∧ L.length ≤ cap ∧ cap ≤ 9223372036854775807 ∧ ∀ j p, L[j]? = some p → (w.cell? ⟨b, o + j * 3, none⟩ = some (vi ki p.1) ∧ w.cell? ⟨b, o + j * 3 + 1, none⟩ = some (vS p.2.1) ∧ w.cell? ⟨b, o + j * 3 + 2, none⟩ = some (vi ki p.2.2)) ∧ 0 ≤ p.2.2 ∧ p.2.2 ≤ 4096 ∧ p.2.1.size ≤ 4096
theorem PV.below {b o cap : Nat} {L : List Tk} {w W : World} (h : PV b o cap L w) (k : Below w.heap.size w W) : PV b o cap L W := by
 refine ⟨Nat.lt_of_lt_of_le h.1 k.size, h.2.1, h.2.2.1, h.2.2.2.1, fun j p e => ?_⟩
 obtain ⟨⟨q1, q2, q3⟩, q4⟩ := h.2.2.2.2 j p e
 exact ⟨⟨(k.cell (p := ⟨b, o + j * 3, none⟩) h.1).trans q1, (k.cell (p := ⟨b, o + j * 3 + 1, none⟩) h.1).trans q2, (k.cell (p := ⟨b, o + j * 3 + 2, none⟩) h.1).trans q3⟩, q4⟩
theorem PV.drop {b o cap : Nat} {L : List Tk} {w : World} (h : PV b o cap L w) (m : Nat) (hm : m ≤ L.length) : PV b (o + m * 3) (cap - m) (L.drop m) w := by
 refine ⟨h.1, by simp; have := h.2.1; omega, by simp; have := h.2.2.1; omega, by have := h.2.2.2.1; omega, fun j p e => ?_⟩
 rw [List.getElem?_drop] at e
 have q := h.2.2.2.2 (m + j) p e
 rw [show o + m * 3 + j * 3 = o + (m + j) * 3 by omega]
 exact q
def bsd (L : List Tk) (k : Nat) : Bool := match L[k]?, L[k + 1]? with | some p, some q => besT p q | _, _ => false
theorem beside_any (b o cap : Nat) (L : List Tk) (k : Nat) (i : Int) (w : World) (h : PV b o cap L w) (hi : i = (k : Int) + 1) (hk : k ≤ 8000) :
  Calls Tryd.prog 48 #[vL (some ⟨b, o, none⟩) L.length cap, vi ki i] w fun e w' => e = zr (.bool (bsd L k)) ∧ Below w.heap.size w w' := by
 subst hi
 obtain ⟨h1, h2, h3, h4, h5⟩ := h
 by_cases hn : k + 1 < L.length
 ·have e1 : L[k]? = some (L[k]'(by omega)) := List.getElem?_eq_getElem (by omega)
  have e2 : L[k + 1]? = some (L[k + 1]'hn) := List.getElem?_eq_getElem hn
  obtain ⟨⟨q0, q1, q2⟩, q3, q4, q5⟩ := h5 _ _ e1
  obtain ⟨⟨_, _, r2⟩, _⟩ := h5 _ _ e2
  have e3 : bsd L k = besT (L[k]'(by omega)) (L[k + 1]'hn) := by unfold bsd; rw [e1, e2]
  rw [e3]
  exact beside_in b o L.length cap k _ _ w hn h2 h3 h4 h1 q3 q4 q5 q0 q1 q2 r2
 ·have e2 : L[k + 1]? = none := List.getElem?_eq_none (by omega)
  have e3 : bsd L k = false := by unfold bsd; rw [e2]; cases L[k]? <;> rfl
  rw [e3]
  exact beside_out b o L.length cap _ w (by omega) (by omega) h2 h3 h4
theorem pair_any (b o cap : Nat) (p : Tk) (l : List Tk) (w : World) (h : PV b o cap (p :: l) w) :
  Calls Tryd.prog 47 #[vL (some ⟨b, o, none⟩) (l.length + 1) cap] w fun e w' => e = zr (.bool (prT p l)) ∧ Below w.heap.size w w' := by
 have HV : Hid _ := h
 have hl := h.2.1
 have hc := h.2.2.1
 have hc2 := h.2.2.2.1
 have hb := h.1
 simp only [zl] at hl hc
 obtain ⟨⟨c0, c1, c2⟩, -⟩ := h.2.2.2.2 0 p rfl
 simp only [Nat.zero_mul, Nat.add_zero] at c0 c1 c2
 go_enter Tryd.func47, Tryd.ntmps47
 go_wp2_with fail
 refine (beside_any b o cap (p :: l) 0 _ w h (by simp) (by omega)).mono ?_
 rintro e W ⟨rfl, hk⟩
 have HK := hZz hk
 cases l with
 | nil =>
  have e0 : bsd [p] 0 = false := rfl
  rw [e0]
  clear h hk
  go_wp2
  go_ret
  exact ⟨rfl, HK.out⟩
 | cons q l =>
  have e0 : bsd (p :: q :: l) 0 = besT p q := rfl
  rw [e0]
  obtain ⟨⟨d0, d1, d2⟩, -⟩ := h.2.2.2.2 1 q rfl
  have c1' := (hk.cell (p := ⟨b, o + 1, none⟩) hb).trans c1
  have d1' := (hk.cell (p := ⟨b, o + 1 * 3 + 1, none⟩) hb).trans d1
  have hs := hk.size
  clear h hk c0 c1 c2 d0 d1 d2
  simp only [Nat.one_mul, zl] at d1' hl hc ⊢
  cases hq : besT p q with
  | false =>
   have e1 : prT p (q :: l) = false := by simp [prT, hq]
   have HE : Hid _ := e1
   clear e1
   go_wp2
   go_ret
   exact ⟨by rw [HE.out]; rfl, HK.out⟩
  | true =>
   have HE : Hid (prT p (q :: l) = isPr (p.2.1 ++ q.2.1)) := by show prT p (q :: l) = _; simp [prT, hq]
   have hw : b < W.heap.size := by omega
   have hs1 : p.2.1.size ≤ 4096 := (HV.out.2.2.2.2 0 p rfl).2.2.2
   have hs2 : q.2.1.size ≤ 4096 := (HV.out.2.2.2.2 1 q rfl).2.2.2
   go_upto_region 3 with fail
   refine wp_region_held_drew (S := Below W.heap.size W) (by kernel_rfl) (drewB W) (fun hHeld => ?_)
   refine tk (v := ?_) 0 ?_ ?_
   case refine_2 => (rintro w9 -; (go_simp); (try omega); (try rw [if_neg (by omega)]); try with_reducible rfl)
   simp only [za, zb, zc, zd]
   refine wpAnyH_take (i := 1) (v := .pointer (some ⟨b, o, none⟩)) (oi := ⟨some 7, _, _, _, _, none⟩) rfl (by kernel_rfl) (by kernel_rfl) (by kernel_rfl) (fun _ _ _ h => h) (Or.inl ⟨by kernel_rfl, ?_⟩) (by assumption) ?_
   case refine_1 => (rintro w9 -; (go_simp); (try omega); (try rw [if_neg (by omega)]); try with_reducible rfl)
   simp only [za, zb, zc, zd]
   refine wpAnyH_take (i := 2) (v := .pointer (some ⟨b, o + 1, none⟩)) (oi := ⟨some 8, _, _, _, _, none⟩) rfl (by kernel_rfl) (by kernel_rfl) (by kernel_rfl) (fun _ _ _ h => h) (Or.inl ⟨by kernel_rfl, ?_⟩) (by assumption) ?_
   case refine_1 => (rintro w9 -; (go_simp); (try omega); (try rw [if_neg (by omega)]); try with_reducible rfl)
   simp only [za, zb, zc, zd]
   refine tk (v := ?_) 3 ?_ ?_
   case refine_2 => (intro w9 hSw; have q0 := (hSw.cell (p := ⟨b, o + 1, none⟩) hw).trans c1'; have q1 := (hSw.cell (p := ⟨b, o + 3 + 1, none⟩) hw).trans d1'; clear hSw; (go_simp); (try omega); (try rw [if_neg (by omega)]); try with_reducible rfl)
   simp only [za, zb, zc, zd]
   refine tk (v := ?_) 4 ?_ ?_
   case refine_2 => (rintro w9 -; (go_simp); (try omega); (try rw [if_neg (by omega)]); try with_reducible rfl)
   simp only [za, zb, zc, zd]
   refine wpAnyH_take (i := 5) (v := .pointer (some ⟨b, o + 3, none⟩)) (oi := ⟨some 11, _, _, _, _, none⟩) rfl (by kernel_rfl) (by kernel_rfl) (by kernel_rfl) (fun _ _ _ h => h) (Or.inl ⟨by kernel_rfl, ?_⟩) (by assumption) ?_
   case refine_1 => (rintro w9 -; (go_simp); (try omega); (try rw [if_neg (by omega)]); try with_reducible rfl)
   simp only [za, zb, zc, zd]
   refine wpAnyH_take (i := 6) (v := .pointer (some ⟨b, o + 3 + 1, none⟩)) (oi := ⟨some 12, _, _, _, _, none⟩) rfl (by kernel_rfl) (by kernel_rfl) (by kernel_rfl) (fun _ _ _ h => h) (Or.inl ⟨by kernel_rfl, ?_⟩) (by assumption) ?_
   case refine_1 => (rintro w9 -; (go_simp); (try omega); (try rw [if_neg (by omega)]); try with_reducible rfl)
   simp only [za, zb, zc, zd]
   refine tk (v := ?_) 7 ?_ ?_
   case refine_2 => (intro w9 hSw; have q0 := (hSw.cell (p := ⟨b, o + 1, none⟩) hw).trans c1'; have q1 := (hSw.cell (p := ⟨b, o + 3 + 1, none⟩) hw).trans d1'; clear hSw; (go_simp); (try omega); (try rw [if_neg (by omega)]); try with_reducible rfl)
   simp only [za, zb, zc, zd]
   refine wpAnyH_take (i := 8) (v := vS (p.2.1 ++ q.2.1)) (oi := ⟨some 14, _, _, _, _, none⟩) rfl (by kernel_rfl) (by kernel_rfl) (by kernel_rfl) (fun _ _ _ h => h) (Or.inl ⟨by kernel_rfl, ?_⟩) (by assumption) ?_
   case refine_1 => (rintro w9 -; (go_simp); (try omega); (try rw [if_neg (by omega)]); try with_reducible rfl)
   simp only [za, zb, zc, zd]
   refine dn ?_
   obtain ⟨t, ht⟩ : ∃ t, t = p.2.1 ++ q.2.1 := ⟨_, rfl⟩
   rw [← ht]
   have HE2 : Hid (prT p (q :: l) = isPr t) := by rw [ht]; exact HE.out
   have HH : Hid (Below w.heap.size w W.drew) := HK.out.trans (hHeld.mono HK.out.size)
   clear hHeld ht HE
   rcases Classical.em (t = ⟨#[60, 61]⟩) with rfl | h0
   ·go_wp2
    go_ret
    exact ⟨by rw [HE2.out]; rfl, HH.out⟩
   ·have g0 : (t.toList == [60, 61]) = false := by rw [lit_eq]; exact decide_eq_false h0
    rcases Classical.em (t = ⟨#[62, 61]⟩) with rfl | h1
    ·go_wp2
     go_ret
     exact ⟨by rw [HE2.out]; rfl, HH.out⟩
    ·have g1 : (t.toList == [62, 61]) = false := by rw [lit_eq]; exact decide_eq_false h1
     rcases Classical.em (t = ⟨#[60, 62]⟩) with rfl | h2
     ·go_wp2
      go_ret
      exact ⟨by rw [HE2.out]; rfl, HH.out⟩
     ·have g2 : (t.toList == [60, 62]) = false := by rw [lit_eq]; exact decide_eq_false h2
      rcases Classical.em (t = ⟨#[58, 58]⟩) with rfl | h3
      ·go_wp2
       go_ret
       exact ⟨by rw [HE2.out]; rfl, HH.out⟩
      ·have g3 : (t.toList == [58, 58]) = false := by rw [lit_eq]; exact decide_eq_false h3
       go_wp2
       go_ret
       exact ⟨by rw [HE2.out]; simp [isPr, h0, h1, h2, h3], HH.out⟩
theorem drop_at {L : List Tk} {j : Nat} {p : Tk} {l : List Tk} (h : L.drop j = p :: l) : L[j]? = some p ∧ L.drop (j + 1) = l ∧ j < L.length := by
 refine ⟨?_, ?_, ?_⟩
 ·have := congrArg (fun x => x[0]?) h; simpa using this
 ·have := congrArg (fun x => x.drop 1) h; simpa [List.drop_drop] using this
 ·have := congrArg List.length h; simp at this; omega
def bs0 (p : Tk) : List Tk → Bool
 | q :: _ => besT p q
 | [] => false
theorem bsd_drop {L : List Tk} {j : Nat} {p : Tk} {l : List Tk} (h : L.drop j = p :: l) : bsd L j = bs0 p l := by
 obtain ⟨h1, h2, h3⟩ := drop_at h
 have h4 : L[j + 1]? = l[0]? := by rw [← h2]; simp
 unfold bsd
 rw [h1, h4]
 cases l <;> rfl
theorem sign_any (b o cap : Nat) (p : Tk) (l : List Tk) (w : World) (h : PV b o cap (p :: l) w) :
  Calls Tryd.prog 46 #[vL (some ⟨b, o, none⟩) (l.length + 1) cap] w fun e w' => e = zr (vi ki (toS 1 p l : Nat)) ∧ Below w.heap.size w w' := by
 have HV := hZz h
 have hl : l.length + 1 ≤ 4096 := h.2.1
 have hc : l.length + 1 ≤ cap := h.2.2.1
 have hc2 := h.2.2.2.1
 have hb := h.1
 clear h
 go_enter Tryd.func46, Tryd.ntmps46
 go_wp2_with fail
 go_loopw [3] (fun i W => ∃ (j : Nat) (p' : Tk) (l' : List Tk), i = vi ki ((j : Int) + 1) ∧ Hid ((p :: l).drop j = p' :: l') ∧ Hid (toS (j + 1) p' l' = toS 1 p l) ∧ Hid (Below w.heap.size w W)) (fun i _ => l.length + 1 - (intOf i).toNat)
 case atStart => exact ⟨0, p, l, rfl, rfl, rfl, Below.refl _ _⟩
 case round =>
  obtain ⟨j, p', l', rfl, HD, HS, HW⟩ := hrel
  have hj : j < l.length + 1 := (drop_at HD.out).2.2
  go_wp2_with fail
  refine (beside_any b o cap (p :: l) j _ _ (HV.out.below HW.out) rfl (by omega)).mono ?_
  rintro e V ⟨rfl, hk⟩
  rw [bsd_drop HD.out]
  have HU : Hid (Below w.heap.size w V) := HW.out.trans (hk.mono HW.out.size)
  have hs := HU.out.size
  clear hk
  cases l' with
  | nil =>
   have HE := hZz HS.out.symm
   clear HS HD
   rw [show bs0 p' [] = false from rfl]
   go_wp2
   go_ret
   exact ⟨by rw [HE.out]; rfl, HU.out⟩
  | cons q l' =>
   obtain ⟨e1, e2, e3⟩ := drop_at HD.out
   have e4 : (p :: l).drop (j + 1) = q :: l' := e2
   obtain ⟨f1, f2, f3⟩ := drop_at e4
   obtain ⟨⟨c0, -, -⟩, -⟩ := (HV.out.below HU.out).2.2.2.2 (j + 1) q f1
   have HD2 := hZz e4
   simp only [zl] at f3
   clear e1 e2 e3 e4 f1 f2
   have f3' : (j : Int) + 1 < (l.length : Int) + 1 := by omega
   have hj0 : (0 : Int) ≤ (j : Int) := by omega
   have hlI : (l.length : Int) + 1 ≤ 4096 := by omega
   have hbV : b < V.heap.size := by omega
   rw [show bs0 p' (q :: l') = besT p' q from rfl]
   cases hq : besT p' q with
   | false =>
    have HE : Hid (toS 1 p l = j + 1) := by show _ = _; rw [← HS.out]; simp [toS, hq]
    clear HS HD
    go_wp2
    go_ret
    exact ⟨by rw [HE.out]; rfl, HU.out⟩
   | true =>
    have q9 : ((j : Int) + 1).toNat = j + 1 := by omega
    rcases Classical.em (q.1 = 3) with h3 | h3
    ·have HE : Hid (toS 1 p l = j + 1) := by show _ = _; rw [← HS.out]; simp [toS, hq, h3]
     rw [h3] at c0
     clear HS HD
     go_wp2
     go_ret
     exact ⟨by rw [HE.out]; rfl, HU.out⟩
    ·have HE : Hid (toS (j + 1 + 1) q l' = toS 1 p l) := by show _ = _; rw [← HS.out]; simp [toS, hq, h3]
     have h4 : (q.1 == 3) = false := by simpa using h3
     clear HS HD
     go_wp2
     exact ⟨⟨j + 1, q, l', by simp, HD2.out, HE.out, HU.out⟩, by simp [intOf]; omega⟩
theorem quote_any (b o cap : Nat) (p : Tk) (l : List Tk) (w : World) (h : PV b o cap (p :: l) w) :
  Calls Tryd.prog 45 #[vL (some ⟨b, o, none⟩) (l.length + 1) cap] w fun e w' => e = zr (vi ki (toQ 1 l : Nat)) ∧ Below w.heap.size w w' := by
 have HV := hZz h
 have hl : l.length + 1 ≤ 4096 := h.2.1
 have hc : l.length + 1 ≤ cap := h.2.2.1
 have hc2 := h.2.2.2.1
 have hb := h.1
 clear h
 go_enter Tryd.func45, Tryd.ntmps45
 go_wp2_with fail
 go_loopw [3] (fun i W => ∃ (j : Nat), i = vi ki (j : Int) ∧ j ≤ l.length + 1 ∧ Hid (toQ j ((p :: l).drop j) = toQ 1 l) ∧ Hid (Below w.heap.size w W)) (fun i _ => l.length + 1 - (intOf i).toNat)
 case atStart => exact ⟨1, rfl, by omega, rfl, Below.refl _ _⟩
 case round =>
  obtain ⟨j, rfl, hj, HS, HW⟩ := hrel
  have hjI : (j : Int) ≤ 4096 := by omega
  have hj0 : (0 : Int) ≤ (j : Int) := by omega
  have hs := HW.out.size
  cases hd : (p :: l).drop j with
  | nil =>
   have hx : ¬ (j : Int) < (l.length : Int) + 1 := by have := congrArg List.length hd; simp at this; omega
   have HE : Hid (toQ 1 l = 0) := by show _ = _; rw [← HS.out, hd]; rfl
   clear HS hd
   go_wp2
   go_ret
   exact ⟨by rw [HE.out]; rfl, HW.out⟩
  | cons p' l' =>
   have HD := hZz hd
   obtain ⟨e1, e2, e3⟩ := drop_at hd
   simp only [zl] at e3
   obtain ⟨⟨-, c1, -⟩, -⟩ := (HV.out.below HW.out).2.2.2.2 j p' e1
   have e3' : (j : Int) < (l.length : Int) + 1 := by omega
   have hlI : (l.length : Int) + 1 ≤ 4096 := by omega
   have HS2 : Hid (toQ j (p' :: l') = toQ 1 l) := by show _ = _; rw [← HS.out, hd]
   have E2 := hZz e2
   have hbV : b < wr.heap.size := by omega
   clear hd HS e1 e2
   rcases Classical.em (p'.2.1 = qB) with hp | hp
   ·have g1 : (p'.2.1.toList == [39]) = true := by rw [lit_eq]; exact decide_eq_true hp
    have HP := hZz hp
    clear hp
    go_wp2_with fail
    refine (beside_any b o cap (p :: l) j _ _ (HV.out.below HW.out) rfl (by omega)).mono ?_
    rintro e V ⟨rfl, hk⟩
    rw [bsd_drop HD.out]
    have HU : Hid (Below w.heap.size w V) := HW.out.trans (hk.mono HW.out.size)
    have hsV := HU.out.size
    clear hk c1 HW
    cases l' with
    | nil =>
     have HE : Hid (toQ 1 l = j + 1) := by show _ = _; rw [← HS2.out]; simp [toQ, qt, HP.out]
     rw [show bs0 p' [] = false from rfl]
     clear HS2 HD E2
     go_wp2
     go_ret
     exact ⟨by rw [HE.out]; rfl, HU.out⟩
    | cons q l' =>
     rw [show bs0 p' (q :: l') = besT p' q from rfl]
     obtain ⟨f1, f2, f3⟩ := drop_at E2.out
     simp only [zl] at f3
     obtain ⟨⟨-, d1, -⟩, -⟩ := (HV.out.below HU.out).2.2.2.2 (j + 1) q f1
     have E3 := hZz f2
     have f3' : (j : Int) + 1 < (l.length : Int) + 1 := by omega
     have hbV2 : b < V.heap.size := by omega
     have q9 : ((j : Int) + 1).toNat = j + 1 := by omega
     clear f1 f2
     cases hq : besT p' q with
     | false =>
      have HE : Hid (toQ 1 l = j + 1) := by show _ = _; rw [← HS2.out]; simp [toQ, qt, HP.out, hq]
      clear HS2 HD E2
      go_wp2
      go_ret
      exact ⟨by rw [HE.out]; rfl, HU.out⟩
     | true =>
      rcases Classical.em (q.2.1 = qB) with hp | hp
      ·have g2 : (q.2.1.toList == [39]) = true := by rw [lit_eq]; exact decide_eq_true hp
       have HE : Hid (toQ (j + 2) ((p :: l).drop (j + 2)) = toQ 1 l) := by show _ = _; rw [← HS2.out, E3.out]; simp [toQ, qt, HP.out, hq, hp]
       clear HS2 HD E2 hp
       go_wp2
       exact ⟨⟨j + 2, by simp; omega, by omega, HE.out, HU.out⟩, by simp [intOf]; omega⟩
      ·have g2 : (q.2.1.toList == [39]) = false := by rw [lit_eq]; exact decide_eq_false hp
       have HE : Hid (toQ 1 l = j + 1) := by show _ = _; rw [← HS2.out]; simp [toQ, qt, HP.out, hq, hp]
       clear HS2 HD E2 hp
       go_wp2
       go_ret
       exact ⟨by rw [HE.out]; rfl, HU.out⟩
   ·have g1 : (p'.2.1.toList == [39]) = false := by rw [lit_eq]; exact decide_eq_false hp
    have HE : Hid (toQ (j + 1) ((p :: l).drop (j + 1)) = toQ 1 l) := by
     show _ = _
     rw [← HS2.out, E2.out]
     cases l' <;> simp [toQ, qt, hp]
    go_wp2
    exact ⟨⟨j + 1, by simp, by omega, HE.out, HW.out⟩, by simp [intOf]; omega⟩
theorem dcT_no1 {p q : Tk} {l : List Tk} (h : besT p q = false) : dcT p (q :: l) = false := by cases l <;> simp [dcT, h]
theorem dcT_no2 {p q : Tk} {l : List Tk} (h : ¬ q.2.1 = ⟨#[46]⟩) : dcT p (q :: l) = false := by cases l <;> simp [dcT, h]
theorem dcT_no3 {p q r : Tk} {l : List Tk} (h : besT q r = false) : dcT p (q :: r :: l) = false := by simp [dcT, h]
theorem dcT_no4 {p q r : Tk} {l : List Tk} (h : ¬ r.1 = 1) : dcT p (q :: r :: l) = false := by simp [dcT, h]
theorem first_any (b o cap : Nat) (p : Tk) (l : List Tk) (w : World) (h : PV b o cap (p :: l) w) :
  Calls Tryd.prog 24 #[vL (some ⟨b, o, none⟩) (l.length + 1) cap] w fun e w' => e = zr (.tuple #[vi ki (fstT p l).1, vi ki ((fstT p l).2 : Nat)]) ∧ Below w.heap.size w w' := by
 have HV := hZz h
 have hl : l.length + 1 ≤ 4096 := h.2.1
 have hlI : (l.length : Int) + 1 ≤ 4096 := by omega
 have hl0 : (0 : Int) < (l.length : Int) + 1 := by omega
 have hc : l.length + 1 ≤ cap := h.2.2.1
 have hc2 := h.2.2.2.1
 have hb := h.1
 obtain ⟨⟨c0, c1, -⟩, -⟩ := h.2.2.2.2 0 p rfl
 simp only [Nat.zero_mul, Nat.add_zero] at c0 c1
 clear h
 rcases Classical.em (p.2.1 = qB) with hp | hp
 ·have g1 : (p.2.1.toList == [39]) = true := by rw [lit_eq]; exact decide_eq_true hp
  have HE : Hid (fstT p l = (3, toQ 1 l)) := by show _ = _; simp [fstT, qt, hp]
  clear hp
  go_enter Tryd.func24, Tryd.ntmps24
  go_wp2_with fail
  refine (quote_any b o cap p l w HV.out).mono ?_
  rintro e V ⟨rfl, hk⟩
  have HU := hZz hk
  clear hk
  go_wp2
  exact bodyPost_ret (v := .tuple #[vi ki 3, vi ki (toQ 1 l : Nat)]) (by simp [results, Tryd.results24, go_sem]) rfl ⟨by rw [HE.out], HU.out⟩
 have g1 : (p.2.1.toList == [39]) = false := by rw [lit_eq]; exact decide_eq_false hp
 rcases Classical.em (p.1 = 2) with h2 | h2
 ·have HE : Hid (fstT p l = (4, toS 1 p l)) := by show _ = _; simp [fstT, qt, hp, h2]
  rw [h2] at c0
  clear hp h2
  go_enter Tryd.func24, Tryd.ntmps24
  go_wp2_with fail
  refine (sign_any b o cap p l w HV.out).mono ?_
  rintro e V ⟨rfl, hk⟩
  have HU := hZz hk
  clear hk
  go_wp2
  exact bodyPost_ret (v := .tuple #[vi ki 4, vi ki (toS 1 p l : Nat)]) (by simp [results, Tryd.results24, go_sem]) rfl ⟨by rw [HE.out], HU.out⟩
 have g2 : (p.1 == 2) = false := by simpa using h2
 rcases Classical.em (p.1 = 3) with h3 | h3
 ·have HE : Hid (fstT p l = (5, if prT p l then 2 else 1)) := by show _ = _; simp [fstT, qt, hp, h3]
  rw [h3] at c0
  clear hp h2 g2 h3
  go_enter Tryd.func24, Tryd.ntmps24
  go_wp2_with fail
  refine (pair_any b o cap p l w HV.out).mono ?_
  rintro e V ⟨rfl, hk⟩
  have HU := hZz hk
  have c0' := (hk.cell (p := ⟨b, o, none⟩) hb).trans c0
  have hbV : b < V.heap.size := Nat.lt_of_lt_of_le hb hk.size
  clear hk
  cases hpr : prT p l with
  | false =>
   have HE2 : Hid (fstT p l = (5, 1)) := by show _ = _; rw [HE.out, hpr]; rfl
   go_wp2
   exact bodyPost_ret (v := .tuple #[vi ki 5, vi ki 1]) (by simp [results, Tryd.results24, go_sem]) rfl ⟨by rw [HE2.out]; rfl, HU.out⟩
  | true =>
   have HE2 : Hid (fstT p l = (5, 2)) := by show _ = _; rw [HE.out, hpr]; rfl
   go_wp2
   exact bodyPost_ret (v := .tuple #[vi ki 5, vi ki 2]) (by simp [results, Tryd.results24, go_sem]) rfl ⟨by rw [HE2.out]; rfl, HU.out⟩
 have g3 : (p.1 == 3) = false := by simpa using h3
 have HE : Hid (fstT p l = if dcT p l then (2, 3) else (1, 1)) := by show _ = _; simp [fstT, qt, hp, h2, h3]
 clear hp h2 h3
 go_enter Tryd.func24, Tryd.ntmps24
 go_wp2_with fail
 refine (beside_any b o cap (p :: l) 0 _ w HV.out (by simp) (by omega)).mono ?_
 rintro e V ⟨rfl, hk⟩
 rw [bsd_drop (show (p :: l).drop 0 = p :: l from rfl)]
 have HU := hZz hk
 have hsV := hk.size
 clear hk c0 c1
 cases l with
 | nil =>
  rw [show bs0 p [] = false from rfl]
  have HE2 : Hid (fstT p [] = (1, 1)) := by show _ = _; rw [HE.out, if_neg (by simp [dcT])]
  clear HE
  go_wp2
  exact bodyPost_ret (v := .tuple #[vi ki 1, vi ki 1]) (by simp [results, Tryd.results24, go_sem]) rfl ⟨by rw [HE2.out]; rfl, HU.out⟩
 | cons q l =>
  rw [show bs0 p (q :: l) = besT p q from rfl]
  obtain ⟨⟨-, d1, -⟩, -⟩ := (HV.out.below HU.out).2.2.2.2 1 q rfl
  simp only [Nat.one_mul] at d1
  have hbV : b < V.heap.size := by omega
  simp only [zl] at hl hc hlI hl0 ⊢
  have hl1 : (1 : Int) < (l.length : Int) + 1 + 1 := by omega
  cases hq : besT p q with
  | false =>
   have HE2 : Hid (fstT p (q :: l) = (1, 1)) := by show _ = _; rw [HE.out, if_neg (by simp [dcT_no1 hq])]
   clear HE
   go_wp2
   exact bodyPost_ret (v := .tuple #[vi ki 1, vi ki 1]) (by simp [results, Tryd.results24, go_sem]) rfl ⟨by rw [HE2.out]; rfl, HU.out⟩
  | true =>
   rcases Classical.em (q.2.1 = ⟨#[46]⟩) with hp | hp
   rotate_left
   ·have g4 : (q.2.1.toList == [46]) = false := by rw [lit_eq]; exact decide_eq_false hp
    have HE2 : Hid (fstT p (q :: l) = (1, 1)) := by show _ = _; rw [HE.out, if_neg (by simp [dcT_no2 hp])]
    clear HE
    go_wp2
    exact bodyPost_ret (v := .tuple #[vi ki 1, vi ki 1]) (by simp [results, Tryd.results24, go_sem]) rfl ⟨by rw [HE2.out]; rfl, HU.out⟩
   ·have g4 : (q.2.1.toList == [46]) = true := by rw [lit_eq]; exact decide_eq_true hp
    have HP := hZz hp
    clear hp
    go_wp2_with fail
    refine (beside_any b o cap (p :: q :: l) 1 _ _ (HV.out.below HU.out) (by simp) (by omega)).mono ?_
    rintro e U ⟨rfl, hk⟩
    rw [bsd_drop (show (p :: q :: l).drop 1 = q :: l from rfl)]
    replace HU : Hid (Below w.heap.size w U) := HU.out.trans (hk.mono hsV)
    have hsU := HU.out.size
    clear hk d1
    cases l with
    | nil =>
     rw [show bs0 q [] = false from rfl]
     have HE2 : Hid (fstT p [q] = (1, 1)) := by show _ = _; rw [HE.out, if_neg (by simp [dcT])]
     clear HE
     go_wp2
     exact bodyPost_ret (v := .tuple #[vi ki 1, vi ki 1]) (by simp [results, Tryd.results24, go_sem]) rfl ⟨by rw [HE2.out]; rfl, HU.out⟩
    | cons r l =>
     rw [show bs0 q (r :: l) = besT q r from rfl]
     obtain ⟨⟨d0, -, -⟩, -⟩ := (HV.out.below HU.out).2.2.2.2 2 r rfl
     simp only [Nat.reduceMul] at d0
     have hbU : b < U.heap.size := by omega
     simp only [zl] at hl hc hlI hl0 hl1 ⊢
     have hl2 : (2 : Int) < (l.length : Int) + 1 + 1 + 1 := by omega
     cases hq2 : besT q r with
     | false =>
      have HE2 : Hid (fstT p (q :: r :: l) = (1, 1)) := by show _ = _; rw [HE.out, if_neg (by simp [dcT_no3 hq2])]
      clear HE
      go_wp2
      exact bodyPost_ret (v := .tuple #[vi ki 1, vi ki 1]) (by simp [results, Tryd.results24, go_sem]) rfl ⟨by rw [HE2.out]; rfl, HU.out⟩
     | true =>
      rcases Classical.em (r.1 = 1) with h1 | h1
      ·have HE2 : Hid (fstT p (q :: r :: l) = (2, 3)) := by show _ = _; rw [HE.out, if_pos (by simp [dcT, hq, hq2, h1, HP.out])]
       rw [h1] at d0
       clear HE
       go_wp2
       exact bodyPost_ret (v := .tuple #[vi ki 2, vi ki 3]) (by simp [results, Tryd.results24, go_sem]) rfl ⟨by rw [HE2.out]; rfl, HU.out⟩
      ·have g5 : (r.1 == 1) = false := by simpa using h1
       have HE2 : Hid (fstT p (q :: r :: l) = (1, 1)) := by show _ = _; rw [HE.out, if_neg (by simp [dcT_no4 h1])]
       clear HE
       go_wp2
       exact bodyPost_ret (v := .tuple #[vi ki 1, vi ki 1]) (by simp [results, Tryd.results24, go_sem]) rfl ⟨by rw [HE2.out]; rfl, HU.out⟩
theorem rep_unq : ∀ l : List UInt8, Lib.replaceK [39, 39] [39] (Lib.count l [39, 39]) l = unq l
 | [] => rfl
 | [c] => by
  have e : Lib.index [c] [39, 39] = -1 := by simp [Lib.index, List.isPrefixOf]
  rw [Lib.count_miss e]; rfl
 | a :: b :: l => by
  by_cases h : a = 39 ∧ b = 39
  ·obtain ⟨rfl, rfl⟩ := h
   have e : Lib.index (39 :: 39 :: l) [39, 39] = (0 : Nat) := by simp [Lib.index, List.isPrefixOf]
   rw [Lib.count_hit (by simp) e, Nat.add_comm, Lib.replaceK_hit _ _ _ _ 0 e]
   simp only [zl, List.length_nil, Nat.zero_add, List.take_zero, List.nil_append, List.drop_succ_cons, List.drop_zero]
   rw [rep_unq l]
   simp [unq]
  ·have ih := rep_unq (b :: l)
   have hp : List.isPrefixOf [39, 39] (a :: b :: l) = false := by
    simp only [List.isPrefixOf, Bool.and_true, Bool.and_eq_false_iff, beq_eq_false_iff_ne]
    rcases Classical.em (a = 39) with rfl | ha
    ·exact .inr fun q => h ⟨rfl, q.symm⟩
    ·exact .inl fun q => ha q.symm
   have e0 : Lib.index (a :: b :: l) [39, 39] = if Lib.index (b :: l) [39, 39] == -1 then -1 else Lib.index (b :: l) [39, 39] + 1 := by
    rw [Lib.index, hp]; simp
   rw [show unq (a :: b :: l) = a :: unq (b :: l) by rw [unq, if_neg h], ← ih]
   have hge := Lib.index_ge (b :: l) [39, 39]
   by_cases hm : Lib.index (b :: l) [39, 39] = -1
   ·rw [hm] at e0
    rw [Lib.count_miss e0, Lib.count_miss hm]; rfl
   ·obtain ⟨i, hi⟩ : ∃ i : Nat, Lib.index (b :: l) [39, 39] = i := ⟨(Lib.index (b :: l) [39, 39]).toNat, by omega⟩
    have e1 : Lib.index (a :: b :: l) [39, 39] = (i + 1 : Nat) := by
     rw [e0, hi, if_neg (by simp <;> omega)]; simp
    rw [Lib.count_hit (by simp) e1, Lib.count_hit (by simp) hi, Nat.add_comm 1, Nat.add_comm 1, Lib.replaceK_hit _ _ _ _ _ e1, Lib.replaceK_hit _ _ _ _ _ hi]
    simp only [zl, List.length_nil, Nat.zero_add, Nat.add_assoc, List.take_succ_cons, List.cons_append]
    rw [show i + (1 + (1 + 1)) = i + (1 + 1) + 1 by omega, List.drop_succ_cons]
theorem repl_unq (l : List UInt8) : Lib.replaceAll l [39, 39] [39] = unq l := by
 rw [← rep_unq l]
 simp [Lib.replaceAll, Lib.replace, Lib.replaceNum]
def saidT (k : Int) (t : ByteArray) : ByteArray := if k = 4 then lowB t else if k = 3 then ⟨(unq (t.extract 1 (t.size - 1)).data.toList).toArray⟩ else t
theorem said_any (k : Int) (t : ByteArray) (m : Int) (w : World) (hm : w.cell? ⟨2, 0, none⟩ = some (vi ki m)) (ht : t.size ≤ 4096) (h3 : k = 3 → 2 ≤ t.size) :
  Calls Tryd.prog 25 #[vi ki k, vS t] w fun e w' => e = zr (vS (saidT k t)) ∧ Below w.heap.size w w' := by
 have htI : (t.size : Int) ≤ 4096 := by omega
 rcases Classical.em (k = 4) with rfl | h4
 ·have HE : Hid (saidT 4 t = lowB t) := by show _ = _; simp [saidT]
  clear h3
  go_enter Tryd.func25, Tryd.ntmps25
  go_wp2_with fail
  refine (lower_any t (by unfold maxLen; omega) w).mono ?_
  rintro e V ⟨rfl, hk⟩
  have HU := hZz hk
  clear hk
  go_wp2
  go_ret
  exact ⟨by rw [HE.out]; rfl, HU.out⟩
 have g4 : (k == 4) = false := by simpa using h4
 rcases Classical.em (k = 3) with rfl | hk3
 ·have HE : Hid (saidT 3 t = ⟨(unq (t.extract 1 (t.size - 1)).data.toList).toArray⟩) := by show _ = _; simp [saidT]
  have hz : 2 ≤ t.size := h3 rfl
  have hzI : (2 : Int) ≤ (t.size : Int) := by omega
  have q9 : ((t.size : Int) - 1).toNat = t.size - 1 := by omega
  have hsz : (t.extract 1 (t.size - 1)).size ≤ 4096 := by rw [ByteArray.size_extract]; omega
  have RC : Hid (Calls Tryd.prog 41 #[vS (t.extract 1 (t.size - 1)), vS ⟨#[39, 39]⟩, vS ⟨#[39]⟩] w fun e w' => e = zr (vS (saidT 3 t)) ∧ Below w.heap.size w w') := by
   have hl := Lib.countB_le ⟨#[39, 39]⟩ (by decide) _ (t.extract 1 (t.size - 1)) (Nat.le_refl _)
   have := Tryd.strings_ReplaceAll (t.extract 1 (t.size - 1)) ⟨#[39, 39]⟩ ⟨#[39]⟩ m w (by omega) hm (by decide) (by rw [show (⟨#[39]⟩ : ByteArray).size = 1 from rfl]; omega)
   rw [repl_unq] at this
   rw [HE.out]
   exact this
  clear HE
  clear h3 h4 g4
  go_enter Tryd.func25, Tryd.ntmps25
  go_wp2_with fail
  refine RC.out.mono ?_
  rintro e V ⟨rfl, hk⟩
  have HU := hZz hk
  clear hk
  go_wp2
  go_ret
  exact ⟨rfl, HU.out⟩
 have g3 : (k == 3) = false := by simpa using hk3
 have HE : Hid (saidT k t = t) := by show _ = _; simp [saidT, h4, hk3]
 go_enter Tryd.func25, Tryd.ntmps25
 go_wp2
 go_ret
 exact ⟨by rw [HE.out]; rfl, Below.refl _ _⟩
theorem toQ_le : ∀ (n : Nat) (l : List Tk) (i : Nat), l.length ≤ n → toQ i l ≤ i + l.length
 | _, [], i, _ => by simp [toQ]
 | _, [p], i, _ => by simp only [toQ]; split <;> simp
 | 0, p :: q :: l, i, h => by simp at h
 | n + 1, p :: q :: l, i, h => by
  simp only [zl] at h
  have h1 := toQ_le n l (i + 2) (by omega)
  have h2 := toQ_le n (q :: l) (i + 1) (by simp only [zl]; omega)
  simp only [zl] at h2
  simp only [toQ, zl]
  split
  ·split <;> omega
  ·omega
theorem toQ_ge : ∀ (n : Nat) (l : List Tk) (i : Nat), l.length ≤ n → toQ i l = 0 ∨ i + 1 ≤ toQ i l
 | _, [], i, _ => by simp [toQ]
 | _, [p], i, _ => by simp only [toQ]; split <;> simp
 | 0, p :: q :: l, i, h => by simp at h
 | n + 1, p :: q :: l, i, h => by
  simp only [zl] at h
  have h1 := toQ_ge n l (i + 2) (by omega)
  have h2 := toQ_ge n (q :: l) (i + 1) (by simp only [zl]; omega)
  simp only [toQ]
  split
  ·split
   ·omega
   ·omega
  ·omega
theorem toS_le : ∀ (l : List Tk) (m : Nat) (p : Tk), m ≤ toS m p l ∧ toS m p l ≤ m + l.length
 | [], m, p => by simp [toS]
 | q :: l, m, p => by
  have h := toS_le l (m + 1) q
  simp only [toS, zl]
  split <;> omega
theorem fst_le (p : Tk) (l : List Tk) : (fstT p l).2 ≤ l.length + 1 := by
 unfold fstT
 split
 ·have := toQ_le _ l 1 (Nat.le_refl _); simp only; omega
 ·split
  ·have := toS_le l 1 p; simp only; omega
  ·split
   ·cases l with
    | nil => simp [prT]
    | cons q l => simp only [zl]; split <;> omega
   ·split
    ·rename_i h
     match l, h with
     | q :: r :: l, _ => simp only [zl]; omega
     | [q], h => simp [dcT] at h
     | [], h => simp [dcT] at h
    ·simp
theorem fst_3 (p : Tk) (l : List Tk) (h : (fstT p l).1 = 3) : (fstT p l).2 = 0 ∨ 2 ≤ (fstT p l).2 := by
 unfold fstT at h ⊢
 split
 ·have := toQ_ge _ l 1 (Nat.le_refl _); simp only; omega
 ·rename_i h0
  rw [if_neg h0] at h
  exfalso
  split at h
  ·simp at h
  ·split at h
   ·simp at h
   ·split at h <;> simp at h
def Od (s : ByteArray) : Nat → List Tk → Prop
 | _, [] => True
 | a, p :: l => (a : Int) ≤ p.2.2 ∧ 0 < p.2.1.size ∧ p.2.2 + (p.2.1.size : Int) ≤ (s.size : Int) ∧ Od s (p.2.2.toNat + p.2.1.size) l
theorem Od_cov (s : ByteArray) : ∀ (P : List Prt) (a z : Nat), Cov s a P z → Od s a (texts s P)
 | [], a, z, h => trivial
 | p :: P, a, z, h => by
  obtain ⟨h1, h2, h3, h4, h5⟩ := h
  have q := Od_cov s P _ _ h5
  have hz : (s.extract p.2.1 p.2.2).size = p.2.2 - p.2.1 := by rw [ByteArray.size_extract]; omega
  refine ⟨by show (a : Int) ≤ (p.2.1 : Int); omega, by show 0 < (s.extract p.2.1 p.2.2).size; omega, by show (p.2.1 : Int) + ((s.extract p.2.1 p.2.2).size : Int) ≤ _; omega, ?_⟩
  show Od s ((p.2.1 : Int).toNat + (s.extract p.2.1 p.2.2).size) _
  rw [hz, show (p.2.1 : Int).toNat + (p.2.2 - p.2.1) = p.2.2 by omega]
  exact q
theorem Od_mono {s : ByteArray} {a b : Nat} {L : List Tk} (h : Od s a L) (hb : b ≤ a) : Od s b L := by
 cases L with
 | nil => trivial
 | cons p l => exact ⟨by have := h.1; omega, h.2⟩
theorem Od_drop {s : ByteArray} : ∀ (m a : Nat) (L : List Tk), Od s a L → Od s a (L.drop m)
 | 0, a, L, h => h
 | m + 1, a, [], h => trivial
 | m + 1, a, p :: l, h => Od_mono (Od_drop m _ l h.2.2.2) (by have := h.1; omega)
theorem Od_at {s : ByteArray} : ∀ (i a : Nat) (L : List Tk) (q : Tk), Od s a L → L[i]? = some q → ((a + i : Nat) : Int) ≤ q.2.2 ∧ 0 < q.2.1.size ∧ q.2.2 + (q.2.1.size : Int) ≤ (s.size : Int)
 | _, a, [], q, h, e => by simp at e
 | 0, a, p :: l, q, h, e => by simp at e; subst e; exact ⟨h.1, h.2.1, h.2.2.1⟩
 | i + 1, a, p :: l, q, h, e => by
  have r := Od_at i _ l q h.2.2.2 (by simpa using e)
  have := h.1; have := h.2.1
  exact ⟨by omega, r.2⟩
def endN (L : List Tk) (i : Nat) : Nat := match L[i]? with | some q => q.2.2.toNat + q.2.1.size | none => 0
theorem end_at {s : ByteArray} {a : Nat} {p : Tk} {l : List Tk} (h : Od s a (p :: l)) {m : Nat} (h1 : 1 ≤ m) (h2 : m ≤ l.length + 1) : ∃ q : Tk, (p :: l)[m - 1]? = some q ∧ endN (p :: l) (m - 1) = q.2.2.toNat + q.2.1.size ∧ 0 ≤ p.2.2 ∧ 0 ≤ q.2.2 ∧ p.2.2.toNat + m ≤ q.2.2.toNat + q.2.1.size ∧ q.2.2.toNat + q.2.1.size ≤ s.size := by
 obtain ⟨q, hq⟩ : ∃ q, (p :: l)[m - 1]? = some q := ⟨(p :: l)[m - 1]'(by simp; omega), List.getElem?_eq_getElem _⟩
 refine ⟨q, hq, by unfold endN; rw [hq], by have := h.1; omega, ?_⟩
 have ha := h.1
 have hb := h.2.1
 have r := Od_at _ _ _ _ h hq
 refine ⟨by omega, ?_, by omega⟩
 rcases Nat.lt_or_ge m 2 with hm | hm
 ·obtain rfl : m = 1 := by omega
  simp at hq; subst hq; omega
 ·have r2 := Od_at (m - 2) _ l q h.2.2.2 (by rw [show m - 1 = (m - 2) + 1 by omega] at hq; simpa using hq)
  omega
def tokT (s : ByteArray) (p : Tk) (l : List Tk) : Tk := ((fstT p l).1, saidT (fstT p l).1 (s.extract p.2.2.toNat (endN (p :: l) ((fstT p l).2 - 1))), p.2.2)
def toksF (s : ByteArray) : Nat → List Tk → List Tk → Sum Int (List Tk)
 | 0, _, A => .inr (A ++ [(0, ⟨#[]⟩, (s.size : Int))])
 | _ + 1, [], A => .inr (A ++ [(0, ⟨#[]⟩, (s.size : Int))])
 | n + 1, p :: l, A => if (fstT p l).2 = 0 then .inl p.2.2 else toksF s n ((p :: l).drop (fstT p l).2) (A ++ [tokT s p l])
def toksB (s : ByteArray) : Sum (Int × Int) (List Tk) :=
 match splitB s with
 | .inl i => .inl (i, 21)
 | .inr P => match toksF s P.length (texts s P) [] with
  | .inl i => .inl (i, 30)
  | .inr T => .inr T
theorem infoSpot : (Tryd.prog.info? 81).map (fun i => (i.zero, i.size, i.bytes)) = some (some (.agg #[vi ki 0, vS ByteArray.empty, vi ki 0]), 3, 32) := by kernel_rfl
def PL (B : Nat) (u : Value) (L : List Tk) (W : World) : Prop := (L = [] ∧ ∃ sq c, u = vL sq 0 c) ∨ ∃ b o cap, u = vL (some ⟨b, o, none⟩) L.length cap ∧ b < B ∧ PV b o cap L W
structure TO (w : World) (B : Nat) (v : Value) (A : List Tk) (W : World) : Prop where
 low : Below w.heap.size w W
 b0 : w.heap.size ≤ B
 b1 : B ≤ W.heap.size
 own : W.ownsRow B 81 3 v A.length (flatT A)
def lenV : Value → Nat
 | vL _ n _ => n
 | _ => 0
theorem TO.below {w : World} {B : Nat} {v : Value} {A : List Tk} {W V : World} (h : TO w B v A W) (k : Below W.heap.size W V) : TO w B v A V :=
 ⟨h.low.trans (k.mono h.low.size), h.b0, Nat.le_trans h.b1 k.size, ownsRow_keep h.own (fun c h1 h2 => k.block c h2)⟩
theorem TO.more {w : World} {B : Nat} {v v' : Value} {A : List Tk} {W V : World} {p : Tk} (h : TO w B v A W) (hg : W.grownBy V v.ownBlock) (ho : V.ownsRow B 81 3 v' (A.length + 1) (flatT A ++ [vi ki p.1, vS p.2.1, vi ki p.2.2])) : TO w B v' (A ++ [p]) V := by
 have hob : ∀ c, v.ownBlock = some c → B ≤ c := fun c hc => (ob_lt h.own hc).1
 refine ⟨⟨hg.os.trans h.low.os, hg.tape.trans h.low.tape, hg.output.trans h.low.output, Nat.le_trans h.low.size hg.size, fun k hk => (hg.block k (by have := h.low.size; omega) (fun e => by have := hob _ e.symm; have := h.b0; omega)).trans (h.low.block k hk)⟩, h.b0, Nat.le_trans h.b1 hg.size, ?_⟩
 rw [flatT_append, List.length_append]
 exact ho
theorem PV.grown {w : World} {B : Nat} {v : Value} {A : List Tk} {W V : World} {b o cap : Nat} {L : List Tk} (hp : PV b o cap L W) (h : TO w B v A W) (hb : b < B) (hg : W.grownBy V v.ownBlock) : PV b o cap L V := by
 have q := hg.block b hp.1 (fun e => by have := (ob_lt h.own e.symm).1; omega)
 refine ⟨Nat.lt_of_lt_of_le hp.1 hg.size, hp.2.1, hp.2.2.1, hp.2.2.2.1, fun j p e => ?_⟩
 obtain ⟨⟨q1, q2, q3⟩, q4⟩ := hp.2.2.2.2 j p e
 exact ⟨⟨(World.cell?_of_block (w := W) (a := ⟨b, o + j * 3, none⟩) q).trans q1, (World.cell?_of_block (w := W) (a := ⟨b, o + j * 3 + 1, none⟩) q).trans q2, (World.cell?_of_block (w := W) (a := ⟨b, o + j * 3 + 2, none⟩) q).trans q3⟩, q4⟩
theorem own_base {w : World} {B C : Nat} {e : TypeId} {size : Nat} {v : Value} {n : Nat} {xs : List Value} (h : w.ownsRow B e size v n xs) (hc : C ≤ B) : w.ownsRow C e size v n xs := by
 refine ⟨h.1, ?_⟩
 rcases h.2 with q | ⟨g, cap, cur, e1, h1, h2⟩
 ·exact .inl q
 ·exact .inr ⟨g, cap, cur, e1, Nat.le_trans hc h1, h2⟩
theorem PL.start {w W : World} {s : ByteArray} {v : Value} {P : List Prt} (hs : s.size ≤ 2048) (hc : Cov s 0 P s.size) (h : W.ownsRow w.heap.size 73 3 v P.length (flatP s P)) : PL W.heap.size v (texts s P) W := by
 have hl : (texts s P).length = P.length := by simp [texts]
 rcases h.2 with ⟨e, h0⟩ | ⟨g, cap, cur, e, h1, h2, h3, h4, h5, h6⟩
 ·exact .inl ⟨by rw [List.length_eq_zero_iff.1 h0]; rfl, none, 0, e⟩
 ·subst e
  have hlt := (Array.getElem?_eq_some_iff.1 h2).1
  have hcl := Cov_length s P 0 _ hc
  refine .inr ⟨g, 0, cap, by rw [hl], hlt, hlt, by omega, by omega, by unfold maxLen at h4; exact h4, fun j p e => ?_⟩
  obtain ⟨q1, q2, q3⟩ := flatT_at _ _ _ e
  have hj : j < P.length := by rw [← hl]; exact (List.getElem?_eq_some_iff.1 e).1
  rw [← flatP_texts] at q1 q2 q3
  obtain ⟨o1, o2, o3⟩ := Od_at j 0 _ p (Od_cov s P 0 _ hc) e
  refine ⟨⟨?_, ?_, ?_⟩, by omega, by omega, by omega⟩
  ·rw [Nat.zero_add, h.cellAt _ (by omega)]; exact q1
  ·rw [Nat.zero_add, h.cellAt _ (by omega)]; exact q2
  ·rw [Nat.zero_add, h.cellAt _ (by omega)]; exact q3
def mkR : Sum Int (List Tk) → Sum (Int × Int) (List Tk)
 | .inl i => .inl (i, 30)
 | .inr T => .inr T
def TokOf (w : World) (e : Ending) (w' : World) : Sum (Int × Int) (List Tk) → Prop
 | .inl x => e = zr (.tuple #[vL none 0 0, vi ki x.1, vi ki x.2])
 | .inr T => ∃ v, e = zr (.tuple #[v, vi ki 0, vi ki 0]) ∧ w'.ownsRow w.heap.size 81 3 v T.length (flatT T)
theorem tokens_any (s : ByteArray) (m : Int) (w : World) (hT : Tabs w) (hm : w.cell? ⟨2, 0, none⟩ = some (vi ki m)) (h2 : 2 < w.heap.size) (hsz : s.size ≤ 2048) :
  Calls Tryd.prog 14 #[vS s] w fun e w' => Below w.heap.size w w' ∧ TokOf w e w' (toksB s) := by
 obtain ⟨i0, hi0, iz0, iz1, iz2⟩ := info_parts infoSpot
 obtain ⟨R, hR⟩ : ∃ R, R = toksB s := ⟨_, rfl⟩
 rw [← hR]
 have hszI : (s.size : Int) ≤ 2048 := by omega
 go_enter Tryd.func14, Tryd.ntmps14
 go_wp2_with fail
 refine (wsplit_any s w hT hsz).mono ?_
 rintro e W1 ⟨hb, hsp⟩
 have HB := hZz hb
 have hz := hb.size
 clear hb
 cases hs : splitB s with
 | inl i =>
  rw [hs] at hsp
  obtain rfl := hsp
  have HR : Hid (R = .inl ((i : Int), 21)) := by show _ = _; rw [hR]; unfold toksB; rw [hs]
  clear hR
  go_wp2
  exact bodyPost_ret (v := .tuple #[vL none 0 0, vi ki (i : Int), vi ki 21]) (by simp [results, Tryd.results14, go_sem]) rfl ⟨HB.out, by rw [HR.out]; rfl⟩
 | inr P =>
  rw [hs] at hsp
  obtain ⟨u0, rfl, hown⟩ := hsp
  have hcov := splitB_cov hs
  have HPL : Hid (PL W1.heap.size u0 (texts s P) W1) := PL.start hsz hcov hown
  have HOd : Hid (Od s 0 (texts s P)) := Od_cov s P 0 _ hcov
  have hPl : P.length ≤ 2048 := by have := Cov_length s P 0 _ hcov; omega
  have HR : Hid (R = mkR (toksF s P.length (texts s P) [])) := by
   show _ = _; rw [hR]; unfold toksB; rw [hs]; dsimp only; cases toksF s P.length (texts s P) [] <;> rfl
  have HT0 : Hid (TO w W1.heap.size (vL none 0 0) [] W1) := ⟨HB.out, hz, Nat.le_refl _, World.ownsRow_nil _ _ _ _⟩
  obtain ⟨sq0, sn0, sc0, hu0⟩ := own_form hown
  subst hu0
  clear hR hcov hown hs
  go_wp2_with fail
  go_loopw [5, 8] (fun u v W => ∃ (n : Nat) (L A : List Tk) (sq : Option Addr) (sn sc : Nat), v = vL sq sn sc ∧ Hid (PL W1.heap.size u L W) ∧ Hid (TO w W1.heap.size v A W) ∧ Hid (Od s 0 L) ∧ L.length ≤ n ∧ A.length + n ≤ 2048 ∧ Hid (R = mkR (toksF s n L A))) (fun u _ _ => lenV u)
  case atStart => exact ⟨P.length, texts s P, [], none, 0, 0, rfl, HPL, HT0, HOd, by simp [texts], by simp; omega, HR⟩
  case round =>
   obtain ⟨n, L, A, sq, sn, sc, rfl, KP, KT, KO, hLn, hAn, KR⟩ := hrel
   clear HPL HOd HR HT0
   cases L with
   | nil =>
    obtain ⟨sq1, c1, rfl⟩ : ∃ sq1 c1, u5 = vL sq1 0 c1 := by
     rcases KP.out with ⟨_, q⟩ | ⟨b, o, cap, q, _⟩
     ·exact q
     ·exact ⟨_, _, q⟩
    have HR : Hid (R = .inr (A ++ [(0, ⟨#[]⟩, (s.size : Int))])) := by
     show _ = _
     rw [KR.out]; cases n <;> rfl
    clear KR KO KP
    go_wp2_with (at_builtin; refine Hid.out ?_)
    unfold Hid
    refine wpl_append_new rfl _ _ 41 rfl W1.heap.size 81 i0 (.agg #[vi ki 0, vS ByteArray.empty, vi ki 0]) 3 32 Tryd.underlying41 hi0 iz0 iz1 iz2 rfl (by decide) _ A.length (flatT A) rfl ((KT.out.below ((Below.refl _ wr).alloc (Nat.le_refl _) _)).own) ⟨wr.heap.size, 0, none⟩ 1 [vi ki 0, vS ⟨#[]⟩, vi ki (s.size : Int)] rfl rfl (part_new _ _ _ _ _) (part_one _ _ _) (by unfold maxLen; omega) (by omega) (by have := KT.out.b1; simp; omega) ?_
    intro v' w4 hown' hgrow hnew
    have HF : Hid _ := (KT.out.below ((Below.refl _ wr).alloc (Nat.le_refl _) _)).more (p := (0, ⟨#[]⟩, (s.size : Int))) hgrow hown'
    obtain ⟨sq', sn', sc', hv'⟩ := own_form hown'
    subst hv'
    clear hown' hgrow hnew KT
    go_wp2
    exact bodyPost_ret (v := .tuple #[vL sq' sn' sc', vi ki 0, vi ki 0]) (by simp [results, Tryd.results14, go_sem]) rfl ⟨HF.out.low, by rw [HR.out]; exact ⟨_, rfl, own_base HF.out.own HF.out.b0⟩⟩
   | cons p l =>
    obtain ⟨b, o, cap, rfl, hbB, hPV⟩ : ∃ b o cap, u5 = vL (some ⟨b, o, none⟩) (l.length + 1) cap ∧ b < W1.heap.size ∧ PV b o cap (p :: l) wr := by
     rcases KP.out with ⟨q, _⟩ | q
     ·exact absurd q (by simp)
     ·exact q
    have HV := hZz hPV
    have hl4 : l.length + 1 ≤ 4096 := hPV.2.1
    have hlI : (l.length : Int) + 1 ≤ 4096 := by omega
    have hl0 : (0 : Int) < (l.length : Int) + 1 := by omega
    have hcp : l.length + 1 ≤ cap := hPV.2.2.1
    have hcp2 := hPV.2.2.2.1
    have hbw := hPV.1
    obtain ⟨⟨-, -, c2⟩, -⟩ := hPV.2.2.2.2 0 p rfl
    simp only [Nat.zero_mul, Nat.add_zero] at c2
    clear hPV KP
    go_wp2_with fail
    refine (first_any b o cap p l _ HV.out).mono ?_
    rintro e W2 ⟨rfl, hk⟩
    have KT2 : Hid (TO w W1.heap.size (vL sq sn sc) A W2) := KT.out.below hk
    have HV2 : Hid (PV b o cap (p :: l) W2) := HV.out.below hk
    have hz2 := hk.size
    clear hk KT HV c2
    obtain ⟨k, hkk⟩ : ∃ k, k = (fstT p l).1 := ⟨_, rfl⟩
    cases hmm : (fstT p l).2 with
    | zero =>
     have HR : Hid (R = .inl (p.2.2, 30)) := by
      show _ = _
      obtain ⟨n, rfl⟩ : ∃ n', n = n' + 1 := ⟨n - 1, by simp only [zl] at hLn; omega⟩
      rw [KR.out, toksF, if_pos hmm]; rfl
     rw [← hkk]
     clear KR KO hmm hkk
     go_wp2
     exact bodyPost_ret (v := .tuple #[vL none 0 0, vi ki p.2.2, vi ki 30]) (by simp [results, Tryd.results14, go_sem]) rfl ⟨KT2.out.low, by rw [HR.out]; rfl⟩
    | succ j =>
     have hfl := fst_le p l
     rw [hmm] at hfl
     obtain ⟨q, hq, e1, e2, e3, e4, e5⟩ := end_at KO.out (m := j + 1) (by omega) hfl
     simp only [Nat.add_sub_cancel] at hq e1
     have hk3 : k = 3 → 1 ≤ j := fun h => by have := fst_3 p l (by rw [← hkk, h]); rw [hmm] at this; omega
     obtain ⟨n, rfl⟩ : ∃ n', n = n' + 1 := ⟨n - 1, by simp only [zl] at hLn; omega⟩
     have HR : Hid (R = mkR (toksF s n (l.drop j) (A ++ [(k, saidT k (s.extract p.2.2.toNat (q.2.2.toNat + q.2.1.size)), p.2.2)]))) := by
      show _ = _
      rw [KR.out, toksF, if_neg (by omega), tokT, hmm, ← hkk, Nat.add_sub_cancel, e1]; rfl
     have HO2 : Hid (Od s 0 (l.drop j)) := Od_drop (j + 1) 0 (p :: l) KO.out
     obtain ⟨⟨q0, q1, q2⟩, q3, q4, q5⟩ := HV2.out.2.2.2.2 j q hq
     rw [← hkk]
     have hjI : (j : Int) < (l.length : Int) + 1 := by omega
     have hj0 : (0 : Int) ≤ (j : Int) := by omega
     have hbV : b < W2.heap.size := by omega
     have e6 : (q.2.2 + (q.2.1.size : Int)).toNat = q.2.2.toNat + q.2.1.size := by omega
     have e7 : p.2.2 ≤ q.2.2 + (q.2.1.size : Int) := by omega
     have e8 : q.2.2 + (q.2.1.size : Int) ≤ (s.size : Int) := by omega
     have HK3 : Hid (k = 3 → 2 ≤ (s.extract p.2.2.toNat (q.2.2.toNat + q.2.1.size)).size) := fun h => by
      have := hk3 h
      rw [ByteArray.size_extract]; omega
     have hsx : (s.extract p.2.2.toNat (q.2.2.toNat + q.2.1.size)).size ≤ 4096 := by rw [ByteArray.size_extract]; omega
     clear KR KO hmm hkk hk3 e1 hq
     simp only [zl] at hLn
     go_wp2_with fail
     refine (behind_any q.1 q.2.1 q.2.2 _ q3 q4 q5).mono ?_
     rintro e W3 ⟨rfl, hk⟩
     have KT3 : Hid (TO w W1.heap.size (vL sq sn sc) A W3) := (KT2.out.below ((Below.refl _ W2).alloc (Nat.le_refl _) _)).below hk
     have HV3 : Hid (PV b o cap (p :: l) W3) := (HV2.out.below ((Below.refl _ W2).alloc (Nat.le_refl _) _)).below hk
     clear hk KT2 HV2
     have HM3 : Hid (W3.cell? ⟨2, 0, none⟩ = some (vi ki m)) := (KT3.out.low.cell (p := ⟨2, 0, none⟩) h2).trans hm
     go_wp2_with fail
     refine (said_any k _ m _ HM3.out hsx HK3.out).mono ?_
     rintro e W4 ⟨rfl, hk⟩
     have KT4 : Hid (TO w W1.heap.size (vL sq sn sc) A W4) := KT3.out.below hk
     have HV4 : Hid (PV b o cap (p :: l) W4) := HV3.out.below hk
     clear hk KT3 HV3 HM3 HK3
     generalize hx : saidT k (s.extract p.2.2.toNat (q.2.2.toNat + q.2.1.size)) = x at *
     clear hx
     go_wp2_with (at_builtin; refine Hid.out ?_)
     unfold Hid
     refine wpl_append_new rfl _ _ 41 rfl W1.heap.size 81 i0 (.agg #[vi ki 0, vS ByteArray.empty, vi ki 0]) 3 32 Tryd.underlying41 hi0 iz0 iz1 iz2 rfl (by decide) _ A.length (flatT A) rfl ((KT4.out.below ((Below.refl _ W4).alloc (Nat.le_refl _) _)).own) ⟨W4.heap.size, 0, none⟩ 1 [vi ki k, vS x, vi ki p.2.2] rfl rfl (part_new _ _ _ _ _) (part_one _ _ _) (by unfold maxLen; omega) (by omega) (by have := KT4.out.b1; simp; omega) ?_
     intro v' w5 hown' hgrow hnew
     have HF : Hid (TO w W1.heap.size v' (A ++ [(k, x, p.2.2)]) w5) := (KT4.out.below ((Below.refl _ W4).alloc (Nat.le_refl _) _)).more (p := (k, x, p.2.2)) hgrow hown'
     have HV5 : Hid (PV b o cap (p :: l) w5) := (HV4.out.below ((Below.refl _ W4).alloc (Nat.le_refl _) _)).grown (KT4.out.below ((Below.refl _ W4).alloc (Nat.le_refl _) _)) hbB hgrow
     obtain ⟨sq', sn', sc', hv'⟩ := own_form hown'
     subst hv'
     clear hown' hgrow hnew KT4 HV4
     go_wp2
     refine ⟨⟨n, l.drop j, A ++ [(k, x, p.2.2)], sq', sn', sc', rfl, ?_, HF.out, HO2.out, by simp; omega, by simp; omega, HR.out⟩, by simp only [lenV]; omega⟩
     by_cases hcj : cap = j + 1
     ·have hlj : l.length = j := by omega
      exact .inl ⟨by rw [← hlj]; simp, some ⟨b, o, none⟩, 0, by rw [if_pos hcj, hlj, hcj]; simp⟩
     ·exact .inr ⟨b, o + (j + 1) * 3, cap - (j + 1), by rw [if_neg hcj, List.length_drop], hbB, HV5.out.drop (j + 1) (by simp; omega)⟩
theorem fst_kind (p : Tk) (l : List Tk) : (fstT p l).1 ≠ 0 := by
 unfold fstT
 split
 ·simp
 ·split
  ·simp
  ·split
   ·simp
   ·split <;> simp
theorem endL_snoc : ∀ (A : List Tk) (p : Tk), p.1 = 0 → (∀ a ∈ A, a.1 ≠ 0) → EndL (A ++ [p])
 | [], p, h0, h => by simpa [EndL] using h0
 | [a], p, h0, h => by
  refine ⟨h a (by simp), ?_⟩
  simpa [EndL] using h0
 | a :: b :: A, p, h0, h => ⟨h a (by simp), endL_snoc (b :: A) p h0 (fun x hx => h x (by simp at hx ⊢; exact .inr hx))⟩
theorem toks_end (s : ByteArray) : ∀ (n : Nat) (L A T : List Tk), (∀ a ∈ A, a.1 ≠ 0) → toksF s n L A = .inr T → EndL T ∧ T.length ≤ A.length + n + 1
 | 0, L, A, T, h, e => by
  simp only [toksF, Sum.inr.injEq] at e; subst e
  exact ⟨endL_snoc A _ rfl h, by simp⟩
 | n + 1, [], A, T, h, e => by
  simp only [toksF, Sum.inr.injEq] at e; subst e
  exact ⟨endL_snoc A _ rfl h, by simp⟩
 | n + 1, p :: l, A, T, h, e => by
  rw [toksF] at e
  split at e
  ·exact absurd e (by simp)
  ·have q := toks_end s n _ _ T (fun a ha => by
    simp only [List.mem_append, List.mem_singleton] at ha
    rcases ha with ha | rfl
    ·exact h a ha
    ·exact fst_kind p l) e
   simp only [List.length_append, zl, List.length_nil] at q
   exact ⟨q.1, by omega⟩
theorem toksB_end {s : ByteArray} {T : List Tk} (h : toksB s = .inr T) (hs : s.size ≤ 2048) : EndL T ∧ T.length ≤ 2049 := by
 unfold toksB at h
 cases hp : splitB s with
 | inl i => rw [hp] at h; exact absurd h (by simp)
 | inr P =>
  rw [hp] at h
  dsimp only at h
  cases ht : toksF s P.length (texts s P) [] with
  | inl i => rw [ht] at h; exact absurd h (by simp)
  | inr T' =>
   rw [ht] at h
   simp only [Sum.inr.injEq] at h; subst h
   have q := toks_end s _ _ [] T' (by simp) ht
   have := Cov_length s P 0 _ (splitB_cov hp)
   simp only [List.length_nil] at q
   exact ⟨q.1, by omega⟩
theorem toksB_err {s : ByteArray} {x : Int × Int} (h : toksB s = .inl x) : x.2 = 21 ∨ x.2 = 30 := by
 unfold toksB at h
 cases hp : splitB s with
 | inl i => rw [hp] at h; simp only [Sum.inl.injEq] at h; subst h; exact .inl rfl
 | inr P =>
  rw [hp] at h
  dsimp only at h
  cases ht : toksF s P.length (texts s P) [] with
  | inl i => rw [ht] at h; simp only [Sum.inl.injEq] at h; subst h; exact .inr rfl
  | inr T' => rw [ht] at h; exact absurd h (by simp)
def endT : PR → Sum (Int × Int) Nd
 | .no a e => .inl (a, e)
 | .ok n (q :: _) => if isT q [(0, ⟨#[]⟩)] then .inr n else .inl (q.2.2, 30)
 | .ok n [] => .inl (0, 30)
def parseB (s : ByteArray) : Sum (Int × Int) Nd :=
 match toksB s with
 | .inl x => .inl x
 | .inr T => endT (par (10 * T.length + 10) (.lv 0) 0 T)
def WhOf (g : Nat) (X : Nat → Prop) (e : Ending) (w' : World) : Sum (Int × Int) Nd → Prop
 | .inl x => PF g w' 0 x.1 x.2 ∧ e = zr (.tuple #[.agg #[vi ki 0, vS ⟨#[]⟩, vL none 0 0, vi ki 0], .bool false])
 | .inr n => ∃ k t sq sn sc a, e = zr (.tuple #[.agg #[vi ki k, vS t, vL sq sn sc, vi ki a], .bool true]) ∧ NdAt X w' n [vi ki k, vS t, vL sq sn sc, vi ki a]
theorem whole_any (g b cap : Nat) (T : List Tk) (hE : EndL T) (hN : T.length ≤ 100000) (w : World) (h : PS g b cap T w T 0) :
  Calls Tryd.prog 15 #[.pointer (some ⟨g, 0, none⟩)] w fun e w' => Kp g w w' ∧ WhOf g (fun c => w.heap.size ≤ c) e w' (endT (par (10 * T.length + 10) (.lv 0) 0 T)) := by
 have HC : ∀ V : World, PS g b cap T V T 0 → Calls Tryd.prog 27 #[.pointer (some ⟨g, 0, none⟩)] V fun e w' => Kp g V w' ∧ Out g b cap T (fun c => V.heap.size ≤ c) w' 0 e (par (10 * T.length + 10) (.lv 0) 0 T) :=
  fun V hV => (expr_all g b cap T T.length hN).1 V T 0 _ hV hE (by omega) (Nat.le_refl _) (by simp [need])
 have hG := par_good (fun _ => True) (fun _ => True) (10 * T.length + 10) (.lv 0) 0 T (by simp [okTg]) ⟨hE, fun _ _ _ => trivial, fun _ _ => trivial⟩ (by simp [PlT]) (by simp [need])
 cases hp : par (10 * T.length + 10) (.lv 0) 0 T with
 | no ea er =>
  rw [hp] at HC
  exact whole_no g b cap T T 0 ea er HC w h
 | ok n l1 =>
  rw [hp] at HC hG
  obtain ⟨q, l1, rfl⟩ := hG.1.cons
  have hE1 : EndL (q :: l1) := hG.1
  cases hi : isT q [(0, ⟨#[]⟩)] with
  | false =>
   have e1 : endT (.ok n (q :: l1)) = .inl (q.2.2, 30) := by simp [endT, hi]
   rw [e1]
   exact whole_bad g b cap T T 0 n q l1 hi HC w h
  | true =>
   have e1 : endT (.ok n (q :: l1)) = .inr n := by simp [endT, hi]
   rw [e1]
   have hq0 : q.1 = 0 := by simp [isT] at hi; exact hi.1
   have hl : l1 = [] := by
    cases l1 with
    | nil => rfl
    | cons r l1 => exact absurd hq0 hE1.1
   subst hl
   exact whole_good g b cap T T 0 n q hi HC w h
def ParOf (X : Nat → Prop) (e : Ending) (w' : World) : Sum (Int × Int) Nd → Prop
 | .inl x => e = zr (.tuple #[.agg #[vi ki 0, vS ⟨#[]⟩, vL none 0 0, vi ki 0], vi ki x.1, vi ki x.2])
 | .inr n => ∃ k t sq sn sc a, e = zr (.tuple #[.agg #[vi ki k, vS t, vL sq sn sc, vi ki a], vi ki 0, vi ki 0]) ∧ NdAt X w' n [vi ki k, vS t, vL sq sn sc, vi ki a]
def PQ (w : World) (g : Nat) (a e : Int) (U : World) : Prop := Below w.heap.size w U ∧ Bx U w.heap.size [vi ki 0, vS ⟨#[]⟩, vL none 0 0, vi ki 0] ∧ PF g U 0 a e
theorem PQ.set {w : World} {g : Nat} {a e : Int} {U : World} (h : PQ w g a e U) (hg : g ≠ w.heap.size) : PQ w g a e (U.setCells w.heap.size 0 [vi ki 0, vS ⟨#[]⟩, vL none 0 0, vi ki 0]) := by
 obtain ⟨q1, q2, q3, q4⟩ := fin4 (g := w.heap.size) [] (vi ki 0) (vS ⟨#[]⟩) (vL none 0 0) (vi ki 0) (Kp.of h.1) (Nat.le_refl _) h.2.1
 exact ⟨q1.below (Nat.le_refl _) (Nat.le_refl _), q2, h.2.2.off q3 q4 hg⟩
theorem PQ.drew {w : World} {g : Nat} {a e : Int} {U : World} (h : PQ w g a e U) : PQ w g a e U.drew := ⟨h.1.drew, h.2⟩
def PG (w : World) (r : Nat) (n : Nd) (cs : List Value) (U : World) : Prop := Below w.heap.size w U ∧ Bx U w.heap.size [vi ki 0, vS ⟨#[]⟩, vL none 0 0, vi ki 0] ∧ Bx U r cs ∧ NdAt (fun c => w.heap.size < c) U n cs
theorem parse_any (s : ByteArray) (m : Int) (w : World) (hT : Tabs w) (hm : w.cell? ⟨2, 0, none⟩ = some (vi ki m)) (h2 : 2 < w.heap.size) (hsz : s.size ≤ 2048) :
  Calls Tryd.prog 5 #[vS s] w fun e w' => Below w.heap.size w w' ∧ ParOf (fun c => w.heap.size < c) e w' (parseB s) := by
 obtain ⟨R, hR⟩ : ∃ R, R = parseB s := ⟨_, rfl⟩
 rw [← hR]
 go_enter Tryd.func5, Tryd.ntmps5
 go_wp2_with fail
 have B0 := bsm1 w [vi ki 0, vS ⟨#[]⟩, vL none 0 0, vi ki 0] 24
 refine (tokens_any s m _ (Tabs_below hT B0.out.1) ((B0.out.1.cell (p := ⟨2, 0, none⟩) h2).trans hm) (by simp; omega) hsz).mono ?_
 rintro e V ⟨hb, ht⟩
 have BV : Hid (BS w [(w.heap.size, [vi ki 0, vS ⟨#[]⟩, vL none 0 0, vi ki 0])] V) := B0.out.below hb
 have hrV : w.heap.size < V.heap.size := BV.out.first.1
 clear hb B0
 cases hs : toksB s with
 | inl x =>
  rw [hs] at ht
  obtain rfl := ht
  have HR : Hid (R = .inl x) := by show _ = _; rw [hR]; unfold parseB; rw [hs]
  have hx := toksB_err hs
  have hx2 : (x.2 == 0) = false := by rcases hx with h | h <;> rw [h] <;> rfl
  have HQ := fin4 (g := w.heap.size) [] (vi ki 0) (vS ⟨#[]⟩) (vL none 0 0) (vi ki 0) (Kp.of BV.out.1) (Nat.le_refl _) BV.out.first
  obtain ⟨k1, k2, -, -⟩ := HQ
  obtain ⟨y0, y1, y2, y3⟩ := k2.d4
  have HK : Hid _ := k1
  simp only [List.foldl, World.setCells, Nat.zero_add, Nat.reduceAdd] at y0 y1 y2 y3
  obtain ⟨c0, c1, c2, c3, z0, z1, z2, z3⟩ := BV.out.first.cf4
  clear hR hs hx k1 k2
  go_wp2
  exact bodyPost_ret (v := .tuple #[.agg #[vi ki 0, vS ⟨#[]⟩, vL none 0 0, vi ki 0], vi ki x.1, vi ki x.2]) (by simp [results, Tryd.results5, go_sem, y0, y1, y2, y3]) rfl ⟨HK.out.below (Nat.le_refl _) (Nat.le_refl _), by rw [HR.out]; rfl⟩
 | inr T =>
  rw [hs] at ht
  obtain ⟨u, rfl, hown⟩ := ht
  obtain ⟨hE, hTl⟩ := toksB_end hs hsz
  have HR : Hid (R = endT (par (10 * T.length + 10) (.lv 0) 0 T)) := by show _ = _; rw [hR]; unfold parseB; rw [hs]
  clear hR hs
  obtain ⟨b, cap, cur, rfl, h1, h3, h4, h5, h6, h7⟩ : ∃ g cap cur, u = vL (some ⟨g, 0, none⟩) T.length cap ∧ w.heap.size + 1 ≤ g ∧ V.heap[g]? = some (.cells cur 81 (0, 0)) ∧ T.length ≤ cap ∧ cap ≤ maxLen ∧ cur.size = cap * 3 ∧ cur.toList.take (T.length * 3) = flatT T := by
   rcases hown.2 with ⟨_, h0⟩ | q
   ·obtain ⟨p, l, rfl⟩ := hE.cons
    simp at h0
   ·simpa using q
  have hbV : b < V.heap.size := (Array.getElem?_eq_some_iff.1 h3).1
  have HTR : Hid (TR V b T) := ⟨hbV, fun i v hv => by
   have hi := (List.getElem?_eq_some_iff.1 hv).1
   rw [hown.1] at hi
   rw [hown.cellAt i hi]; exact hv⟩
  have HE : Hid (EndL T) := hE
  clear hown h3 h6 h7 hE
  go_wp2_with fail
  have B1 := bsm1 V [vL (some ⟨b, 0, none⟩) T.length cap, vi ki 0, vi ki 0, vi ki 0] 45
  have HPS : Hid (PS V.heap.size b cap T _ T 0) := ⟨⟨[], 0, 0, rfl, by simpa using B1.out.first⟩, HTR.out.kp (Kp.of (g := V.heap.size) B1.out.1) (by omega), by omega, h4, h5⟩
  refine (whole_any V.heap.size b cap T HE.out (by omega) _ HPS.out).mono ?_
  rintro e W2 ⟨hk, hwh⟩
  have hzW : V.heap.size < W2.heap.size := by have := hk.size; simp at this; omega
  have BW : Hid (BS w [(w.heap.size, [vi ki 0, vS ⟨#[]⟩, vL none 0 0, vi ki 0])] W2) := BV.out.below (B1.out.1.trans (hk.below (B := V.heap.size) (Nat.le_refl _) (by simp)))
  clear hk HPS B1 HTR HE BV
  cases hp : endT (par (10 * T.length + 10) (.lv 0) 0 T) with
  | inl x =>
   rw [hp] at hwh HR
   obtain ⟨hpf, rfl⟩ := hwh
   have HPF : Hid (PF V.heap.size W2 0 x.1 x.2) := hpf
   clear hpf hp
   go_upto_region 7 with fail
   refine gen_to (PQ w V.heap.size x.1 x.2) ⟨(BW.out.below ((Below.refl _ W2).alloc (Nat.le_refl _) _)).1, (BW.out.below ((Below.refl _ W2).alloc (Nat.le_refl _) _)).first, HPF.out.keep (by simp) (Below.heap_alloc _ _ _ hzW)⟩ ?_
   intro U hU
   have HU : Hid (PQ w V.heap.size x.1 x.2 U) := hU
   have hgr : V.heap.size ≠ w.heap.size := by omega
   clear hU BW HPF
   refine wp_region_held_drew (S := PQ w V.heap.size x.1 x.2) (by kernel_rfl) HU.out.drew (fun hHeld => ?_)
   refine tks 0 (oi := ⟨some 30, _, _, _, _, none⟩) ?_
   simp only [za, zb, zc, zd]
   refine tks 1 (oi := ⟨some 31, _, _, _, _, none⟩) ?_
   simp only [za, zb, zc, zd]
   refine tk (v := ?_) 2 (oi := ⟨some 32, _, _, _, _, none⟩) ?_ ?_
   case refine_2 => (intro w9 hSw; obtain ⟨-, -, left, hpb, -⟩ := hSw; have q2 := hpb.c 2 rfl; have q3 := hpb.c 3 rfl; have qg := hpb.1; clear hpb; go_simp; try with_reducible rfl)
   simp only [za, zb, zc, zd]
   refine tks 3 (oi := ⟨some 33, _, _, _, _, none⟩) ?_
   simp only [za, zb, zc, zd]
   refine tk (v := ?_) 4 (oi := ⟨some 34, _, _, _, _, none⟩) ?_ ?_
   case refine_2 => (intro w9 hSw; obtain ⟨-, -, left, hpb, -⟩ := hSw; have q2 := hpb.c 2 rfl; have q3 := hpb.c 3 rfl; have qg := hpb.1; clear hpb; go_simp; try with_reducible rfl)
   simp only [za, zb, zc, zd]
   refine rd 5 (fun K hK => ?_)
   obtain ⟨y0, y1, y2, y3, z0, z1, z2, z3⟩ := HU.out.2.1.cf4
   have hB9 := HU.out.2.1.1
   go_simp
   refine hK.out _ _ (PQ.set hHeld hgr) (fun hHeld2 => ?_)
   clear hK K y0 y1 y2 y3 z0 z1 z2 z3 hB9 hHeld
   have hHeld := hHeld2
   clear hHeld2
   refine tks 6 (oi := ⟨some 3, _, _, _, _, none⟩) ?_
   simp only [za, zb, zc, zd]
   refine tks 7 (oi := ⟨some 4, _, _, _, _, none⟩) ?_
   simp only [za, zb, zc, zd]
   refine dn ?_
   have HH : Hid _ := hHeld
   obtain ⟨hh1, hh2, hh3⟩ := hHeld
   obtain ⟨y0, y1, y2, y3⟩ := hh2.d4
   clear hh1 hh2 hh3
   go_wp2
   exact bodyPost_ret (v := .tuple #[.agg #[vi ki 0, vS ⟨#[]⟩, vL none 0 0, vi ki 0], vi ki x.1, vi ki x.2]) (by simp [results, Tryd.results5, go_sem, y0, y1, y2, y3]) rfl ⟨HH.out.1, by rw [HR.out]; rfl⟩
  | inr n =>
   rw [hp] at hwh HR
   obtain ⟨k, t, sq, sn, sc, a, rfl, hnd⟩ := hwh
   have HN : Hid _ := hnd
   clear hnd hp
   go_upto_region 8 with fail
   refine gen_to (PG w W2.heap.size n [vi ki k, vS t, vL sq sn sc, vi ki a]) ⟨(BW.out.below ((Below.refl _ W2).alloc (Nat.le_refl _) _)).1, (BW.out.below ((Below.refl _ W2).alloc (Nat.le_refl _) _)).first, Bx.new W2 [vi ki k, vS t, vL sq sn sc, vi ki a] 24, NdAt.keep (by simp) (fun c hc hl => ⟨by simp at hc; omega, Below.heap_alloc _ _ _ hl⟩) _ _ HN.out⟩ ?_
   intro U hU
   have HU : Hid (PG w W2.heap.size n [vi ki k, vS t, vL sq sn sc, vi ki a] U) := hU
   obtain ⟨u1, u2, u3, u4⟩ := hU
   obtain ⟨k1, k2, k3, k4⟩ := fin4 (g := w.heap.size) [] (vi ki k) (vS t) (vL sq sn sc) (vi ki a) (Kp.of u1) (Nat.le_refl _) u2
   have HNF : Hid _ := NdAt.off u4 k3 k4 (Y := fun c => w.heap.size < c) (fun c hc => ⟨hc, by omega⟩)
   have HK : Hid _ := k1
   have hrU := u2.1
   have hnU := u3.1
   obtain ⟨y0, y1, y2, y3⟩ := k2.d4
   simp only [List.foldl, World.setCells, Nat.zero_add, Nat.reduceAdd] at y0 y1 y2 y3
   obtain ⟨c0, c1, c2, c3, z0, z1, z2, z3⟩ := u2.cf4
   obtain ⟨d0, d1, d2, d3⟩ := u3.d4
   clear u1 u2 u3 u4 k1 k2 k3 k4 HU HN BW
   go_wp2
   exact bodyPost_ret (v := .tuple #[.agg #[vi ki k, vS t, vL sq sn sc, vi ki a], vi ki 0, vi ki 0]) (by simp [results, Tryd.results5, go_sem, y0, y1, y2, y3]) rfl ⟨HK.out.below (Nat.le_refl _) (Nat.le_refl _), by rw [HR.out]; exact ⟨_, _, _, _, _, _, rfl, HNF.out⟩⟩
theorem tokens_long (s : ByteArray) (w : World) (hs : s.size ≤ maxLen) (hsz : ¬ s.size ≤ 2048) :
  Calls Tryd.prog 14 #[vS s] w fun e w' => e = zr (.tuple #[vL none 0 0, vi ki 0, vi ki 3]) ∧ w' = w := by
 go_enter Tryd.func14, Tryd.ntmps14
 go_wp2_with fail
 refine (wsplit_long s w hs hsz).mono ?_
 rintro e V ⟨rfl, rfl⟩
 go_wp2
 exact bodyPost_ret (v := .tuple #[vL none 0 0, vi ki 0, vi ki 3]) (by simp [results, Tryd.results14, go_sem]) rfl ⟨rfl, rfl⟩
theorem parse_long (s : ByteArray) (w : World) (hs : s.size ≤ maxLen) (hsz : ¬ s.size ≤ 2048) :
  Calls Tryd.prog 5 #[vS s] w fun e w' => Below w.heap.size w w' ∧ e = zr (.tuple #[.agg #[vi ki 0, vS ⟨#[]⟩, vL none 0 0, vi ki 0], vi ki 0, vi ki 3]) := by
 go_enter Tryd.func5, Tryd.ntmps5
 go_wp2_with fail
 refine (tokens_long s _ hs hsz).mono ?_
 rintro e V ⟨rfl, hV⟩
 have BV : Hid (BS w [(w.heap.size, [vi ki 0, vS ⟨#[]⟩, vL none 0 0, vi ki 0])] V) := by rw [hV]; exact ((BS.start w).new [vi ki 0, vS ⟨#[]⟩, vL none 0 0, vi ki 0] 24 rfl)
 clear hV
 have hrV : w.heap.size < V.heap.size := BV.out.first.1
 obtain ⟨k1, k2, -, -⟩ := fin4 (g := w.heap.size) [] (vi ki 0) (vS ⟨#[]⟩) (vL none 0 0) (vi ki 0) (Kp.of BV.out.1) (Nat.le_refl _) BV.out.first
 obtain ⟨y0, y1, y2, y3⟩ := k2.d4
 have HK : Hid _ := k1
 simp only [List.foldl, World.setCells, Nat.zero_add, Nat.reduceAdd] at y0 y1 y2 y3
 obtain ⟨c0, c1, c2, c3, z0, z1, z2, z3⟩ := BV.out.first.cf4
 clear k1 k2
 go_wp2
 exact bodyPost_ret (v := .tuple #[.agg #[vi ki 0, vS ⟨#[]⟩, vL none 0 0, vi ki 0], vi ki 0, vi ki 3]) (by simp [results, Tryd.results5, go_sem, y0, y1, y2, y3]) rfl ⟨HK.out.below (Nat.le_refl _) (Nat.le_refl _), rfl⟩
theorem RwAt.get {X : Nat → Prop} {w : World} {b : Nat} : ∀ (l : List Nd) (i j : Nat) (n : Nd), RwAt X w b i l → l[j]? = some n → ∃ c0 c1 c2 c3, w.cell? ⟨b, (i + j) * 4, none⟩ = some c0 ∧ w.cell? ⟨b, (i + j) * 4 + 1, none⟩ = some c1 ∧ w.cell? ⟨b, (i + j) * 4 + 2, none⟩ = some c2 ∧ w.cell? ⟨b, (i + j) * 4 + 3, none⟩ = some c3 ∧ NdAt X w n [c0, c1, c2, c3]
 | [], i, j, n, h, e => by simp at e
 | m :: l, i, 0, n, h, e => by
  rw [RwAt] at h
  simp at e; subst e
  exact h.1
 | m :: l, i, j + 1, n, h, e => by
  rw [RwAt] at h
  have q := RwAt.get l (i + 1) j n h.2 (by simpa using e)
  rw [show i + 1 + j = i + (j + 1) by omega] at q
  exact q
theorem NdAt.below {X : Nat → Prop} {w W : World} {n : Nd} {cs : List Value} (h : NdAt X w n cs) (k : Below w.heap.size w W) : NdAt X W n cs :=
 NdAt.keep k.size (fun b hb hz => ⟨hb, k.block b hz⟩) n cs h
mutual
def stN : Nd → Nat
 | .mk k _ ks _ => if k = 5 then 1 else 1 + stL ks
def stL : List Nd → Nat
 | [] => 0
 | n :: l => stN n + stL l
end
theorem stL_append : ∀ (l m : List Nd), stL (l ++ m) = stL l + stL m
 | [], m => by rw [stL, List.nil_append, Nat.zero_add]
 | n :: l, m => by rw [List.cons_append, stL, stL, stL_append l m]; omega
theorem stL_take {l : List Nd} {j : Nat} {n : Nd} (h : l[j]? = some n) : stL (l.take (j + 1)) = stL (l.take j) + stN n := by
 rw [List.take_add_one, h, stL_append]
 show _ + stL [n] = _
 rw [stL, stL]; omega
theorem stL_take_le (l : List Nd) (j : Nat) : stL (l.take j) ≤ stL l := by
 have := stL_append (l.take j) (l.drop j)
 rw [List.take_append_drop] at this
 omega
theorem NdAt.form {X : Nat → Prop} {w : World} {n : Nd} {d0 d1 d2 d3 : Value} (h : NdAt X w n [d0, d1, d2, d3]) : ∃ k t sq sn sc a, d0 = vi ki k ∧ d1 = vS t ∧ d2 = vL sq sn sc ∧ d3 = vi ki a := by
 cases n with
 | mk k t ks a =>
  rw [NdAt] at h
  obtain ⟨sv, hcs, hv⟩ := h
  simp only [List.cons.injEq, and_true] at hcs
  obtain ⟨rfl, rfl, rfl, rfl⟩ := hcs
  rcases hv with ⟨q1, q2⟩ | ⟨b, cap, e1, _⟩
  ·first | exact ⟨k, t, none, 0, 0, a, rfl, rfl, q2, rfl⟩ | exact ⟨k, t, none, 0, 0, a, rfl, rfl, q1, rfl⟩
  ·exact ⟨k, t, _, _, _, a, rfl, rfl, e1, rfl⟩
theorem steps_any (n : Nd) (hn : PlN (fun _ => True) n) : ∀ (X : Nat → Prop) (w : World) (c0 c1 c2 c3 : Value), NdAt X w n [c0, c1, c2, c3] → stN n ≤ 1000000000 →
  Calls Tryd.prog 12 #[.agg #[c0, c1, c2, c3]] w fun e w' => e = zr (vi ki (stN n : Nat)) ∧ Below w.heap.size w w' := by
 induction hn with
 | mk k t ks a ha hk ih =>
  intro X w c0 c1 c2 c3 h hle
  rw [NdAt] at h
  obtain ⟨sv, hcs, hv⟩ := h
  simp only [List.cons.injEq, and_true] at hcs
  obtain ⟨rfl, rfl, rfl, rfl⟩ := hcs
  have HI : Hid _ := ih
  clear hk ih ha
  obtain ⟨sq, sc, rfl, hkl, HG⟩ : ∃ sq sc, c2 = vL sq ks.length sc ∧ ks.length ≤ 9223372036854775807 ∧ Hid (∀ j n, ks[j]? = some n → ∃ b, sq = some ⟨b, 0, none⟩ ∧ ks.length ≤ sc ∧ b < w.heap.size ∧ ∃ d0 d1 d2 d3, w.cell? ⟨b, j * 4, none⟩ = some d0 ∧ w.cell? ⟨b, j * 4 + 1, none⟩ = some d1 ∧ w.cell? ⟨b, j * 4 + 2, none⟩ = some d2 ∧ w.cell? ⟨b, j * 4 + 3, none⟩ = some d3 ∧ NdAt X w n [d0, d1, d2, d3]) := by
   rcases hv with ⟨q1, q2⟩ | ⟨b, cap, e1, e0, e2, e3, e4, e5, e6⟩
   ·first | (subst q1; exact ⟨none, 0, q2, by simp, fun j n e => by simp at e⟩) | (subst q2; exact ⟨none, 0, q1, by simp, fun j n e => by simp at e⟩)
   ·refine ⟨some ⟨b, 0, none⟩, cap, e1, by unfold maxLen at e3; omega, fun j n e => ⟨b, rfl, e2, e5, ?_⟩⟩
    have q := RwAt.get ks 0 j n e6 e
    rw [Nat.zero_add] at q
    exact q
  clear hv
  have hklI : (ks.length : Int) ≤ 9223372036854775807 := by omega
  rcases Classical.em (k = 5) with h5 | h5
  ·have HE : Hid (stN (.mk k t ks a) = 1) := by show _ = _; rw [stN, if_pos h5]
   subst h5
   clear HI HG hle
   go_enter Tryd.func12, Tryd.ntmps12
   go_wp2
   go_ret
   exact ⟨by rw [HE.out]; rfl, (Below.refl _ w).alloc (Nat.le_refl _) _⟩
  have HE : Hid (stN (.mk k t ks a) = 1 + stL ks) := by show _ = _; rw [stN, if_neg h5]
  have g5 : (k == 5) = false := by simpa using h5
  rw [HE.out] at hle ⊢
  clear HE h5
  go_enter Tryd.func12, Tryd.ntmps12
  go_wp2_with fail
  go_loopw [3, 13] (fun u i W => ∃ (j : Nat), u = vi ki (1 + (stL (ks.take j) : Nat) : Int) ∧ i = vi ki (j : Int) ∧ j ≤ ks.length ∧ Hid (Below w.heap.size w W)) (fun _ i _ => ks.length - (intOf i).toNat)
  case atStart => exact ⟨0, rfl, rfl, Nat.zero_le _, (Below.refl _ w).alloc (Nat.le_refl _) _⟩
  case round =>
   obtain ⟨j, rfl, rfl, hj, KB⟩ := hrel
   have hj0 : (0 : Int) ≤ (j : Int) := by omega
   have hs := KB.out.size
   by_cases hjl : j < ks.length
   ·have hjI : (j : Int) < (ks.length : Int) := by omega
    obtain ⟨b, rfl, hsc, hb, d0, d1, d2, d3, y0, y1, y2, y3, hnd⟩ := HG.out j _ (List.getElem?_eq_getElem hjl)
    have et := stL_take (List.getElem?_eq_getElem hjl)
    have el := stL_take_le ks (j + 1)
    obtain ⟨N, hN⟩ : ∃ N, N = stN ks[j] := ⟨_, rfl⟩
    rw [← hN] at et
    have HC : Hid (∀ V : World, Below w.heap.size w V → Calls Tryd.prog 12 #[.agg #[d0, d1, d2, d3]] V fun e w' => e = zr (vi ki (N : Int)) ∧ Below V.heap.size V w') :=
     fun V hV => by rw [hN]; exact HI.out _ (List.getElem_mem hjl) X V d0 d1 d2 d3 (hnd.below hV) (by omega)
    have v0 := (KB.out.cell (p := ⟨b, j * 4, none⟩) hb).trans y0
    have v1 := (KB.out.cell (p := ⟨b, j * 4 + 1, none⟩) hb).trans y1
    have v2 := (KB.out.cell (p := ⟨b, j * 4 + 2, none⟩) hb).trans y2
    have v3 := (KB.out.cell (p := ⟨b, j * 4 + 3, none⟩) hb).trans y3
    have hbw : b < wr.heap.size := by omega
    obtain ⟨k2, t2, sq2, sn2, sc2, a2, rfl, rfl, rfl, rfl⟩ := hnd.form
    clear y0 y1 y2 y3 hnd HI HG hN
    go_wp2_with fail
    refine (HC.out _ (KB.out.trans (((Below.refl _ wr).alloc (Nat.le_refl _) _).mono hs))).mono ?_
    rintro e V ⟨rfl, hk⟩
    have KV : Hid (Below w.heap.size w V) := (KB.out.trans (((Below.refl _ wr).alloc (Nat.le_refl _) _).mono hs)).trans (hk.mono (by simp; omega))
    clear hk KB HC v0 v1 v2 v3
    go_wp2
    exact ⟨⟨j + 1, by rw [et]; simp; omega, by simp, by omega, KV.out⟩, by simp [intOf]; omega⟩
   ·obtain rfl : j = ks.length := by omega
    rw [List.take_length]
    have hjI : ¬ (ks.length : Int) < (ks.length : Int) := by omega
    go_wp2
    go_ret
    exact ⟨by simp, KB.out⟩
end Go.Proofs.YtaoocecipacnhaaDoor
namespace Go.Proofs.YtaoocecipacnhaaDoor
open Go.Shelf Go.RowKit
def lays166_ren : Go.Shelf.Ren := ⟨fun | 166 => 40 | 240 => 60 | 276 => 69 | n => n, fun | 0 => 0 | 3 => 3 | 4 => 4 | 5 => 5 | 9 => 9 | 20 => 20 | 37 => 62 | 70 => 61 | 72 => 64 | 75 => 95 | 80 => 66 | 164 => 121 | n => n, fun | n => n⟩
theorem lays166 : Go.Proofs.Lays.n166 Tryd.prog lays166_ren := {
 mixed := by kernel_rfl
 f166 := Tryd.func40.trans (congrArg some (by kernel_rfl))
 f240 := Tryd.func60.trans (congrArg some (by kernel_rfl))
 f276 := Tryd.func69.trans (congrArg some (by kernel_rfl))
 t0 := Tryd.underlying0
 a0 := Tryd.isAgg0
 z0 := Tryd.sizeOf0
 v0 := Tryd.zeroValue0
 t3 := Tryd.underlying3
 a3 := Tryd.isAgg3
 z3 := Tryd.sizeOf3
 v3 := Tryd.zeroValue3
 t4 := Tryd.underlying4
 a4 := Tryd.isAgg4
 z4 := Tryd.sizeOf4
 v4 := Tryd.zeroValue4
 t9 := Tryd.underlying9
 a9 := Tryd.isAgg9
 z9 := Tryd.sizeOf9
 v9 := Tryd.zeroValue9
 t20 := Tryd.underlying20
 a20 := Tryd.isAgg20
 z20 := Tryd.sizeOf20
 v20 := Tryd.zeroValue20
 t37 := Tryd.underlying62
 a37 := Tryd.isAgg62
 z37 := Tryd.sizeOf62
 v37 := Tryd.zeroValue62
 t70 := Tryd.underlying61
 a70 := Tryd.isAgg61
 z70 := Tryd.sizeOf61
 v70 := Tryd.zeroValue61
 t72 := Tryd.underlying64
 a72 := Tryd.isAgg64
 z72 := Tryd.sizeOf64
 v72 := Tryd.zeroValue64
 t75 := Tryd.underlying95
 a75 := Tryd.isAgg95
 z75 := Tryd.sizeOf95
 v75 := Tryd.zeroValue95
 t164 := Tryd.underlying121
 a164 := Tryd.isAgg121
 z164 := Tryd.sizeOf121
 v164 := Tryd.zeroValue121 }
theorem extra166 : Builder.Extra Tryd.prog lays166_ren := {
 sizeBuilder := by kernel_rfl
 liesBuilder := by kernel_rfl
 t5 := Tryd.underlying5
 a5 := Tryd.isAgg5
 z5 := Tryd.sizeOf5
 v5 := Tryd.zeroValue5
 infoByte := by kernel_rfl
 cellsByte := by kernel_rfl
 sizeByte := by kernel_rfl
 neB5 := by decide }
theorem writeString (B b : Nat) (bs : List Value) (s : ByteArray) (w : World) (h : Lib.IsBuilderF 64 5 B b bs w) (hlen : bs.length + s.size ≤ 140737488355328) (hBw : B ≤ w.heap.size) :
  Calls Tryd.prog 40 #[.pointer (some ⟨b, 0, none⟩), vS s] w fun e w' => e = zr (.tuple #[vi ki s.size, .nilIface]) ∧ (Lib.BuilderAtF 64 5 B b (.pointer (some ⟨b, 0, none⟩)) (bs ++ Lib.strCells s) w' ∧ Below B w w' ∧ Lib.OthersKept 5 (some b) w w') := Any.Builder_WriteString_k lays166 extra166 B b bs s w h hlen hBw
end Go.Proofs.YtaoocecipacnhaaDoor
