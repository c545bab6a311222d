import Derived.Test.YtaoocecipacnhaaDoorWz
import Derived.Test.YtaoocecipacnhaaDoorW22
import Derived.Test.YtaoocecipacnhaaDoorW23
open Go.Value renaming int → vi
open Go.IntKind renaming i64 → ki
open List renaming setIfInBounds_toArray → zb, set_cons_zero → zc, set_cons_succ → zd
open Go.Act renaming put → za
open Go.Ending renaming returned → zr
set_option maxRecDepth 100000
set_option maxHeartbeats 16000000
set_option linter.unusedVariables false
namespace Go.Proofs.YtaoocecipacnhaaDoor
open Go.RowKit
def txN (L : List Tk) (k : Nat) : ByteArray := match L[k]? with | some q => q.2.1 | none => ⟨#[]⟩
def kdN (L : List Tk) (k : Nat) : Int := match L[k]? with | some q => q.1 | none => 0
theorem drop_01 (L : List Tk) (i : Nat) : (L.drop (i + 1))[0]? = L[i + 1]? ∧ (L.drop (i + 1))[1]? = L[i + 2]? := by
 rw [List.getElem?_drop, List.getElem?_drop]; exact ⟨rfl, rfl⟩
theorem dg_eq (p : Tk) (L : List Tk) (i : Nat) : dgT p (L.drop (i + 1)) = if (aftT L (i + 1) (p.2.2 + (p.2.1.size : Int)) && decide (txN L (i + 1) = dotB) && aftT L (i + 2) (p.2.2 + (p.2.1.size : Int) + 1) && decide (kdN L (i + 2) = 1)) = true then p.2.1 ++ dotB ++ txN L (i + 2) else p.2.1 := by
 obtain ⟨h0, h1⟩ := drop_01 L i
 unfold aftT txN kdN
 rw [← h0, ← h1]
 match L.drop (i + 1) with
 | [] => rfl
 | [q] => rw [dgT, if_neg (by simp)]; intro r l; simp
 | q :: r :: l =>
  rw [dgT]
  simp only [List.getElem?_cons_zero, List.getElem?_cons_succ, Bool.and_eq_true, decide_eq_true_eq, and_assoc]
theorem sg_eq (p : Tk) (L : List Tk) (i : Nat) : sgT p (L.drop (i + 1)) = if (aftT L (i + 1) (p.2.2 + (p.2.1.size : Int)) && isPr (p.2.1 ++ txN L (i + 1))) = true then p.2.1 ++ txN L (i + 1) else p.2.1 := by
 obtain ⟨h0, h1⟩ := drop_01 L i
 unfold aftT txN
 rw [← h0]
 match L.drop (i + 1) with
 | [] => rfl
 | q :: l =>
  rw [sgT]
  simp only [List.getElem?_cons_zero, Bool.and_eq_true, decide_eq_true_eq]
theorem nm_eq (t : ByteArray) (e : Int) (L : List Tk) (j : Nat) : nmT t e (L.drop (j + 1)) = if (aftT L (j + 1) e && decide (kdN L (j + 1) < 3)) = true then nmT (t ++ txN L (j + 1)) (e + ((txN L (j + 1)).size : Int)) (L.drop (j + 2)) else t := by
 have h2 : L.drop (j + 2) = (L.drop (j + 1)).drop 1 := by rw [List.drop_drop]
 obtain ⟨h0, h1⟩ := drop_01 L j
 unfold aftT txN kdN
 rw [← h0, h2]
 match L.drop (j + 1) with
 | [] => rfl
 | q :: l =>
  rw [nmT]
  simp only [List.getElem?_cons_zero, Bool.and_eq_true, decide_eq_true_eq, List.drop_succ_cons, List.drop_zero]
theorem aft_some {L : List Tk} {k : Nat} {e : Int} (h : aftT L k e = true) : ∃ q, L[k]? = some q ∧ k < L.length ∧ txN L k = q.2.1 ∧ kdN L k = q.1 := by
 unfold aftT at h
 cases hq : L[k]? with
 | none => rw [hq] at h; cases h
 | some q => exact ⟨q, rfl, (List.getElem?_eq_some_iff.1 hq).1, by unfold txN; rw [hq], by unfold kdN; rw [hq]⟩
theorem PV.cells {b cap : Nat} {L : List Tk} {V : World} (h : PV b 0 cap L V) {k : Nat} {q : Tk} (hq : L[k]? = some q) : V.cell? ⟨b, k * 3, none⟩ = some (vi ki q.1) ∧ V.cell? ⟨b, k * 3 + 1, none⟩ = some (.string q.2.1) ∧ V.cell? ⟨b, k * 3 + 2, none⟩ = some (vi ki q.2.2) ∧ q.2.1.size ≤ 4096 := by
 obtain ⟨⟨q1, q2, q3⟩, q4, q5, q6⟩ := h.2.2.2.2 k q hq
 rw [Nat.zero_add] at q1 q2 q3
 exact ⟨q1, q2, q3, q6⟩
theorem one_any (b cap i : Nat) (L : List Tk) (p : Tk) (hp : L[i]? = some p) (w : World) (h : PV b 0 cap L w) :
  Calls Tryd.prog 34 #[.slice (some ⟨b, 0, none⟩) L.length cap, vi ki (i : Int)] w fun e w' => e = zr (.agg #[vi ki (oneT p (L.drop (i + 1))).1, .string (oneT p (L.drop (i + 1))).2.1, vi ki (oneT p (L.drop (i + 1))).2.2]) ∧ Below w.heap.size w w' := by
 obtain ⟨RR, hRR⟩ : ∃ RR, RR = oneT p (L.drop (i + 1)) := ⟨_, rfl⟩
 rw [← hRR]
 have HRR : Hid (RR = oneT p (L.drop (i + 1))) := hRR
 clear hRR
 have hil : i < L.length := (List.getElem?_eq_some_iff.1 hp).1
 have hll := h.2.1
 have hlc := h.2.2.1
 have hcc := h.2.2.2.1
 have hb := h.1
 obtain ⟨c0, c1, c2, hps⟩ := h.cells hp
 obtain ⟨-, ha0, ha1, -⟩ := h.2.2.2.2 i p hp
 have HP : Hid (PV b 0 cap L w) := h
 have HpL : Hid (L[i]? = some p) := hp
 have hiI : (i : Int) < (L.length : Int) := by omega
 have hi0 : (0 : Int) ≤ (i : Int) := by omega
 have hlI : (L.length : Int) ≤ 4096 := by omega
 obtain ⟨E, hE⟩ : ∃ E : Int, E = p.2.2 + (p.2.1.size : Int) := ⟨_, rfl⟩
 have hEw : IntKind.i64.wrap (p.2.2 + (p.2.1.size : Int)) = E := by rw [IntKind.wrap_i64]; omega
 have HE : Hid (p.2.2 + (p.2.1.size : Int) = E) := hE.symm
 have hE0 : 0 ≤ E := by omega
 have hE1 : E ≤ 8192 := by omega
 clear hE h hp
 obtain ⟨i1, hi1⟩ : ∃ i1, i1 = i + 1 := ⟨_, rfl⟩
 have hw1 : IntKind.i64.wrap ((i : Int) + 1) = (i1 : Int) := by rw [IntKind.wrap_i64]; omega
 obtain ⟨i2, hi2⟩ : ∃ i2, i2 = i + 2 := ⟨_, rfl⟩
 have hw2 : IntKind.i64.wrap ((i : Int) + 2) = (i2 : Int) := by rw [IntKind.wrap_i64]; omega
 have hi1' : (0 : Int) ≤ (i1 : Int) := by omega
 have hi2' : (0 : Int) ≤ (i2 : Int) := by omega
 have HI : Hid (i1 = i + 1 ∧ i2 = i + 2) := ⟨hi1, hi2⟩
 have HAf : Hid (∀ (V : World) (k : Nat) (a : Int), k ≤ 5000 → Below w.heap.size w V → Calls Tryd.prog 55 #[.slice (some ⟨b, 0, none⟩) L.length cap, vi ki (k : Int), vi ki a] V fun e w' => e = zr (.bool (aftT L k a)) ∧ w' = V) := fun V k a hk hV => after_any b cap L k hk a V (HP.out.below hV)
 have hk1 : i1 ≤ 5000 := by omega
 have hk2 : i2 ≤ 5000 := by omega
 clear hi1 hi2
 have B0 : Hid (BS w [(w.heap.size + 1 + 1, [vi ki 4, .string p.2.1, vi ki p.2.2]), (w.heap.size + 1, [vi ki p.1, .string p.2.1, vi ki p.2.2]), (w.heap.size, [vi ki 0, .string ⟨#[]⟩, vi ki 0])] (((w.alloc (.cells #[vi ki 0, .string ⟨#[]⟩, vi ki 0] 59)).alloc (.cells #[vi ki p.1, .string p.2.1, vi ki p.2.2] 86)).alloc (.cells #[vi ki 4, .string p.2.1, vi ki p.2.2] 59))) :=
  (((BS.start w).new [vi ki 0, .string ⟨#[]⟩, vi ki 0] 59 rfl).new [vi ki p.1, .string p.2.1, vi ki p.2.2] 86 (by simp)).new [vi ki 4, .string p.2.1, vi ki p.2.2] 59 (by simp)
 go_enter Tryd.func34, Tryd.ntmps34
 go_upto_region 4 with fail
 refine gen_to (fun V => BS w [(w.heap.size + 1 + 1, [vi ki 4, .string p.2.1, vi ki p.2.2]), (w.heap.size + 1, [vi ki p.1, .string p.2.1, vi ki p.2.2]), (w.heap.size, [vi ki 0, .string ⟨#[]⟩, vi ki 0])] V) B0.out ?_
 clear B0 c0 c1 c2
 intro W1 hW1
 have K1 : Hid (BS w [(w.heap.size + 1 + 1, [vi ki 4, .string p.2.1, vi ki p.2.2]), (w.heap.size + 1, [vi ki p.1, .string p.2.1, vi ki p.2.2]), (w.heap.size, [vi ki 0, .string ⟨#[]⟩, vi ki 0])] W1) := hW1
 clear hW1
 have d0 := (K1.out.at (w.heap.size + 1) [vi ki p.1, .string p.2.1, vi ki p.2.2] (by simp)).c 0 rfl
 have dh := (K1.out.at (w.heap.size + 1) [vi ki p.1, .string p.2.1, vi ki p.2.2] (by simp)).1
 by_cases k1 : p.1 = 1
 ·have g1 : (p.1 == 1) = true := by rw [k1]; rfl
  have HRk : Hid (RR = (1, dgT p (L.drop (i + 1)), p.2.2)) := by show _ = _; rw [HRR.out]; unfold oneT; rw [if_pos k1]
  have g1p : (p.1 = 1) = True := eq_true k1
  clear HRR k1
  have t0 := K1.out.first.c 0 rfl
  have t0f := K1.out.first.f 0 rfl
  have th := K1.out.first.1
  have K2a := BS.set1 K1.out 0 (vi ki 1) (by simp) (by simp; omega)
  have K2b : Hid (BS w [(w.heap.size + 1 + 1, [vi ki 1, .string p.2.1, vi ki p.2.2]), (w.heap.size + 1, [vi ki p.1, .string p.2.1, vi ki p.2.2]), (w.heap.size, [vi ki 0, .string ⟨#[]⟩, vi ki 0])] (W1.setCell ⟨w.heap.size + 1 + 1, 0, none⟩ (vi ki 1))) := K2a
  clear K2a
  go_upto_region 9 with fail
  refine gen_to (fun V => BS w [(w.heap.size + 1 + 1, [vi ki 1, .string p.2.1, vi ki p.2.2]), (w.heap.size + 1, [vi ki p.1, .string p.2.1, vi ki p.2.2]), (w.heap.size, [vi ki 0, .string ⟨#[]⟩, vi ki 0])] V) K2b.out ?_
  clear K2b K1 t0 t0f th d0 dh
  intro W2 hW2
  have K2 : Hid (BS w [(w.heap.size + 1 + 1, [vi ki 1, .string p.2.1, vi ki p.2.2]), (w.heap.size + 1, [vi ki p.1, .string p.2.1, vi ki p.2.2]), (w.heap.size, [vi ki 0, .string ⟨#[]⟩, vi ki 0])] W2) := hW2
  clear hW2
  have hdg := dg_eq p L i
  rw [HE.out, ← HI.out.1, ← HI.out.2] at hdg
  rw [← HI.out.1] at HRk
  obtain ⟨C, hC⟩ : ∃ C : Bool, C = (aftT L i1 E && decide (txN L i1 = dotB) && aftT L i2 (E + 1) && decide (kdN L i2 = 1)) := ⟨_, rfl⟩
  rw [← hC] at hdg
  have HC : Hid _ := hC
  have HDG : Hid _ := hdg
  clear hC hdg
  have hEw1 : IntKind.i64.wrap (E + 1) = E + 1 := by rw [IntKind.wrap_i64]; omega
  go_cut [85] from 55 to 85 (fun t V => t = .bool C ∧ W2 = V)
  case first =>
   have HA1 := HAf.out W2 i1 E hk1 K2.out.1
   cases h1 : aftT L i1 E with
   | false =>
    rw [h1] at HA1
    have HAa : Hid _ := HA1
    have HV : Hid (C = false) := by show _ = _; rw [HC.out, h1]; rfl
    clear HA1
    go_wp2_with fail
    refine Calls.mono HAa.out ?_
    rintro e V ⟨rfl, rfl⟩
    go_wp2_with fail
    go_meet
    case rel => exact ⟨by rw [HV.out], rfl⟩
   | true =>
    rw [h1] at HA1
    have HAa : Hid _ := HA1
    clear HA1
    obtain ⟨q, hq, hql, ht, hk⟩ := aft_some h1
    obtain ⟨-, q1, -, -⟩ := (HP.out.below K2.out.1).cells hq
    have hqI : (i1 : Int) < (L.length : Int) := by omega
    have hbW := Nat.lt_of_lt_of_le hb K2.out.1.size
    go_wp2_with fail
    refine Calls.mono HAa.out ?_
    rintro e V ⟨rfl, rfl⟩
    by_cases hd : q.2.1 = dotB
    ·have hd1 : (q.2.1.toList == [46]) = true := (lit_eq _ [46]).trans (decide_eq_true hd)
     have HA2 := HAf.out V i2 (E + 1) hk2 K2.out.1
     cases h2 : aftT L i2 (E + 1) with
     | false =>
      rw [h2] at HA2
      have HAb : Hid _ := HA2
      have HV : Hid (C = false) := by show _ = _; rw [HC.out, h2]; simp
      clear HA2 hq ht hk hd
      go_wp2_with fail
      refine Calls.mono HAb.out ?_
      rintro e V2 ⟨rfl, rfl⟩
      go_wp2_with fail
      go_meet
      case rel => exact ⟨by rw [HV.out], rfl⟩
     | true =>
      rw [h2] at HA2
      have HAb : Hid _ := HA2
      obtain ⟨r, hr, hrl, ht2, hk2'⟩ := aft_some h2
      obtain ⟨r0, -, -, -⟩ := (HP.out.below K2.out.1).cells hr
      have hrI : (i2 : Int) < (L.length : Int) := by omega
      by_cases h3 : r.1 = 1
      ·have h3' : (r.1 == 1) = true := by simpa using h3
       have HV : Hid (C = true) := by show _ = _; rw [HC.out, h1, h2, ht, hk2', hd, h3]; simp
       clear HA2 hq ht hk hd hr ht2 hk2' h3
       go_wp2_with fail
       refine Calls.mono HAb.out ?_
       rintro e V2 ⟨rfl, rfl⟩
       go_wp2_with fail
       go_meet
       case rel => exact ⟨by rw [HV.out], rfl⟩
      ·have h3' : (r.1 == 1) = false := by simpa using h3
       have HV : Hid (C = false) := by show _ = _; rw [HC.out, hk2', decide_eq_false h3, Bool.and_false]
       clear HA2 hq ht hk hd hr ht2 hk2' h3
       go_wp2_with fail
       refine Calls.mono HAb.out ?_
       rintro e V2 ⟨rfl, rfl⟩
       go_wp2_with fail
       go_meet
       case rel => exact ⟨by rw [HV.out], rfl⟩
    ·have hd1 : (q.2.1.toList == [46]) = false := (lit_eq _ [46]).trans (decide_eq_false hd)
     have HV : Hid (C = false) := by show _ = _; rw [HC.out, ht, decide_eq_false hd]; simp
     clear hq ht hk hd
     go_wp2_with fail
     go_meet
     case rel => exact ⟨by rw [HV.out], rfl⟩
  case rest =>
   obtain ⟨rfl, rfl⟩ := hcut
   cases C with
   | true =>
    have hCC := HC.out
    symm at hCC
    rw [Bool.and_eq_true, Bool.and_eq_true, Bool.and_eq_true] at hCC
    obtain ⟨r, hr, hrl, ht2, -⟩ := aft_some hCC.1.2
    have hrI : (i2 : Int) < (L.length : Int) := by omega
    obtain ⟨q, hq, hql, -, -⟩ := aft_some hCC.1.1.1
    have hqI : (i1 : Int) < (L.length : Int) := by omega
    have HRv : Hid (RR = (1, (p.2.1 ++ dotB ++ r.2.1), p.2.2)) := by show _ = _; rw [HRk.out, HI.out.1, ← HI.out.1, HDG.out, if_pos rfl, ht2]
    clear hCC hq ht2 HC HDG HRk
    have hrs := (HP.out.cells hr).2.2.2
    have s1 : ¬ 9223372036854775807 < p.2.1.size + 1 := by omega
    have s2 : ¬ 9223372036854775807 < p.2.1.size + 1 + r.2.1.size := by omega
    have s3 : ¬ 9223372036854775807 < (p.2.1 ++ ⟨#[46]⟩).size + r.2.1.size := by rw [ByteArray.size_append]; exact s2
    go_upto_region 10 with fail
    refine wp_region_held_drew (S := (fun V => PV b 0 cap L V)) (by kernel_rfl) (by first | exact HP.out.below K2.out.1 | exact HP.out.below K2.out.drew.1) (fun hHeld => ?_)
    refine gen_anyR (fun V => BS w [(w.heap.size + 1 + 1, [vi ki 1, .string p.2.1, vi ki p.2.2]), (w.heap.size + 1, [vi ki p.1, .string p.2.1, vi ki p.2.2]), (w.heap.size, [vi ki 0, .string ⟨#[]⟩, vi ki 0])] V) (by first | exact K2.out.drew | exact K2.out) ?_
    clear hHeld K2
    intro W3 kk
    have K2 : Hid (BS w [(w.heap.size + 1 + 1, [vi ki 1, .string p.2.1, vi ki p.2.2]), (w.heap.size + 1, [vi ki p.1, .string p.2.1, vi ki p.2.2]), (w.heap.size, [vi ki 0, .string ⟨#[]⟩, vi ki 0])] W3) := kk
    clear kk
    have hHeld : (fun V => PV b 0 cap L V) W3 := (by first | exact HP.out.below K2.out.1 | exact HP.out.below K2.out.drew.1)
    refine tks 0 ⟨some 86, _, _, _, _, none⟩ rfl ?_
    simp only [za, zb, zc, zd]
    refine tks 3 ⟨some 89, _, _, _, _, none⟩ rfl ?_
    simp only [za, zb, zc, zd]
    refine tks 4 ⟨some 90, _, _, _, _, none⟩ rfl ?_
    simp only [za, zb, zc, zd]
    refine tks 5 ⟨some 91, _, _, _, _, none⟩ rfl ?_
    simp only [za, zb, zc, zd]
    refine tks 6 ⟨some 92, _, _, _, _, none⟩ rfl ?_
    simp only [za, zb, zc, zd]
    refine tks 7 ⟨some 93, _, _, _, _, none⟩ rfl ?_
    simp only [za, zb, zc, zd]
    refine tk (v := ?_) 8 ⟨some 94, _, _, _, _, none⟩ rfl ?_ ?_
    case refine_2 => (intro w9 hSw; obtain ⟨r0, r1, r2, r3⟩ := PV.cells hSw hr; have r9 := hSw.1; clear hSw; go_simp; try with_reducible rfl)
    simp only [za, zb, zc, zd]
    refine rd 1 ⟨some 87, _, _, _, _, none⟩ rfl (fun K hK => ?_)
    have x1 := K2.out.first.c 1 rfl
    have xh := K2.out.first.1
    go_simp
    refine hK.out _ _ hHeld (fun hHeld => ?_)
    clear hK K x1 xh
    refine tks 2 ⟨some 88, _, _, _, _, none⟩ rfl ?_
    simp only [za, zb, zc, zd]
    refine tks 9 ⟨some 95, _, _, _, _, none⟩ rfl ?_
    simp only [za, zb, zc, zd]
    refine tks 10 ⟨some 96, _, _, _, _, none⟩ rfl ?_
    simp only [za, zb, zc, zd]
    refine rd 11 ⟨none, _, _, _, _, none⟩ rfl (fun K hK => ?_)
    have x1 := K2.out.first.c 1 rfl
    have x1f := K2.out.first.f 1 rfl
    have xh := K2.out.first.1
    have KSa := BS.set1 K2.out 1 (.string (p.2.1 ++ dotB ++ r.2.1)) (by simp) (by simp; omega)
    have KS : Hid (BS w [(w.heap.size + 1 + 1, [vi ki 1, .string (p.2.1 ++ dotB ++ r.2.1), vi ki p.2.2]), (w.heap.size + 1, [vi ki p.1, .string p.2.1, vi ki p.2.2]), (w.heap.size, [vi ki 0, .string ⟨#[]⟩, vi ki 0])] (W3.setCell ⟨w.heap.size + 1 + 1, 1, none⟩ (.string (p.2.1 ++ dotB ++ r.2.1)))) := KSa
    clear KSa
    go_simp
    refine hK.out _ _ (HP.out.below KS.out.1) (fun hHeld => ?_)
    clear hK K x1 x1f xh hHeld
    refine gen_anyR (fun V => BS w [(w.heap.size + 1 + 1, [vi ki 1, .string (p.2.1 ++ dotB ++ r.2.1), vi ki p.2.2]), (w.heap.size + 1, [vi ki p.1, .string p.2.1, vi ki p.2.2]), (w.heap.size, [vi ki 0, .string ⟨#[]⟩, vi ki 0])] V) KS.out ?_
    clear KS K2
    intro v2 kk
    have K2 : Hid (BS w [(w.heap.size + 1 + 1, [vi ki 1, .string (p.2.1 ++ dotB ++ r.2.1), vi ki p.2.2]), (w.heap.size + 1, [vi ki p.1, .string p.2.1, vi ki p.2.2]), (w.heap.size, [vi ki 0, .string ⟨#[]⟩, vi ki 0])] v2) := kk
    clear kk
    have hHeld : (fun V => PV b 0 cap L V) v2 := HP.out.below K2.out.1
    refine wpAnyH_done (by kernel_rfl) ?_ _
    have x0 := K2.out.first.c 0 rfl
    have x1 := K2.out.first.c 1 rfl
    have x2 := K2.out.first.c 2 rfl
    have xh := K2.out.first.1
    have hz := K2.out.at w.heap.size [vi ki 0, .string ⟨#[]⟩, vi ki 0] (by simp)
    have z0 := hz.c 0 rfl
    have z1 := hz.c 1 rfl
    have z2 := hz.c 2 rfl
    have zf0 := hz.f 0 rfl
    have zf1 := hz.f 1 rfl
    have zf2 := hz.f 2 rfl
    have zh := hz.1
    have FB := hz.setAll [vi ki 1, .string (p.2.1 ++ dotB ++ r.2.1), vi ki p.2.2] rfl
    have y0' := FB.c 0 rfl
    have y1' := FB.c 1 rfl
    have y2' := FB.c 2 rfl
    simp only [World.setCells, Nat.zero_add, Nat.reduceAdd] at y0' y1' y2'
    clear hz FB
    go_wp2
    refine bodyPost_ret (v := .agg #[vi ki 1, .string (p.2.1 ++ dotB ++ r.2.1), vi ki p.2.2]) (by simp [results, Tryd.results34, go_sem, y0', y1', y2']) rfl ⟨by rw [HRv.out], below_setCells (Nat.le_refl _) [vi ki 1, .string (p.2.1 ++ dotB ++ r.2.1), vi ki p.2.2] _ 0 K2.out.1⟩
   | false =>
    have HRv : Hid (RR = (1, p.2.1, p.2.2)) := by show _ = _; rw [HRk.out, HDG.out, if_neg (by simp)]
    clear HC HDG HRk
    have x0 := K2.out.first.c 0 rfl
    have x1 := K2.out.first.c 1 rfl
    have x2 := K2.out.first.c 2 rfl
    have xh := K2.out.first.1
    have hz := K2.out.at w.heap.size [vi ki 0, .string ⟨#[]⟩, vi ki 0] (by simp)
    have z0 := hz.c 0 rfl
    have z1 := hz.c 1 rfl
    have z2 := hz.c 2 rfl
    have zf0 := hz.f 0 rfl
    have zf1 := hz.f 1 rfl
    have zf2 := hz.f 2 rfl
    have zh := hz.1
    have FB := hz.setAll [vi ki 1, .string p.2.1, vi ki p.2.2] rfl
    have y0' := FB.c 0 rfl
    have y1' := FB.c 1 rfl
    have y2' := FB.c 2 rfl
    simp only [World.setCells, Nat.zero_add, Nat.reduceAdd] at y0' y1' y2'
    clear hz FB
    go_wp2
    refine bodyPost_ret (v := .agg #[vi ki 1, .string p.2.1, vi ki p.2.2]) (by simp [results, Tryd.results34, go_sem, y0', y1', y2']) rfl ⟨by rw [HRv.out], below_setCells (Nat.le_refl _) [vi ki 1, .string p.2.1, vi ki p.2.2] _ 0 K2.out.1⟩
 ·by_cases k2 : p.1 = 2
  ·have g1 : (p.1 == 1) = false := by rw [beq_eq_false_iff_ne]; omega
   have g2 : (p.1 == 2) = true := by rw [k2]; rfl
   have HRk : Hid (RR = (2, nmT p.2.1 E (L.drop (i + 1)), p.2.2)) := by show _ = _; rw [HRR.out, ← HE.out]; unfold oneT; rw [if_neg (by omega), if_pos k2]
   have g1p : (p.1 = 1) = False := eq_false k1
   have g2p : (p.1 = 2) = True := eq_true k2
   clear HRR k1 k2
   have t0 := K1.out.first.c 0 rfl
   have t0f := K1.out.first.f 0 rfl
   have th := K1.out.first.1
   have K2a := BS.set1 K1.out 0 (vi ki 2) (by simp) (by simp; omega)
   have K2b : Hid (BS w [(w.heap.size + 1 + 1, [vi ki 2, .string p.2.1, vi ki p.2.2]), (w.heap.size + 1, [vi ki p.1, .string p.2.1, vi ki p.2.2]), (w.heap.size, [vi ki 0, .string ⟨#[]⟩, vi ki 0])] (W1.setCell ⟨w.heap.size + 1 + 1, 0, none⟩ (vi ki 2))) := K2a
   clear K2a
   obtain ⟨RT, hRT⟩ : ∃ RT, nmT p.2.1 E (L.drop (i + 1)) = RT := ⟨_, rfl⟩
   rw [hRT] at HRk
   have HRT : Hid _ := hRT
   clear hRT hw1 hw2 hi1' hi2' hk1 hk2 HI
   have hts : p.2.1.size ≤ 4096 * (i + 1) := by omega
   have hES : E ≤ 8192 * (i + 1) := by omega
   go_wp2_with fail
   go_loopw [1, 7] (fun iv ev V => ∃ (j : Nat) (t : ByteArray) (e : Int), iv = vi ki (j : Int) ∧ ev = vi ki e ∧ j < L.length ∧ 0 ≤ e ∧ e ≤ 8192 * (j + 1) ∧ t.size ≤ 4096 * (j + 1) ∧ Hid (BS w [(w.heap.size + 1 + 1, [vi ki 2, .string t, vi ki p.2.2]), (w.heap.size + 1, [vi ki p.1, .string p.2.1, vi ki p.2.2]), (w.heap.size, [vi ki 0, .string ⟨#[]⟩, vi ki 0])] V) ∧ Hid (nmT t e (L.drop (j + 1)) = RT)) (fun iv _ _ => L.length - (intOf iv).toNat)
   case atStart => exact ⟨i, p.2.1, E, rfl, rfl, hil, hE0, by omega, hts, K2b, HRT⟩
   case round =>
    obtain ⟨j, t, e, rfl, rfl, hjl, he0, he1, ht9, K2, HN⟩ := hrel
    clear K2b HRT K1 t0 t0f th d0 dh
    have hj0 : (0 : Int) ≤ (j : Int) := by omega
    have hnm := nm_eq t e L j
    rw [HN.out] at hnm
    obtain ⟨j1, hj1⟩ : ∃ j1, j1 = j + 1 := ⟨_, rfl⟩
    have hw1 : IntKind.i64.wrap ((j : Int) + 1) = (j1 : Int) := by rw [IntKind.wrap_i64]; omega
    have hj1' : (0 : Int) ≤ (j1 : Int) := by omega
    have HJ : Hid (j1 = j + 1) := hj1
    have hk1 : j1 ≤ 5000 := by omega
    rw [← hj1] at hnm
    have HA1 := HAf.out wr j1 e hk1 K2.out.1
    clear hj1
    cases h1 : aftT L j1 e with
    | false =>
     rw [h1] at HA1 hnm
     rw [if_neg (by simp)] at hnm
     have HRv : Hid (RR = (2, t, p.2.2)) := by show _ = _; rw [HRk.out, hnm]
     have HAa : Hid _ := HA1
     clear HA1 hnm HN HRk
     go_wp2_with fail
     refine Calls.mono HAa.out ?_
     rintro e' V ⟨rfl, rfl⟩
     have x0 := K2.out.first.c 0 rfl
     have x1 := K2.out.first.c 1 rfl
     have x2 := K2.out.first.c 2 rfl
     have xh := K2.out.first.1
     have hz := K2.out.at w.heap.size [vi ki 0, .string ⟨#[]⟩, vi ki 0] (by simp)
     have z0 := hz.c 0 rfl
     have z1 := hz.c 1 rfl
     have z2 := hz.c 2 rfl
     have zf0 := hz.f 0 rfl
     have zf1 := hz.f 1 rfl
     have zf2 := hz.f 2 rfl
     have zh := hz.1
     have FB := hz.setAll [vi ki 2, .string t, vi ki p.2.2] rfl
     have y0' := FB.c 0 rfl
     have y1' := FB.c 1 rfl
     have y2' := FB.c 2 rfl
     simp only [World.setCells, Nat.zero_add, Nat.reduceAdd] at y0' y1' y2'
     clear hz FB
     go_wp2
     refine bodyPost_ret (v := .agg #[vi ki 2, .string t, vi ki p.2.2]) (by simp [results, Tryd.results34, go_sem, y0', y1', y2']) rfl ⟨by rw [HRv.out], below_setCells (Nat.le_refl _) [vi ki 2, .string t, vi ki p.2.2] _ 0 K2.out.1⟩
    | true =>
     rw [h1] at HA1 hnm
     rw [Bool.true_and] at hnm
     have HAa : Hid _ := HA1
     obtain ⟨q, hq, hql, htx, hkd⟩ := aft_some h1
     rw [htx, hkd] at hnm
     obtain ⟨q0, q1, -, hqs⟩ := (HP.out.below K2.out.1).cells hq
     have hqI : (j1 : Int) < (L.length : Int) := by omega
     have hbW := Nat.lt_of_lt_of_le hb K2.out.1.size
     clear HA1
     by_cases h3 : q.1 < 3
     ·rw [if_pos (by simpa using h3)] at hnm
      have HN2 : Hid (nmT (t ++ q.2.1) (e + (q.2.1.size : Int)) (L.drop (j1 + 1)) = RT) := by show _ = _; rw [show j1 + 1 = j + 2 by have := HJ.out; omega]; exact hnm.symm
      clear hnm HN htx hkd
      go_wp2_with fail
      refine Calls.mono HAa.out ?_
      rintro e' V ⟨rfl, rfl⟩
      have s1 : ¬ 9223372036854775807 < t.size + q.2.1.size := by omega
      go_upto_region 15 with fail
      clear q0 q1
      refine wp_region_held_drew (S := (fun V => PV b 0 cap L V)) (by kernel_rfl) (by first | exact HP.out.below K2.out.1 | exact HP.out.below K2.out.drew.1) (fun hHeld => ?_)
      refine gen_anyR (fun V => BS w [(w.heap.size + 1 + 1, [vi ki 2, .string t, vi ki p.2.2]), (w.heap.size + 1, [vi ki p.1, .string p.2.1, vi ki p.2.2]), (w.heap.size, [vi ki 0, .string ⟨#[]⟩, vi ki 0])] V) (by first | exact K2.out.drew | exact K2.out) ?_
      clear hHeld K2
      intro W3 kk
      have K2 : Hid (BS w [(w.heap.size + 1 + 1, [vi ki 2, .string t, vi ki p.2.2]), (w.heap.size + 1, [vi ki p.1, .string p.2.1, vi ki p.2.2]), (w.heap.size, [vi ki 0, .string ⟨#[]⟩, vi ki 0])] W3) := kk
      clear kk
      have hHeld : (fun V => PV b 0 cap L V) W3 := (by first | exact HP.out.below K2.out.1 | exact HP.out.below K2.out.drew.1)
      refine tks 0 ⟨some 116, _, _, _, _, none⟩ rfl ?_
      simp only [za, zb, zc, zd]
      refine tks 2 ⟨some 118, _, _, _, _, none⟩ rfl ?_
      simp only [za, zb, zc, zd]
      refine tks 3 ⟨some 119, _, _, _, _, none⟩ rfl ?_
      simp only [za, zb, zc, zd]
      refine tks 4 ⟨some 120, _, _, _, _, none⟩ rfl ?_
      simp only [za, zb, zc, zd]
      refine tks 5 ⟨some 121, _, _, _, _, none⟩ rfl ?_
      simp only [za, zb, zc, zd]
      refine tk (v := ?_) 6 ⟨some 122, _, _, _, _, none⟩ rfl ?_ ?_
      case refine_2 => (intro w9 hSw; obtain ⟨r0, r1, r2, r3⟩ := PV.cells hSw hq; have r9 := hSw.1; clear hSw; go_simp; try with_reducible rfl)
      simp only [za, zb, zc, zd]
      refine rd 1 ⟨some 117, _, _, _, _, none⟩ rfl (fun K hK => ?_)
      have x1 := K2.out.first.c 1 rfl
      have xh := K2.out.first.1
      go_simp
      refine hK.out _ _ hHeld (fun hHeld => ?_)
      clear hK K x1 xh
      refine tks 7 ⟨some 123, _, _, _, _, none⟩ rfl ?_
      simp only [za, zb, zc, zd]
      refine tks 8 ⟨some 124, _, _, _, _, none⟩ rfl ?_
      simp only [za, zb, zc, zd]
      refine rd 9 ⟨none, _, _, _, _, none⟩ rfl (fun K hK => ?_)
      have x1 := K2.out.first.c 1 rfl
      have x1f := K2.out.first.f 1 rfl
      have xh := K2.out.first.1
      have KSa := BS.set1 K2.out 1 (.string (t ++ q.2.1)) (by simp) (by simp; omega)
      have KS : Hid (BS w [(w.heap.size + 1 + 1, [vi ki 2, .string (t ++ q.2.1), vi ki p.2.2]), (w.heap.size + 1, [vi ki p.1, .string p.2.1, vi ki p.2.2]), (w.heap.size, [vi ki 0, .string ⟨#[]⟩, vi ki 0])] (W3.setCell ⟨w.heap.size + 1 + 1, 1, none⟩ (.string (t ++ q.2.1)))) := KSa
      clear KSa
      go_simp
      refine hK.out _ _ (HP.out.below KS.out.1) (fun hHeld => ?_)
      clear hK K x1 x1f xh hHeld
      refine gen_anyR (fun V => BS w [(w.heap.size + 1 + 1, [vi ki 2, .string (t ++ q.2.1), vi ki p.2.2]), (w.heap.size + 1, [vi ki p.1, .string p.2.1, vi ki p.2.2]), (w.heap.size, [vi ki 0, .string ⟨#[]⟩, vi ki 0])] V) KS.out ?_
      clear KS K2
      intro v2 kk
      have K2 : Hid (BS w [(w.heap.size + 1 + 1, [vi ki 2, .string (t ++ q.2.1), vi ki p.2.2]), (w.heap.size + 1, [vi ki p.1, .string p.2.1, vi ki p.2.2]), (w.heap.size, [vi ki 0, .string ⟨#[]⟩, vi ki 0])] v2) := kk
      clear kk
      have hHeld : (fun V => PV b 0 cap L V) v2 := HP.out.below K2.out.1
      refine wpAnyH_done (by kernel_rfl) ?_ _
      obtain ⟨r0, r1, r2, r3⟩ := (HP.out.below K2.out.1).cells hq
      have r9 := Nat.lt_of_lt_of_le hb K2.out.1.size
      have hew : IntKind.i64.wrap (e + (q.2.1.size : Int)) = e + (q.2.1.size : Int) := by rw [IntKind.wrap_i64]; omega
      clear hq
      go_wp2_with fail
      go_roundw
      case rel => exact ⟨j1, t ++ q.2.1, e + (q.2.1.size : Int), rfl, rfl, hql, by omega, by have := HJ.out; omega, by have := HJ.out; rw [ByteArray.size_append]; omega, K2, HN2⟩
      case measure => have := HJ.out; simp [intOf]; omega
     ·rw [if_neg (by simpa using h3)] at hnm
      have HRv : Hid (RR = (2, t, p.2.2)) := by show _ = _; rw [HRk.out, hnm]
      clear hnm HN htx hkd HRk hq
      go_wp2_with fail
      refine Calls.mono HAa.out ?_
      rintro e' V ⟨rfl, rfl⟩
      have x0 := K2.out.first.c 0 rfl
      have x1 := K2.out.first.c 1 rfl
      have x2 := K2.out.first.c 2 rfl
      have xh := K2.out.first.1
      have hz := K2.out.at w.heap.size [vi ki 0, .string ⟨#[]⟩, vi ki 0] (by simp)
      have z0 := hz.c 0 rfl
      have z1 := hz.c 1 rfl
      have z2 := hz.c 2 rfl
      have zf0 := hz.f 0 rfl
      have zf1 := hz.f 1 rfl
      have zf2 := hz.f 2 rfl
      have zh := hz.1
      have FB := hz.setAll [vi ki 2, .string t, vi ki p.2.2] rfl
      have y0' := FB.c 0 rfl
      have y1' := FB.c 1 rfl
      have y2' := FB.c 2 rfl
      simp only [World.setCells, Nat.zero_add, Nat.reduceAdd] at y0' y1' y2'
      clear hz FB
      go_wp2
      refine bodyPost_ret (v := .agg #[vi ki 2, .string t, vi ki p.2.2]) (by simp [results, Tryd.results34, go_sem, y0', y1', y2']) rfl ⟨by rw [HRv.out], below_setCells (Nat.le_refl _) [vi ki 2, .string t, vi ki p.2.2] _ 0 K2.out.1⟩
  ·have g1 : (p.1 == 1) = false := by rw [beq_eq_false_iff_ne]; exact k1
   have g2 : (p.1 == 2) = false := by rw [beq_eq_false_iff_ne]; exact k2
   have HRk : Hid (RR = (4, sgT p (L.drop (i + 1)), p.2.2)) := by show _ = _; rw [HRR.out]; unfold oneT; rw [if_neg k1, if_neg k2]
   have g1p : (p.1 = 1) = False := eq_false k1
   have g2p : (p.1 = 2) = False := eq_false k2
   clear HRR k1 k2
   have hsg := sg_eq p L i
   rw [HE.out, ← HI.out.1] at hsg
   rw [← HI.out.1] at HRk
   have HA1 := HAf.out W1 i1 E hk1 K1.out.1
   go_upto_region 5 with fail
   clear d0 dh
   cases h1 : aftT L i1 E with
   | false =>
    rw [h1] at hsg
    rw [Bool.false_and, if_neg (by simp)] at hsg
    rw [hsg] at HRk
    have HAa : Hid (∀ V : World, Below w.heap.size w V → Calls Tryd.prog 55 #[.slice (some ⟨b, 0, none⟩) L.length cap, vi ki (i1 : Int), vi ki E] V fun e w' => e = zr (.bool false) ∧ w' = V) := fun V hV => by have := HAf.out V i1 E hk1 hV; rw [h1] at this; exact this
    clear HA1 hsg
    refine wp_region_held_drew (S := (fun V => PV b 0 cap L V ∧ Bx V (w.heap.size + 1) [vi ki p.1, .string p.2.1, vi ki p.2.2])) (by kernel_rfl) (by first | exact ⟨HP.out.below K1.out.1, K1.out.at (w.heap.size + 1) [vi ki p.1, .string p.2.1, vi ki p.2.2] (by simp)⟩ | exact ⟨HP.out.below K1.out.drew.1, K1.out.drew.at (w.heap.size + 1) [vi ki p.1, .string p.2.1, vi ki p.2.2] (by simp)⟩) (fun hHeld => ?_)
    refine gen_anyR (fun V => BS w [(w.heap.size + 1 + 1, [vi ki 4, .string p.2.1, vi ki p.2.2]), (w.heap.size + 1, [vi ki p.1, .string p.2.1, vi ki p.2.2]), (w.heap.size, [vi ki 0, .string ⟨#[]⟩, vi ki 0])] V) (by first | exact K1.out.drew | exact K1.out) ?_
    clear hHeld K1
    intro W2 kk
    have K1 : Hid (BS w [(w.heap.size + 1 + 1, [vi ki 4, .string p.2.1, vi ki p.2.2]), (w.heap.size + 1, [vi ki p.1, .string p.2.1, vi ki p.2.2]), (w.heap.size, [vi ki 0, .string ⟨#[]⟩, vi ki 0])] W2) := kk
    clear kk
    have hHeld : (fun V => PV b 0 cap L V ∧ Bx V (w.heap.size + 1) [vi ki p.1, .string p.2.1, vi ki p.2.2]) W2 := (by first | exact ⟨HP.out.below K1.out.1, K1.out.at (w.heap.size + 1) [vi ki p.1, .string p.2.1, vi ki p.2.2] (by simp)⟩ | exact ⟨HP.out.below K1.out.drew.1, K1.out.drew.at (w.heap.size + 1) [vi ki p.1, .string p.2.1, vi ki p.2.2] (by simp)⟩)
    refine tks 0 ⟨some 25, _, _, _, _, none⟩ rfl ?_
    simp only [za, zb, zc, zd]
    refine tks 1 ⟨some 26, _, _, _, _, none⟩ rfl ?_
    simp only [za, zb, zc, zd]
    refine tks 2 ⟨some 27, _, _, _, _, none⟩ rfl ?_
    simp only [za, zb, zc, zd]
    refine tks 3 ⟨some 28, _, _, _, _, none⟩ rfl ?_
    simp only [za, zb, zc, zd]
    refine rd 4 ⟨some 29, _, _, _, _, none⟩ rfl (fun K hK => ?_)
    go_simp
    refine (HAa.out _ K1.out.1).mono ?_
    rintro e v1 ⟨rfl, rfl⟩
    refine hK.out _ _ hHeld (fun hHeld => ?_)
    clear hK K
    refine tks 5 ⟨some 30, _, _, _, _, none⟩ rfl ?_
    simp only [za, zb, zc, zd]
    refine tku 6 ⟨some 31, _, _, _, _, some (5, true)⟩ rfl ?_
    simp only [za, zb, zc, zd]
    refine tku 7 ⟨some 32, _, _, _, _, some (5, true)⟩ rfl ?_
    simp only [za, zb, zc, zd]
    refine tku 8 ⟨some 33, _, _, _, _, some (5, true)⟩ rfl ?_
    simp only [za, zb, zc, zd]
    refine tku 9 ⟨some 34, _, _, _, _, some (5, true)⟩ rfl ?_
    simp only [za, zb, zc, zd]
    refine tku 10 ⟨some 35, _, _, _, _, some (5, true)⟩ rfl ?_
    simp only [za, zb, zc, zd]
    refine tku 11 ⟨some 36, _, _, _, _, some (5, true)⟩ rfl ?_
    simp only [za, zb, zc, zd]
    refine tku 12 ⟨some 37, _, _, _, _, some (5, true)⟩ rfl ?_
    simp only [za, zb, zc, zd]
    refine tku 13 ⟨some 38, _, _, _, _, some (5, true)⟩ rfl ?_
    simp only [za, zb, zc, zd]
    refine tku 14 ⟨some 39, _, _, _, _, some (5, true)⟩ rfl ?_
    simp only [za, zb, zc, zd]
    refine tku 15 ⟨some 40, _, _, _, _, some (5, true)⟩ rfl ?_
    simp only [za, zb, zc, zd]
    refine tks 16 ⟨some 41, _, _, _, _, none⟩ rfl ?_
    simp only [za, zb, zc, zd]
    refine wpAnyH_done (by kernel_rfl) ?_ _
    have x0 := K1.out.first.c 0 rfl
    have x1 := K1.out.first.c 1 rfl
    have x2 := K1.out.first.c 2 rfl
    have xh := K1.out.first.1
    have hz := K1.out.at w.heap.size [vi ki 0, .string ⟨#[]⟩, vi ki 0] (by simp)
    have z0 := hz.c 0 rfl
    have z1 := hz.c 1 rfl
    have z2 := hz.c 2 rfl
    have zf0 := hz.f 0 rfl
    have zf1 := hz.f 1 rfl
    have zf2 := hz.f 2 rfl
    have zh := hz.1
    have FB := hz.setAll [vi ki 4, .string p.2.1, vi ki p.2.2] rfl
    have y0' := FB.c 0 rfl
    have y1' := FB.c 1 rfl
    have y2' := FB.c 2 rfl
    simp only [World.setCells, Nat.zero_add, Nat.reduceAdd] at y0' y1' y2'
    clear hz FB
    go_wp2
    refine bodyPost_ret (v := .agg #[vi ki 4, .string p.2.1, vi ki p.2.2]) (by simp [results, Tryd.results34, go_sem, y0', y1', y2']) rfl ⟨by rw [HRk.out], below_setCells (Nat.le_refl _) [vi ki 4, .string p.2.1, vi ki p.2.2] _ 0 K1.out.1⟩
   | true =>
    rw [h1, Bool.true_and] at hsg
    obtain ⟨q, hq, hql, htx, hkd⟩ := aft_some h1
    rw [htx] at hsg
    have hqI : (i1 : Int) < (L.length : Int) := by omega
    have hqs := (HP.out.cells hq).2.2.2
    have s1 : ¬ 9223372036854775807 < p.2.1.size + q.2.1.size := by omega
    have HAa : Hid (∀ V : World, Below w.heap.size w V → Calls Tryd.prog 55 #[.slice (some ⟨b, 0, none⟩) L.length cap, vi ki (i1 : Int), vi ki E] V fun e w' => e = zr (.bool true) ∧ w' = V) := fun V hV => by have := HAf.out V i1 E hk1 hV; rw [h1] at this; exact this
    clear HA1 htx hkd
    cases hpr : isPr (p.2.1 ++ q.2.1) with
    | false =>
     rw [hpr, if_neg (by simp)] at hsg
     rw [hsg] at HRk
     clear hsg
     refine wp_region_held_drew (S := (fun V => PV b 0 cap L V ∧ Bx V (w.heap.size + 1) [vi ki p.1, .string p.2.1, vi ki p.2.2])) (by kernel_rfl) (by first | exact ⟨HP.out.below K1.out.1, K1.out.at (w.heap.size + 1) [vi ki p.1, .string p.2.1, vi ki p.2.2] (by simp)⟩ | exact ⟨HP.out.below K1.out.drew.1, K1.out.drew.at (w.heap.size + 1) [vi ki p.1, .string p.2.1, vi ki p.2.2] (by simp)⟩) (fun hHeld => ?_)
     refine gen_anyR (fun V => BS w [(w.heap.size + 1 + 1, [vi ki 4, .string p.2.1, vi ki p.2.2]), (w.heap.size + 1, [vi ki p.1, .string p.2.1, vi ki p.2.2]), (w.heap.size, [vi ki 0, .string ⟨#[]⟩, vi ki 0])] V) (by first | exact K1.out.drew | exact K1.out) ?_
     clear hHeld K1
     intro W2 kk
     have K1 : Hid (BS w [(w.heap.size + 1 + 1, [vi ki 4, .string p.2.1, vi ki p.2.2]), (w.heap.size + 1, [vi ki p.1, .string p.2.1, vi ki p.2.2]), (w.heap.size, [vi ki 0, .string ⟨#[]⟩, vi ki 0])] W2) := kk
     clear kk
     have hHeld : (fun V => PV b 0 cap L V ∧ Bx V (w.heap.size + 1) [vi ki p.1, .string p.2.1, vi ki p.2.2]) W2 := (by first | exact ⟨HP.out.below K1.out.1, K1.out.at (w.heap.size + 1) [vi ki p.1, .string p.2.1, vi ki p.2.2] (by simp)⟩ | exact ⟨HP.out.below K1.out.drew.1, K1.out.drew.at (w.heap.size + 1) [vi ki p.1, .string p.2.1, vi ki p.2.2] (by simp)⟩)
     refine tks 0 ⟨some 25, _, _, _, _, none⟩ rfl ?_
     simp only [za, zb, zc, zd]
     refine tks 1 ⟨some 26, _, _, _, _, none⟩ rfl ?_
     simp only [za, zb, zc, zd]
     refine tks 2 ⟨some 27, _, _, _, _, none⟩ rfl ?_
     simp only [za, zb, zc, zd]
     refine tks 3 ⟨some 28, _, _, _, _, none⟩ rfl ?_
     simp only [za, zb, zc, zd]
     refine rd 4 ⟨some 29, _, _, _, _, none⟩ rfl (fun K hK => ?_)
     go_simp
     refine (HAa.out _ K1.out.1).mono ?_
     rintro e v1 ⟨rfl, rfl⟩
     refine hK.out _ _ hHeld (fun hHeld => ?_)
     clear hK K
     refine tks 5 ⟨some 30, _, _, _, _, none⟩ rfl ?_
     simp only [za, zb, zc, zd]
     refine tks 6 ⟨some 31, _, _, _, _, some (5, true)⟩ rfl ?_
     simp only [za, zb, zc, zd]
     refine tk (v := ?_) 7 ⟨some 32, _, _, _, _, some (5, true)⟩ rfl ?_ ?_
     case refine_2 => (intro w9 hSw; obtain ⟨r0, r1, r2, r3⟩ := PV.cells hSw.1 hq; have r9 := hSw.1.1; have u1 := hSw.2.c 1 rfl; have u9 := hSw.2.1; clear hSw; go_simp; try with_reducible rfl)
     simp only [za, zb, zc, zd]
     refine tks 8 ⟨some 33, _, _, _, _, some (5, true)⟩ rfl ?_
     simp only [za, zb, zc, zd]
     refine tks 9 ⟨some 34, _, _, _, _, some (5, true)⟩ rfl ?_
     simp only [za, zb, zc, zd]
     refine tks 10 ⟨some 35, _, _, _, _, some (5, true)⟩ rfl ?_
     simp only [za, zb, zc, zd]
     refine tks 11 ⟨some 36, _, _, _, _, some (5, true)⟩ rfl ?_
     simp only [za, zb, zc, zd]
     refine tks 12 ⟨some 37, _, _, _, _, some (5, true)⟩ rfl ?_
     simp only [za, zb, zc, zd]
     refine tk (v := ?_) 13 ⟨some 38, _, _, _, _, some (5, true)⟩ rfl ?_ ?_
     case refine_2 => (intro w9 hSw; obtain ⟨r0, r1, r2, r3⟩ := PV.cells hSw.1 hq; have r9 := hSw.1.1; have u1 := hSw.2.c 1 rfl; have u9 := hSw.2.1; clear hSw; go_simp; try with_reducible rfl)
     simp only [za, zb, zc, zd]
     refine tks 14 ⟨some 39, _, _, _, _, some (5, true)⟩ rfl ?_
     simp only [za, zb, zc, zd]
     refine rd 15 ⟨some 40, _, _, _, _, some (5, true)⟩ rfl (fun K hK => ?_)
     go_simp
     have hpq := rpair_any (p.2.1 ++ q.2.1) v1
     rw [hpr] at hpq
     refine hpq.mono ?_
     rintro e v2 ⟨rfl, rfl⟩
     refine hK.out _ _ hHeld (fun hHeld => ?_)
     clear hK K hpq
     refine tks 16 ⟨some 41, _, _, _, _, none⟩ rfl ?_
     simp only [za, zb, zc, zd]
     refine wpAnyH_done (by kernel_rfl) ?_ _
     have x0 := K1.out.first.c 0 rfl
     have x1 := K1.out.first.c 1 rfl
     have x2 := K1.out.first.c 2 rfl
     have xh := K1.out.first.1
     have hz := K1.out.at w.heap.size [vi ki 0, .string ⟨#[]⟩, vi ki 0] (by simp)
     have z0 := hz.c 0 rfl
     have z1 := hz.c 1 rfl
     have z2 := hz.c 2 rfl
     have zf0 := hz.f 0 rfl
     have zf1 := hz.f 1 rfl
     have zf2 := hz.f 2 rfl
     have zh := hz.1
     have FB := hz.setAll [vi ki 4, .string p.2.1, vi ki p.2.2] rfl
     have y0' := FB.c 0 rfl
     have y1' := FB.c 1 rfl
     have y2' := FB.c 2 rfl
     simp only [World.setCells, Nat.zero_add, Nat.reduceAdd] at y0' y1' y2'
     clear hz FB
     go_wp2
     refine bodyPost_ret (v := .agg #[vi ki 4, .string p.2.1, vi ki p.2.2]) (by simp [results, Tryd.results34, go_sem, y0', y1', y2']) rfl ⟨by rw [HRk.out], below_setCells (Nat.le_refl _) [vi ki 4, .string p.2.1, vi ki p.2.2] _ 0 K1.out.1⟩
    | true =>
     rw [hpr, if_pos rfl] at hsg
     rw [hsg] at HRk
     clear hsg
     refine wp_region_held_drew (S := (fun V => PV b 0 cap L V ∧ Bx V (w.heap.size + 1) [vi ki p.1, .string p.2.1, vi ki p.2.2])) (by kernel_rfl) (by first | exact ⟨HP.out.below K1.out.1, K1.out.at (w.heap.size + 1) [vi ki p.1, .string p.2.1, vi ki p.2.2] (by simp)⟩ | exact ⟨HP.out.below K1.out.drew.1, K1.out.drew.at (w.heap.size + 1) [vi ki p.1, .string p.2.1, vi ki p.2.2] (by simp)⟩) (fun hHeld => ?_)
     refine gen_anyR (fun V => BS w [(w.heap.size + 1 + 1, [vi ki 4, .string p.2.1, vi ki p.2.2]), (w.heap.size + 1, [vi ki p.1, .string p.2.1, vi ki p.2.2]), (w.heap.size, [vi ki 0, .string ⟨#[]⟩, vi ki 0])] V) (by first | exact K1.out.drew | exact K1.out) ?_
     clear hHeld K1
     intro W2 kk
     have K1 : Hid (BS w [(w.heap.size + 1 + 1, [vi ki 4, .string p.2.1, vi ki p.2.2]), (w.heap.size + 1, [vi ki p.1, .string p.2.1, vi ki p.2.2]), (w.heap.size, [vi ki 0, .string ⟨#[]⟩, vi ki 0])] W2) := kk
     clear kk
     have hHeld : (fun V => PV b 0 cap L V ∧ Bx V (w.heap.size + 1) [vi ki p.1, .string p.2.1, vi ki p.2.2]) W2 := (by first | exact ⟨HP.out.below K1.out.1, K1.out.at (w.heap.size + 1) [vi ki p.1, .string p.2.1, vi ki p.2.2] (by simp)⟩ | exact ⟨HP.out.below K1.out.drew.1, K1.out.drew.at (w.heap.size + 1) [vi ki p.1, .string p.2.1, vi ki p.2.2] (by simp)⟩)
     refine tks 0 ⟨some 25, _, _, _, _, none⟩ rfl ?_
     simp only [za, zb, zc, zd]
     refine tks 1 ⟨some 26, _, _, _, _, none⟩ rfl ?_
     simp only [za, zb, zc, zd]
     refine tks 2 ⟨some 27, _, _, _, _, none⟩ rfl ?_
     simp only [za, zb, zc, zd]
     refine tks 3 ⟨some 28, _, _, _, _, none⟩ rfl ?_
     simp only [za, zb, zc, zd]
     refine rd 4 ⟨some 29, _, _, _, _, none⟩ rfl (fun K hK => ?_)
     go_simp
     refine (HAa.out _ K1.out.1).mono ?_
     rintro e v1 ⟨rfl, rfl⟩
     refine hK.out _ _ hHeld (fun hHeld => ?_)
     clear hK K
     refine tks 5 ⟨some 30, _, _, _, _, none⟩ rfl ?_
     simp only [za, zb, zc, zd]
     refine tks 6 ⟨some 31, _, _, _, _, some (5, true)⟩ rfl ?_
     simp only [za, zb, zc, zd]
     refine tk (v := ?_) 7 ⟨some 32, _, _, _, _, some (5, true)⟩ rfl ?_ ?_
     case refine_2 => (intro w9 hSw; obtain ⟨r0, r1, r2, r3⟩ := PV.cells hSw.1 hq; have r9 := hSw.1.1; have u1 := hSw.2.c 1 rfl; have u9 := hSw.2.1; clear hSw; go_simp; try with_reducible rfl)
     simp only [za, zb, zc, zd]
     refine tks 8 ⟨some 33, _, _, _, _, some (5, true)⟩ rfl ?_
     simp only [za, zb, zc, zd]
     refine tks 9 ⟨some 34, _, _, _, _, some (5, true)⟩ rfl ?_
     simp only [za, zb, zc, zd]
     refine tks 10 ⟨some 35, _, _, _, _, some (5, true)⟩ rfl ?_
     simp only [za, zb, zc, zd]
     refine tks 11 ⟨some 36, _, _, _, _, some (5, true)⟩ rfl ?_
     simp only [za, zb, zc, zd]
     refine tks 12 ⟨some 37, _, _, _, _, some (5, true)⟩ rfl ?_
     simp only [za, zb, zc, zd]
     refine tk (v := ?_) 13 ⟨some 38, _, _, _, _, some (5, true)⟩ rfl ?_ ?_
     case refine_2 => (intro w9 hSw; obtain ⟨r0, r1, r2, r3⟩ := PV.cells hSw.1 hq; have r9 := hSw.1.1; have u1 := hSw.2.c 1 rfl; have u9 := hSw.2.1; clear hSw; go_simp; try with_reducible rfl)
     simp only [za, zb, zc, zd]
     refine tks 14 ⟨some 39, _, _, _, _, some (5, true)⟩ rfl ?_
     simp only [za, zb, zc, zd]
     refine rd 15 ⟨some 40, _, _, _, _, some (5, true)⟩ rfl (fun K hK => ?_)
     go_simp
     have hpq := rpair_any (p.2.1 ++ q.2.1) v1
     rw [hpr] at hpq
     refine hpq.mono ?_
     rintro e v2 ⟨rfl, rfl⟩
     refine hK.out _ _ hHeld (fun hHeld => ?_)
     clear hK K hpq
     refine tks 16 ⟨some 41, _, _, _, _, none⟩ rfl ?_
     simp only [za, zb, zc, zd]
     refine wpAnyH_done (by kernel_rfl) ?_ _
     clear hHeld
     go_upto_region 6 with fail
     refine wp_region_held_drew (S := (fun V => PV b 0 cap L V ∧ Bx V (w.heap.size + 1) [vi ki p.1, .string p.2.1, vi ki p.2.2])) (by kernel_rfl) (by first | exact ⟨HP.out.below K1.out.1, K1.out.at (w.heap.size + 1) [vi ki p.1, .string p.2.1, vi ki p.2.2] (by simp)⟩ | exact ⟨HP.out.below K1.out.drew.1, K1.out.drew.at (w.heap.size + 1) [vi ki p.1, .string p.2.1, vi ki p.2.2] (by simp)⟩) (fun hHeld => ?_)
     refine gen_anyR (fun V => BS w [(w.heap.size + 1 + 1, [vi ki 4, .string p.2.1, vi ki p.2.2]), (w.heap.size + 1, [vi ki p.1, .string p.2.1, vi ki p.2.2]), (w.heap.size, [vi ki 0, .string ⟨#[]⟩, vi ki 0])] V) (by first | exact K1.out.drew | exact K1.out) ?_
     clear hHeld K1
     intro W3 kk
     have K1 : Hid (BS w [(w.heap.size + 1 + 1, [vi ki 4, .string p.2.1, vi ki p.2.2]), (w.heap.size + 1, [vi ki p.1, .string p.2.1, vi ki p.2.2]), (w.heap.size, [vi ki 0, .string ⟨#[]⟩, vi ki 0])] W3) := kk
     clear kk
     have hHeld : (fun V => PV b 0 cap L V ∧ Bx V (w.heap.size + 1) [vi ki p.1, .string p.2.1, vi ki p.2.2]) W3 := (by first | exact ⟨HP.out.below K1.out.1, K1.out.at (w.heap.size + 1) [vi ki p.1, .string p.2.1, vi ki p.2.2] (by simp)⟩ | exact ⟨HP.out.below K1.out.drew.1, K1.out.drew.at (w.heap.size + 1) [vi ki p.1, .string p.2.1, vi ki p.2.2] (by simp)⟩)
     refine tks 0 ⟨some 42, _, _, _, _, none⟩ rfl ?_
     simp only [za, zb, zc, zd]
     refine tk (v := ?_) 1 ⟨some 43, _, _, _, _, none⟩ rfl ?_ ?_
     case refine_2 => (intro w9 hSw; obtain ⟨r0, r1, r2, r3⟩ := PV.cells hSw.1 hq; have r9 := hSw.1.1; have u1 := hSw.2.c 1 rfl; have u9 := hSw.2.1; clear hSw; go_simp; try with_reducible rfl)
     simp only [za, zb, zc, zd]
     refine tks 2 ⟨some 44, _, _, _, _, none⟩ rfl ?_
     simp only [za, zb, zc, zd]
     refine tks 3 ⟨some 45, _, _, _, _, none⟩ rfl ?_
     simp only [za, zb, zc, zd]
     refine tks 4 ⟨some 46, _, _, _, _, none⟩ rfl ?_
     simp only [za, zb, zc, zd]
     refine tks 5 ⟨some 47, _, _, _, _, none⟩ rfl ?_
     simp only [za, zb, zc, zd]
     refine tks 6 ⟨some 48, _, _, _, _, none⟩ rfl ?_
     simp only [za, zb, zc, zd]
     refine tk (v := ?_) 7 ⟨some 49, _, _, _, _, none⟩ rfl ?_ ?_
     case refine_2 => (intro w9 hSw; obtain ⟨r0, r1, r2, r3⟩ := PV.cells hSw.1 hq; have r9 := hSw.1.1; have u1 := hSw.2.c 1 rfl; have u9 := hSw.2.1; clear hSw; go_simp; try with_reducible rfl)
     simp only [za, zb, zc, zd]
     refine tks 8 ⟨some 50, _, _, _, _, none⟩ rfl ?_
     simp only [za, zb, zc, zd]
     refine tks 9 ⟨some 51, _, _, _, _, none⟩ rfl ?_
     simp only [za, zb, zc, zd]
     refine rd 10 ⟨none, _, _, _, _, none⟩ rfl (fun K hK => ?_)
     have x1 := K1.out.first.c 1 rfl
     have x1f := K1.out.first.f 1 rfl
     have xh := K1.out.first.1
     have KSa := BS.set1 K1.out 1 (.string (p.2.1 ++ q.2.1)) (by simp) (by simp; omega)
     have KS : Hid (BS w [(w.heap.size + 1 + 1, [vi ki 4, .string (p.2.1 ++ q.2.1), vi ki p.2.2]), (w.heap.size + 1, [vi ki p.1, .string p.2.1, vi ki p.2.2]), (w.heap.size, [vi ki 0, .string ⟨#[]⟩, vi ki 0])] (W3.setCell ⟨w.heap.size + 1 + 1, 1, none⟩ (.string (p.2.1 ++ q.2.1)))) := KSa
     clear KSa
     go_simp
     refine hK.out _ _ ⟨HP.out.below KS.out.1, KS.out.at (w.heap.size + 1) [vi ki p.1, .string p.2.1, vi ki p.2.2] (by simp)⟩ (fun hHeld => ?_)
     clear hK K x1 x1f xh hHeld
     refine gen_anyR (fun V => BS w [(w.heap.size + 1 + 1, [vi ki 4, .string (p.2.1 ++ q.2.1), vi ki p.2.2]), (w.heap.size + 1, [vi ki p.1, .string p.2.1, vi ki p.2.2]), (w.heap.size, [vi ki 0, .string ⟨#[]⟩, vi ki 0])] V) KS.out ?_
     clear KS K1
     intro v1 kk
     have K1 : Hid (BS w [(w.heap.size + 1 + 1, [vi ki 4, .string (p.2.1 ++ q.2.1), vi ki p.2.2]), (w.heap.size + 1, [vi ki p.1, .string p.2.1, vi ki p.2.2]), (w.heap.size, [vi ki 0, .string ⟨#[]⟩, vi ki 0])] v1) := kk
     clear kk
     have hHeld : (fun V => PV b 0 cap L V ∧ Bx V (w.heap.size + 1) [vi ki p.1, .string p.2.1, vi ki p.2.2]) v1 := ⟨HP.out.below K1.out.1, K1.out.at (w.heap.size + 1) [vi ki p.1, .string p.2.1, vi ki p.2.2] (by simp)⟩
     refine wpAnyH_done (by kernel_rfl) ?_ _
     have x0 := K1.out.first.c 0 rfl
     have x1 := K1.out.first.c 1 rfl
     have x2 := K1.out.first.c 2 rfl
     have xh := K1.out.first.1
     have hz := K1.out.at w.heap.size [vi ki 0, .string ⟨#[]⟩, vi ki 0] (by simp)
     have z0 := hz.c 0 rfl
     have z1 := hz.c 1 rfl
     have z2 := hz.c 2 rfl
     have zf0 := hz.f 0 rfl
     have zf1 := hz.f 1 rfl
     have zf2 := hz.f 2 rfl
     have zh := hz.1
     have FB := hz.setAll [vi ki 4, .string (p.2.1 ++ q.2.1), vi ki p.2.2] rfl
     have y0' := FB.c 0 rfl
     have y1' := FB.c 1 rfl
     have y2' := FB.c 2 rfl
     simp only [World.setCells, Nat.zero_add, Nat.reduceAdd] at y0' y1' y2'
     clear hz FB
     go_wp2
     refine bodyPost_ret (v := .agg #[vi ki 4, .string (p.2.1 ++ q.2.1), vi ki p.2.2]) (by simp [results, Tryd.results34, go_sem, y0', y1', y2']) rfl ⟨by rw [HRk.out], below_setCells (Nat.le_refl _) [vi ki 4, .string (p.2.1 ++ q.2.1), vi ki p.2.2] _ 0 K1.out.1⟩
end Go.Proofs.YtaoocecipacnhaaDoor
