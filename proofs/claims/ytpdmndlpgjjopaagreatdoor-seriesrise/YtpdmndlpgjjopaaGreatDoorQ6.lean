import Derived.Test.YtpdmndlpgjjopaaGreatDoorQz
import Derived.Test.YtpdmndlpgjjopaaGreatDoorQ2
import Derived.Test.YtpdmndlpgjjopaaGreatDoorQ0
import Derived.Deep.Cut
import Derived.Deep.CutRange
import Derived.Deep.DeepCutAuto
import Derived.Test.YtpdmndlpgjjopaaGreatDoorQ1
import Derived.Test.YtpdmndlpgjjopaaGreatDoorQ5
import Derived.SizedLaws
open Go.Value renaming int → vi
open Go.IntKind renaming i64 → ki
open List renaming setIfInBounds_toArray → zb, set_cons_zero → zc, set_cons_succ → zd
open Go.Act renaming put → za
open Go.Ending renaming returned → zr
set_option maxRecDepth 100000
set_option maxHeartbeats 16000000
set_option linter.unusedVariables false
namespace Go.Proofs.YtpdmndlpgjjopaaGreatDoor.Sp
open Go.RowKit
theorem dg_all {n : Nat} (hn : n < 4294967296 ^ 6) (h : ∀ j, j < 6 → Wd.dg n j = 0) : n = 0 := by
 have up : ∀ k, k < 6 → n / 4294967296 ^ (k + 1) = 0 → n / 4294967296 ^ k = 0 := fun k hk e => by
  have a := h k hk
  unfold Wd.dg at a
  have b := Nat.div_add_mod (n / 4294967296 ^ k) 4294967296
  rw [Nat.div_div_eq_div_mul, ← Nat.pow_succ, e, a] at b
  omega
 have e6 : n / 4294967296 ^ 6 = 0 := Nat.div_eq_of_lt hn
 have e0 := up 0 (by decide) (up 1 (by decide) (up 2 (by decide) (up 3 (by decide) (up 4 (by decide) (up 5 (by decide) e6)))))
 simpa using e0
theorem dg_of {n k : Nat} (h : Wd.dg n k ≠ 0) : n ≠ 0 := fun e => h (by rw [e]; exact Wd.dg_zero k)
theorem rsign_any (v : Value) (x : Int) (w : World) (h : IsW w v x) :
  Calls Tryz.prog 44 #[v] w fun r w' => r = zr (vi ki (sgnC x 0)) ∧ Below w.heap.size w w' := by
 obtain ⟨b, rfl, hr⟩ := h
 by_cases hx : x < 0
 ·rw [decide_eq_true hx, sgnC_lt hx]
  have HB : Hid (Below w.heap.size w (w.alloc (.cells #[.bool true, .slice (some ⟨b, 0, none⟩) 6 6] 102))) := (Below.refl _ _).alloc (Nat.le_refl _) _
  go_enter Tryz.func44, Tryz.ntmps44
  go_wp2
  go_ret
  exact ⟨rfl, HB.out⟩
 ·rw [decide_eq_false hx]
  have HK : Hid (BS w [(w.heap.size, [.bool false, .slice (some ⟨b, 0, none⟩) 6 6])] (w.alloc (.cells #[.bool false, .slice (some ⟨b, 0, none⟩) 6 6] 102)) ∧ Row (w.alloc (.cells #[.bool false, .slice (some ⟨b, 0, none⟩) 6 6] 102)) b x.natAbs) := ⟨(BS.start w).new _ _ rfl, hr.alloc _⟩
  have HN : Hid (x.natAbs = 0 → sgnC x 0 = 0) := fun e => by rw [show x = 0 by omega]; rfl
  have HP : Hid (x.natAbs ≠ 0 → sgnC x 0 = 1) := fun e => sgnC_gt (by omega)
  clear hr
  generalize x.natAbs = n at *
  generalize sgnC x 0 = G at *
  go_enter Tryz.func44, Tryz.ntmps44
  go_upto_region 1 with fail
  refine gen_to (fun W => BS w [(w.heap.size, [.bool false, .slice (some ⟨b, 0, none⟩) 6 6])] W ∧ Row W b n) HK.out ?_
  clear HK
  rintro W ⟨K1, R1⟩
  have c0 : W.cell? ⟨w.heap.size, 0, none⟩ = some (.bool false) := K1.first.c 0 rfl
  have c1 : W.cell? ⟨w.heap.size, 1, none⟩ = some (.slice (some ⟨b, 0, none⟩) 6 6) := K1.first.c 1 rfl
  have HB : Hid (Below w.heap.size w W) := K1.1
  clear K1
  go_wp2_with fail
  go_loopw [3] (fun i wr => ∃ k : Nat, k ≤ 6 ∧ i = vi ki (k : Int) ∧ wr = W ∧ ∀ j, j < k → Wd.dg n j = 0) (fun i _ => 6 - (intOf i).toNat)
  case atStart => exact ⟨0, Nat.zero_le _, rfl, rfl, fun j hj => absurd hj (Nat.not_lt_zero _)⟩
  case round =>
   obtain ⟨k, hk, rfl, rfl, hz⟩ := hrel
   by_cases hlt : k < 6
   ·have hc := R1.2.2 k hlt
    by_cases hd : Wd.dg n k = 0
    ·rw [hd] at hc
     have hz' : Hid (∀ j, j < k + 1 → Wd.dg n j = 0) := fun j hj => by
      by_cases e : j = k
      ·rw [e]; exact hd
      ·exact hz j (by omega)
     clear hz hd HN HP
     go_wp2_with fail
     exact ⟨⟨k + 1, by omega, by simp, by first | rfl | trivial, hz'.out⟩, by simp [intOf]; omega⟩
    ·have hG : G = 1 := HP.out (dg_of hd)
     subst hG
     obtain ⟨q, hq⟩ : ∃ q, q = Wd.dg n k := ⟨_, rfl⟩
     rw [← hq] at hc hd
     have e1 : ((q : Int) != 0) = true := by simpa using hd
     clear hz HN HP hq
     go_wp2_with fail
     go_ret
     exact ⟨rfl, HB.out⟩
   ·have e : k = 6 := by omega
    subst e
    have hG : G = 0 := HN.out (dg_all R1.1 hz)
    subst hG
    clear hz HN HP
    go_wp2_with fail
    go_ret
    exact ⟨rfl, HB.out⟩
theorem Row.set_other {W : World} {b n c : Nat} (h : Row W b n) (hx : W.cell? ⟨c, 0, none⟩ = some (.bool false)) (vs : List Value) : Row (W.setCells c 0 vs) b n := by
 have hne : b ≠ c := fun e => by
  have := h.2.2 0 (by decide)
  rw [e, hx] at this
  exact absurd this (by simp)
 exact ⟨h.1, by rw [setCells_size]; exact h.2.1, fun i hi => by rw [setCells_off c vs _ _ _ hne]; exact h.2.2 i hi⟩
theorem IsW.set_other {W : World} {v : Value} {x : Int} {c : Nat} (h : IsW W v x) (hx : W.cell? ⟨c, 0, none⟩ = some (.bool false)) (vs : List Value) : IsW (W.setCells c 0 vs) v x := by
 obtain ⟨b, hv, hr⟩ := h
 exact ⟨b, hv, Row.set_other hr hx vs⟩
abbrev wV (x : Int) (b : Nat) : Value := .agg #[.bool (decide (x < 0)), .slice (some ⟨b, 0, none⟩) 6 6]
theorem IsW_drew {W : World} {v : Value} {x : Int} (h : IsW W v x) : IsW W.drew v x := by
 obtain ⟨b, hv, hr⟩ := h
 exact ⟨b, hv, hr⟩
theorem rlong_run (i m d u A P L : Int) (m1 : -2147483647 ≤ m) (m2 : m ≤ 2147483647) (d1 : -2147483647 ≤ d) (d2 : d ≤ 2147483647) (hA : m * 30 + d = A)
  (O1 : Hid (∀ (w : World), Calls Tryz.prog 71 #[vi ki A] w fun r' w' => ∃ v', r' = .returned v' ∧ IsW w' v' (A) ∧ Below w.heap.size w w'))
  (O2 : Hid (∀ (w : World), Calls Tryz.prog 71 #[vi ki 86400000000] w fun r' w' => ∃ v', r' = .returned v' ∧ IsW w' v' (86400000000) ∧ Below w.heap.size w w'))
  (TI : Hid (∀ (v : Value) (q : Value) (w : World), IsW w v (A) → IsW w q (86400000000) → Calls Tryz.prog 72 #[v, q] w fun r' w' => ∃ v', r' = .returned v' ∧ IsW w' v' (P) ∧ Below w.heap.size w w'))
  (O3 : Hid (∀ (w : World), Calls Tryz.prog 71 #[vi ki u] w fun r' w' => ∃ v', r' = .returned v' ∧ IsW w' v' (u) ∧ Below w.heap.size w w'))
  (PL : Hid (∀ (v : Value) (q : Value) (w : World), IsW w v (P) → IsW w q (u) → Calls Tryz.prog 45 #[v, q] w fun r' w' => ∃ v', r' = .returned v' ∧ IsW w' v' (L) ∧ Below w.heap.size w w'))
  (w : World) :
  Calls Tryz.prog 46 #[.agg #[vi ki i, vi ki m, vi ki d, vi ki u]] w fun r' w' => ∃ v', r' = .returned v' ∧ IsW w' v' L ∧ Below w.heap.size w w' := by
 have w1 : IntKind.i64.wrap (m * 30) = m * 30 := by rw [IntKind.wrap_i64]; omega
 have w2 : IntKind.i64.wrap (m * 30 + d) = A := by rw [IntKind.wrap_i64]; omega
 have K0 := bsn2 w [vi ki i, vi ki m, vi ki d, vi ki u] 38 [.bool false, .slice none 0 0] 102
 go_enter Tryz.func46, Tryz.ntmps46
 go_wp2_with fail
 refine (O1.out _).mono ?_
 rintro e W1 ⟨v, rfl, ⟨b1, rfl, r1⟩, hb⟩
 have HK : Hid (BS w [(W1.heap.size, [.bool (decide (A < 0)), .slice (some ⟨b1, 0, none⟩) 6 6]), (w.heap.size + 1, [.bool false, .slice none 0 0]), (w.heap.size, [vi ki i, vi ki m, vi ki d, vi ki u])] (W1.alloc (.cells #[.bool (decide (A < 0)), .slice (some ⟨b1, 0, none⟩) 6 6] 102)) ∧ Row (W1.alloc (.cells #[.bool (decide (A < 0)), .slice (some ⟨b1, 0, none⟩) 6 6] 102)) b1 A.natAbs) := ⟨(K0.out.below hb).new _ _ rfl, r1.alloc _⟩
 go_upto_region 2 with fail
 refine gen_to (fun W => BS w [(W1.heap.size, [.bool (decide (A < 0)), .slice (some ⟨b1, 0, none⟩) 6 6]), (w.heap.size + 1, [.bool false, .slice none 0 0]), (w.heap.size, [vi ki i, vi ki m, vi ki d, vi ki u])] W ∧ Row W b1 A.natAbs) HK.out ?_
 obtain ⟨B3, hB3⟩ : ∃ B3, B3 = W1.heap.size := ⟨_, rfl⟩
 rw [← hB3]
 clear HK r1 hb hB3
 rintro W ⟨K1, R1⟩
 have KK : Hid (BS w [(w.heap.size + 1, [.bool false, .slice none 0 0]), (B3, [.bool (decide (A < 0)), .slice (some ⟨b1, 0, none⟩) 6 6]), (w.heap.size, [vi ki i, vi ki m, vi ki d, vi ki u])] W) := K1.swap
 have IA : Hid (IsW W (.agg #[.bool (decide (A < 0)), .slice (some ⟨b1, 0, none⟩) 6 6]) A) := ⟨b1, rfl, R1⟩
 clear K1 R1 K0
 go_wp2_with fail
 have HD : Hid (B3 ≠ w.heap.size + 1) := fun e => by
  have a := KK.out.first.c 0 rfl
  have b := (KK.out.at B3 [.bool (decide (A < 0)), .slice (some ⟨b1, 0, none⟩) 6 6] (by simp)).c 1 rfl
  have c := KK.out.first.c 1 rfl
  rw [e, c] at b
  exact absurd b (by simp)
 refine wp_region_held_drew (S := BS w [(B3, [.bool (decide (A < 0)), .slice (some ⟨b1, 0, none⟩) 6 6]), (w.heap.size, [vi ki i, vi ki m, vi ki d, vi ki u])]) (by kernel_rfl) KK.out.tail.drew (fun hHeld => ?_)
 refine tk (v := ?_) 0 ⟨some 11, _, _, _, _, none⟩ rfl ?_ ?_
 case refine_2 => (intro w9 hSw; have l0 := (hSw.at B3 [.bool (decide (A < 0)), .slice (some ⟨b1, 0, none⟩) 6 6] (by simp)).c 0 rfl; have l1 := (hSw.at B3 [.bool (decide (A < 0)), .slice (some ⟨b1, 0, none⟩) 6 6] (by simp)).c 1 rfl; have l3 := (hSw.at (w.heap.size) [vi ki i, vi ki m, vi ki d, vi ki u] (by simp)).c 3 rfl; clear hSw; go_simp; try with_reducible rfl)
 simp only [za, zb, zc, zd]
 refine tks 3 ⟨some 14, _, _, _, _, none⟩ rfl ?_
 simp only [za, zb, zc, zd]
 refine tk (v := ?_) 4 ⟨some 15, _, _, _, _, none⟩ rfl ?_ ?_
 case refine_2 => (intro w9 hSw; have l0 := (hSw.at B3 [.bool (decide (A < 0)), .slice (some ⟨b1, 0, none⟩) 6 6] (by simp)).c 0 rfl; have l1 := (hSw.at B3 [.bool (decide (A < 0)), .slice (some ⟨b1, 0, none⟩) 6 6] (by simp)).c 1 rfl; have l3 := (hSw.at (w.heap.size) [vi ki i, vi ki m, vi ki d, vi ki u] (by simp)).c 3 rfl; clear hSw; go_simp; try with_reducible rfl)
 simp only [za, zb, zc, zd]
 refine rd 1 ⟨some 12, _, _, _, _, none⟩ rfl (fun K hK => ?_)
 go_simp
 refine (O2.out _).mono ?_
 rintro e v1 ⟨y1, rfl, q1, hb1⟩
 refine hK.out _ _ (hHeld.below hb1) (fun hHeld => ?_)
 replace KK : Hid (BS w [(w.heap.size + 1, [.bool false, .slice none 0 0]), (B3, [.bool (decide (A < 0)), .slice (some ⟨b1, 0, none⟩) 6 6]), (w.heap.size, [vi ki i, vi ki m, vi ki d, vi ki u])] v1) := by first | exact KK.out.below hb1 | exact KK.out.drew.below hb1
 replace IA : Hid (IsW v1 (wV A b1) (A)) := by first | exact IA.out.below hb1 | exact (IsW_drew IA.out).below hb1
 have IB : Hid (IsW v1 y1 (86400000000)) := q1
 clear hK K hb1 q1
 refine rd 2 ⟨some 13, _, _, _, _, none⟩ rfl (fun K hK => ?_)
 go_simp
 refine (TI.out _ _ _ IA.out IB.out).mono ?_
 rintro e v2 ⟨y2, rfl, q2, hb2⟩
 refine hK.out _ _ (hHeld.below hb2) (fun hHeld => ?_)
 replace KK : Hid (BS w [(w.heap.size + 1, [.bool false, .slice none 0 0]), (B3, [.bool (decide (A < 0)), .slice (some ⟨b1, 0, none⟩) 6 6]), (w.heap.size, [vi ki i, vi ki m, vi ki d, vi ki u])] v2) := by first | exact KK.out.below hb2 | exact KK.out.drew.below hb2
 have IC : Hid (IsW v2 y2 (P)) := q2
 clear hK K hb2 q2
 refine rd 5 ⟨some 16, _, _, _, _, none⟩ rfl (fun K hK => ?_)
 go_simp
 refine (O3.out _).mono ?_
 rintro e v3 ⟨y3, rfl, q3, hb3⟩
 refine hK.out _ _ (hHeld.below hb3) (fun hHeld => ?_)
 replace KK : Hid (BS w [(w.heap.size + 1, [.bool false, .slice none 0 0]), (B3, [.bool (decide (A < 0)), .slice (some ⟨b1, 0, none⟩) 6 6]), (w.heap.size, [vi ki i, vi ki m, vi ki d, vi ki u])] v3) := by first | exact KK.out.below hb3 | exact KK.out.drew.below hb3
 replace IC : Hid (IsW v3 (y2) (P)) := by first | exact IC.out.below hb3 | exact (IsW_drew IC.out).below hb3
 have ID : Hid (IsW v3 y3 (u)) := q3
 clear hK K hb3 q3
 refine rd 6 ⟨some 17, _, _, _, _, none⟩ rfl (fun K hK => ?_)
 go_simp
 refine (PL.out _ _ _ IC.out ID.out).mono ?_
 rintro e v4 ⟨y4, rfl, q4, hb4⟩
 refine hK.out _ _ (hHeld.below hb4) (fun hHeld => ?_)
 replace KK : Hid (BS w [(w.heap.size + 1, [.bool false, .slice none 0 0]), (B3, [.bool (decide (A < 0)), .slice (some ⟨b1, 0, none⟩) 6 6]), (w.heap.size, [vi ki i, vi ki m, vi ki d, vi ki u])] v4) := by first | exact KK.out.below hb4 | exact KK.out.drew.below hb4
 have IE : Hid (IsW v4 y4 (L)) := q4
 clear hK K hb4 q4
 refine rd 7 ⟨none, _, _, _, _, none⟩ rfl (fun K hK => ?_)
 obtain ⟨bz, hz, rz⟩ := IE.out
 subst hz
 have l_0 := KK.out.first.c 0 rfl
 have l_1 := KK.out.first.c 1 rfl
 have z_0 := KK.out.first.f 0 rfl
 have z_1 := KK.out.first.f 1 rfl
 go_simp
 have KN := KK.out.set [.bool (decide (L < 0)), .slice (some ⟨bz, 0, none⟩) 6 6] rfl (by intro x hx; simp only [List.mem_cons, List.not_mem_nil, or_false] at hx; rcases hx with rfl | rfl; exact HD.out; simp)
 have RN := Row.set_other rz l_0 [.bool (decide (L < 0)), .slice (some ⟨bz, 0, none⟩) 6 6]
 refine hK.out _ _ KN.tail (fun hHeld => ?_)
 clear hK K
 refine wpAnyH_done (by kernel_rfl) ?_ _
 have XF := KN.first
 have y0 := XF.c 0 rfl
 have y1 := XF.c 1 rfl
 simp only [World.setCells, Nat.zero_add] at y0 y1
 have HB : Hid (Below w.heap.size w _) := KN.1
 have HR : Hid (Row _ bz L.natAbs) := RN
 clear KN RN XF hHeld KK IE rz l_0 l_1 z_0 z_1
 go_wp2
 exact bodyPost_ret (v := .agg #[.bool (decide (L < 0)), .slice (some ⟨bz, 0, none⟩) 6 6]) (by simp [results, Tryz.results46, go_sem, y0, y1]) rfl ⟨_, rfl, ⟨bz, rfl, HR.out⟩, HB.out⟩
theorem rpcmp_no1 (i m d u j n e v : Int)
  (X : Hid (∀ w : World, Calls Tryz.prog 43 #[.agg #[vi ki i, vi ki m, vi ki d, vi ki u]] w fun r' w' => r' = zr (.bool false) ∧ Below w.heap.size w w'))
  (w : World) :
  Calls Tryz.prog 24 #[.agg #[vi ki i, vi ki m, vi ki d, vi ki u], .agg #[vi ki j, vi ki n, vi ki e, vi ki v]] w fun r' w' => r' = zr (vi ki 0) ∧ Below w.heap.size w w' := by
 have K0 := bsn2 w [vi ki i, vi ki m, vi ki d, vi ki u] 38 [vi ki j, vi ki n, vi ki e, vi ki v] 38
 go_enter Tryz.func24, Tryz.ntmps24
 go_wp2_with fail
 refine (X.out _).mono ?_
 rintro e W1 ⟨rfl, hb⟩
 have K1 : Hid (BS w [(w.heap.size + 1, [vi ki j, vi ki n, vi ki e, vi ki v]), (w.heap.size, [vi ki i, vi ki m, vi ki d, vi ki u])] W1) := K0.out.below hb
 clear hb K0
 have c1_0_0 : W1.cell? ⟨w.heap.size + 1, 0, none⟩ = some (vi ki j) := (K1.out.at (w.heap.size + 1) [vi ki j, vi ki n, vi ki e, vi ki v] (by simp)).c 0 rfl
 have c1_0_1 : W1.cell? ⟨w.heap.size + 1, 1, none⟩ = some (vi ki n) := (K1.out.at (w.heap.size + 1) [vi ki j, vi ki n, vi ki e, vi ki v] (by simp)).c 1 rfl
 have c1_0_2 : W1.cell? ⟨w.heap.size + 1, 2, none⟩ = some (vi ki e) := (K1.out.at (w.heap.size + 1) [vi ki j, vi ki n, vi ki e, vi ki v] (by simp)).c 2 rfl
 have c1_0_3 : W1.cell? ⟨w.heap.size + 1, 3, none⟩ = some (vi ki v) := (K1.out.at (w.heap.size + 1) [vi ki j, vi ki n, vi ki e, vi ki v] (by simp)).c 3 rfl
 have c1_1_0 : W1.cell? ⟨w.heap.size, 0, none⟩ = some (vi ki i) := (K1.out.at (w.heap.size) [vi ki i, vi ki m, vi ki d, vi ki u] (by simp)).c 0 rfl
 have c1_1_1 : W1.cell? ⟨w.heap.size, 1, none⟩ = some (vi ki m) := (K1.out.at (w.heap.size) [vi ki i, vi ki m, vi ki d, vi ki u] (by simp)).c 1 rfl
 have c1_1_2 : W1.cell? ⟨w.heap.size, 2, none⟩ = some (vi ki d) := (K1.out.at (w.heap.size) [vi ki i, vi ki m, vi ki d, vi ki u] (by simp)).c 2 rfl
 have c1_1_3 : W1.cell? ⟨w.heap.size, 3, none⟩ = some (vi ki u) := (K1.out.at (w.heap.size) [vi ki i, vi ki m, vi ki d, vi ki u] (by simp)).c 3 rfl
 go_wp2
 go_ret
 exact ⟨rfl, K1.out.1⟩
theorem rpcmp_no2 (i m d u j n e v : Int)
  (X : Hid (∀ w : World, Calls Tryz.prog 43 #[.agg #[vi ki i, vi ki m, vi ki d, vi ki u]] w fun r' w' => r' = zr (.bool true) ∧ Below w.heap.size w w'))
  (Y : Hid (∀ w : World, Calls Tryz.prog 43 #[.agg #[vi ki j, vi ki n, vi ki e, vi ki v]] w fun r' w' => r' = zr (.bool false) ∧ Below w.heap.size w w'))
  (w : World) :
  Calls Tryz.prog 24 #[.agg #[vi ki i, vi ki m, vi ki d, vi ki u], .agg #[vi ki j, vi ki n, vi ki e, vi ki v]] w fun r' w' => r' = zr (vi ki 0) ∧ Below w.heap.size w w' := by
 have K0 := bsn2 w [vi ki i, vi ki m, vi ki d, vi ki u] 38 [vi ki j, vi ki n, vi ki e, vi ki v] 38
 go_enter Tryz.func24, Tryz.ntmps24
 go_wp2_with fail
 refine (X.out _).mono ?_
 rintro e W1 ⟨rfl, hb⟩
 have K1 : Hid (BS w [(w.heap.size + 1, [vi ki j, vi ki n, vi ki e, vi ki v]), (w.heap.size, [vi ki i, vi ki m, vi ki d, vi ki u])] W1) := K0.out.below hb
 clear hb K0
 have c1_0_0 : W1.cell? ⟨w.heap.size + 1, 0, none⟩ = some (vi ki j) := (K1.out.at (w.heap.size + 1) [vi ki j, vi ki n, vi ki e, vi ki v] (by simp)).c 0 rfl
 have c1_0_1 : W1.cell? ⟨w.heap.size + 1, 1, none⟩ = some (vi ki n) := (K1.out.at (w.heap.size + 1) [vi ki j, vi ki n, vi ki e, vi ki v] (by simp)).c 1 rfl
 have c1_0_2 : W1.cell? ⟨w.heap.size + 1, 2, none⟩ = some (vi ki e) := (K1.out.at (w.heap.size + 1) [vi ki j, vi ki n, vi ki e, vi ki v] (by simp)).c 2 rfl
 have c1_0_3 : W1.cell? ⟨w.heap.size + 1, 3, none⟩ = some (vi ki v) := (K1.out.at (w.heap.size + 1) [vi ki j, vi ki n, vi ki e, vi ki v] (by simp)).c 3 rfl
 have c1_1_0 : W1.cell? ⟨w.heap.size, 0, none⟩ = some (vi ki i) := (K1.out.at (w.heap.size) [vi ki i, vi ki m, vi ki d, vi ki u] (by simp)).c 0 rfl
 have c1_1_1 : W1.cell? ⟨w.heap.size, 1, none⟩ = some (vi ki m) := (K1.out.at (w.heap.size) [vi ki i, vi ki m, vi ki d, vi ki u] (by simp)).c 1 rfl
 have c1_1_2 : W1.cell? ⟨w.heap.size, 2, none⟩ = some (vi ki d) := (K1.out.at (w.heap.size) [vi ki i, vi ki m, vi ki d, vi ki u] (by simp)).c 2 rfl
 have c1_1_3 : W1.cell? ⟨w.heap.size, 3, none⟩ = some (vi ki u) := (K1.out.at (w.heap.size) [vi ki i, vi ki m, vi ki d, vi ki u] (by simp)).c 3 rfl
 go_wp2_with fail
 refine (Y.out _).mono ?_
 rintro e W2 ⟨rfl, hb⟩
 have K2 : Hid (BS w [(w.heap.size + 1, [vi ki j, vi ki n, vi ki e, vi ki v]), (w.heap.size, [vi ki i, vi ki m, vi ki d, vi ki u])] W2) := K1.out.below hb
 clear c1_0_0 c1_0_1 c1_0_2 c1_0_3 c1_1_0 c1_1_1 c1_1_2 c1_1_3
 clear hb K1
 have c2_0_0 : W2.cell? ⟨w.heap.size + 1, 0, none⟩ = some (vi ki j) := (K2.out.at (w.heap.size + 1) [vi ki j, vi ki n, vi ki e, vi ki v] (by simp)).c 0 rfl
 have c2_0_1 : W2.cell? ⟨w.heap.size + 1, 1, none⟩ = some (vi ki n) := (K2.out.at (w.heap.size + 1) [vi ki j, vi ki n, vi ki e, vi ki v] (by simp)).c 1 rfl
 have c2_0_2 : W2.cell? ⟨w.heap.size + 1, 2, none⟩ = some (vi ki e) := (K2.out.at (w.heap.size + 1) [vi ki j, vi ki n, vi ki e, vi ki v] (by simp)).c 2 rfl
 have c2_0_3 : W2.cell? ⟨w.heap.size + 1, 3, none⟩ = some (vi ki v) := (K2.out.at (w.heap.size + 1) [vi ki j, vi ki n, vi ki e, vi ki v] (by simp)).c 3 rfl
 have c2_1_0 : W2.cell? ⟨w.heap.size, 0, none⟩ = some (vi ki i) := (K2.out.at (w.heap.size) [vi ki i, vi ki m, vi ki d, vi ki u] (by simp)).c 0 rfl
 have c2_1_1 : W2.cell? ⟨w.heap.size, 1, none⟩ = some (vi ki m) := (K2.out.at (w.heap.size) [vi ki i, vi ki m, vi ki d, vi ki u] (by simp)).c 1 rfl
 have c2_1_2 : W2.cell? ⟨w.heap.size, 2, none⟩ = some (vi ki d) := (K2.out.at (w.heap.size) [vi ki i, vi ki m, vi ki d, vi ki u] (by simp)).c 2 rfl
 have c2_1_3 : W2.cell? ⟨w.heap.size, 3, none⟩ = some (vi ki u) := (K2.out.at (w.heap.size) [vi ki i, vi ki m, vi ki d, vi ki u] (by simp)).c 3 rfl
 go_wp2
 go_ret
 exact ⟨rfl, K2.out.1⟩
theorem rpcmp_lt (i m d u j n e v : Int) (h : i < j)
  (X : Hid (∀ w : World, Calls Tryz.prog 43 #[.agg #[vi ki i, vi ki m, vi ki d, vi ki u]] w fun r' w' => r' = zr (.bool true) ∧ Below w.heap.size w w'))
  (Y : Hid (∀ w : World, Calls Tryz.prog 43 #[.agg #[vi ki j, vi ki n, vi ki e, vi ki v]] w fun r' w' => r' = zr (.bool true) ∧ Below w.heap.size w w'))
  (w : World) :
  Calls Tryz.prog 24 #[.agg #[vi ki i, vi ki m, vi ki d, vi ki u], .agg #[vi ki j, vi ki n, vi ki e, vi ki v]] w fun r' w' => r' = zr (vi ki (-1)) ∧ Below w.heap.size w w' := by
 have K0 := bsn2 w [vi ki i, vi ki m, vi ki d, vi ki u] 38 [vi ki j, vi ki n, vi ki e, vi ki v] 38
 go_enter Tryz.func24, Tryz.ntmps24
 go_wp2_with fail
 refine (X.out _).mono ?_
 rintro e W1 ⟨rfl, hb⟩
 have K1 : Hid (BS w [(w.heap.size + 1, [vi ki j, vi ki n, vi ki e, vi ki v]), (w.heap.size, [vi ki i, vi ki m, vi ki d, vi ki u])] W1) := K0.out.below hb
 clear hb K0
 have c1_0_0 : W1.cell? ⟨w.heap.size + 1, 0, none⟩ = some (vi ki j) := (K1.out.at (w.heap.size + 1) [vi ki j, vi ki n, vi ki e, vi ki v] (by simp)).c 0 rfl
 have c1_0_1 : W1.cell? ⟨w.heap.size + 1, 1, none⟩ = some (vi ki n) := (K1.out.at (w.heap.size + 1) [vi ki j, vi ki n, vi ki e, vi ki v] (by simp)).c 1 rfl
 have c1_0_2 : W1.cell? ⟨w.heap.size + 1, 2, none⟩ = some (vi ki e) := (K1.out.at (w.heap.size + 1) [vi ki j, vi ki n, vi ki e, vi ki v] (by simp)).c 2 rfl
 have c1_0_3 : W1.cell? ⟨w.heap.size + 1, 3, none⟩ = some (vi ki v) := (K1.out.at (w.heap.size + 1) [vi ki j, vi ki n, vi ki e, vi ki v] (by simp)).c 3 rfl
 have c1_1_0 : W1.cell? ⟨w.heap.size, 0, none⟩ = some (vi ki i) := (K1.out.at (w.heap.size) [vi ki i, vi ki m, vi ki d, vi ki u] (by simp)).c 0 rfl
 have c1_1_1 : W1.cell? ⟨w.heap.size, 1, none⟩ = some (vi ki m) := (K1.out.at (w.heap.size) [vi ki i, vi ki m, vi ki d, vi ki u] (by simp)).c 1 rfl
 have c1_1_2 : W1.cell? ⟨w.heap.size, 2, none⟩ = some (vi ki d) := (K1.out.at (w.heap.size) [vi ki i, vi ki m, vi ki d, vi ki u] (by simp)).c 2 rfl
 have c1_1_3 : W1.cell? ⟨w.heap.size, 3, none⟩ = some (vi ki u) := (K1.out.at (w.heap.size) [vi ki i, vi ki m, vi ki d, vi ki u] (by simp)).c 3 rfl
 go_wp2_with fail
 refine (Y.out _).mono ?_
 rintro e W2 ⟨rfl, hb⟩
 have K2 : Hid (BS w [(w.heap.size + 1, [vi ki j, vi ki n, vi ki e, vi ki v]), (w.heap.size, [vi ki i, vi ki m, vi ki d, vi ki u])] W2) := K1.out.below hb
 clear c1_0_0 c1_0_1 c1_0_2 c1_0_3 c1_1_0 c1_1_1 c1_1_2 c1_1_3
 clear hb K1
 have c2_0_0 : W2.cell? ⟨w.heap.size + 1, 0, none⟩ = some (vi ki j) := (K2.out.at (w.heap.size + 1) [vi ki j, vi ki n, vi ki e, vi ki v] (by simp)).c 0 rfl
 have c2_0_1 : W2.cell? ⟨w.heap.size + 1, 1, none⟩ = some (vi ki n) := (K2.out.at (w.heap.size + 1) [vi ki j, vi ki n, vi ki e, vi ki v] (by simp)).c 1 rfl
 have c2_0_2 : W2.cell? ⟨w.heap.size + 1, 2, none⟩ = some (vi ki e) := (K2.out.at (w.heap.size + 1) [vi ki j, vi ki n, vi ki e, vi ki v] (by simp)).c 2 rfl
 have c2_0_3 : W2.cell? ⟨w.heap.size + 1, 3, none⟩ = some (vi ki v) := (K2.out.at (w.heap.size + 1) [vi ki j, vi ki n, vi ki e, vi ki v] (by simp)).c 3 rfl
 have c2_1_0 : W2.cell? ⟨w.heap.size, 0, none⟩ = some (vi ki i) := (K2.out.at (w.heap.size) [vi ki i, vi ki m, vi ki d, vi ki u] (by simp)).c 0 rfl
 have c2_1_1 : W2.cell? ⟨w.heap.size, 1, none⟩ = some (vi ki m) := (K2.out.at (w.heap.size) [vi ki i, vi ki m, vi ki d, vi ki u] (by simp)).c 1 rfl
 have c2_1_2 : W2.cell? ⟨w.heap.size, 2, none⟩ = some (vi ki d) := (K2.out.at (w.heap.size) [vi ki i, vi ki m, vi ki d, vi ki u] (by simp)).c 2 rfl
 have c2_1_3 : W2.cell? ⟨w.heap.size, 3, none⟩ = some (vi ki u) := (K2.out.at (w.heap.size) [vi ki i, vi ki m, vi ki d, vi ki u] (by simp)).c 3 rfl
 go_wp2
 go_ret
 exact ⟨rfl, K2.out.1⟩
theorem rpcmp_gt (i m d u j n e v : Int) (h : j < i)
  (X : Hid (∀ w : World, Calls Tryz.prog 43 #[.agg #[vi ki i, vi ki m, vi ki d, vi ki u]] w fun r' w' => r' = zr (.bool true) ∧ Below w.heap.size w w'))
  (Y : Hid (∀ w : World, Calls Tryz.prog 43 #[.agg #[vi ki j, vi ki n, vi ki e, vi ki v]] w fun r' w' => r' = zr (.bool true) ∧ Below w.heap.size w w'))
  (w : World) :
  Calls Tryz.prog 24 #[.agg #[vi ki i, vi ki m, vi ki d, vi ki u], .agg #[vi ki j, vi ki n, vi ki e, vi ki v]] w fun r' w' => r' = zr (vi ki 1) ∧ Below w.heap.size w w' := by
 have h1 : ¬ i < j := by omega
 have K0 := bsn2 w [vi ki i, vi ki m, vi ki d, vi ki u] 38 [vi ki j, vi ki n, vi ki e, vi ki v] 38
 go_enter Tryz.func24, Tryz.ntmps24
 go_wp2_with fail
 refine (X.out _).mono ?_
 rintro e W1 ⟨rfl, hb⟩
 have K1 : Hid (BS w [(w.heap.size + 1, [vi ki j, vi ki n, vi ki e, vi ki v]), (w.heap.size, [vi ki i, vi ki m, vi ki d, vi ki u])] W1) := K0.out.below hb
 clear hb K0
 have c1_0_0 : W1.cell? ⟨w.heap.size + 1, 0, none⟩ = some (vi ki j) := (K1.out.at (w.heap.size + 1) [vi ki j, vi ki n, vi ki e, vi ki v] (by simp)).c 0 rfl
 have c1_0_1 : W1.cell? ⟨w.heap.size + 1, 1, none⟩ = some (vi ki n) := (K1.out.at (w.heap.size + 1) [vi ki j, vi ki n, vi ki e, vi ki v] (by simp)).c 1 rfl
 have c1_0_2 : W1.cell? ⟨w.heap.size + 1, 2, none⟩ = some (vi ki e) := (K1.out.at (w.heap.size + 1) [vi ki j, vi ki n, vi ki e, vi ki v] (by simp)).c 2 rfl
 have c1_0_3 : W1.cell? ⟨w.heap.size + 1, 3, none⟩ = some (vi ki v) := (K1.out.at (w.heap.size + 1) [vi ki j, vi ki n, vi ki e, vi ki v] (by simp)).c 3 rfl
 have c1_1_0 : W1.cell? ⟨w.heap.size, 0, none⟩ = some (vi ki i) := (K1.out.at (w.heap.size) [vi ki i, vi ki m, vi ki d, vi ki u] (by simp)).c 0 rfl
 have c1_1_1 : W1.cell? ⟨w.heap.size, 1, none⟩ = some (vi ki m) := (K1.out.at (w.heap.size) [vi ki i, vi ki m, vi ki d, vi ki u] (by simp)).c 1 rfl
 have c1_1_2 : W1.cell? ⟨w.heap.size, 2, none⟩ = some (vi ki d) := (K1.out.at (w.heap.size) [vi ki i, vi ki m, vi ki d, vi ki u] (by simp)).c 2 rfl
 have c1_1_3 : W1.cell? ⟨w.heap.size, 3, none⟩ = some (vi ki u) := (K1.out.at (w.heap.size) [vi ki i, vi ki m, vi ki d, vi ki u] (by simp)).c 3 rfl
 go_wp2_with fail
 refine (Y.out _).mono ?_
 rintro e W2 ⟨rfl, hb⟩
 have K2 : Hid (BS w [(w.heap.size + 1, [vi ki j, vi ki n, vi ki e, vi ki v]), (w.heap.size, [vi ki i, vi ki m, vi ki d, vi ki u])] W2) := K1.out.below hb
 clear c1_0_0 c1_0_1 c1_0_2 c1_0_3 c1_1_0 c1_1_1 c1_1_2 c1_1_3
 clear hb K1
 have c2_0_0 : W2.cell? ⟨w.heap.size + 1, 0, none⟩ = some (vi ki j) := (K2.out.at (w.heap.size + 1) [vi ki j, vi ki n, vi ki e, vi ki v] (by simp)).c 0 rfl
 have c2_0_1 : W2.cell? ⟨w.heap.size + 1, 1, none⟩ = some (vi ki n) := (K2.out.at (w.heap.size + 1) [vi ki j, vi ki n, vi ki e, vi ki v] (by simp)).c 1 rfl
 have c2_0_2 : W2.cell? ⟨w.heap.size + 1, 2, none⟩ = some (vi ki e) := (K2.out.at (w.heap.size + 1) [vi ki j, vi ki n, vi ki e, vi ki v] (by simp)).c 2 rfl
 have c2_0_3 : W2.cell? ⟨w.heap.size + 1, 3, none⟩ = some (vi ki v) := (K2.out.at (w.heap.size + 1) [vi ki j, vi ki n, vi ki e, vi ki v] (by simp)).c 3 rfl
 have c2_1_0 : W2.cell? ⟨w.heap.size, 0, none⟩ = some (vi ki i) := (K2.out.at (w.heap.size) [vi ki i, vi ki m, vi ki d, vi ki u] (by simp)).c 0 rfl
 have c2_1_1 : W2.cell? ⟨w.heap.size, 1, none⟩ = some (vi ki m) := (K2.out.at (w.heap.size) [vi ki i, vi ki m, vi ki d, vi ki u] (by simp)).c 1 rfl
 have c2_1_2 : W2.cell? ⟨w.heap.size, 2, none⟩ = some (vi ki d) := (K2.out.at (w.heap.size) [vi ki i, vi ki m, vi ki d, vi ki u] (by simp)).c 2 rfl
 have c2_1_3 : W2.cell? ⟨w.heap.size, 3, none⟩ = some (vi ki u) := (K2.out.at (w.heap.size) [vi ki i, vi ki m, vi ki d, vi ki u] (by simp)).c 3 rfl
 go_wp2
 go_ret
 exact ⟨rfl, K2.out.1⟩
theorem rpcmp_eq (i m d u j n e v P Q C r : Int) (h1 : ¬ i < j) (h2 : ¬ j < i)
  (X : Hid (∀ w : World, Calls Tryz.prog 43 #[.agg #[vi ki i, vi ki m, vi ki d, vi ki u]] w fun r' w' => r' = zr (.bool true) ∧ Below w.heap.size w w'))
  (Y : Hid (∀ w : World, Calls Tryz.prog 43 #[.agg #[vi ki j, vi ki n, vi ki e, vi ki v]] w fun r' w' => r' = zr (.bool true) ∧ Below w.heap.size w w'))
  (LA : Hid (∀ (w : World), Calls Tryz.prog 46 #[.agg #[vi ki i, vi ki m, vi ki d, vi ki u]] w fun r' w' => ∃ v', r' = .returned v' ∧ IsW w' v' (P) ∧ Below w.heap.size w w'))
  (LC : Hid (∀ (w : World), Calls Tryz.prog 46 #[.agg #[vi ki j, vi ki n, vi ki e, vi ki v]] w fun r' w' => ∃ v', r' = .returned v' ∧ IsW w' v' (Q) ∧ Below w.heap.size w w'))
  (MI : Hid (∀ (y : Value) (w : World), IsW w y (Q) → Calls Tryz.prog 47 #[y] w fun r' w' => ∃ v', r' = .returned v' ∧ IsW w' v' (-Q) ∧ Below w.heap.size w w'))
  (PL : Hid (∀ (y : Value) (q : Value) (w : World), IsW w y (P) → IsW w q (-Q) → Calls Tryz.prog 45 #[y, q] w fun r' w' => ∃ v', r' = .returned v' ∧ IsW w' v' (C) ∧ Below w.heap.size w w'))
  (SG : Hid (∀ (y : Value) (w : World), IsW w y C → Calls Tryz.prog 44 #[y] w fun r' w' => r' = zr (vi ki r) ∧ Below w.heap.size w w'))
  (w : World) :
  Calls Tryz.prog 24 #[.agg #[vi ki i, vi ki m, vi ki d, vi ki u], .agg #[vi ki j, vi ki n, vi ki e, vi ki v]] w fun r' w' => r' = zr (vi ki r) ∧ Below w.heap.size w w' := by
 have K0 := bsn2 w [vi ki i, vi ki m, vi ki d, vi ki u] 38 [vi ki j, vi ki n, vi ki e, vi ki v] 38
 go_enter Tryz.func24, Tryz.ntmps24
 go_wp2_with fail
 refine (X.out _).mono ?_
 rintro e W1 ⟨rfl, hb⟩
 have K1 : Hid (BS w [(w.heap.size + 1, [vi ki j, vi ki n, vi ki e, vi ki v]), (w.heap.size, [vi ki i, vi ki m, vi ki d, vi ki u])] W1) := K0.out.below hb
 clear hb K0
 have c1_0_0 : W1.cell? ⟨w.heap.size + 1, 0, none⟩ = some (vi ki j) := (K1.out.at (w.heap.size + 1) [vi ki j, vi ki n, vi ki e, vi ki v] (by simp)).c 0 rfl
 have c1_0_1 : W1.cell? ⟨w.heap.size + 1, 1, none⟩ = some (vi ki n) := (K1.out.at (w.heap.size + 1) [vi ki j, vi ki n, vi ki e, vi ki v] (by simp)).c 1 rfl
 have c1_0_2 : W1.cell? ⟨w.heap.size + 1, 2, none⟩ = some (vi ki e) := (K1.out.at (w.heap.size + 1) [vi ki j, vi ki n, vi ki e, vi ki v] (by simp)).c 2 rfl
 have c1_0_3 : W1.cell? ⟨w.heap.size + 1, 3, none⟩ = some (vi ki v) := (K1.out.at (w.heap.size + 1) [vi ki j, vi ki n, vi ki e, vi ki v] (by simp)).c 3 rfl
 have c1_1_0 : W1.cell? ⟨w.heap.size, 0, none⟩ = some (vi ki i) := (K1.out.at (w.heap.size) [vi ki i, vi ki m, vi ki d, vi ki u] (by simp)).c 0 rfl
 have c1_1_1 : W1.cell? ⟨w.heap.size, 1, none⟩ = some (vi ki m) := (K1.out.at (w.heap.size) [vi ki i, vi ki m, vi ki d, vi ki u] (by simp)).c 1 rfl
 have c1_1_2 : W1.cell? ⟨w.heap.size, 2, none⟩ = some (vi ki d) := (K1.out.at (w.heap.size) [vi ki i, vi ki m, vi ki d, vi ki u] (by simp)).c 2 rfl
 have c1_1_3 : W1.cell? ⟨w.heap.size, 3, none⟩ = some (vi ki u) := (K1.out.at (w.heap.size) [vi ki i, vi ki m, vi ki d, vi ki u] (by simp)).c 3 rfl
 go_wp2_with fail
 refine (Y.out _).mono ?_
 rintro e W2 ⟨rfl, hb⟩
 have K2 : Hid (BS w [(w.heap.size + 1, [vi ki j, vi ki n, vi ki e, vi ki v]), (w.heap.size, [vi ki i, vi ki m, vi ki d, vi ki u])] W2) := K1.out.below hb
 clear c1_0_0 c1_0_1 c1_0_2 c1_0_3 c1_1_0 c1_1_1 c1_1_2 c1_1_3
 clear hb K1
 have c2_0_0 : W2.cell? ⟨w.heap.size + 1, 0, none⟩ = some (vi ki j) := (K2.out.at (w.heap.size + 1) [vi ki j, vi ki n, vi ki e, vi ki v] (by simp)).c 0 rfl
 have c2_0_1 : W2.cell? ⟨w.heap.size + 1, 1, none⟩ = some (vi ki n) := (K2.out.at (w.heap.size + 1) [vi ki j, vi ki n, vi ki e, vi ki v] (by simp)).c 1 rfl
 have c2_0_2 : W2.cell? ⟨w.heap.size + 1, 2, none⟩ = some (vi ki e) := (K2.out.at (w.heap.size + 1) [vi ki j, vi ki n, vi ki e, vi ki v] (by simp)).c 2 rfl
 have c2_0_3 : W2.cell? ⟨w.heap.size + 1, 3, none⟩ = some (vi ki v) := (K2.out.at (w.heap.size + 1) [vi ki j, vi ki n, vi ki e, vi ki v] (by simp)).c 3 rfl
 have c2_1_0 : W2.cell? ⟨w.heap.size, 0, none⟩ = some (vi ki i) := (K2.out.at (w.heap.size) [vi ki i, vi ki m, vi ki d, vi ki u] (by simp)).c 0 rfl
 have c2_1_1 : W2.cell? ⟨w.heap.size, 1, none⟩ = some (vi ki m) := (K2.out.at (w.heap.size) [vi ki i, vi ki m, vi ki d, vi ki u] (by simp)).c 1 rfl
 have c2_1_2 : W2.cell? ⟨w.heap.size, 2, none⟩ = some (vi ki d) := (K2.out.at (w.heap.size) [vi ki i, vi ki m, vi ki d, vi ki u] (by simp)).c 2 rfl
 have c2_1_3 : W2.cell? ⟨w.heap.size, 3, none⟩ = some (vi ki u) := (K2.out.at (w.heap.size) [vi ki i, vi ki m, vi ki d, vi ki u] (by simp)).c 3 rfl
 go_wp2_with fail
 clear c2_0_0 c2_0_1 c2_0_2 c2_0_3 c2_1_0 c2_1_1 c2_1_2 c2_1_3
 refine wp_region_held_drew (S := BS w [(w.heap.size + 1, [vi ki j, vi ki n, vi ki e, vi ki v]), (w.heap.size, [vi ki i, vi ki m, vi ki d, vi ki u])]) (by kernel_rfl) K2.out.drew (fun hHeld => ?_)
 refine tk (v := ?_) 0 ⟨some 23, _, _, _, _, none⟩ rfl ?_ ?_
 case refine_2 => (intro w9 hSw; obtain ⟨l0_0, l0_1, l0_2, l0_3⟩ := (hSw.at (w.heap.size + 1) [vi ki j, vi ki n, vi ki e, vi ki v] (by simp)).c4; obtain ⟨l1_0, l1_1, l1_2, l1_3⟩ := (hSw.at (w.heap.size) [vi ki i, vi ki m, vi ki d, vi ki u] (by simp)).c4; clear hSw; go_simp; try with_reducible rfl)
 simp only [za, zb, zc, zd]
 refine tk (v := ?_) 2 ⟨some 25, _, _, _, _, none⟩ rfl ?_ ?_
 case refine_2 => (intro w9 hSw; obtain ⟨l0_0, l0_1, l0_2, l0_3⟩ := (hSw.at (w.heap.size + 1) [vi ki j, vi ki n, vi ki e, vi ki v] (by simp)).c4; obtain ⟨l1_0, l1_1, l1_2, l1_3⟩ := (hSw.at (w.heap.size) [vi ki i, vi ki m, vi ki d, vi ki u] (by simp)).c4; clear hSw; go_simp; try with_reducible rfl)
 simp only [za, zb, zc, zd]
 refine rd 1 ⟨some 24, _, _, _, _, none⟩ rfl (fun K hK => ?_)
 go_simp
 refine (LA.out _).mono ?_
 rintro e v1 ⟨y1, rfl, q1, hb1⟩
 refine hK.out _ _ (hHeld.below hb1) (fun hHeld => ?_)
 have IA : Hid (IsW v1 y1 (P)) := q1
 clear hK K hb1 q1
 refine rd 3 ⟨some 26, _, _, _, _, none⟩ rfl (fun K hK => ?_)
 go_simp
 refine (LC.out _).mono ?_
 rintro e v2 ⟨y2, rfl, q2, hb2⟩
 refine hK.out _ _ (hHeld.below hb2) (fun hHeld => ?_)
 replace IA : Hid (IsW v2 (y1) (P)) := IA.out.below hb2
 have IB : Hid (IsW v2 y2 (Q)) := q2
 clear hK K hb2 q2
 refine rd 4 ⟨some 27, _, _, _, _, none⟩ rfl (fun K hK => ?_)
 go_simp
 refine (MI.out _ _ IB.out).mono ?_
 rintro e v3 ⟨y3, rfl, q3, hb3⟩
 refine hK.out _ _ (hHeld.below hb3) (fun hHeld => ?_)
 replace IA : Hid (IsW v3 (y1) (P)) := IA.out.below hb3
 have IN : Hid (IsW v3 y3 (-Q)) := q3
 clear hK K hb3 q3
 refine rd 5 ⟨some 28, _, _, _, _, none⟩ rfl (fun K hK => ?_)
 go_simp
 refine (PL.out _ _ _ IA.out IN.out).mono ?_
 rintro e v4 ⟨y4, rfl, q4, hb4⟩
 refine hK.out _ _ (hHeld.below hb4) (fun hHeld => ?_)
 have IC : Hid (IsW v4 y4 (C)) := q4
 clear hK K hb4 q4
 refine rd 6 ⟨some 29, _, _, _, _, none⟩ rfl (fun K hK => ?_)
 go_simp
 refine (SG.out _ _ IC.out).mono ?_
 rintro e v5 ⟨rfl, hb5⟩
 refine hK.out _ _ (hHeld.below hb5) (fun hHeld => ?_)
 clear hK K hb5
 refine tks 7 ⟨some 4, _, _, _, _, none⟩ rfl ?_
 simp only [za, zb, zc, zd]
 refine wpAnyH_done (by kernel_rfl) ?_ _
 have HB : Hid (Below w.heap.size w _) := hHeld.1
 clear hHeld
 go_wp2
 go_ret
 exact ⟨rfl, HB.out⟩
theorem rpsign_run (i m d u r : Int)
  (C : Hid (∀ w : World, Calls Tryz.prog 24 #[.agg #[vi ki i, vi ki m, vi ki d, vi ki u], .agg #[vi ki 0, vi ki 0, vi ki 0, vi ki 0]] w fun r' w' => r' = zr (vi ki r) ∧ Below w.heap.size w w'))
  (w : World) :
  Calls Tryz.prog 8 #[.agg #[vi ki i, vi ki m, vi ki d, vi ki u]] w fun r' w' => r' = zr (vi ki r) ∧ Below w.heap.size w w' := by
 have K0 := bsn1 w [vi ki i, vi ki m, vi ki d, vi ki u] 38
 go_enter Tryz.func8, Tryz.ntmps8
 go_wp2_with fail
 refine (C.out _).mono ?_
 rintro e W1 ⟨rfl, hb⟩
 have K1 : Hid (BS w [(w.heap.size, [vi ki i, vi ki m, vi ki d, vi ki u])] W1) := K0.out.below hb
 clear hb K0
 have c1_0_0 : W1.cell? ⟨w.heap.size, 0, none⟩ = some (vi ki i) := (K1.out.at (w.heap.size) [vi ki i, vi ki m, vi ki d, vi ki u] (by simp)).c 0 rfl
 have c1_0_1 : W1.cell? ⟨w.heap.size, 1, none⟩ = some (vi ki m) := (K1.out.at (w.heap.size) [vi ki i, vi ki m, vi ki d, vi ki u] (by simp)).c 1 rfl
 have c1_0_2 : W1.cell? ⟨w.heap.size, 2, none⟩ = some (vi ki d) := (K1.out.at (w.heap.size) [vi ki i, vi ki m, vi ki d, vi ki u] (by simp)).c 2 rfl
 have c1_0_3 : W1.cell? ⟨w.heap.size, 3, none⟩ = some (vi ki u) := (K1.out.at (w.heap.size) [vi ki i, vi ki m, vi ki d, vi ki u] (by simp)).c 3 rfl
 go_wp2
 go_ret
 exact ⟨rfl, K1.out.1⟩
def BC (w : World) (b i : Nat) (v : Value) (W : World) : Prop := Below w.heap.size w W ∧ b < W.heap.size ∧ W.cell? ⟨b, i, none⟩ = some v
theorem BC.below {w W V : World} {b i : Nat} {v : Value} (h : BC w b i v W) (hb : Below W.heap.size W V) : BC w b i v V := ⟨h.1.trans (hb.mono h.1.size), Nat.lt_of_lt_of_le h.2.1 hb.size, (hb.cell (p := ⟨b, i, none⟩) h.2.1).trans h.2.2⟩
theorem BC.drew {w W : World} {b i : Nat} {v : Value} (h : BC w b i v W) : BC w b i v W.drew := ⟨h.1.drew, h.2.1, h.2.2⟩
def lng (m d u : Int) : Int := (m * 30 + d) * 86400000000 + u
theorem lng_lv (m d u : Int) : lng m d u = lvD m d u * 86400000000 + lvU u ∧ 0 ≤ lvU u ∧ lvU u < 86400000000 := by unfold lng lvD lvU; omega
theorem lng_bd {m d u : Int} (m1 : -2147483647 ≤ m) (m2 : m ≤ 2147483647) (d1 : -2147483647 ≤ d) (d2 : d ≤ 2147483647) (u1 : -9223372036854775808 ≤ u) (u2 : u ≤ 9223372036854775807) : (lng m d u).natAbs ≤ 10000000000000000000000 := by unfold lng; omega
theorem or_len {a b c d : Int} (P Q : Int) (hb : 0 ≤ b ∧ b < 86400000000) (hd : 0 ≤ d ∧ d < 86400000000) (hP : P = a * 86400000000 + b) (hQ : Q = c * 86400000000 + d) : orV 0 (sgnC a c) (sgnC b d) = sgnC P Q := by
 rcases Int.lt_trichotomy a c with h | h | h
 ·rw [sgnC_lt h, sgnC_lt (show P < Q by omega)]; rfl
 ·subst h
  rw [sgnC_eq]
  rcases Int.lt_trichotomy b d with k | k | k
  ·rw [sgnC_lt k, sgnC_lt (show P < Q by omega)]; rfl
  ·subst k
   rw [sgnC_eq, show P = Q by omega, sgnC_eq]; rfl
  ·rw [sgnC_gt k, sgnC_gt (show Q < P by omega)]; rfl
 ·rw [sgnC_gt h, sgnC_gt (show Q < P by omega)]; rfl
theorem cm_lt {i m d u j n e v : Int} (h : pR i m d u = true) (k : pR j n e v = true) (hl : i < j) : cmA i m d u j n e v = -1 := by
 unfold cmA; rw [if_pos ⟨h, k⟩, sgnC_lt hl]; rfl
theorem cm_gt {i m d u j n e v : Int} (h : pR i m d u = true) (k : pR j n e v = true) (hl : j < i) : cmA i m d u j n e v = 1 := by
 unfold cmA; rw [if_pos ⟨h, k⟩, sgnC_gt hl]; rfl
theorem cm_eq {i m d u n e v : Int} (h : pR i m d u = true) (k : pR i n e v = true) : cmA i m d u i n e v = sgnC (lng m d u) (lng n e v) := by
 unfold cmA; rw [if_pos ⟨h, k⟩, sgnC_eq]
 exact or_len _ _ (lng_lv m d u).2 (lng_lv n e v).2 (lng_lv m d u).1 (lng_lv n e v).1
theorem sgnC_sub (a b : Int) : sgnC (a + -b) 0 = sgnC a b := by
 rcases Int.lt_trichotomy a b with h | h | h
 ·rw [sgnC_lt h, sgnC_lt (by omega)]
 ·subst h
  rw [sgnC_eq, show a + -a = 0 by omega, sgnC_eq]
 ·rw [sgnC_gt h, sgnC_gt (by omega)]
theorem pR_zero : pR 0 0 0 0 = true := by decide
theorem sg_cm (i m d u : Int) : sgA i m d u = cmA i m d u 0 0 0 0 := by
 cases h : pR i m d u
 ·unfold sgA cmA; rw [h, if_neg (by decide), if_neg (fun k => absurd k.1 (by decide))]
 ·rcases pR_yes h with q | ⟨q, rfl, rfl, rfl⟩
  ·obtain ⟨rfl, _⟩ := q
   unfold sgA cmA
   rw [if_pos h, if_pos rfl, if_pos (show pR 0 m d u = true ∧ pR 0 0 0 0 = true from ⟨h, pR_zero⟩), sgnC_eq, show lvD 0 0 0 = 0 by decide, show lvU 0 = 0 by decide]
   have hu := (lng_lv m d u).2
   rcases Int.lt_trichotomy (lvD m d u) 0 with a | a | a
   ·rw [if_neg (by omega), if_pos a, sgnC_lt a]; rfl
   ·rw [a, sgnC_eq]
    by_cases b : lvU u = 0
    ·rw [if_pos ⟨rfl, b⟩, b, sgnC_eq]; rfl
    ·rw [if_neg (fun k => b k.2), if_neg (by decide), sgnC_gt (by omega)]; rfl
   ·rw [if_neg (by omega), if_neg (by omega), sgnC_gt a]; rfl
  ·rcases q with rfl | rfl
   ·decide
   ·decide
theorem rlong_any (i m d u : Int) (m1 : -2147483647 ≤ m) (m2 : m ≤ 2147483647) (d1 : -2147483647 ≤ d) (d2 : d ≤ 2147483647) (u1 : -9223372036854775808 ≤ u) (u2 : u ≤ 9223372036854775807) (w : World) :
  Calls Tryz.prog 46 #[a4 i m d u] w fun r' w' => ∃ v', r' = .returned v' ∧ IsW w' v' (lng m d u) ∧ Below w.heap.size w w' :=
 rlong_run i m d u (m * 30 + d) ((m * 30 + d) * 86400000000) (lng m d u) m1 m2 d1 d2 rfl (fun w => wof _ (by omega) (by omega) w) (fun w => wof _ (by decide) (by decide) w)
  (fun v q w hv hq => wtimes v q _ _ w hv hq (by omega) (by decide)) (fun w => wof u u1 u2 w)
  (fun v q w hv hq => wplus v q _ _ w hv hq (Nat.lt_of_le_of_lt (show ((m * 30 + d) * 86400000000).natAbs + u.natAbs ≤ 100000000000000000000000 by omega) (by decide))) w
theorem rpcmp_any (i m d u j n e v : Int) (u1 : -9223372036854775808 ≤ u) (u2 : u ≤ 9223372036854775807) (v1 : -9223372036854775808 ≤ v) (v2 : v ≤ 9223372036854775807) (w : World) :
  Calls Tryz.prog 24 #[a4 i m d u, a4 j n e v] w fun r w' => r = zr (vi ki (cmA i m d u j n e v)) ∧ Below w.heap.size w w' := by
 have X := rpright_is i m d u u1 u2
 have Y := rpright_is j n e v v1 v2
 cases h : pR i m d u
 ·rw [show cmA i m d u j n e v = 0 from if_neg (fun k => by rw [h] at k; exact absurd k.1 (by decide))]; exact rpcmp_no1 i m d u j n e v (X false h) w
 ·cases k : pR j n e v
  ·rw [show cmA i m d u j n e v = 0 from if_neg (fun q => by rw [k] at q; exact absurd q.2 (by decide))]; exact rpcmp_no2 i m d u j n e v (X true h) (Y false k) w
  ·rcases Int.lt_trichotomy i j with q | q | q
   ·rw [cm_lt h k q]; exact rpcmp_lt i m d u j n e v q (X true h) (Y true k) w
   ·subst q
    rw [cm_eq h k, ← sgnC_sub]
    have p := pR_yes h
    have q := pR_yes k
    have b1 := lng_bd (m := m) (d := d) (u := u) (by omega) (by omega) (by omega) (by omega) u1 u2
    have b2 := lng_bd (m := n) (d := e) (u := v) (by omega) (by omega) (by omega) (by omega) v1 v2
    exact rpcmp_eq i m d u i n e v (lng m d u) (lng n e v) (lng m d u + -lng n e v) _ (by omega) (by omega) (X true h) (Y true k) (fun w => rlong_any i m d u (by omega) (by omega) (by omega) (by omega) u1 u2 w) (fun w => rlong_any i n e v (by omega) (by omega) (by omega) (by omega) v1 v2 w)
     (fun y w hy => wminus y _ w hy) (fun y q w hy hq => wplus y q _ _ w hy hq (Nat.lt_of_le_of_lt (show (lng m d u).natAbs + (-lng n e v).natAbs ≤ 100000000000000000000000 by omega) (by decide))) (fun y w hy => rsign_any y _ w hy) w
   ·rw [cm_gt h k q]; exact rpcmp_gt i m d u j n e v q (X true h) (Y true k) w
theorem rpsign_any (i m d u : Int) (u1 : -9223372036854775808 ≤ u) (u2 : u ≤ 9223372036854775807) (w : World) :
  Calls Tryz.prog 8 #[a4 i m d u] w fun r w' => r = zr (vi ki (sgA i m d u)) ∧ Below w.heap.size w w' := by
 rw [sg_cm]
 exact rpsign_run i m d u _ (fun w => rpcmp_any i m d u 0 0 0 0 u1 u2 (by decide) (by decide) w) w
end Go.Proofs.YtpdmndlpgjjopaaGreatDoor.Sp
namespace Go.Proofs.YtpdmndlpgjjopaaGreatDoor
open Go.RowKit
set_option maxRecDepth 100000
theorem cell5 : (Tryz.prog.cellTypes Tryz.prog.depth 34).map (fun ts => ts[5 % ts.length]?) = some (some 24) := by kernel_rfl
theorem table_place {w : World} {r : Reach} {b0 : Nat} {t : TbR} {sv : Value} (hv : Value.okWide Tryz.prog w r b0 34 (.agg (tbL t sv).toArray)) : ∀ a n c, sv = .slice (some a) n c → a.block < w.heap.size ∧ a.spot = none := by
 intro a n c hs
 subst hs
 simp only [Value.okWide, Tryz.underlying34] at hv
 obtain ⟨cs, h1, _, ts, hts, _, hc⟩ := hv
 cases h1
 obtain ⟨u, hu, hcell⟩ := hc 5 (.slice (some a) n c) rfl
 have h5 := cell5
 rw [hts] at h5
 simp only [Option.map_some, Option.some.injEq] at h5
 rw [h5] at hu
 cases hu
 simp only [Cell.okWide, Cell.ok, Tryz.underlying24] at hcell
 obtain ⟨_, _, _, h2, row, cells, h3, _⟩ := hcell
 refine ⟨?_, h2⟩
 rcases Nat.lt_or_ge a.block w.heap.size with h | h
 ·exact h
 ·unfold World.shape? at h3
  rw [Array.getElem?_eq_none h] at h3
  cases h3
theorem table_sized {H : Type} {ts : List TypeId} {ds : List (DataW H)} (h : (DataW.weightsEach Tryz.prog ts ds).all (· ≤ reachBytes) = true) {j : Nat} (ht : ts[j]? = some 34) {d : DataW H} (hd : ds[j]? = some d) {e0 e1 e2 e3 : DataW H} (hde : d = .agg [e0, e1, e2, e3]) {L : List TrR} (he : e2 = .nil ∧ L = [] ∨ ∃ es sp, e2 = .slice es sp ∧ es.length = L.length) : L.length * 40 ≤ 140737488355328 := by
 rcases he with ⟨_, rfl⟩ | ⟨es, sp, rfl, hl⟩
 ·simp
 ·subst hde
  have hm := List.all_eq_true.1 h _ (DataW.weights_mem_each ht hd ((es.length + sp.length) * Tryz.prog.bytesOf 23) (by
   simp only [DataW.weights, Tryz.underlying34]
   refine DataW.weights_mem_each (j := 2) (t := 24) (d := .slice es sp) rfl rfl _ ?_
   simp [DataW.weights, Tryz.underlying24]))
  rw [bytes30] at hm
  have := of_decide_eq_true hm
  unfold reachBytes at this
  rw [Nat.add_mul] at this
  omega
open Go.RowKit Sr
structure RoF (N : Int → Int × Int) (bey : Int → Bool) (ld : Int → Int → Bool) (VL : Int → Prop) (k : Nat) (x : Int) (R : List Int) (n : Nat) (z : Int) : Prop where
 len : R.length = n + 1
 short : n < k
 head : R[0]? = some x
 last : R[n]? = some z
 each : ∀ (i : Nat) (y : Int), R[i]? = some y → VL y ∧ bey y = false
 leads : ∀ (i : Nat) (y y' : Int), R[i]? = some y → R[i + 1]? = some y' → ld y y' = true
 ok : (N z).2 = 0
 val : VL (N z).1
 beyond : bey (N z).1 = true
theorem fol_none {N : Int → Int × Int} {bey : Int → Bool} {ld : Int → Int → Bool} : ∀ (k : Nat) (x : Int) (ah : Option Int) (l : List Int), (folF N bey ld k x ah l).2 ≠ 0 → (folF N bey ld k x ah l).1 = []
 | 0, x, ah, l, h => by
  cases hb : bey x
  ·rw [fol_0 hb]
  ·rw [fol_bey hb] at h; exact absurd rfl h
 | k + 1, x, ah, l, h => by
  cases hb : bey x
  ·rw [fol_s hb] at h ⊢
   by_cases ho : okA ld ah x = false
   ·rw [if_pos ho]
   ·rw [if_neg ho] at h ⊢
    by_cases he : (N x).2 ≠ 0
    ·rw [if_pos he]
    ·rw [if_neg he] at h ⊢
     exact fol_none k _ _ _ h
  ·rw [fol_bey hb] at h; exact absurd rfl h
theorem fol_rise {N : Int → Int × Int} {bey : Int → Bool} {ld : Int → Int → Bool} {VL : Int → Prop} (hV : ∀ x, VL x → bey x = false → (N x).2 = 0 → VL (N x).1) : ∀ (k : Nat) (x : Int) (ah : Option Int) (l L : List Int), VL x → folF N bey ld k x ah l = (L, 0) →
  (L = l ∧ bey x = true) ∨ ∃ R n z, L = l ++ R ∧ okA ld ah x = true ∧ RoF N bey ld VL k x R n z
 | 0, x, ah, l, L, hx, h => by
  cases hb : bey x
  ·rw [fol_0 hb] at h; simp at h
  ·rw [fol_bey hb] at h
   exact .inl ⟨((Prod.mk.inj h).1).symm, rfl⟩
 | k + 1, x, ah, l, L, hx, h => by
  cases hb : bey x
  ·rw [fol_s hb] at h
   by_cases ho : okA ld ah x = false
   ·rw [if_pos ho] at h; simp at h
   ·rw [if_neg ho] at h
    by_cases he : (N x).2 ≠ 0
    ·rw [if_pos he] at h; exact absurd (Prod.mk.inj h).2 he
    ·rw [if_neg he] at h
     have h0 : (N x).2 = 0 := by omega
     have hv := hV x hx hb h0
     refine .inr ?_
     rcases fol_rise hV k _ _ _ _ hv h with ⟨e, hy⟩ | ⟨R, n, z, e, ha, H⟩
     ·refine ⟨[x], 0, x, e, by simpa using ho, ⟨rfl, by omega, rfl, rfl, fun i y hi => ?_, fun i y y' h1 h2 => ?_, h0, hv, hy⟩⟩
      ·cases i with
       | zero => simp at hi; subst hi; exact ⟨hx, hb⟩
       | succ i => simp at hi
      ·simp at h2
     ·refine ⟨x :: R, n + 1, z, by rw [e, List.append_assoc]; rfl, by simpa using ho, ⟨by simp [H.len], by have := H.short; omega, rfl, by simpa using H.last, fun i y hi => ?_, fun i y y' h1 h2 => ?_, H.ok, H.val, H.beyond⟩⟩
      ·cases i with
       | zero => simp at hi; subst hi; exact ⟨hx, hb⟩
       | succ i => exact H.each i y (by simpa using hi)
      ·cases i with
       | zero =>
        simp at h1
        subst h1
        have h3 : R[0]? = some y' := by simpa using h2
        rw [H.head] at h3
        cases h3
        exact ha
       | succ i => exact H.leads i y y' (by simpa using h1) (by simpa using h2)
  ·rw [fol_bey hb] at h
   exact .inl ⟨((Prod.mk.inj h).1).symm, rfl⟩
theorem spv_val (i a j b : Int) : Dy.spV i a j b = -1 ∨ Dy.spV i a j b = 0 ∨ Dy.spV i a j b = 1 := by
 unfold Dy.spV Dy.ordV
 split
 ·split
  ·exact .inl rfl
  ·split
   ·exact .inr (.inr rfl)
   ·exact .inr (.inl rfl)
 ·exact .inr (.inl rfl)
theorem sgA_val (M D U : Int) : Sp.sgA 0 M D U = -1 ∨ Sp.sgA 0 M D U = 0 ∨ Sp.sgA 0 M D U = 1 := by
 unfold Sp.sgA
 split
 ·rw [if_pos rfl]
  split
  ·exact .inr (.inl rfl)
  ·split
   ·exact .inl rfl
   ·exact .inr (.inr rfl)
 ·exact .inr (.inl rfl)
theorem pos_of {c d : Int} (hd : d = -1 ∨ d = 1) (h : (c == d) = true) : 0 < IntKind.i64.wrap (c * d) := by
 have : c = d := by simpa using h
 subst this
 rcases hd with rfl | rfl <;> decide
theorem neg_of {c d : Int} (hc : c = -1 ∨ c = 0 ∨ c = 1) (hd : d = -1 ∨ d = 1) (h : (c == d) = false) : IntKind.i64.wrap (c * d) ≤ 0 := by
 have : c ≠ d := by simpa using h
 rcases hc with rfl | rfl | rfl <;> rcases hd with rfl | rfl <;> first | exact absurd rfl this | decide
theorem pick_fn {α β : Type} {P : α → β → Prop} (h : ∀ x, ∃ y, P x y) : ∃ f : α → β, ∀ x, P x (f x) := ⟨fun x => Classical.choose (h x), fun x => Classical.choose_spec (h x)⟩
theorem trow_nil (W : World) : TRow W (.slice none 0 0) [] := ⟨none, 0, rfl, fun j x h => by simp at h⟩
theorem out_bad (Ok : World → Prop) (T : List Value) (hT : T.length = 25) (hOk : ∀ W V : World, Ok W → Below W.heap.size W V → Ok V) (RT : ∀ w : World, Ok w → Calls Tryz.prog 16 #[.agg T.toArray] w fun r' w' => r' = zr (.bool false) ∧ Below w.heap.size w w') (i a j b q M D U m d : Int) : Out T Ok i a j b q M D U m d := by
 have MO : ∀ c, mostB m = c → ∀ w : World, _ := fun c hc w => by have h := most_any m w; rw [hc] at h; exact h
 refine ⟨1, [], fun w hw => ?_, .inl ⟨by decide, rfl⟩⟩
 cases hm : mostB m
 ·exact (tz_no0 Ok T hT i a j b q M D U m (MO _ hm) w (fun W hb => hOk w W hw hb)).mono fun r W h => ⟨_, h.1, h.2, trow_nil W⟩
 ·exact (tz_no1 Ok T hT i a j b q M D U m (MO _ hm) RT w (fun W hb => hOk w W hw hb)).mono fun r W h => ⟨_, h.1, h.2, trow_nil W⟩
theorem out_any {Ok : World → Prop} {T : List Value} (Z : ZF Ok T) (i a j b q M D U m : Int) (a1 : -9223372036854775808 ≤ a) (a2 : a ≤ 9223372036854775807) (b1 : -9223372036854775808 ≤ b) (b2 : b ≤ 9223372036854775807) (u1 : -9223372036854775808 ≤ U) (u2 : U ≤ 9223372036854775807) : Out T Ok i a j b q M D U m (Sp.sgA q M D U) := by
 have MO : ∀ c, mostB m = c → ∀ w : World, _ := fun c hc w => by have h := most_any m w; rw [hc] at h; exact h
 have R1 : ∀ c, Dy.sR i a = c → ∀ w : World, Ok w → _ := fun c hc w hw => by have h := Dy.rst_any i a a1 a2 w (Z.lens w hw); rw [hc] at h; exact h
 have R2 : ∀ c, Dy.sR j b = c → ∀ w : World, Ok w → _ := fun c hc w hw => by have h := Dy.rst_any j b b1 b2 w (Z.lens w hw); rw [hc] at h; exact h
 have R3 : ∀ c, Sp.pR q M D U = c → ∀ w : World, _ := fun c hc w => by have h := Sp.pr_any q M D U u1 u2 w; rw [hc] at h; exact h
 have nl : ∀ (E : Int) (w : World) (r : Ending) (W : World), r = zr (.tuple #[.slice none 0 0, vi ki E]) ∧ Below w.heap.size w W → ∃ v, r = zr (.tuple #[v, vi ki E]) ∧ Below w.heap.size w W ∧ W.ownsRow w.heap.size 36 2 v 0 [] := fun E w r W h => ⟨_, h.1, h.2, World.ownsRow_nil _ _ _ _⟩
 have ln : ∀ (E : Int) (w : World) (r : Ending) (W : World), (∃ v, r = zr (.tuple #[v, vi ki E]) ∧ Below w.heap.size w W ∧ W.ownsRow w.heap.size 36 2 v 0 []) → ∃ v, r = zr (.tuple #[v, vi ki E]) ∧ Below w.heap.size w W ∧ TRow W v [] := fun E w r W ⟨v, h, hb, ho⟩ => ⟨v, h, hb, TRow.of_own (L := []) ho⟩
 cases hm : mostB m
 ·exact ⟨1, [], fun w hw => (tz_no0 Ok T Z.len i a j b q M D U m (MO _ hm) w (fun W hb => Z.below w W hw hb)).mono fun r W h => ⟨_, h.1, h.2, trow_nil W⟩, .inl ⟨by decide, rfl⟩⟩
 have hm2 : 0 ≤ m ∧ m ≤ 1000 := by unfold mostB at hm; simpa using hm
 cases h1 : Dy.sR i a
 ·exact ⟨1, [], fun w hw => (tz_no2 Ok T Z.len i a j b q M D U m (MO _ hm) Z.right (R1 _ h1) w (fun W hb => Z.below w W hw hb)).mono fun r W h => ⟨_, h.1, h.2, trow_nil W⟩, .inl ⟨by decide, rfl⟩⟩
 cases h2 : Dy.sR j b
 ·exact ⟨1, [], fun w hw => (tz_no3 Ok T Z.len i a j b q M D U m (MO _ hm) Z.right (R1 _ h1) (R2 _ h2) w (fun W hb => Z.below w W hw hb)).mono fun r W h => ⟨_, h.1, h.2, trow_nil W⟩, .inl ⟨by decide, rfl⟩⟩
 cases h3 : Sp.pR q M D U
 ·exact ⟨1, [], fun w hw => (tz_no4 Ok T Z.len i a j b q M D U m (MO _ hm) Z.right (R1 _ h1) (R2 _ h2) (R3 _ h3) w (fun W hb => Z.below w W hw hb)).mono fun r W h => ⟨_, h.1, h.2, trow_nil W⟩, .inl ⟨by decide, rfl⟩⟩
 by_cases hi : i = 0
 ·subst hi
  by_cases hq : q = 0
  ·subst hq
   have hu : Dy.dok (a / 86400000000) = true := h1
   have SG := fun w => Sp.psign_any 0 M D U u1 u2 w
   have hdv := sgA_val M D U
   by_cases hs : Sp.sgA 0 M D U = 0
   ·rw [hs] at SG
    exact ⟨11, [], fun w hw => (tz_run Ok T Z.len 0 a j b 0 M D U m 11 0 [] (MO _ hm) Z.right (R1 _ h1) (R2 _ h2) (R3 _ h3) (fun w hw => (fol_zero _ _ a j b M D U m SG w).mono (nl 11 w)) w (fun W hb => Z.below w W hw hb)).mono (ln 11 w), .inl ⟨by decide, rfl⟩⟩
   ·have hd : Sp.sgA 0 M D U = -1 ∨ Sp.sgA 0 M D U = 1 := by omega
    have hmm : m = (m.toNat : Int) := by omega
    have AT : ∀ x : Int, ∃ p : Int × Int, Dy.dok (x / 86400000000) = true → ((p.2 = 0 → Dy.dok (p.1 / 86400000000) = true) ∧ ∀ w : World, Ok w → Calls Tryz.prog 10 #[.agg T.toArray, .agg #[vi ki 0, vi ki x], .agg #[vi ki 0, vi ki M, vi ki D, vi ki U]] w fun r w' => r = zr (.tuple #[.agg #[vi ki 0, vi ki p.1], vi ki p.2]) ∧ Below w.heap.size w w') := fun x => by
     by_cases hx : Dy.dok (x / 86400000000) = true
     ·obtain ⟨V, E, h, k⟩ := zadd Z M D U h3 x hx
      exact ⟨(V, E), fun _ => ⟨h, k⟩⟩
     ·exact ⟨(0, 0), fun h => absurd h hx⟩
    obtain ⟨N, hN⟩ := pick_fn AT
    have TZ := fun w (hw : Ok w) => tz_fol Ok Z.below Z.lens T Z.len Z.right a j b M D U _ m.toNat N (fun x => Dy.dok (x / 86400000000) = true) (by omega) (fun x h => h) hu h2 b1 b2 h3 rfl hs (fun x hx _ w hw => (hN x hx).2 w hw) (fun x hx _ he => (hN x hx).1 he) w hw
    rw [← hmm] at TZ
    have FR := fol_rise (N := N) (bey := beyS j b (Sp.sgA 0 M D U)) (ld := leadS (Sp.sgA 0 M D U)) (VL := fun x => Dy.dok (x / 86400000000) = true) (fun x hx _ he => (hN x hx).1 he) m.toNat a none []
    have FN := fol_none (N := N) (bey := beyS j b (Sp.sgA 0 M D U)) (ld := leadS (Sp.sgA 0 M D U)) m.toNat a none []
    generalize folF N (beyS j b (Sp.sgA 0 M D U)) (leadS (Sp.sgA 0 M D U)) m.toNat a none [] = FF at *
    obtain ⟨L, E⟩ := FF
    refine ⟨E, L, fun w hw => (TZ w hw).mono fun (r : Ending) (W : World) ⟨v, h, hb, ho⟩ => (⟨v, h, hb, TRow.of_own ho⟩ : ∃ v, r = Ending.returned (.tuple #[v, vi ki E]) ∧ Below w.heap.size w W ∧ TRow W v L), ?_⟩
    by_cases hE : E = 0
    ·subst hE
     rcases FR L hu rfl with ⟨e, hy⟩ | ⟨R, n, z, e, _, H⟩
     ·exact .inr (.inl ⟨rfl, e, _, _, rfl, pos_of hd hy, fun w => Dy.rscmp_any 0 a j b a1 a2 b1 b2 w⟩)
     ·rw [List.nil_append] at e
      subst e
      refine .inr (.inr ⟨rfl, rfl, rfl, n, z, (N z).1, ⟨H.len, by have := H.short; omega, H.head, H.last, fun k x hk => ?_, fun k x x' hk hk' => ?_, fun w hw => ?_, ?_⟩⟩)
      ·obtain ⟨p1, p2⟩ := H.each k x hk
       obtain ⟨x1, x2⟩ := dok_bd p1
       exact ⟨_, _, rfl, neg_of (spv_val _ _ _ _) hd p2, fun w => Dy.rscmp_any 0 x j b x1 x2 b1 b2 w⟩
      ·obtain ⟨x1, x2⟩ := dok_bd (H.each k x hk).1
       obtain ⟨y1, y2⟩ := dok_bd (H.each (k + 1) x' hk').1
       exact ⟨_, _, rfl, pos_of hd (H.leads k x x' hk hk'), fun w => Dy.rscmp_any 0 x' 0 x y1 y2 x1 x2 w⟩
      ·have h := (hN z (H.each n z H.last).1).2 w hw
       rw [H.ok] at h
       exact h
      ·obtain ⟨y1, y2⟩ := dok_bd H.val
       exact ⟨_, _, rfl, pos_of hd H.beyond, fun w => Dy.rscmp_any 0 (N z).1 j b y1 y2 b1 b2 w⟩
    ·exact .inl ⟨hE, FN hE⟩
  ·exact ⟨10, [], fun w hw => (tz_run Ok T Z.len 0 a j b q M D U m 10 0 [] (MO _ hm) Z.right (R1 _ h1) (R2 _ h2) (R3 _ h3) (fun w hw => (fol_inf2 _ _ 0 a j b q M D U m hq w).mono (nl 10 w)) w (fun W hb => Z.below w W hw hb)).mono (ln 10 w), .inl ⟨by decide, rfl⟩⟩
 ·exact ⟨10, [], fun w hw => (tz_run Ok T Z.len i a j b q M D U m 10 0 [] (MO _ hm) Z.right (R1 _ h1) (R2 _ h2) (R3 _ h3) (fun w hw => (fol_inf1 _ _ i a j b q M D U m hi w).mono (nl 10 w)) w (fun W hb => Z.below w W hw hb)).mono (ln 10 w), .inl ⟨by decide, rfl⟩⟩
theorem gv_any (t : TbR) (sv : Value) (f1 : -9223372036854775808 ≤ t.foot.fr) (f2 : t.foot.fr ≤ 9223372036854775807) (h40 : t.trs.length * 40 ≤ 140737488355328) (i a j b q M D U m : Int) (a1 : -9223372036854775808 ≤ a) (a2 : a ≤ 9223372036854775807) (b1 : -9223372036854775808 ≤ b) (b2 : b ≤ 9223372036854775807) (u1 : -9223372036854775808 ≤ U) (u2 : U ≤ 9223372036854775807)
  (w : World) (HL : Cvl.Lens w) (HT : Clk.Tab w) (HA : TransA w sv t.trs) (hg : ∀ a n c, sv = .slice (some a) n c → a.block < w.heap.size ∧ a.spot = none) :
  Calls Tryz.prog 5 #[.agg (tbL t sv).toArray] w fun e w' => ∃ (T : List Value) (Ok : World → Prop), e = zr (.agg T.toArray) ∧ T.length = 25 ∧ T.toArray.all (·.oneCell') = true ∧ Ok w' ∧ (∀ A B : World, Ok A → Below A.heap.size A B → Ok B) ∧ (∀ A : World, Ok A → Ok A.drew) ∧ Below w.heap.size w w' ∧ Out T Ok i a j b q M D U m (Sp.sgA q M D U) := by
 refine (given_any17 t sv w HA h40 hg).mono ?_
 rintro e W ⟨sv', rfl, hT, hb, hcap⟩
 obtain ⟨⟨ao, c, rfl⟩, hlen, _⟩ := id hT
 have HL' : Cvl.Lens W := (Dy.lens_of HL).out W hb
 have HT' : Clk.Tab W := HT.below hb
 obtain ⟨bb, hR, RT⟩ := right_any t (.slice ao t.trs.length c) f1 f2
 refine ⟨tbL t (.slice ao t.trs.length c), OkF (.slice ao t.trs.length c) t.trs, rfl, by simp [tbL, trC, Fn.fL], one_tf t.nm t.first ao _ c t.foot, ⟨⟨hT, HL'⟩, HT'⟩, fun A B h k => h.below k, fun A h => h.below ((Below.refl _ _).drew), hb, ?_⟩
 cases bb
 ·exact out_bad _ _ (by simp [tbL, trC, Fn.fL]) (fun A B h k => h.below k) (fun w hw => RT w hw.1.2 hw.2 hw.1.1) i a j b q M D U m _
 ·exact out_any (zf_any t ao _ c (hcap _ _ _ rfl) rfl hR RT) i a j b q M D U m a1 a2 b1 b2 u1 u2
end Go.Proofs.YtpdmndlpgjjopaaGreatDoor
