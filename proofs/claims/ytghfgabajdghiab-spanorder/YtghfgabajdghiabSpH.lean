/- The reference's sign of a number, length of an interval. -/
import Derived.Test.YtghfgabajdghiabSpF
import Derived.Test.YtghfgabajdghiabWideV
import Derived.Deep.Cut
import Derived.Deep.CutRange
import Derived.Deep.DeepCutAuto
namespace Go.Proofs.Ytghfgabajdghiab
open Go.RowKit
set_option linter.unusedVariables false

theorem dg_all {n : Nat} (hn : n < 4294967296 ^ 6) (h : ∀ j, j < 6 → Wd.dg n j = 0) : n = 0 := by
  have up : ∀ k, k < 6 → n / 4294967296 ^ (k + 1) = 0 → n / 4294967296 ^ k = 0 := fun k hk e => by
    have a := h k hk
    unfold Wd.dg at a
    have b := Nat.div_add_mod (n / 4294967296 ^ k) 4294967296
    rw [Nat.div_div_eq_div_mul, ← Nat.pow_succ, e, a] at b
    omega
  have e6 : n / 4294967296 ^ 6 = 0 := Nat.div_eq_of_lt hn
  have e0 := up 0 (by decide) (up 1 (by decide) (up 2 (by decide) (up 3 (by decide) (up 4 (by decide) (up 5 (by decide) e6)))))
  simpa using e0
theorem dg_of {n k : Nat} (h : Wd.dg n k ≠ 0) : n ≠ 0 := fun e => h (by rw [e]; exact Wd.dg_zero k)

set_option maxRecDepth 100000 in
set_option maxHeartbeats 4000000 in
theorem rsign_any (v : Value) (x : Int) (w : World) (h : IsW w v x) :
    Calls Try.prog 41 #[v] w fun r w' => r = .returned (.int .i64 (sgnC x 0)) ∧ Below w.heap.size w w' := by
  obtain ⟨b, rfl, hr⟩ := h
  by_cases hx : x < 0
  · rw [decide_eq_true hx, sgnC_lt hx]
    have HB : Hid (Below w.heap.size w (w.alloc (.cells #[.bool true, .slice (some ⟨b, 0, none⟩) 6 6] 52))) := (Below.refl _ _).alloc (Nat.le_refl _) _
    go_enter Try.func41, Try.ntmps41
    go_wp2
    go_ret
    exact ⟨rfl, HB.out⟩
  · rw [decide_eq_false hx]
    have HK : Hid (BS w [(w.heap.size, [.bool false, .slice (some ⟨b, 0, none⟩) 6 6])] (w.alloc (.cells #[.bool false, .slice (some ⟨b, 0, none⟩) 6 6] 52)) ∧ Row (w.alloc (.cells #[.bool false, .slice (some ⟨b, 0, none⟩) 6 6] 52)) b x.natAbs) := ⟨(BS.start w).new _ _ rfl, hr.alloc _⟩
    have HN : Hid (x.natAbs = 0 → sgnC x 0 = 0) := fun e => by rw [show x = 0 by omega]; rfl
    have HP : Hid (x.natAbs ≠ 0 → sgnC x 0 = 1) := fun e => sgnC_gt (by omega)
    clear hr
    generalize x.natAbs = n at *
    generalize sgnC x 0 = G at *
    go_enter Try.func41, Try.ntmps41
    go_upto_region 1 with fail
    refine gen_to (fun W => BS w [(w.heap.size, [.bool false, .slice (some ⟨b, 0, none⟩) 6 6])] W ∧ Row W b n) HK.out ?_
    clear HK
    rintro W ⟨K1, R1⟩
    have c0 : W.cell? ⟨w.heap.size, 0, none⟩ = some (.bool false) := K1.first.c 0 rfl
    have c1 : W.cell? ⟨w.heap.size, 1, none⟩ = some (.slice (some ⟨b, 0, none⟩) 6 6) := K1.first.c 1 rfl
    have HB : Hid (Below w.heap.size w W) := K1.1
    clear K1
    go_wp2_with fail
    go_loopw [3] (fun i wr => ∃ k : Nat, k ≤ 6 ∧ i = .int .i64 (k : Int) ∧ wr = W ∧ ∀ j, j < k → Wd.dg n j = 0) (fun i _ => 6 - (intOf i).toNat)
    case atStart => exact ⟨0, Nat.zero_le _, rfl, rfl, fun j hj => absurd hj (Nat.not_lt_zero _)⟩
    case round =>
      obtain ⟨k, hk, rfl, rfl, hz⟩ := hrel
      by_cases hlt : k < 6
      · have hc := R1.2.2 k hlt
        by_cases hd : Wd.dg n k = 0
        · rw [hd] at hc
          have hz' : Hid (∀ j, j < k + 1 → Wd.dg n j = 0) := fun j hj => by
            by_cases e : j = k
            · rw [e]; exact hd
            · exact hz j (by omega)
          clear hz hd HN HP
          go_wp2_with fail
          exact ⟨⟨k + 1, by omega, by simp, by first | rfl | trivial, hz'.out⟩, by simp [intOf]; omega⟩
        · have hG : G = 1 := HP.out (dg_of hd)
          subst hG
          obtain ⟨q, hq⟩ : ∃ q, q = Wd.dg n k := ⟨_, rfl⟩
          rw [← hq] at hc hd
          have e1 : ((q : Int) != 0) = true := by simpa using hd
          clear hz HN HP hq
          go_wp2_with fail
          go_ret
          exact ⟨rfl, HB.out⟩
      · have e : k = 6 := by omega
        subst e
        have hG : G = 0 := HN.out (dg_all R1.1 hz)
        subst hG
        clear hz HN HP
        go_wp2_with fail
        go_ret
        exact ⟨rfl, HB.out⟩
theorem Row.set_other {W : World} {b n c : Nat} (h : Row W b n) (hx : W.cell? ⟨c, 0, none⟩ = some (.bool false)) (vs : List Value) : Row (W.setCells c 0 vs) b n := by
  have hne : b ≠ c := fun e => by
    have := h.2.2 0 (by decide)
    rw [e, hx] at this
    exact absurd this (by simp)
  exact ⟨h.1, by rw [setCells_size]; exact h.2.1, fun i hi => by rw [setCells_off c vs _ _ _ hne]; exact h.2.2 i hi⟩
theorem IsW.set_other {W : World} {v : Value} {x : Int} {c : Nat} (h : IsW W v x) (hx : W.cell? ⟨c, 0, none⟩ = some (.bool false)) (vs : List Value) : IsW (W.setCells c 0 vs) v x := by
  obtain ⟨b, hv, hr⟩ := h
  exact ⟨b, hv, hr.set_other hx vs⟩

abbrev wV (x : Int) (b : Nat) : Value := .agg #[.bool (decide (x < 0)), .slice (some ⟨b, 0, none⟩) 6 6]
theorem IsW_drew {W : World} {v : Value} {x : Int} (h : IsW W v x) : IsW W.drew v x := by
  obtain ⟨b, hv, hr⟩ := h
  exact ⟨b, hv, hr⟩

set_option maxRecDepth 100000 in
set_option maxHeartbeats 4000000 in
theorem rlong_run (i m d u A P L : Int) (m1 : -2147483647 ≤ m) (m2 : m ≤ 2147483647) (d1 : -2147483647 ≤ d) (d2 : d ≤ 2147483647) (hA : m * 30 + d = A)
    (O1 : Hid (∀ (w : World), Calls Try.prog 49 #[.int .i64 A] w fun r' w' => ∃ v', r' = .returned v' ∧ IsW w' v' (A) ∧ Below w.heap.size w w'))
    (O2 : Hid (∀ (w : World), Calls Try.prog 49 #[.int .i64 86400000000] w fun r' w' => ∃ v', r' = .returned v' ∧ IsW w' v' (86400000000) ∧ Below w.heap.size w w'))
    (TI : Hid (∀ (v : Value) (q : Value) (w : World), IsW w v (A) → IsW w q (86400000000) → Calls Try.prog 52 #[v, q] w fun r' w' => ∃ v', r' = .returned v' ∧ IsW w' v' (P) ∧ Below w.heap.size w w'))
    (O3 : Hid (∀ (w : World), Calls Try.prog 49 #[.int .i64 u] w fun r' w' => ∃ v', r' = .returned v' ∧ IsW w' v' (u) ∧ Below w.heap.size w w'))
    (PL : Hid (∀ (v : Value) (q : Value) (w : World), IsW w v (P) → IsW w q (u) → Calls Try.prog 42 #[v, q] w fun r' w' => ∃ v', r' = .returned v' ∧ IsW w' v' (L) ∧ Below w.heap.size w w'))
    (w : World) :
    Calls Try.prog 43 #[.agg #[.int .i64 i, .int .i64 m, .int .i64 d, .int .i64 u]] w fun r' w' => ∃ v', r' = .returned v' ∧ IsW w' v' L ∧ Below w.heap.size w w' := by
  have w1 : IntKind.i64.wrap (m * 30) = m * 30 := by rw [IntKind.wrap_i64]; omega
  have w2 : IntKind.i64.wrap (m * 30 + d) = A := by rw [IntKind.wrap_i64]; omega
  have K0 : Hid (BS w [(w.heap.size + 1, [.bool false, .slice none 0 0]), (w.heap.size, [.int .i64 i, .int .i64 m, .int .i64 d, .int .i64 u])] ((w.alloc (.cells #[.int .i64 i, .int .i64 m, .int .i64 d, .int .i64 u] 23)).alloc (.cells #[.bool false, .slice none 0 0] 52))) := (((BS.start w).new [.int .i64 i, .int .i64 m, .int .i64 d, .int .i64 u] 23 rfl).new [.bool false, .slice none 0 0] 52 (by simp))
  go_enter Try.func43, Try.ntmps43
  go_wp2_with fail
  refine (O1.out _).mono ?_
  rintro e W1 ⟨v, rfl, ⟨b1, rfl, r1⟩, hb⟩
  have HK : Hid (BS w [(W1.heap.size, [.bool (decide (A < 0)), .slice (some ⟨b1, 0, none⟩) 6 6]), (w.heap.size + 1, [.bool false, .slice none 0 0]), (w.heap.size, [.int .i64 i, .int .i64 m, .int .i64 d, .int .i64 u])] (W1.alloc (.cells #[.bool (decide (A < 0)), .slice (some ⟨b1, 0, none⟩) 6 6] 52)) ∧ Row (W1.alloc (.cells #[.bool (decide (A < 0)), .slice (some ⟨b1, 0, none⟩) 6 6] 52)) b1 A.natAbs) := ⟨(K0.out.below hb).new _ _ rfl, r1.alloc _⟩
  go_upto_region 2 with fail
  refine gen_to (fun W => BS w [(W1.heap.size, [.bool (decide (A < 0)), .slice (some ⟨b1, 0, none⟩) 6 6]), (w.heap.size + 1, [.bool false, .slice none 0 0]), (w.heap.size, [.int .i64 i, .int .i64 m, .int .i64 d, .int .i64 u])] W ∧ Row W b1 A.natAbs) HK.out ?_
  obtain ⟨B3, hB3⟩ : ∃ B3, B3 = W1.heap.size := ⟨_, rfl⟩
  rw [← hB3]
  clear HK r1 hb hB3
  rintro W ⟨K1, R1⟩
  have KK : Hid (BS w [(w.heap.size + 1, [.bool false, .slice none 0 0]), (B3, [.bool (decide (A < 0)), .slice (some ⟨b1, 0, none⟩) 6 6]), (w.heap.size, [.int .i64 i, .int .i64 m, .int .i64 d, .int .i64 u])] W) := K1.swap
  have IA : Hid (IsW W (.agg #[.bool (decide (A < 0)), .slice (some ⟨b1, 0, none⟩) 6 6]) A) := ⟨b1, rfl, R1⟩
  clear K1 R1 K0
  go_wp2_with fail
  have HD : Hid (B3 ≠ w.heap.size + 1) := fun e => by
    have a := KK.out.first.c 0 rfl
    have b := (KK.out.at B3 [.bool (decide (A < 0)), .slice (some ⟨b1, 0, none⟩) 6 6] (by simp)).c 1 rfl
    have c := KK.out.first.c 1 rfl
    rw [e, c] at b
    exact absurd b (by simp)
  refine wp_region_held_drew (S := BS w [(B3, [.bool (decide (A < 0)), .slice (some ⟨b1, 0, none⟩) 6 6]), (w.heap.size, [.int .i64 i, .int .i64 m, .int .i64 d, .int .i64 u])]) (by kernel_rfl) KK.out.tail.drew (fun hHeld => ?_)
  refine wpAnyH_take (i := 0) (v := ?_) (oi := { dst := some 11, op := _, type := _, pos := _, after := _, guard := none }) rfl (by kernel_rfl) (by kernel_rfl) (by kernel_rfl) (fun _ _ _ h => h) (Or.inl ⟨by kernel_rfl, ?_⟩) (by assumption) ?_
  case refine_2 => (intro w9 hSw; have l0 := (hSw.at B3 [.bool (decide (A < 0)), .slice (some ⟨b1, 0, none⟩) 6 6] (by simp)).c 0 rfl; have l1 := (hSw.at B3 [.bool (decide (A < 0)), .slice (some ⟨b1, 0, none⟩) 6 6] (by simp)).c 1 rfl; have l3 := (hSw.at (w.heap.size) [.int .i64 i, .int .i64 m, .int .i64 d, .int .i64 u] (by simp)).c 3 rfl; clear hSw; go_simp; try with_reducible rfl)
  simp only [Act.put, List.setIfInBounds_toArray, List.set_cons_zero, List.set_cons_succ]
  refine wpAnyH_take (i := 3) (v := ?_) (oi := { dst := some 14, op := _, type := _, pos := _, after := _, guard := none }) rfl (by kernel_rfl) (by kernel_rfl) (by kernel_rfl) (fun _ _ _ h => h) (Or.inl ⟨by kernel_rfl, ?_⟩) (by assumption) ?_
  case refine_2 => (intro w9 hSw; clear hSw; go_simp; try with_reducible rfl)
  simp only [Act.put, List.setIfInBounds_toArray, List.set_cons_zero, List.set_cons_succ]
  refine wpAnyH_take (i := 4) (v := ?_) (oi := { dst := some 15, op := _, type := _, pos := _, after := _, guard := none }) rfl (by kernel_rfl) (by kernel_rfl) (by kernel_rfl) (fun _ _ _ h => h) (Or.inl ⟨by kernel_rfl, ?_⟩) (by assumption) ?_
  case refine_2 => (intro w9 hSw; have l0 := (hSw.at B3 [.bool (decide (A < 0)), .slice (some ⟨b1, 0, none⟩) 6 6] (by simp)).c 0 rfl; have l1 := (hSw.at B3 [.bool (decide (A < 0)), .slice (some ⟨b1, 0, none⟩) 6 6] (by simp)).c 1 rfl; have l3 := (hSw.at (w.heap.size) [.int .i64 i, .int .i64 m, .int .i64 d, .int .i64 u] (by simp)).c 3 rfl; clear hSw; go_simp; try with_reducible rfl)
  simp only [Act.put, List.setIfInBounds_toArray, List.set_cons_zero, List.set_cons_succ]
  refine wpAnyH_ready (rs := [1]) (by kernel_rfl) (by simp) (AllReadyH.cons (o := { dst := some 12, op := _, type := _, pos := _, after := _, guard := none }) rfl (fun K hK => ?_) AllReadyH.nil)
  go_simp
  refine (O2.out _).mono ?_
  rintro e v1 ⟨y1, rfl, q1, hb1⟩
  refine hK.out _ _ (hHeld.below hb1) (fun hHeld => ?_)
  replace KK : Hid (BS w [(w.heap.size + 1, [.bool false, .slice none 0 0]), (B3, [.bool (decide (A < 0)), .slice (some ⟨b1, 0, none⟩) 6 6]), (w.heap.size, [.int .i64 i, .int .i64 m, .int .i64 d, .int .i64 u])] v1) := by first | exact KK.out.below hb1 | exact KK.out.drew.below hb1
  replace IA : Hid (IsW v1 (wV A b1) (A)) := by first | exact IA.out.below hb1 | exact (IsW_drew IA.out).below hb1
  have IB : Hid (IsW v1 y1 (86400000000)) := q1
  clear hK K hb1 q1
  refine wpAnyH_ready (rs := [2]) (by kernel_rfl) (by simp) (AllReadyH.cons (o := { dst := some 13, op := _, type := _, pos := _, after := _, guard := none }) rfl (fun K hK => ?_) AllReadyH.nil)
  go_simp
  refine (TI.out _ _ _ IA.out IB.out).mono ?_
  rintro e v2 ⟨y2, rfl, q2, hb2⟩
  refine hK.out _ _ (hHeld.below hb2) (fun hHeld => ?_)
  replace KK : Hid (BS w [(w.heap.size + 1, [.bool false, .slice none 0 0]), (B3, [.bool (decide (A < 0)), .slice (some ⟨b1, 0, none⟩) 6 6]), (w.heap.size, [.int .i64 i, .int .i64 m, .int .i64 d, .int .i64 u])] v2) := by first | exact KK.out.below hb2 | exact KK.out.drew.below hb2
  have IC : Hid (IsW v2 y2 (P)) := q2
  clear hK K hb2 q2
  refine wpAnyH_ready (rs := [5]) (by kernel_rfl) (by simp) (AllReadyH.cons (o := { dst := some 16, op := _, type := _, pos := _, after := _, guard := none }) rfl (fun K hK => ?_) AllReadyH.nil)
  go_simp
  refine (O3.out _).mono ?_
  rintro e v3 ⟨y3, rfl, q3, hb3⟩
  refine hK.out _ _ (hHeld.below hb3) (fun hHeld => ?_)
  replace KK : Hid (BS w [(w.heap.size + 1, [.bool false, .slice none 0 0]), (B3, [.bool (decide (A < 0)), .slice (some ⟨b1, 0, none⟩) 6 6]), (w.heap.size, [.int .i64 i, .int .i64 m, .int .i64 d, .int .i64 u])] v3) := by first | exact KK.out.below hb3 | exact KK.out.drew.below hb3
  replace IC : Hid (IsW v3 (y2) (P)) := by first | exact IC.out.below hb3 | exact (IsW_drew IC.out).below hb3
  have ID : Hid (IsW v3 y3 (u)) := q3
  clear hK K hb3 q3
  refine wpAnyH_ready (rs := [6]) (by kernel_rfl) (by simp) (AllReadyH.cons (o := { dst := some 17, op := _, type := _, pos := _, after := _, guard := none }) rfl (fun K hK => ?_) AllReadyH.nil)
  go_simp
  refine (PL.out _ _ _ IC.out ID.out).mono ?_
  rintro e v4 ⟨y4, rfl, q4, hb4⟩
  refine hK.out _ _ (hHeld.below hb4) (fun hHeld => ?_)
  replace KK : Hid (BS w [(w.heap.size + 1, [.bool false, .slice none 0 0]), (B3, [.bool (decide (A < 0)), .slice (some ⟨b1, 0, none⟩) 6 6]), (w.heap.size, [.int .i64 i, .int .i64 m, .int .i64 d, .int .i64 u])] v4) := by first | exact KK.out.below hb4 | exact KK.out.drew.below hb4
  have IE : Hid (IsW v4 y4 (L)) := q4
  clear hK K hb4 q4
  refine wpAnyH_ready (rs := [7]) (by kernel_rfl) (by simp) (AllReadyH.cons (o := { dst := none, op := _, type := _, pos := _, after := _, guard := none }) rfl (fun K hK => ?_) AllReadyH.nil)
  obtain ⟨bz, hz, rz⟩ := IE.out
  subst hz
  have l_0 := KK.out.first.c 0 rfl
  have l_1 := KK.out.first.c 1 rfl
  have z_0 := KK.out.first.f 0 rfl
  have z_1 := KK.out.first.f 1 rfl
  go_simp
  have KN := KK.out.set [.bool (decide (L < 0)), .slice (some ⟨bz, 0, none⟩) 6 6] rfl (by intro x hx; simp only [List.mem_cons, List.not_mem_nil, or_false] at hx; rcases hx with rfl | rfl; exact HD.out; simp)
  have RN := rz.set_other l_0 [.bool (decide (L < 0)), .slice (some ⟨bz, 0, none⟩) 6 6]
  refine hK.out _ _ KN.tail (fun hHeld => ?_)
  clear hK K
  refine wpAnyH_done (by kernel_rfl) ?_ _
  have XF := KN.first
  have y0 := XF.c 0 rfl
  have y1 := XF.c 1 rfl
  simp only [World.setCells, Nat.zero_add] at y0 y1
  have HB : Hid (Below w.heap.size w _) := KN.1
  have HR : Hid (Row _ bz L.natAbs) := RN
  clear KN RN XF hHeld KK IE rz l_0 l_1 z_0 z_1
  go_wp2
  exact bodyPost_ret (v := .agg #[.bool (decide (L < 0)), .slice (some ⟨bz, 0, none⟩) 6 6]) (by simp [results, Try.results43, go_sem, y0, y1]) rfl ⟨_, rfl, ⟨bz, rfl, HR.out⟩, HB.out⟩


end Go.Proofs.Ytghfgabajdghiab
