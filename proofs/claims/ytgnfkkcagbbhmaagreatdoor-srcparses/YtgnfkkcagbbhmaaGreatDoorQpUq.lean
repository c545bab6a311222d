/- Contract: the reference's until (the end of an era) of any fields. -/
import Derived.Test.YtgnfkkcagbbhmaaGreatDoorQrWq
import Derived.Deep.DeepCutAuto
namespace Go.Proofs.YtgnfkkcagbbhmaaGreatDoor
open Go.RowKit Lin Sr
set_option linter.unusedVariables false

set_option maxRecDepth 100000 in
set_option maxHeartbeats 4000000 in
theorem until_run (k c : Nat) (hk : 1 ≤ k) (hc : k ≤ c) (x0 x1 x2 x3 : ByteArray) (Y M oa ob oc ta tz E E2 : Int) (g o : Nat) (w : World) (hg : g < w.heap.size)
    (f0 : Hid (w.cell? ⟨g, o, none⟩ = some (.string x0))) (f1 : Hid (1 < k → w.cell? ⟨g, o + 1, none⟩ = some (.string x1))) (f2 : Hid (2 < k → w.cell? ⟨g, o + 2, none⟩ = some (.string x2))) (f3 : Hid (3 < k → w.cell? ⟨g, o + 3, none⟩ = some (.string x3)))
    (YR : Hid (∀ w : World, Calls Tryz.prog 86 #[.string x0] w fun e w' => e = .returned (.int .i64 Y) ∧ Below w.heap.size w w'))
    (MO : Hid (∀ w : World, Calls Tryz.prog 87 #[.string x1] w fun e w' => e = .returned (.int .i64 M) ∧ Below w.heap.size w w'))
    (ON : Hid (∀ w : World, Calls Tryz.prog 88 #[.string x2] w fun e w' => e = .returned (.tuple #[.agg #[.int .i64 oa, .int .i64 ob, .int .i64 oc], .int .i64 E]) ∧ Below w.heap.size w w'))
    (AT : Hid (∀ w : World, Calls Tryz.prog 89 #[.string x3] w fun e w' => e = .returned (.tuple #[.agg #[.int .i64 ta, .int .u8 tz], .int .i64 E2]) ∧ Below w.heap.size w w'))
    (d1 : Hid (¬ 1 < k → M = 1)) (d2 : Hid (¬ 2 < k → oa = 0 ∧ ob = 0 ∧ oc = 1 ∧ E = 0)) (d3 : Hid (¬ 3 < k → ta = 0 ∧ tz = 119 ∧ E2 = 0)) :
    Calls Tryz.prog 115 #[.slice (some ⟨g, o, none⟩) k c] w fun e w' => e = .returned (.tuple #[.agg #[.int .i64 Y, .int .i64 M, .int .i64 oa, .int .i64 ob, .int .i64 oc, .int .i64 ta, .int .u8 tz], .bool (decide (0 < Y) && decide (k ≤ 4) && decide (0 < M) && decide (E = 0) && decide (E2 = 0))]) ∧ Below w.heap.size w w' := by
  obtain ⟨b1, hb1⟩ : ∃ b1, (decide (0 < Y) && decide (k ≤ 4)) = b1 := ⟨_, rfl⟩
  obtain ⟨b2, hb2⟩ : ∃ b2, (b1 && decide (0 < M)) = b2 := ⟨_, rfl⟩
  obtain ⟨b3, hb3⟩ : ∃ b3, (b2 && decide (E = 0)) = b3 := ⟨_, rfl⟩
  obtain ⟨b4, hb4⟩ : ∃ b4, (b3 && decide (E2 = 0)) = b4 := ⟨_, rfl⟩
  rw [hb1, hb2, hb3, hb4]
  have B1 : Hid _ := hb1
  have B2 : Hid _ := hb2
  have B3 : Hid _ := hb3
  have B4 : Hid _ := hb4
  clear hb1 hb2 hb3 hb4
  have k0 : (0 : Int) < (k : Int) := by omega
  have kz : ((k : Int) == 0) = false := by simp; omega
  obtain ⟨r, hr⟩ : ∃ r, r = w.heap.size := ⟨_, rfl⟩
  have K0 : Hid (BS w [(r, [.int .i64 0, .int .i64 0, .int .i64 0, .int .i64 0, .int .i64 0, .int .i64 0, .int .u8 0])] (w.alloc (.cells #[.int .i64 0, .int .i64 0, .int .i64 0, .int .i64 0, .int .i64 0, .int .i64 0, .int .u8 0] 76))) := (BS.start w).new [.int .i64 0, .int .i64 0, .int .i64 0, .int .i64 0, .int .i64 0, .int .i64 0, .int .u8 0] _ hr.symm
  go_enter Tryz.func115, Tryz.ntmps115
  go_upto_region 3 with fail
  rw [← hr]
  refine gen_to (BS w [(r, [.int .i64 0, .int .i64 0, .int .i64 0, .int .i64 0, .int .i64 0, .int .i64 0, .int .u8 0])]) K0.out ?_
  intro W1 K1'
  have K1 : Hid (BS w [(r, [.int .i64 0, .int .i64 0, .int .i64 0, .int .i64 0, .int .i64 0, .int .i64 0, .int .u8 0])] W1) := K1'
  clear K1' K0
  have hwr : w.heap.size ≤ r := by omega
  clear hr
  have f0_1 : W1.cell? ⟨g, o, none⟩ = some (.string x0) := (K1.out.1.cell (p := ⟨g, o, none⟩) hg).trans f0.out
  go_wp2_with fail
  refine (YR.out _).mono ?_
  rintro e W2 ⟨rfl, hb⟩
  have K2 : Hid (BS w [(r, [.int .i64 0, .int .i64 0, .int .i64 0, .int .i64 0, .int .i64 0, .int .i64 0, .int .u8 0])] W2) := K1.out.below hb
  clear f0_1 hb K1 YR
  obtain ⟨u, hu⟩ : ∃ u, u = W2.heap.size := ⟨_, rfl⟩
  have hru : r < u := by have := (K2.out.at r [.int .i64 0, .int .i64 0, .int .i64 0, .int .i64 0, .int .i64 0, .int .i64 0, .int .u8 0] (by simp)).1; omega
  have K3 : Hid (BS w [(u, [.int .i64 Y, .int .i64 1, .int .i64 0, .int .i64 0, .int .i64 1, .int .i64 0, .int .u8 119]), (r, [.int .i64 0, .int .i64 0, .int .i64 0, .int .i64 0, .int .i64 0, .int .i64 0, .int .u8 0])] (W2.alloc (.cells #[.int .i64 Y, .int .i64 1, .int .i64 0, .int .i64 0, .int .i64 1, .int .i64 0, .int .u8 119] 76))) := K2.out.new [.int .i64 Y, .int .i64 1, .int .i64 0, .int .i64 0, .int .i64 1, .int .i64 0, .int .u8 119] _ hu.symm
  go_upto_region 4 with fail
  rw [← hu]
  refine gen_to (BS w [(u, [.int .i64 Y, .int .i64 1, .int .i64 0, .int .i64 0, .int .i64 1, .int .i64 0, .int .u8 119]), (r, [.int .i64 0, .int .i64 0, .int .i64 0, .int .i64 0, .int .i64 0, .int .i64 0, .int .u8 0])]) K3.out ?_
  intro W4 K4'
  have K4 : Hid (BS w [(u, [.int .i64 Y, .int .i64 1, .int .i64 0, .int .i64 0, .int .i64 1, .int .i64 0, .int .u8 119]), (r, [.int .i64 0, .int .i64 0, .int .i64 0, .int .i64 0, .int .i64 0, .int .i64 0, .int .u8 0])] W4) := K4'
  clear K4' K3 K2
  clear hu
  go_cut [5] (fun v wx => v = .bool b1 ∧ Hid (BS w [(u, [.int .i64 Y, .int .i64 1, .int .i64 0, .int .i64 0, .int .i64 1, .int .i64 0, .int .u8 119]), (r, [.int .i64 0, .int .i64 0, .int .i64 0, .int .i64 0, .int .i64 0, .int .i64 0, .int .u8 0])] wx))
  case first =>
    have cu4_0 : W4.cell? ⟨u, 0, none⟩ = some (.int .i64 Y) := (K4.out.at u [.int .i64 Y, .int .i64 1, .int .i64 0, .int .i64 0, .int .i64 1, .int .i64 0, .int .u8 119] (by simp)).c 0 rfl
    have cu4_1 : W4.cell? ⟨u, 1, none⟩ = some (.int .i64 1) := (K4.out.at u [.int .i64 Y, .int .i64 1, .int .i64 0, .int .i64 0, .int .i64 1, .int .i64 0, .int .u8 119] (by simp)).c 1 rfl
    have cu4_2 : W4.cell? ⟨u, 2, none⟩ = some (.int .i64 0) := (K4.out.at u [.int .i64 Y, .int .i64 1, .int .i64 0, .int .i64 0, .int .i64 1, .int .i64 0, .int .u8 119] (by simp)).c 2 rfl
    have cu4_3 : W4.cell? ⟨u, 3, none⟩ = some (.int .i64 0) := (K4.out.at u [.int .i64 Y, .int .i64 1, .int .i64 0, .int .i64 0, .int .i64 1, .int .i64 0, .int .u8 119] (by simp)).c 3 rfl
    have cu4_4 : W4.cell? ⟨u, 4, none⟩ = some (.int .i64 1) := (K4.out.at u [.int .i64 Y, .int .i64 1, .int .i64 0, .int .i64 0, .int .i64 1, .int .i64 0, .int .u8 119] (by simp)).c 4 rfl
    have cu4_5 : W4.cell? ⟨u, 5, none⟩ = some (.int .i64 0) := (K4.out.at u [.int .i64 Y, .int .i64 1, .int .i64 0, .int .i64 0, .int .i64 1, .int .i64 0, .int .u8 119] (by simp)).c 5 rfl
    have cu4_6 : W4.cell? ⟨u, 6, none⟩ = some (.int .u8 119) := (K4.out.at u [.int .i64 Y, .int .i64 1, .int .i64 0, .int .i64 0, .int .i64 1, .int .i64 0, .int .u8 119] (by simp)).c 6 rfl
    by_cases hY : 0 < Y
    · by_cases h4 : (k : Int) ≤ 4
      · go_wp2_with fail
        go_meet
        case rel => exact ⟨by rw [← B1.out, decide_eq_true (show 0 < Y by omega), decide_eq_true (show k ≤ 4 by omega)]; rfl, K4⟩
      · go_wp2_with fail
        go_meet
        case rel => exact ⟨by rw [← B1.out, decide_eq_false (show ¬ k ≤ 4 by omega), Bool.and_false], K4⟩
    · go_wp2_with fail
      go_meet
      case rel => exact ⟨by rw [← B1.out, decide_eq_false (show ¬ 0 < Y by omega), Bool.false_and], K4⟩
  case rest =>
    obtain ⟨rfl, K5'⟩ := hcut
    have K5 : Hid (BS w [(u, [.int .i64 Y, .int .i64 1, .int .i64 0, .int .i64 0, .int .i64 1, .int .i64 0, .int .u8 119]), (r, [.int .i64 0, .int .i64 0, .int .i64 0, .int .i64 0, .int .i64 0, .int .i64 0, .int .u8 0])] wc) := K5'
    clear K5' K4 B1
    obtain ⟨W5, hW5⟩ : ∃ W5, W5 = wc := ⟨_, rfl⟩
    rw [← hW5] at K5
    rw [← hW5]
    clear hW5
    go_upto_if 31 with fail
    go_cut [5] (fun v wx => v = .bool b2 ∧ Hid (BS w [(u, [.int .i64 Y, .int .i64 M, .int .i64 0, .int .i64 0, .int .i64 1, .int .i64 0, .int .u8 119]), (r, [.int .i64 0, .int .i64 0, .int .i64 0, .int .i64 0, .int .i64 0, .int .i64 0, .int .u8 0])] wx))
    case first =>
      by_cases h1 : (1 : Int) < (k : Int)
      · have f1_5 : W5.cell? ⟨g, o + 1, none⟩ = some (.string x1) := (K5.out.1.cell (p := ⟨g, o + 1, none⟩) hg).trans (f1.out (by omega))
        go_wp2_with fail
        refine (MO.out _).mono ?_
        rintro e V1 ⟨rfl, hb⟩
        have Kv : Hid (BS w [(u, [.int .i64 Y, .int .i64 1, .int .i64 0, .int .i64 0, .int .i64 1, .int .i64 0, .int .u8 119]), (r, [.int .i64 0, .int .i64 0, .int .i64 0, .int .i64 0, .int .i64 0, .int .i64 0, .int .u8 0])] V1) := K5.out.below hb
        clear f1_5 hb K5
        have cu_1 : V1.cell? ⟨u, 1, none⟩ = some (.int .i64 1) := (Kv.out.at u [.int .i64 Y, .int .i64 1, .int .i64 0, .int .i64 0, .int .i64 1, .int .i64 0, .int .u8 119] (by simp)).c 1 rfl
        have zu_1 : V1.frozen? ⟨u, 1, none⟩ = false := (Kv.out.at u [.int .i64 Y, .int .i64 1, .int .i64 0, .int .i64 0, .int .i64 1, .int .i64 0, .int .u8 119] (by simp)).f 1 rfl
        have KM : Hid (BS w [(u, [.int .i64 Y, .int .i64 M, .int .i64 0, .int .i64 0, .int .i64 1, .int .i64 0, .int .u8 119]), (r, [.int .i64 0, .int .i64 0, .int .i64 0, .int .i64 0, .int .i64 0, .int .i64 0, .int .u8 0])] (V1.setCell ⟨u, 1, none⟩ (.int .i64 M))) := Kv.out.set1 1 (.int .i64 M) (by simp) (by intro x hx; simp only [List.mem_cons, List.not_mem_nil, or_false] at hx; subst hx; simp only []; omega)
        go_upto_region 7 with fail
        clear cu_1 zu_1
        refine gen_to (BS w [(u, [.int .i64 Y, .int .i64 M, .int .i64 0, .int .i64 0, .int .i64 1, .int .i64 0, .int .u8 119]), (r, [.int .i64 0, .int .i64 0, .int .i64 0, .int .i64 0, .int .i64 0, .int .i64 0, .int .u8 0])]) KM.out ?_
        clear KM Kv
        intro V2 KN'
        have KN : Hid (BS w [(u, [.int .i64 Y, .int .i64 M, .int .i64 0, .int .i64 0, .int .i64 1, .int .i64 0, .int .u8 119]), (r, [.int .i64 0, .int .i64 0, .int .i64 0, .int .i64 0, .int .i64 0, .int .i64 0, .int .u8 0])] V2) := KN'
        clear KN'
        have cu_1 : V2.cell? ⟨u, 1, none⟩ = some (.int .i64 M) := (KN.out.at u [.int .i64 Y, .int .i64 M, .int .i64 0, .int .i64 0, .int .i64 1, .int .i64 0, .int .u8 119] (by simp)).c 1 rfl
        cases b1
        · go_wp2_with fail
          go_meet
          case rel => exact ⟨by rw [← B2.out, Bool.false_and], KN⟩
        · by_cases hq : 0 < M
          · skip
            go_wp2_with fail
            go_meet
            case rel => exact ⟨by rw [← B2.out, decide_eq_true (show 0 < M by omega)]; rfl, KN⟩
          · skip
            go_wp2_with fail
            go_meet
            case rel => exact ⟨by rw [← B2.out, decide_eq_false (show ¬ 0 < M by omega)]; rfl, KN⟩
      · go_wp2_with fail
        go_meet
        case rel =>
          refine ⟨?_, ?_⟩
          · rw [← B2.out, d1.out (by omega)]; simp
          · rw [d1.out (by omega)]; exact K5
    case rest =>
      obtain ⟨rfl, K6'⟩ := hcut
      have K6 : Hid (BS w [(u, [.int .i64 Y, .int .i64 M, .int .i64 0, .int .i64 0, .int .i64 1, .int .i64 0, .int .u8 119]), (r, [.int .i64 0, .int .i64 0, .int .i64 0, .int .i64 0, .int .i64 0, .int .i64 0, .int .u8 0])] wc) := K6'
      clear K6' K5 B2
      obtain ⟨W6, hW6⟩ : ∃ W6, W6 = wc := ⟨_, rfl⟩
      rw [← hW6] at K6
      rw [← hW6]
      clear hW6
      go_upto_if 45 with fail
      go_cut [5] (fun v wx => v = .bool b3 ∧ Hid (BS w [(u, [.int .i64 Y, .int .i64 M, .int .i64 oa, .int .i64 ob, .int .i64 oc, .int .i64 0, .int .u8 119]), (r, [.int .i64 0, .int .i64 0, .int .i64 0, .int .i64 0, .int .i64 0, .int .i64 0, .int .u8 0])] wx))
      case first =>
        by_cases h2 : (2 : Int) < (k : Int)
        · have f2_6 : W6.cell? ⟨g, o + 2, none⟩ = some (.string x2) := (K6.out.1.cell (p := ⟨g, o + 2, none⟩) hg).trans (f2.out (by omega))
          go_wp2_with fail
          refine (ON.out _).mono ?_
          rintro e V1 ⟨rfl, hb⟩
          have Kv : Hid (BS w [(u, [.int .i64 Y, .int .i64 M, .int .i64 0, .int .i64 0, .int .i64 1, .int .i64 0, .int .u8 119]), (r, [.int .i64 0, .int .i64 0, .int .i64 0, .int .i64 0, .int .i64 0, .int .i64 0, .int .u8 0])] V1) := K6.out.below hb
          clear f2_6 hb K6
          obtain ⟨y, hy⟩ : ∃ y, y = V1.heap.size := ⟨_, rfl⟩
          have hry : r < y := by have := (Kv.out.at r [.int .i64 0, .int .i64 0, .int .i64 0, .int .i64 0, .int .i64 0, .int .i64 0, .int .u8 0] (by simp)).1; omega
          have huy : u < y := by have := (Kv.out.at u [.int .i64 Y, .int .i64 M, .int .i64 0, .int .i64 0, .int .i64 1, .int .i64 0, .int .u8 119] (by simp)).1; omega
          have KM : Hid (BS w [(y, [.int .i64 oa, .int .i64 ob, .int .i64 oc]), (u, [.int .i64 Y, .int .i64 M, .int .i64 0, .int .i64 0, .int .i64 1, .int .i64 0, .int .u8 119]), (r, [.int .i64 0, .int .i64 0, .int .i64 0, .int .i64 0, .int .i64 0, .int .i64 0, .int .u8 0])] (V1.alloc (.cells #[.int .i64 oa, .int .i64 ob, .int .i64 oc] 67))) := Kv.out.new [.int .i64 oa, .int .i64 ob, .int .i64 oc] _ hy.symm
          go_upto_region 10 with fail
          rw [← hy]
          refine gen_to (BS w [(u, [.int .i64 Y, .int .i64 M, .int .i64 0, .int .i64 0, .int .i64 1, .int .i64 0, .int .u8 119]), (y, [.int .i64 oa, .int .i64 ob, .int .i64 oc]), (r, [.int .i64 0, .int .i64 0, .int .i64 0, .int .i64 0, .int .i64 0, .int .i64 0, .int .u8 0])]) KM.out.swap ?_
          clear KM Kv hy
          intro V2 KW'
          have KW : Hid (BS w [(u, [.int .i64 Y, .int .i64 M, .int .i64 0, .int .i64 0, .int .i64 1, .int .i64 0, .int .u8 119]), (y, [.int .i64 oa, .int .i64 ob, .int .i64 oc]), (r, [.int .i64 0, .int .i64 0, .int .i64 0, .int .i64 0, .int .i64 0, .int .i64 0, .int .u8 0])] V2) := KW'
          clear KW'
          have cu_2 : V2.cell? ⟨u, 2, none⟩ = some (.int .i64 0) := (KW.out.at u [.int .i64 Y, .int .i64 M, .int .i64 0, .int .i64 0, .int .i64 1, .int .i64 0, .int .u8 119] (by simp)).c 2 rfl
          have zu_2 : V2.frozen? ⟨u, 2, none⟩ = false := (KW.out.at u [.int .i64 Y, .int .i64 M, .int .i64 0, .int .i64 0, .int .i64 1, .int .i64 0, .int .u8 119] (by simp)).f 2 rfl
          have cu_3 : V2.cell? ⟨u, 3, none⟩ = some (.int .i64 0) := (KW.out.at u [.int .i64 Y, .int .i64 M, .int .i64 0, .int .i64 0, .int .i64 1, .int .i64 0, .int .u8 119] (by simp)).c 3 rfl
          have zu_3 : V2.frozen? ⟨u, 3, none⟩ = false := (KW.out.at u [.int .i64 Y, .int .i64 M, .int .i64 0, .int .i64 0, .int .i64 1, .int .i64 0, .int .u8 119] (by simp)).f 3 rfl
          have cu_4 : V2.cell? ⟨u, 4, none⟩ = some (.int .i64 1) := (KW.out.at u [.int .i64 Y, .int .i64 M, .int .i64 0, .int .i64 0, .int .i64 1, .int .i64 0, .int .u8 119] (by simp)).c 4 rfl
          have zu_4 : V2.frozen? ⟨u, 4, none⟩ = false := (KW.out.at u [.int .i64 Y, .int .i64 M, .int .i64 0, .int .i64 0, .int .i64 1, .int .i64 0, .int .u8 119] (by simp)).f 4 rfl
          have cy_0 : V2.cell? ⟨y, 0, none⟩ = some (.int .i64 oa) := (KW.out.at y [.int .i64 oa, .int .i64 ob, .int .i64 oc] (by simp)).c 0 rfl
          have cy_1 : V2.cell? ⟨y, 1, none⟩ = some (.int .i64 ob) := (KW.out.at y [.int .i64 oa, .int .i64 ob, .int .i64 oc] (by simp)).c 1 rfl
          have cy_2 : V2.cell? ⟨y, 2, none⟩ = some (.int .i64 oc) := (KW.out.at y [.int .i64 oa, .int .i64 ob, .int .i64 oc] (by simp)).c 2 rfl
          have KM : Hid (BS w [(u, [.int .i64 Y, .int .i64 M, .int .i64 oa, .int .i64 ob, .int .i64 oc, .int .i64 0, .int .u8 119]), (y, [.int .i64 oa, .int .i64 ob, .int .i64 oc]), (r, [.int .i64 0, .int .i64 0, .int .i64 0, .int .i64 0, .int .i64 0, .int .i64 0, .int .u8 0])] (((V2.setCell ⟨u, 2, none⟩ (.int .i64 oa)).setCell ⟨u, 3, none⟩ (.int .i64 ob)).setCell ⟨u, 4, none⟩ (.int .i64 oc))) := (((KW.out.set1 2 (.int .i64 oa) (by simp) (by intro x hx; simp only [List.mem_cons, List.not_mem_nil, or_false] at hx; rcases hx with rfl | rfl <;> simp only [] <;> omega)).set1 3 (.int .i64 ob) (by simp) (by intro x hx; simp only [List.mem_cons, List.not_mem_nil, or_false] at hx; rcases hx with rfl | rfl <;> simp only [] <;> omega)).set1 4 (.int .i64 oc) (by simp) (by intro x hx; simp only [List.mem_cons, List.not_mem_nil, or_false] at hx; rcases hx with rfl | rfl <;> simp only [] <;> omega))
          have KM2 : Hid (BS w [(u, [.int .i64 Y, .int .i64 M, .int .i64 oa, .int .i64 ob, .int .i64 oc, .int .i64 0, .int .u8 119]), (r, [.int .i64 0, .int .i64 0, .int .i64 0, .int .i64 0, .int .i64 0, .int .i64 0, .int .u8 0])] (((V2.setCell ⟨u, 2, none⟩ (.int .i64 oa)).setCell ⟨u, 3, none⟩ (.int .i64 ob)).setCell ⟨u, 4, none⟩ (.int .i64 oc))) := KM.out.perm (by intro x hx; simp only [List.mem_cons, List.not_mem_nil, or_false] at hx ⊢; rcases hx with h | h <;> simp [h])
          go_upto_region 11 with fail
          clear cu_2 zu_2 cu_3 zu_3 cu_4 zu_4 cy_0 cy_1 cy_2 KM KW
          refine gen_to (BS w [(u, [.int .i64 Y, .int .i64 M, .int .i64 oa, .int .i64 ob, .int .i64 oc, .int .i64 0, .int .u8 119]), (r, [.int .i64 0, .int .i64 0, .int .i64 0, .int .i64 0, .int .i64 0, .int .i64 0, .int .u8 0])]) KM2.out ?_
          clear KM2
          intro V3 KN'
          have KN : Hid (BS w [(u, [.int .i64 Y, .int .i64 M, .int .i64 oa, .int .i64 ob, .int .i64 oc, .int .i64 0, .int .u8 119]), (r, [.int .i64 0, .int .i64 0, .int .i64 0, .int .i64 0, .int .i64 0, .int .i64 0, .int .u8 0])] V3) := KN'
          clear KN'
          cases b2
          · go_wp2_with fail
            go_meet
            case rel => exact ⟨by rw [← B3.out, Bool.false_and], KN⟩
          · by_cases hq : E = 0
            · have hq2 : (E == 0) = true := by simp [hq]
              go_wp2_with fail
              go_meet
              case rel => exact ⟨by rw [← B3.out, decide_eq_true (show E = 0 by omega)]; rfl, KN⟩
            · have hq2 : (E == 0) = false := by simp [hq]
              go_wp2_with fail
              go_meet
              case rel => exact ⟨by rw [← B3.out, decide_eq_false (show ¬ E = 0 by omega)]; rfl, KN⟩
        · go_wp2_with fail
          go_meet
          case rel =>
            refine ⟨?_, ?_⟩
            · rw [← B3.out, (d2.out (by omega)).2.2.2]; simp
            · rw [(d2.out (by omega)).1, (d2.out (by omega)).2.1, (d2.out (by omega)).2.2.1]; exact K6
      case rest =>
        obtain ⟨rfl, K7'⟩ := hcut
        have K7 : Hid (BS w [(u, [.int .i64 Y, .int .i64 M, .int .i64 oa, .int .i64 ob, .int .i64 oc, .int .i64 0, .int .u8 119]), (r, [.int .i64 0, .int .i64 0, .int .i64 0, .int .i64 0, .int .i64 0, .int .i64 0, .int .u8 0])] wc) := K7'
        clear K7' K6 B3
        obtain ⟨W7, hW7⟩ : ∃ W7, W7 = wc := ⟨_, rfl⟩
        rw [← hW7] at K7
        rw [← hW7]
        clear hW7
        go_upto_if 62 with fail
        go_cut [5] (fun v wx => v = .bool b4 ∧ Hid (BS w [(u, [.int .i64 Y, .int .i64 M, .int .i64 oa, .int .i64 ob, .int .i64 oc, .int .i64 ta, .int .u8 tz]), (r, [.int .i64 0, .int .i64 0, .int .i64 0, .int .i64 0, .int .i64 0, .int .i64 0, .int .u8 0])] wx))
        case first =>
          by_cases h3 : (3 : Int) < (k : Int)
          · have f3_7 : W7.cell? ⟨g, o + 3, none⟩ = some (.string x3) := (K7.out.1.cell (p := ⟨g, o + 3, none⟩) hg).trans (f3.out (by omega))
            go_wp2_with fail
            refine (AT.out _).mono ?_
            rintro e V1 ⟨rfl, hb⟩
            have Kv : Hid (BS w [(u, [.int .i64 Y, .int .i64 M, .int .i64 oa, .int .i64 ob, .int .i64 oc, .int .i64 0, .int .u8 119]), (r, [.int .i64 0, .int .i64 0, .int .i64 0, .int .i64 0, .int .i64 0, .int .i64 0, .int .u8 0])] V1) := K7.out.below hb
            clear f3_7 hb K7
            obtain ⟨y, hy⟩ : ∃ y, y = V1.heap.size := ⟨_, rfl⟩
            have hry : r < y := by have := (Kv.out.at r [.int .i64 0, .int .i64 0, .int .i64 0, .int .i64 0, .int .i64 0, .int .i64 0, .int .u8 0] (by simp)).1; omega
            have huy : u < y := by have := (Kv.out.at u [.int .i64 Y, .int .i64 M, .int .i64 oa, .int .i64 ob, .int .i64 oc, .int .i64 0, .int .u8 119] (by simp)).1; omega
            have KM : Hid (BS w [(y, [.int .i64 ta, .int .u8 tz]), (u, [.int .i64 Y, .int .i64 M, .int .i64 oa, .int .i64 ob, .int .i64 oc, .int .i64 0, .int .u8 119]), (r, [.int .i64 0, .int .i64 0, .int .i64 0, .int .i64 0, .int .i64 0, .int .i64 0, .int .u8 0])] (V1.alloc (.cells #[.int .i64 ta, .int .u8 tz] 69))) := Kv.out.new [.int .i64 ta, .int .u8 tz] _ hy.symm
            go_upto_region 14 with fail
            rw [← hy]
            refine gen_to (BS w [(u, [.int .i64 Y, .int .i64 M, .int .i64 oa, .int .i64 ob, .int .i64 oc, .int .i64 0, .int .u8 119]), (y, [.int .i64 ta, .int .u8 tz]), (r, [.int .i64 0, .int .i64 0, .int .i64 0, .int .i64 0, .int .i64 0, .int .i64 0, .int .u8 0])]) KM.out.swap ?_
            clear KM Kv hy
            intro V2 KW'
            have KW : Hid (BS w [(u, [.int .i64 Y, .int .i64 M, .int .i64 oa, .int .i64 ob, .int .i64 oc, .int .i64 0, .int .u8 119]), (y, [.int .i64 ta, .int .u8 tz]), (r, [.int .i64 0, .int .i64 0, .int .i64 0, .int .i64 0, .int .i64 0, .int .i64 0, .int .u8 0])] V2) := KW'
            clear KW'
            have cu_5 : V2.cell? ⟨u, 5, none⟩ = some (.int .i64 0) := (KW.out.at u [.int .i64 Y, .int .i64 M, .int .i64 oa, .int .i64 ob, .int .i64 oc, .int .i64 0, .int .u8 119] (by simp)).c 5 rfl
            have zu_5 : V2.frozen? ⟨u, 5, none⟩ = false := (KW.out.at u [.int .i64 Y, .int .i64 M, .int .i64 oa, .int .i64 ob, .int .i64 oc, .int .i64 0, .int .u8 119] (by simp)).f 5 rfl
            have cu_6 : V2.cell? ⟨u, 6, none⟩ = some (.int .u8 119) := (KW.out.at u [.int .i64 Y, .int .i64 M, .int .i64 oa, .int .i64 ob, .int .i64 oc, .int .i64 0, .int .u8 119] (by simp)).c 6 rfl
            have zu_6 : V2.frozen? ⟨u, 6, none⟩ = false := (KW.out.at u [.int .i64 Y, .int .i64 M, .int .i64 oa, .int .i64 ob, .int .i64 oc, .int .i64 0, .int .u8 119] (by simp)).f 6 rfl
            have cy_0 : V2.cell? ⟨y, 0, none⟩ = some (.int .i64 ta) := (KW.out.at y [.int .i64 ta, .int .u8 tz] (by simp)).c 0 rfl
            have cy_1 : V2.cell? ⟨y, 1, none⟩ = some (.int .u8 tz) := (KW.out.at y [.int .i64 ta, .int .u8 tz] (by simp)).c 1 rfl
            have KM : Hid (BS w [(u, [.int .i64 Y, .int .i64 M, .int .i64 oa, .int .i64 ob, .int .i64 oc, .int .i64 ta, .int .u8 tz]), (y, [.int .i64 ta, .int .u8 tz]), (r, [.int .i64 0, .int .i64 0, .int .i64 0, .int .i64 0, .int .i64 0, .int .i64 0, .int .u8 0])] ((V2.setCell ⟨u, 5, none⟩ (.int .i64 ta)).setCell ⟨u, 6, none⟩ (.int .u8 tz))) := ((KW.out.set1 5 (.int .i64 ta) (by simp) (by intro x hx; simp only [List.mem_cons, List.not_mem_nil, or_false] at hx; rcases hx with rfl | rfl <;> simp only [] <;> omega)).set1 6 (.int .u8 tz) (by simp) (by intro x hx; simp only [List.mem_cons, List.not_mem_nil, or_false] at hx; rcases hx with rfl | rfl <;> simp only [] <;> omega))
            have KM2 : Hid (BS w [(u, [.int .i64 Y, .int .i64 M, .int .i64 oa, .int .i64 ob, .int .i64 oc, .int .i64 ta, .int .u8 tz]), (r, [.int .i64 0, .int .i64 0, .int .i64 0, .int .i64 0, .int .i64 0, .int .i64 0, .int .u8 0])] ((V2.setCell ⟨u, 5, none⟩ (.int .i64 ta)).setCell ⟨u, 6, none⟩ (.int .u8 tz))) := KM.out.perm (by intro x hx; simp only [List.mem_cons, List.not_mem_nil, or_false] at hx ⊢; rcases hx with h | h <;> simp [h])
            go_upto_region 15 with fail
            clear cu_5 zu_5 cu_6 zu_6 cy_0 cy_1 KM KW
            refine gen_to (BS w [(u, [.int .i64 Y, .int .i64 M, .int .i64 oa, .int .i64 ob, .int .i64 oc, .int .i64 ta, .int .u8 tz]), (r, [.int .i64 0, .int .i64 0, .int .i64 0, .int .i64 0, .int .i64 0, .int .i64 0, .int .u8 0])]) KM2.out ?_
            clear KM2
            intro V3 KN'
            have KN : Hid (BS w [(u, [.int .i64 Y, .int .i64 M, .int .i64 oa, .int .i64 ob, .int .i64 oc, .int .i64 ta, .int .u8 tz]), (r, [.int .i64 0, .int .i64 0, .int .i64 0, .int .i64 0, .int .i64 0, .int .i64 0, .int .u8 0])] V3) := KN'
            clear KN'
            cases b3
            · go_wp2_with fail
              go_meet
              case rel => exact ⟨by rw [← B4.out, Bool.false_and], KN⟩
            · by_cases hq : E2 = 0
              · have hq2 : (E2 == 0) = true := by simp [hq]
                go_wp2_with fail
                go_meet
                case rel => exact ⟨by rw [← B4.out, decide_eq_true (show E2 = 0 by omega)]; rfl, KN⟩
              · have hq2 : (E2 == 0) = false := by simp [hq]
                go_wp2_with fail
                go_meet
                case rel => exact ⟨by rw [← B4.out, decide_eq_false (show ¬ E2 = 0 by omega)]; rfl, KN⟩
          · go_wp2_with fail
            go_meet
            case rel =>
              refine ⟨?_, ?_⟩
              · rw [← B4.out, (d3.out (by omega)).2.2]; simp
              · rw [(d3.out (by omega)).1, (d3.out (by omega)).2.1]; exact K7
        case rest =>
          obtain ⟨rfl, K8'⟩ := hcut
          have K8 : Hid (BS w [(u, [.int .i64 Y, .int .i64 M, .int .i64 oa, .int .i64 ob, .int .i64 oc, .int .i64 ta, .int .u8 tz]), (r, [.int .i64 0, .int .i64 0, .int .i64 0, .int .i64 0, .int .i64 0, .int .i64 0, .int .u8 0])] wc) := K8'
          clear K8' K7 B4
          obtain ⟨W8, hW8⟩ : ∃ W8, W8 = wc := ⟨_, rfl⟩
          rw [← hW8] at K8
          rw [← hW8]
          clear hW8
          have cu8_0 : W8.cell? ⟨u, 0, none⟩ = some (.int .i64 Y) := (K8.out.at u [.int .i64 Y, .int .i64 M, .int .i64 oa, .int .i64 ob, .int .i64 oc, .int .i64 ta, .int .u8 tz] (by simp)).c 0 rfl
          have cu8_1 : W8.cell? ⟨u, 1, none⟩ = some (.int .i64 M) := (K8.out.at u [.int .i64 Y, .int .i64 M, .int .i64 oa, .int .i64 ob, .int .i64 oc, .int .i64 ta, .int .u8 tz] (by simp)).c 1 rfl
          have cu8_2 : W8.cell? ⟨u, 2, none⟩ = some (.int .i64 oa) := (K8.out.at u [.int .i64 Y, .int .i64 M, .int .i64 oa, .int .i64 ob, .int .i64 oc, .int .i64 ta, .int .u8 tz] (by simp)).c 2 rfl
          have cu8_3 : W8.cell? ⟨u, 3, none⟩ = some (.int .i64 ob) := (K8.out.at u [.int .i64 Y, .int .i64 M, .int .i64 oa, .int .i64 ob, .int .i64 oc, .int .i64 ta, .int .u8 tz] (by simp)).c 3 rfl
          have cu8_4 : W8.cell? ⟨u, 4, none⟩ = some (.int .i64 oc) := (K8.out.at u [.int .i64 Y, .int .i64 M, .int .i64 oa, .int .i64 ob, .int .i64 oc, .int .i64 ta, .int .u8 tz] (by simp)).c 4 rfl
          have cu8_5 : W8.cell? ⟨u, 5, none⟩ = some (.int .i64 ta) := (K8.out.at u [.int .i64 Y, .int .i64 M, .int .i64 oa, .int .i64 ob, .int .i64 oc, .int .i64 ta, .int .u8 tz] (by simp)).c 5 rfl
          have cu8_6 : W8.cell? ⟨u, 6, none⟩ = some (.int .u8 tz) := (K8.out.at u [.int .i64 Y, .int .i64 M, .int .i64 oa, .int .i64 ob, .int .i64 oc, .int .i64 ta, .int .u8 tz] (by simp)).c 6 rfl
          have cr8_0 : W8.cell? ⟨r, 0, none⟩ = some (.int .i64 0) := (K8.out.at r [.int .i64 0, .int .i64 0, .int .i64 0, .int .i64 0, .int .i64 0, .int .i64 0, .int .u8 0] (by simp)).c 0 rfl
          have zr8_0 : W8.frozen? ⟨r, 0, none⟩ = false := (K8.out.at r [.int .i64 0, .int .i64 0, .int .i64 0, .int .i64 0, .int .i64 0, .int .i64 0, .int .u8 0] (by simp)).f 0 rfl
          have cr8_1 : W8.cell? ⟨r, 1, none⟩ = some (.int .i64 0) := (K8.out.at r [.int .i64 0, .int .i64 0, .int .i64 0, .int .i64 0, .int .i64 0, .int .i64 0, .int .u8 0] (by simp)).c 1 rfl
          have zr8_1 : W8.frozen? ⟨r, 1, none⟩ = false := (K8.out.at r [.int .i64 0, .int .i64 0, .int .i64 0, .int .i64 0, .int .i64 0, .int .i64 0, .int .u8 0] (by simp)).f 1 rfl
          have cr8_2 : W8.cell? ⟨r, 2, none⟩ = some (.int .i64 0) := (K8.out.at r [.int .i64 0, .int .i64 0, .int .i64 0, .int .i64 0, .int .i64 0, .int .i64 0, .int .u8 0] (by simp)).c 2 rfl
          have zr8_2 : W8.frozen? ⟨r, 2, none⟩ = false := (K8.out.at r [.int .i64 0, .int .i64 0, .int .i64 0, .int .i64 0, .int .i64 0, .int .i64 0, .int .u8 0] (by simp)).f 2 rfl
          have cr8_3 : W8.cell? ⟨r, 3, none⟩ = some (.int .i64 0) := (K8.out.at r [.int .i64 0, .int .i64 0, .int .i64 0, .int .i64 0, .int .i64 0, .int .i64 0, .int .u8 0] (by simp)).c 3 rfl
          have zr8_3 : W8.frozen? ⟨r, 3, none⟩ = false := (K8.out.at r [.int .i64 0, .int .i64 0, .int .i64 0, .int .i64 0, .int .i64 0, .int .i64 0, .int .u8 0] (by simp)).f 3 rfl
          have cr8_4 : W8.cell? ⟨r, 4, none⟩ = some (.int .i64 0) := (K8.out.at r [.int .i64 0, .int .i64 0, .int .i64 0, .int .i64 0, .int .i64 0, .int .i64 0, .int .u8 0] (by simp)).c 4 rfl
          have zr8_4 : W8.frozen? ⟨r, 4, none⟩ = false := (K8.out.at r [.int .i64 0, .int .i64 0, .int .i64 0, .int .i64 0, .int .i64 0, .int .i64 0, .int .u8 0] (by simp)).f 4 rfl
          have cr8_5 : W8.cell? ⟨r, 5, none⟩ = some (.int .i64 0) := (K8.out.at r [.int .i64 0, .int .i64 0, .int .i64 0, .int .i64 0, .int .i64 0, .int .i64 0, .int .u8 0] (by simp)).c 5 rfl
          have zr8_5 : W8.frozen? ⟨r, 5, none⟩ = false := (K8.out.at r [.int .i64 0, .int .i64 0, .int .i64 0, .int .i64 0, .int .i64 0, .int .i64 0, .int .u8 0] (by simp)).f 5 rfl
          have cr8_6 : W8.cell? ⟨r, 6, none⟩ = some (.int .u8 0) := (K8.out.at r [.int .i64 0, .int .i64 0, .int .i64 0, .int .i64 0, .int .i64 0, .int .i64 0, .int .u8 0] (by simp)).c 6 rfl
          have zr8_6 : W8.frozen? ⟨r, 6, none⟩ = false := (K8.out.at r [.int .i64 0, .int .i64 0, .int .i64 0, .int .i64 0, .int .i64 0, .int .i64 0, .int .u8 0] (by simp)).f 6 rfl
          have XF : Hid (Bx (W8.setCells r 0 [.int .i64 Y, .int .i64 M, .int .i64 oa, .int .i64 ob, .int .i64 oc, .int .i64 ta, .int .u8 tz]) r [.int .i64 Y, .int .i64 M, .int .i64 oa, .int .i64 ob, .int .i64 oc, .int .i64 ta, .int .u8 tz]) := (K8.out.at r [.int .i64 0, .int .i64 0, .int .i64 0, .int .i64 0, .int .i64 0, .int .i64 0, .int .u8 0] (by simp)).setAll _ rfl
          have BF : Hid (Below w.heap.size w (W8.setCells r 0 [.int .i64 Y, .int .i64 M, .int .i64 oa, .int .i64 ob, .int .i64 oc, .int .i64 ta, .int .u8 tz])) := below_setCells hwr _ _ _ K8.out.1
          have e0 := XF.out.c 0 rfl
          have e1 := XF.out.c 1 rfl
          have e2 := XF.out.c 2 rfl
          have e3 := XF.out.c 3 rfl
          have e4 := XF.out.c 4 rfl
          have e5 := XF.out.c 5 rfl
          have e6 := XF.out.c 6 rfl
          simp only [World.setCells, Nat.zero_add, Nat.reduceAdd] at e0 e1 e2 e3 e4 e5 e6
          clear XF
          go_wp2
          exact bodyPost_ret (v := .tuple #[.agg #[.int .i64 Y, .int .i64 M, .int .i64 oa, .int .i64 ob, .int .i64 oc, .int .i64 ta, .int .u8 tz], .bool b4]) (by simp [results, Tryz.results115, go_sem, e0, e1, e2, e3, e4, e5, e6]) rfl ⟨rfl, BF.out⟩

end Go.Proofs.YtgnfkkcagbbhmaaGreatDoor
