/- Contracts: the reference's ReadAt and ReadSave of any text of up to a million bytes. -/
import Derived.Test.YtgnfkkcagbbhmaaGreatDoorQrSq
import Derived.Test.YtgnfkkcagbbhmaaGreatDoorBxCq
namespace Go.Proofs.YtgnfkkcagbbhmaaGreatDoor
open Go.RowKit
set_option linter.unusedVariables false

set_option maxRecDepth 100000 in
set_option maxHeartbeats 4000000 in
theorem era_dash (s : ByteArray) (h : s = ⟨#[45]⟩) (w : World) :
    Calls Tryz.prog 89 #[.string s] w fun e w' => e = .returned (.tuple #[.agg #[.int .i64 0, .int .u8 119], .int .i64 0]) ∧ Below w.heap.size w w' := by
  subst h
  obtain ⟨r, hr⟩ : ∃ r, r = w.heap.size := ⟨_, rfl⟩
  obtain ⟨b, hb0⟩ : ∃ b, b = w.heap.size + 1 := ⟨_, rfl⟩
  have K0 : Hid (BS w [(b, [.int .i64 0, .int .u8 119]), (r, [.int .i64 0, .int .u8 0])] ((w.alloc (.cells #[.int .i64 0, .int .u8 0] 69)).alloc (.cells #[.int .i64 0, .int .u8 119] 69))) := ((BS.start w).new [.int .i64 0, .int .u8 0] _ hr.symm).new [.int .i64 0, .int .u8 119] _ (by rw [hb0]; simp)
  go_enter Tryz.func89, Tryz.ntmps89
  go_upto_region 2 with fail
  rw [← hb0, ← hr]
  refine gen_to (BS w [(b, [.int .i64 0, .int .u8 119]), (r, [.int .i64 0, .int .u8 0])]) K0.out ?_
  intro W1 K1'
  have K1 : Hid (BS w [(b, [.int .i64 0, .int .u8 119]), (r, [.int .i64 0, .int .u8 0])] W1) := K1'
  clear K1' K0
  have hrb : r < b := by omega
  have hwr : w.heap.size ≤ r := by omega
  have hwb : w.heap.size ≤ b := by omega
  clear hr hb0
  obtain ⟨x1, y1⟩ := (bo1 K1).c2
  obtain ⟨u1, v1⟩ := (bo1 K1).f2
  obtain ⟨p1, q1⟩ := (bo2 K1).c2
  obtain ⟨s1, t1⟩ := (bo2 K1).f2
  have XF : Hid (Bx (W1.setCells r 0 [.int .i64 0, .int .u8 119]) r [.int .i64 0, .int .u8 119]) := (bo2 K1).setAll _ rfl
  have BF : Hid (Below w.heap.size w (W1.setCells r 0 [.int .i64 0, .int .u8 119])) := below_setCells (by omega) _ _ _ K1.out.1
  have e0 := XF.out.c 0 rfl
  have e1 := XF.out.c 1 rfl
  simp only [World.setCells, Nat.zero_add] at e0 e1
  clear XF
  go_wp2
  exact bodyPost_ret (v := .tuple #[.agg #[.int .i64 0, .int .u8 119], .int .i64 0]) (by simp [results, Tryz.results89, go_sem, e0, e1]) rfl ⟨rfl, BF.out⟩

set_option maxRecDepth 100000 in
set_option maxHeartbeats 4000000 in
theorem era_e {bb : Bool} (s : ByteArray) (n : Int) (h : s = ⟨#[]⟩) (SE : Hid (∀ w : World, Calls Tryz.prog 120 #[.string s] w fun e w' => e = .returned (.int .i64 n) ∧ Below w.heap.size w w')) (RA : Hid (∀ w : World, Calls Tryz.prog 66 #[.agg #[.int .i64 n, .int .u8 119]] w fun e w' => e = .returned (.bool bb) ∧ Below w.heap.size w w')) (w : World) :
    Calls Tryz.prog 89 #[.string s] w fun e w' => e = .returned (if bb = true then .tuple #[.agg #[.int .i64 n, .int .u8 119], .int .i64 0] else .tuple #[.agg #[.int .i64 0, .int .u8 0], .int .i64 21]) ∧ Below w.heap.size w w' := by
  subst h
  obtain ⟨r, hr⟩ : ∃ r, r = w.heap.size := ⟨_, rfl⟩
  obtain ⟨b, hb0⟩ : ∃ b, b = w.heap.size + 1 := ⟨_, rfl⟩
  have K0 : Hid (BS w [(b, [.int .i64 0, .int .u8 119]), (r, [.int .i64 0, .int .u8 0])] ((w.alloc (.cells #[.int .i64 0, .int .u8 0] 69)).alloc (.cells #[.int .i64 0, .int .u8 119] 69))) := ((BS.start w).new [.int .i64 0, .int .u8 0] _ hr.symm).new [.int .i64 0, .int .u8 119] _ (by rw [hb0]; simp)
  go_enter Tryz.func89, Tryz.ntmps89
  go_upto_region 2 with fail
  rw [← hb0, ← hr]
  refine gen_to (BS w [(b, [.int .i64 0, .int .u8 119]), (r, [.int .i64 0, .int .u8 0])]) K0.out ?_
  intro W1 K1'
  have K1 : Hid (BS w [(b, [.int .i64 0, .int .u8 119]), (r, [.int .i64 0, .int .u8 0])] W1) := K1'
  clear K1' K0
  have hrb : r < b := by omega
  have hwr : w.heap.size ≤ r := by omega
  have hwb : w.heap.size ≤ b := by omega
  clear hr hb0
  obtain ⟨x1, y1⟩ := (bo1 K1).c2
  obtain ⟨u1, v1⟩ := (bo1 K1).f2
  obtain ⟨p1, q1⟩ := (bo2 K1).c2
  obtain ⟨s1, t1⟩ := (bo2 K1).f2
  go_wp2_with fail
  refine (SE.out _).mono ?_
  rintro e W4 ⟨rfl, hb⟩
  have K4 : Hid (BS w [(b, [.int .i64 0, .int .u8 119]), (r, [.int .i64 0, .int .u8 0])] W4) := K1.out.below hb
  clear x1 y1 u1 v1 p1 q1 s1 t1
  clear hb K1 SE
  obtain ⟨x4, y4⟩ := (bo1 K4).c2
  obtain ⟨u4, v4⟩ := (bo1 K4).f2
  obtain ⟨p4, q4⟩ := (bo2 K4).c2
  obtain ⟨s4, t4⟩ := (bo2 K4).f2
  have M4 : Hid (BS w [(b, [.int .i64 n, .int .u8 119]), (r, [.int .i64 0, .int .u8 0])] (W4.setCell ⟨b, 0, none⟩ (.int .i64 n))) := K4.out.set1 0 (.int .i64 n) (by simp) (by intro x hx; simp only [List.mem_singleton] at hx; subst hx; simp only []; omega)
  go_upto_region 12 with fail
  refine gen_to (BS w [(b, [.int .i64 n, .int .u8 119]), (r, [.int .i64 0, .int .u8 0])]) M4.out ?_
  intro W5 K5'
  have K5 : Hid (BS w [(b, [.int .i64 n, .int .u8 119]), (r, [.int .i64 0, .int .u8 0])] W5) := K5'
  clear K5' M4
  clear x4 y4 u4 v4 p4 q4 s4 t4
  clear K4
  obtain ⟨x5, y5⟩ := (bo1 K5).c2
  obtain ⟨u5, v5⟩ := (bo1 K5).f2
  obtain ⟨p5, q5⟩ := (bo2 K5).c2
  obtain ⟨s5, t5⟩ := (bo2 K5).f2
  go_wp2_with fail
  refine (RA.out _).mono ?_
  rintro e W6 ⟨rfl, hb⟩
  have K6 : Hid (BS w [(b, [.int .i64 n, .int .u8 119]), (r, [.int .i64 0, .int .u8 0])] W6) := K5.out.below hb
  clear x5 y5 u5 v5 p5 q5 s5 t5
  clear hb K5 RA
  cases bb
  · obtain ⟨x6, y6⟩ := (bo1 K6).c2
    obtain ⟨u6, v6⟩ := (bo1 K6).f2
    obtain ⟨p6, q6⟩ := (bo2 K6).c2
    obtain ⟨s6, t6⟩ := (bo2 K6).f2
    have XF : Hid (Bx (W6.setCells r 0 [.int .i64 0, .int .u8 0]) r [.int .i64 0, .int .u8 0]) := (bo2 K6).setAll _ rfl
    have BF : Hid (Below w.heap.size w (W6.setCells r 0 [.int .i64 0, .int .u8 0])) := below_setCells (by omega) _ _ _ K6.out.1
    have e0 := XF.out.c 0 rfl
    have e1 := XF.out.c 1 rfl
    simp only [World.setCells, Nat.zero_add] at e0 e1
    clear XF
    go_wp2
    exact bodyPost_ret (v := .tuple #[.agg #[.int .i64 0, .int .u8 0], .int .i64 21]) (by simp [results, Tryz.results89, go_sem, e0, e1]) rfl ⟨rfl, BF.out⟩
  · obtain ⟨x6, y6⟩ := (bo1 K6).c2
    obtain ⟨u6, v6⟩ := (bo1 K6).f2
    obtain ⟨p6, q6⟩ := (bo2 K6).c2
    obtain ⟨s6, t6⟩ := (bo2 K6).f2
    have XF : Hid (Bx (W6.setCells r 0 [.int .i64 n, .int .u8 119]) r [.int .i64 n, .int .u8 119]) := (bo2 K6).setAll _ rfl
    have BF : Hid (Below w.heap.size w (W6.setCells r 0 [.int .i64 n, .int .u8 119])) := below_setCells (by omega) _ _ _ K6.out.1
    have e0 := XF.out.c 0 rfl
    have e1 := XF.out.c 1 rfl
    simp only [World.setCells, Nat.zero_add] at e0 e1
    clear XF
    go_wp2
    exact bodyPost_ret (v := .tuple #[.agg #[.int .i64 n, .int .u8 119], .int .i64 0]) (by simp [results, Tryz.results89, go_sem, e0, e1]) rfl ⟨rfl, BF.out⟩

set_option maxRecDepth 100000 in
set_option maxHeartbeats 4000000 in
theorem era_o {bb : Bool} (s : ByteArray) (n : Int) (hd : (s.toList == [45]) = false) (m : Nat) (hm : m ≤ 2097152) (hz : s.size = m + 1) (c : Int) (c1 : (c == 119) = false) (c2 : (c == 115) = false) (c3 : (c == 117) = false) (c4 : (c == 103) = false) (c5 : (c == 122) = false) (hx : ∀ w0 : World, (Instr.index 9 (.string s) (.int .i64 (m : Int))).run Tryz.prog w0 = .ok (.int .u8 c) w0) (SE : Hid (∀ w : World, Calls Tryz.prog 120 #[.string s] w fun e w' => e = .returned (.int .i64 n) ∧ Below w.heap.size w w')) (RA : Hid (∀ w : World, Calls Tryz.prog 66 #[.agg #[.int .i64 n, .int .u8 119]] w fun e w' => e = .returned (.bool bb) ∧ Below w.heap.size w w')) (w : World) :
    Calls Tryz.prog 89 #[.string s] w fun e w' => e = .returned (if bb = true then .tuple #[.agg #[.int .i64 n, .int .u8 119], .int .i64 0] else .tuple #[.agg #[.int .i64 0, .int .u8 0], .int .i64 21]) ∧ Below w.heap.size w w' := by
  have m0 : (0 : Int) ≤ (m : Int) := by omega
  have m1 : (m : Int) < (m : Int) + 1 := by omega
  have m2 : IntKind.i64.wrap ((m : Int) + 1 - 1) = (m : Int) := by rw [IntKind.wrap_i64]; omega
  have m3 : IntKind.i64.wrap (m : Int) = (m : Int) := by rw [IntKind.wrap_i64]; omega
  have m4 : (m : Int) ≤ (m : Int) + 1 := by omega
  have m5 : (0 : Int) < (m : Int) + 1 := by omega
  obtain ⟨r, hr⟩ : ∃ r, r = w.heap.size := ⟨_, rfl⟩
  obtain ⟨b, hb0⟩ : ∃ b, b = w.heap.size + 1 := ⟨_, rfl⟩
  have K0 : Hid (BS w [(b, [.int .i64 0, .int .u8 119]), (r, [.int .i64 0, .int .u8 0])] ((w.alloc (.cells #[.int .i64 0, .int .u8 0] 69)).alloc (.cells #[.int .i64 0, .int .u8 119] 69))) := ((BS.start w).new [.int .i64 0, .int .u8 0] _ hr.symm).new [.int .i64 0, .int .u8 119] _ (by rw [hb0]; simp)
  go_enter Tryz.func89, Tryz.ntmps89
  go_upto_region 2 with fail
  rw [← hb0, ← hr]
  refine gen_to (BS w [(b, [.int .i64 0, .int .u8 119]), (r, [.int .i64 0, .int .u8 0])]) K0.out ?_
  intro W1 K1'
  have K1 : Hid (BS w [(b, [.int .i64 0, .int .u8 119]), (r, [.int .i64 0, .int .u8 0])] W1) := K1'
  clear K1' K0
  have hrb : r < b := by omega
  have hwr : w.heap.size ≤ r := by omega
  have hwb : w.heap.size ≤ b := by omega
  clear hr hb0
  obtain ⟨x1, y1⟩ := (bo1 K1).c2
  obtain ⟨u1, v1⟩ := (bo1 K1).f2
  obtain ⟨p1, q1⟩ := (bo2 K1).c2
  obtain ⟨s1, t1⟩ := (bo2 K1).f2
  go_wp2_with fail
  refine (SE.out _).mono ?_
  rintro e W4 ⟨rfl, hb⟩
  have K4 : Hid (BS w [(b, [.int .i64 0, .int .u8 119]), (r, [.int .i64 0, .int .u8 0])] W4) := K1.out.below hb
  clear x1 y1 u1 v1 p1 q1 s1 t1
  clear hb K1 SE
  obtain ⟨x4, y4⟩ := (bo1 K4).c2
  obtain ⟨u4, v4⟩ := (bo1 K4).f2
  obtain ⟨p4, q4⟩ := (bo2 K4).c2
  obtain ⟨s4, t4⟩ := (bo2 K4).f2
  have M4 : Hid (BS w [(b, [.int .i64 n, .int .u8 119]), (r, [.int .i64 0, .int .u8 0])] (W4.setCell ⟨b, 0, none⟩ (.int .i64 n))) := K4.out.set1 0 (.int .i64 n) (by simp) (by intro x hx; simp only [List.mem_singleton] at hx; subst hx; simp only []; omega)
  go_upto_region 12 with fail
  refine gen_to (BS w [(b, [.int .i64 n, .int .u8 119]), (r, [.int .i64 0, .int .u8 0])]) M4.out ?_
  intro W5 K5'
  have K5 : Hid (BS w [(b, [.int .i64 n, .int .u8 119]), (r, [.int .i64 0, .int .u8 0])] W5) := K5'
  clear K5' M4
  clear x4 y4 u4 v4 p4 q4 s4 t4
  clear K4
  obtain ⟨x5, y5⟩ := (bo1 K5).c2
  obtain ⟨u5, v5⟩ := (bo1 K5).f2
  obtain ⟨p5, q5⟩ := (bo2 K5).c2
  obtain ⟨s5, t5⟩ := (bo2 K5).f2
  go_wp2_with fail
  refine (RA.out _).mono ?_
  rintro e W6 ⟨rfl, hb⟩
  have K6 : Hid (BS w [(b, [.int .i64 n, .int .u8 119]), (r, [.int .i64 0, .int .u8 0])] W6) := K5.out.below hb
  clear x5 y5 u5 v5 p5 q5 s5 t5
  clear hb K5 RA
  cases bb
  · obtain ⟨x6, y6⟩ := (bo1 K6).c2
    obtain ⟨u6, v6⟩ := (bo1 K6).f2
    obtain ⟨p6, q6⟩ := (bo2 K6).c2
    obtain ⟨s6, t6⟩ := (bo2 K6).f2
    have XF : Hid (Bx (W6.setCells r 0 [.int .i64 0, .int .u8 0]) r [.int .i64 0, .int .u8 0]) := (bo2 K6).setAll _ rfl
    have BF : Hid (Below w.heap.size w (W6.setCells r 0 [.int .i64 0, .int .u8 0])) := below_setCells (by omega) _ _ _ K6.out.1
    have e0 := XF.out.c 0 rfl
    have e1 := XF.out.c 1 rfl
    simp only [World.setCells, Nat.zero_add] at e0 e1
    clear XF
    go_wp2
    exact bodyPost_ret (v := .tuple #[.agg #[.int .i64 0, .int .u8 0], .int .i64 21]) (by simp [results, Tryz.results89, go_sem, e0, e1]) rfl ⟨rfl, BF.out⟩
  · obtain ⟨x6, y6⟩ := (bo1 K6).c2
    obtain ⟨u6, v6⟩ := (bo1 K6).f2
    obtain ⟨p6, q6⟩ := (bo2 K6).c2
    obtain ⟨s6, t6⟩ := (bo2 K6).f2
    have XF : Hid (Bx (W6.setCells r 0 [.int .i64 n, .int .u8 119]) r [.int .i64 n, .int .u8 119]) := (bo2 K6).setAll _ rfl
    have BF : Hid (Below w.heap.size w (W6.setCells r 0 [.int .i64 n, .int .u8 119])) := below_setCells (by omega) _ _ _ K6.out.1
    have e0 := XF.out.c 0 rfl
    have e1 := XF.out.c 1 rfl
    simp only [World.setCells, Nat.zero_add] at e0 e1
    clear XF
    go_wp2
    exact bodyPost_ret (v := .tuple #[.agg #[.int .i64 n, .int .u8 119], .int .i64 0]) (by simp [results, Tryz.results89, go_sem, e0, e1]) rfl ⟨rfl, BF.out⟩

set_option maxRecDepth 100000 in
set_option maxHeartbeats 4000000 in
theorem era_119 {bb : Bool} (s : ByteArray) (n : Int) (hd : (s.toList == [45]) = false) (m : Nat) (hm : m ≤ 2097152) (hz : s.size = m + 1) (hx : ∀ w0 : World, (Instr.index 9 (.string s) (.int .i64 (m : Int))).run Tryz.prog w0 = .ok (.int .u8 119) w0) (SE : Hid (∀ w : World, Calls Tryz.prog 120 #[.string (s.extract 0 m)] w fun e w' => e = .returned (.int .i64 n) ∧ Below w.heap.size w w')) (RA : Hid (∀ w : World, Calls Tryz.prog 66 #[.agg #[.int .i64 n, .int .u8 119]] w fun e w' => e = .returned (.bool bb) ∧ Below w.heap.size w w')) (w : World) :
    Calls Tryz.prog 89 #[.string s] w fun e w' => e = .returned (if bb = true then .tuple #[.agg #[.int .i64 n, .int .u8 119], .int .i64 0] else .tuple #[.agg #[.int .i64 0, .int .u8 0], .int .i64 21]) ∧ Below w.heap.size w w' := by
  have m0 : (0 : Int) ≤ (m : Int) := by omega
  have m1 : (m : Int) < (m : Int) + 1 := by omega
  have m2 : IntKind.i64.wrap ((m : Int) + 1 - 1) = (m : Int) := by rw [IntKind.wrap_i64]; omega
  have m3 : IntKind.i64.wrap (m : Int) = (m : Int) := by rw [IntKind.wrap_i64]; omega
  have m4 : (m : Int) ≤ (m : Int) + 1 := by omega
  have m5 : (0 : Int) < (m : Int) + 1 := by omega
  obtain ⟨r, hr⟩ : ∃ r, r = w.heap.size := ⟨_, rfl⟩
  obtain ⟨b, hb0⟩ : ∃ b, b = w.heap.size + 1 := ⟨_, rfl⟩
  have K0 : Hid (BS w [(b, [.int .i64 0, .int .u8 119]), (r, [.int .i64 0, .int .u8 0])] ((w.alloc (.cells #[.int .i64 0, .int .u8 0] 69)).alloc (.cells #[.int .i64 0, .int .u8 119] 69))) := ((BS.start w).new [.int .i64 0, .int .u8 0] _ hr.symm).new [.int .i64 0, .int .u8 119] _ (by rw [hb0]; simp)
  go_enter Tryz.func89, Tryz.ntmps89
  go_upto_region 2 with fail
  rw [← hb0, ← hr]
  refine gen_to (BS w [(b, [.int .i64 0, .int .u8 119]), (r, [.int .i64 0, .int .u8 0])]) K0.out ?_
  intro W1 K1'
  have K1 : Hid (BS w [(b, [.int .i64 0, .int .u8 119]), (r, [.int .i64 0, .int .u8 0])] W1) := K1'
  clear K1' K0
  have hrb : r < b := by omega
  have hwr : w.heap.size ≤ r := by omega
  have hwb : w.heap.size ≤ b := by omega
  clear hr hb0
  obtain ⟨x1, y1⟩ := (bo1 K1).c2
  obtain ⟨u1, v1⟩ := (bo1 K1).f2
  obtain ⟨p1, q1⟩ := (bo2 K1).c2
  obtain ⟨s1, t1⟩ := (bo2 K1).f2
  have M1 : Hid (BS w [(b, [.int .i64 0, .int .u8 119]), (r, [.int .i64 0, .int .u8 0])] (W1.setCell ⟨b, 1, none⟩ (.int .u8 119))) := K1.out.set1 1 (.int .u8 119) (by simp) (by intro x hx; simp only [List.mem_singleton] at hx; subst hx; simp only []; omega)
  go_upto_region 9 with fail
  refine gen_to (BS w [(b, [.int .i64 0, .int .u8 119]), (r, [.int .i64 0, .int .u8 0])]) M1.out ?_
  intro W2 K2'
  have K2 : Hid (BS w [(b, [.int .i64 0, .int .u8 119]), (r, [.int .i64 0, .int .u8 0])] W2) := K2'
  clear K2' M1
  clear x1 y1 u1 v1 p1 q1 s1 t1
  clear K1
  obtain ⟨x2, y2⟩ := (bo1 K2).c2
  obtain ⟨u2, v2⟩ := (bo1 K2).f2
  obtain ⟨p2, q2⟩ := (bo2 K2).c2
  obtain ⟨s2, t2⟩ := (bo2 K2).f2
  go_wp2_with fail
  refine (SE.out _).mono ?_
  rintro e W4 ⟨rfl, hb⟩
  have K4 : Hid (BS w [(b, [.int .i64 0, .int .u8 119]), (r, [.int .i64 0, .int .u8 0])] W4) := K2.out.below hb
  clear x2 y2 u2 v2 p2 q2 s2 t2
  clear hb K2 SE
  obtain ⟨x4, y4⟩ := (bo1 K4).c2
  obtain ⟨u4, v4⟩ := (bo1 K4).f2
  obtain ⟨p4, q4⟩ := (bo2 K4).c2
  obtain ⟨s4, t4⟩ := (bo2 K4).f2
  have M4 : Hid (BS w [(b, [.int .i64 n, .int .u8 119]), (r, [.int .i64 0, .int .u8 0])] (W4.setCell ⟨b, 0, none⟩ (.int .i64 n))) := K4.out.set1 0 (.int .i64 n) (by simp) (by intro x hx; simp only [List.mem_singleton] at hx; subst hx; simp only []; omega)
  go_upto_region 12 with fail
  refine gen_to (BS w [(b, [.int .i64 n, .int .u8 119]), (r, [.int .i64 0, .int .u8 0])]) M4.out ?_
  intro W5 K5'
  have K5 : Hid (BS w [(b, [.int .i64 n, .int .u8 119]), (r, [.int .i64 0, .int .u8 0])] W5) := K5'
  clear K5' M4
  clear x4 y4 u4 v4 p4 q4 s4 t4
  clear K4
  obtain ⟨x5, y5⟩ := (bo1 K5).c2
  obtain ⟨u5, v5⟩ := (bo1 K5).f2
  obtain ⟨p5, q5⟩ := (bo2 K5).c2
  obtain ⟨s5, t5⟩ := (bo2 K5).f2
  go_wp2_with fail
  refine (RA.out _).mono ?_
  rintro e W6 ⟨rfl, hb⟩
  have K6 : Hid (BS w [(b, [.int .i64 n, .int .u8 119]), (r, [.int .i64 0, .int .u8 0])] W6) := K5.out.below hb
  clear x5 y5 u5 v5 p5 q5 s5 t5
  clear hb K5 RA
  cases bb
  · obtain ⟨x6, y6⟩ := (bo1 K6).c2
    obtain ⟨u6, v6⟩ := (bo1 K6).f2
    obtain ⟨p6, q6⟩ := (bo2 K6).c2
    obtain ⟨s6, t6⟩ := (bo2 K6).f2
    have XF : Hid (Bx (W6.setCells r 0 [.int .i64 0, .int .u8 0]) r [.int .i64 0, .int .u8 0]) := (bo2 K6).setAll _ rfl
    have BF : Hid (Below w.heap.size w (W6.setCells r 0 [.int .i64 0, .int .u8 0])) := below_setCells (by omega) _ _ _ K6.out.1
    have e0 := XF.out.c 0 rfl
    have e1 := XF.out.c 1 rfl
    simp only [World.setCells, Nat.zero_add] at e0 e1
    clear XF
    go_wp2
    exact bodyPost_ret (v := .tuple #[.agg #[.int .i64 0, .int .u8 0], .int .i64 21]) (by simp [results, Tryz.results89, go_sem, e0, e1]) rfl ⟨rfl, BF.out⟩
  · obtain ⟨x6, y6⟩ := (bo1 K6).c2
    obtain ⟨u6, v6⟩ := (bo1 K6).f2
    obtain ⟨p6, q6⟩ := (bo2 K6).c2
    obtain ⟨s6, t6⟩ := (bo2 K6).f2
    have XF : Hid (Bx (W6.setCells r 0 [.int .i64 n, .int .u8 119]) r [.int .i64 n, .int .u8 119]) := (bo2 K6).setAll _ rfl
    have BF : Hid (Below w.heap.size w (W6.setCells r 0 [.int .i64 n, .int .u8 119])) := below_setCells (by omega) _ _ _ K6.out.1
    have e0 := XF.out.c 0 rfl
    have e1 := XF.out.c 1 rfl
    simp only [World.setCells, Nat.zero_add] at e0 e1
    clear XF
    go_wp2
    exact bodyPost_ret (v := .tuple #[.agg #[.int .i64 n, .int .u8 119], .int .i64 0]) (by simp [results, Tryz.results89, go_sem, e0, e1]) rfl ⟨rfl, BF.out⟩

set_option maxRecDepth 100000 in
set_option maxHeartbeats 4000000 in
theorem era_115 {bb : Bool} (s : ByteArray) (n : Int) (hd : (s.toList == [45]) = false) (m : Nat) (hm : m ≤ 2097152) (hz : s.size = m + 1) (hx : ∀ w0 : World, (Instr.index 9 (.string s) (.int .i64 (m : Int))).run Tryz.prog w0 = .ok (.int .u8 115) w0) (SE : Hid (∀ w : World, Calls Tryz.prog 120 #[.string (s.extract 0 m)] w fun e w' => e = .returned (.int .i64 n) ∧ Below w.heap.size w w')) (RA : Hid (∀ w : World, Calls Tryz.prog 66 #[.agg #[.int .i64 n, .int .u8 115]] w fun e w' => e = .returned (.bool bb) ∧ Below w.heap.size w w')) (w : World) :
    Calls Tryz.prog 89 #[.string s] w fun e w' => e = .returned (if bb = true then .tuple #[.agg #[.int .i64 n, .int .u8 115], .int .i64 0] else .tuple #[.agg #[.int .i64 0, .int .u8 0], .int .i64 21]) ∧ Below w.heap.size w w' := by
  have m0 : (0 : Int) ≤ (m : Int) := by omega
  have m1 : (m : Int) < (m : Int) + 1 := by omega
  have m2 : IntKind.i64.wrap ((m : Int) + 1 - 1) = (m : Int) := by rw [IntKind.wrap_i64]; omega
  have m3 : IntKind.i64.wrap (m : Int) = (m : Int) := by rw [IntKind.wrap_i64]; omega
  have m4 : (m : Int) ≤ (m : Int) + 1 := by omega
  have m5 : (0 : Int) < (m : Int) + 1 := by omega
  obtain ⟨r, hr⟩ : ∃ r, r = w.heap.size := ⟨_, rfl⟩
  obtain ⟨b, hb0⟩ : ∃ b, b = w.heap.size + 1 := ⟨_, rfl⟩
  have K0 : Hid (BS w [(b, [.int .i64 0, .int .u8 119]), (r, [.int .i64 0, .int .u8 0])] ((w.alloc (.cells #[.int .i64 0, .int .u8 0] 69)).alloc (.cells #[.int .i64 0, .int .u8 119] 69))) := ((BS.start w).new [.int .i64 0, .int .u8 0] _ hr.symm).new [.int .i64 0, .int .u8 119] _ (by rw [hb0]; simp)
  go_enter Tryz.func89, Tryz.ntmps89
  go_upto_region 2 with fail
  rw [← hb0, ← hr]
  refine gen_to (BS w [(b, [.int .i64 0, .int .u8 119]), (r, [.int .i64 0, .int .u8 0])]) K0.out ?_
  intro W1 K1'
  have K1 : Hid (BS w [(b, [.int .i64 0, .int .u8 119]), (r, [.int .i64 0, .int .u8 0])] W1) := K1'
  clear K1' K0
  have hrb : r < b := by omega
  have hwr : w.heap.size ≤ r := by omega
  have hwb : w.heap.size ≤ b := by omega
  clear hr hb0
  obtain ⟨x1, y1⟩ := (bo1 K1).c2
  obtain ⟨u1, v1⟩ := (bo1 K1).f2
  obtain ⟨p1, q1⟩ := (bo2 K1).c2
  obtain ⟨s1, t1⟩ := (bo2 K1).f2
  have M1 : Hid (BS w [(b, [.int .i64 0, .int .u8 115]), (r, [.int .i64 0, .int .u8 0])] (W1.setCell ⟨b, 1, none⟩ (.int .u8 115))) := K1.out.set1 1 (.int .u8 115) (by simp) (by intro x hx; simp only [List.mem_singleton] at hx; subst hx; simp only []; omega)
  go_upto_region 9 with fail
  refine gen_to (BS w [(b, [.int .i64 0, .int .u8 115]), (r, [.int .i64 0, .int .u8 0])]) M1.out ?_
  intro W2 K2'
  have K2 : Hid (BS w [(b, [.int .i64 0, .int .u8 115]), (r, [.int .i64 0, .int .u8 0])] W2) := K2'
  clear K2' M1
  clear x1 y1 u1 v1 p1 q1 s1 t1
  clear K1
  obtain ⟨x2, y2⟩ := (bo1 K2).c2
  obtain ⟨u2, v2⟩ := (bo1 K2).f2
  obtain ⟨p2, q2⟩ := (bo2 K2).c2
  obtain ⟨s2, t2⟩ := (bo2 K2).f2
  go_wp2_with fail
  refine (SE.out _).mono ?_
  rintro e W4 ⟨rfl, hb⟩
  have K4 : Hid (BS w [(b, [.int .i64 0, .int .u8 115]), (r, [.int .i64 0, .int .u8 0])] W4) := K2.out.below hb
  clear x2 y2 u2 v2 p2 q2 s2 t2
  clear hb K2 SE
  obtain ⟨x4, y4⟩ := (bo1 K4).c2
  obtain ⟨u4, v4⟩ := (bo1 K4).f2
  obtain ⟨p4, q4⟩ := (bo2 K4).c2
  obtain ⟨s4, t4⟩ := (bo2 K4).f2
  have M4 : Hid (BS w [(b, [.int .i64 n, .int .u8 115]), (r, [.int .i64 0, .int .u8 0])] (W4.setCell ⟨b, 0, none⟩ (.int .i64 n))) := K4.out.set1 0 (.int .i64 n) (by simp) (by intro x hx; simp only [List.mem_singleton] at hx; subst hx; simp only []; omega)
  go_upto_region 12 with fail
  refine gen_to (BS w [(b, [.int .i64 n, .int .u8 115]), (r, [.int .i64 0, .int .u8 0])]) M4.out ?_
  intro W5 K5'
  have K5 : Hid (BS w [(b, [.int .i64 n, .int .u8 115]), (r, [.int .i64 0, .int .u8 0])] W5) := K5'
  clear K5' M4
  clear x4 y4 u4 v4 p4 q4 s4 t4
  clear K4
  obtain ⟨x5, y5⟩ := (bo1 K5).c2
  obtain ⟨u5, v5⟩ := (bo1 K5).f2
  obtain ⟨p5, q5⟩ := (bo2 K5).c2
  obtain ⟨s5, t5⟩ := (bo2 K5).f2
  go_wp2_with fail
  refine (RA.out _).mono ?_
  rintro e W6 ⟨rfl, hb⟩
  have K6 : Hid (BS w [(b, [.int .i64 n, .int .u8 115]), (r, [.int .i64 0, .int .u8 0])] W6) := K5.out.below hb
  clear x5 y5 u5 v5 p5 q5 s5 t5
  clear hb K5 RA
  cases bb
  · obtain ⟨x6, y6⟩ := (bo1 K6).c2
    obtain ⟨u6, v6⟩ := (bo1 K6).f2
    obtain ⟨p6, q6⟩ := (bo2 K6).c2
    obtain ⟨s6, t6⟩ := (bo2 K6).f2
    have XF : Hid (Bx (W6.setCells r 0 [.int .i64 0, .int .u8 0]) r [.int .i64 0, .int .u8 0]) := (bo2 K6).setAll _ rfl
    have BF : Hid (Below w.heap.size w (W6.setCells r 0 [.int .i64 0, .int .u8 0])) := below_setCells (by omega) _ _ _ K6.out.1
    have e0 := XF.out.c 0 rfl
    have e1 := XF.out.c 1 rfl
    simp only [World.setCells, Nat.zero_add] at e0 e1
    clear XF
    go_wp2
    exact bodyPost_ret (v := .tuple #[.agg #[.int .i64 0, .int .u8 0], .int .i64 21]) (by simp [results, Tryz.results89, go_sem, e0, e1]) rfl ⟨rfl, BF.out⟩
  · obtain ⟨x6, y6⟩ := (bo1 K6).c2
    obtain ⟨u6, v6⟩ := (bo1 K6).f2
    obtain ⟨p6, q6⟩ := (bo2 K6).c2
    obtain ⟨s6, t6⟩ := (bo2 K6).f2
    have XF : Hid (Bx (W6.setCells r 0 [.int .i64 n, .int .u8 115]) r [.int .i64 n, .int .u8 115]) := (bo2 K6).setAll _ rfl
    have BF : Hid (Below w.heap.size w (W6.setCells r 0 [.int .i64 n, .int .u8 115])) := below_setCells (by omega) _ _ _ K6.out.1
    have e0 := XF.out.c 0 rfl
    have e1 := XF.out.c 1 rfl
    simp only [World.setCells, Nat.zero_add] at e0 e1
    clear XF
    go_wp2
    exact bodyPost_ret (v := .tuple #[.agg #[.int .i64 n, .int .u8 115], .int .i64 0]) (by simp [results, Tryz.results89, go_sem, e0, e1]) rfl ⟨rfl, BF.out⟩

set_option maxRecDepth 100000 in
set_option maxHeartbeats 4000000 in
theorem era_117 {bb : Bool} (s : ByteArray) (n : Int) (hd : (s.toList == [45]) = false) (m : Nat) (hm : m ≤ 2097152) (hz : s.size = m + 1) (hx : ∀ w0 : World, (Instr.index 9 (.string s) (.int .i64 (m : Int))).run Tryz.prog w0 = .ok (.int .u8 117) w0) (SE : Hid (∀ w : World, Calls Tryz.prog 120 #[.string (s.extract 0 m)] w fun e w' => e = .returned (.int .i64 n) ∧ Below w.heap.size w w')) (RA : Hid (∀ w : World, Calls Tryz.prog 66 #[.agg #[.int .i64 n, .int .u8 117]] w fun e w' => e = .returned (.bool bb) ∧ Below w.heap.size w w')) (w : World) :
    Calls Tryz.prog 89 #[.string s] w fun e w' => e = .returned (if bb = true then .tuple #[.agg #[.int .i64 n, .int .u8 117], .int .i64 0] else .tuple #[.agg #[.int .i64 0, .int .u8 0], .int .i64 21]) ∧ Below w.heap.size w w' := by
  have m0 : (0 : Int) ≤ (m : Int) := by omega
  have m1 : (m : Int) < (m : Int) + 1 := by omega
  have m2 : IntKind.i64.wrap ((m : Int) + 1 - 1) = (m : Int) := by rw [IntKind.wrap_i64]; omega
  have m3 : IntKind.i64.wrap (m : Int) = (m : Int) := by rw [IntKind.wrap_i64]; omega
  have m4 : (m : Int) ≤ (m : Int) + 1 := by omega
  have m5 : (0 : Int) < (m : Int) + 1 := by omega
  obtain ⟨r, hr⟩ : ∃ r, r = w.heap.size := ⟨_, rfl⟩
  obtain ⟨b, hb0⟩ : ∃ b, b = w.heap.size + 1 := ⟨_, rfl⟩
  have K0 : Hid (BS w [(b, [.int .i64 0, .int .u8 119]), (r, [.int .i64 0, .int .u8 0])] ((w.alloc (.cells #[.int .i64 0, .int .u8 0] 69)).alloc (.cells #[.int .i64 0, .int .u8 119] 69))) := ((BS.start w).new [.int .i64 0, .int .u8 0] _ hr.symm).new [.int .i64 0, .int .u8 119] _ (by rw [hb0]; simp)
  go_enter Tryz.func89, Tryz.ntmps89
  go_upto_region 2 with fail
  rw [← hb0, ← hr]
  refine gen_to (BS w [(b, [.int .i64 0, .int .u8 119]), (r, [.int .i64 0, .int .u8 0])]) K0.out ?_
  intro W1 K1'
  have K1 : Hid (BS w [(b, [.int .i64 0, .int .u8 119]), (r, [.int .i64 0, .int .u8 0])] W1) := K1'
  clear K1' K0
  have hrb : r < b := by omega
  have hwr : w.heap.size ≤ r := by omega
  have hwb : w.heap.size ≤ b := by omega
  clear hr hb0
  obtain ⟨x1, y1⟩ := (bo1 K1).c2
  obtain ⟨u1, v1⟩ := (bo1 K1).f2
  obtain ⟨p1, q1⟩ := (bo2 K1).c2
  obtain ⟨s1, t1⟩ := (bo2 K1).f2
  have M1 : Hid (BS w [(b, [.int .i64 0, .int .u8 117]), (r, [.int .i64 0, .int .u8 0])] (W1.setCell ⟨b, 1, none⟩ (.int .u8 117))) := K1.out.set1 1 (.int .u8 117) (by simp) (by intro x hx; simp only [List.mem_singleton] at hx; subst hx; simp only []; omega)
  go_upto_region 9 with fail
  refine gen_to (BS w [(b, [.int .i64 0, .int .u8 117]), (r, [.int .i64 0, .int .u8 0])]) M1.out ?_
  intro W2 K2'
  have K2 : Hid (BS w [(b, [.int .i64 0, .int .u8 117]), (r, [.int .i64 0, .int .u8 0])] W2) := K2'
  clear K2' M1
  clear x1 y1 u1 v1 p1 q1 s1 t1
  clear K1
  obtain ⟨x2, y2⟩ := (bo1 K2).c2
  obtain ⟨u2, v2⟩ := (bo1 K2).f2
  obtain ⟨p2, q2⟩ := (bo2 K2).c2
  obtain ⟨s2, t2⟩ := (bo2 K2).f2
  go_wp2_with fail
  refine (SE.out _).mono ?_
  rintro e W4 ⟨rfl, hb⟩
  have K4 : Hid (BS w [(b, [.int .i64 0, .int .u8 117]), (r, [.int .i64 0, .int .u8 0])] W4) := K2.out.below hb
  clear x2 y2 u2 v2 p2 q2 s2 t2
  clear hb K2 SE
  obtain ⟨x4, y4⟩ := (bo1 K4).c2
  obtain ⟨u4, v4⟩ := (bo1 K4).f2
  obtain ⟨p4, q4⟩ := (bo2 K4).c2
  obtain ⟨s4, t4⟩ := (bo2 K4).f2
  have M4 : Hid (BS w [(b, [.int .i64 n, .int .u8 117]), (r, [.int .i64 0, .int .u8 0])] (W4.setCell ⟨b, 0, none⟩ (.int .i64 n))) := K4.out.set1 0 (.int .i64 n) (by simp) (by intro x hx; simp only [List.mem_singleton] at hx; subst hx; simp only []; omega)
  go_upto_region 12 with fail
  refine gen_to (BS w [(b, [.int .i64 n, .int .u8 117]), (r, [.int .i64 0, .int .u8 0])]) M4.out ?_
  intro W5 K5'
  have K5 : Hid (BS w [(b, [.int .i64 n, .int .u8 117]), (r, [.int .i64 0, .int .u8 0])] W5) := K5'
  clear K5' M4
  clear x4 y4 u4 v4 p4 q4 s4 t4
  clear K4
  obtain ⟨x5, y5⟩ := (bo1 K5).c2
  obtain ⟨u5, v5⟩ := (bo1 K5).f2
  obtain ⟨p5, q5⟩ := (bo2 K5).c2
  obtain ⟨s5, t5⟩ := (bo2 K5).f2
  go_wp2_with fail
  refine (RA.out _).mono ?_
  rintro e W6 ⟨rfl, hb⟩
  have K6 : Hid (BS w [(b, [.int .i64 n, .int .u8 117]), (r, [.int .i64 0, .int .u8 0])] W6) := K5.out.below hb
  clear x5 y5 u5 v5 p5 q5 s5 t5
  clear hb K5 RA
  cases bb
  · obtain ⟨x6, y6⟩ := (bo1 K6).c2
    obtain ⟨u6, v6⟩ := (bo1 K6).f2
    obtain ⟨p6, q6⟩ := (bo2 K6).c2
    obtain ⟨s6, t6⟩ := (bo2 K6).f2
    have XF : Hid (Bx (W6.setCells r 0 [.int .i64 0, .int .u8 0]) r [.int .i64 0, .int .u8 0]) := (bo2 K6).setAll _ rfl
    have BF : Hid (Below w.heap.size w (W6.setCells r 0 [.int .i64 0, .int .u8 0])) := below_setCells (by omega) _ _ _ K6.out.1
    have e0 := XF.out.c 0 rfl
    have e1 := XF.out.c 1 rfl
    simp only [World.setCells, Nat.zero_add] at e0 e1
    clear XF
    go_wp2
    exact bodyPost_ret (v := .tuple #[.agg #[.int .i64 0, .int .u8 0], .int .i64 21]) (by simp [results, Tryz.results89, go_sem, e0, e1]) rfl ⟨rfl, BF.out⟩
  · obtain ⟨x6, y6⟩ := (bo1 K6).c2
    obtain ⟨u6, v6⟩ := (bo1 K6).f2
    obtain ⟨p6, q6⟩ := (bo2 K6).c2
    obtain ⟨s6, t6⟩ := (bo2 K6).f2
    have XF : Hid (Bx (W6.setCells r 0 [.int .i64 n, .int .u8 117]) r [.int .i64 n, .int .u8 117]) := (bo2 K6).setAll _ rfl
    have BF : Hid (Below w.heap.size w (W6.setCells r 0 [.int .i64 n, .int .u8 117])) := below_setCells (by omega) _ _ _ K6.out.1
    have e0 := XF.out.c 0 rfl
    have e1 := XF.out.c 1 rfl
    simp only [World.setCells, Nat.zero_add] at e0 e1
    clear XF
    go_wp2
    exact bodyPost_ret (v := .tuple #[.agg #[.int .i64 n, .int .u8 117], .int .i64 0]) (by simp [results, Tryz.results89, go_sem, e0, e1]) rfl ⟨rfl, BF.out⟩

set_option maxRecDepth 100000 in
set_option maxHeartbeats 4000000 in
theorem era_103 {bb : Bool} (s : ByteArray) (n : Int) (hd : (s.toList == [45]) = false) (m : Nat) (hm : m ≤ 2097152) (hz : s.size = m + 1) (hx : ∀ w0 : World, (Instr.index 9 (.string s) (.int .i64 (m : Int))).run Tryz.prog w0 = .ok (.int .u8 103) w0) (SE : Hid (∀ w : World, Calls Tryz.prog 120 #[.string (s.extract 0 m)] w fun e w' => e = .returned (.int .i64 n) ∧ Below w.heap.size w w')) (RA : Hid (∀ w : World, Calls Tryz.prog 66 #[.agg #[.int .i64 n, .int .u8 117]] w fun e w' => e = .returned (.bool bb) ∧ Below w.heap.size w w')) (w : World) :
    Calls Tryz.prog 89 #[.string s] w fun e w' => e = .returned (if bb = true then .tuple #[.agg #[.int .i64 n, .int .u8 117], .int .i64 0] else .tuple #[.agg #[.int .i64 0, .int .u8 0], .int .i64 21]) ∧ Below w.heap.size w w' := by
  have m0 : (0 : Int) ≤ (m : Int) := by omega
  have m1 : (m : Int) < (m : Int) + 1 := by omega
  have m2 : IntKind.i64.wrap ((m : Int) + 1 - 1) = (m : Int) := by rw [IntKind.wrap_i64]; omega
  have m3 : IntKind.i64.wrap (m : Int) = (m : Int) := by rw [IntKind.wrap_i64]; omega
  have m4 : (m : Int) ≤ (m : Int) + 1 := by omega
  have m5 : (0 : Int) < (m : Int) + 1 := by omega
  obtain ⟨r, hr⟩ : ∃ r, r = w.heap.size := ⟨_, rfl⟩
  obtain ⟨b, hb0⟩ : ∃ b, b = w.heap.size + 1 := ⟨_, rfl⟩
  have K0 : Hid (BS w [(b, [.int .i64 0, .int .u8 119]), (r, [.int .i64 0, .int .u8 0])] ((w.alloc (.cells #[.int .i64 0, .int .u8 0] 69)).alloc (.cells #[.int .i64 0, .int .u8 119] 69))) := ((BS.start w).new [.int .i64 0, .int .u8 0] _ hr.symm).new [.int .i64 0, .int .u8 119] _ (by rw [hb0]; simp)
  go_enter Tryz.func89, Tryz.ntmps89
  go_upto_region 2 with fail
  rw [← hb0, ← hr]
  refine gen_to (BS w [(b, [.int .i64 0, .int .u8 119]), (r, [.int .i64 0, .int .u8 0])]) K0.out ?_
  intro W1 K1'
  have K1 : Hid (BS w [(b, [.int .i64 0, .int .u8 119]), (r, [.int .i64 0, .int .u8 0])] W1) := K1'
  clear K1' K0
  have hrb : r < b := by omega
  have hwr : w.heap.size ≤ r := by omega
  have hwb : w.heap.size ≤ b := by omega
  clear hr hb0
  obtain ⟨x1, y1⟩ := (bo1 K1).c2
  obtain ⟨u1, v1⟩ := (bo1 K1).f2
  obtain ⟨p1, q1⟩ := (bo2 K1).c2
  obtain ⟨s1, t1⟩ := (bo2 K1).f2
  have M1 : Hid (BS w [(b, [.int .i64 0, .int .u8 103]), (r, [.int .i64 0, .int .u8 0])] (W1.setCell ⟨b, 1, none⟩ (.int .u8 103))) := K1.out.set1 1 (.int .u8 103) (by simp) (by intro x hx; simp only [List.mem_singleton] at hx; subst hx; simp only []; omega)
  go_upto_region 9 with fail
  refine gen_to (BS w [(b, [.int .i64 0, .int .u8 103]), (r, [.int .i64 0, .int .u8 0])]) M1.out ?_
  intro W2 K2'
  have K2 : Hid (BS w [(b, [.int .i64 0, .int .u8 103]), (r, [.int .i64 0, .int .u8 0])] W2) := K2'
  clear K2' M1
  clear x1 y1 u1 v1 p1 q1 s1 t1
  clear K1
  obtain ⟨x2, y2⟩ := (bo1 K2).c2
  obtain ⟨u2, v2⟩ := (bo1 K2).f2
  obtain ⟨p2, q2⟩ := (bo2 K2).c2
  obtain ⟨s2, t2⟩ := (bo2 K2).f2
  have M2 : Hid (BS w [(b, [.int .i64 0, .int .u8 117]), (r, [.int .i64 0, .int .u8 0])] (W2.setCell ⟨b, 1, none⟩ (.int .u8 117))) := K2.out.set1 1 (.int .u8 117) (by simp) (by intro x hx; simp only [List.mem_singleton] at hx; subst hx; simp only []; omega)
  go_upto_region 11 with fail
  refine gen_to (BS w [(b, [.int .i64 0, .int .u8 117]), (r, [.int .i64 0, .int .u8 0])]) M2.out ?_
  intro W3 K3'
  have K3 : Hid (BS w [(b, [.int .i64 0, .int .u8 117]), (r, [.int .i64 0, .int .u8 0])] W3) := K3'
  clear K3' M2
  clear x2 y2 u2 v2 p2 q2 s2 t2
  clear K2
  obtain ⟨x3, y3⟩ := (bo1 K3).c2
  obtain ⟨u3, v3⟩ := (bo1 K3).f2
  obtain ⟨p3, q3⟩ := (bo2 K3).c2
  obtain ⟨s3, t3⟩ := (bo2 K3).f2
  go_wp2_with fail
  refine (SE.out _).mono ?_
  rintro e W4 ⟨rfl, hb⟩
  have K4 : Hid (BS w [(b, [.int .i64 0, .int .u8 117]), (r, [.int .i64 0, .int .u8 0])] W4) := K3.out.below hb
  clear x3 y3 u3 v3 p3 q3 s3 t3
  clear hb K3 SE
  obtain ⟨x4, y4⟩ := (bo1 K4).c2
  obtain ⟨u4, v4⟩ := (bo1 K4).f2
  obtain ⟨p4, q4⟩ := (bo2 K4).c2
  obtain ⟨s4, t4⟩ := (bo2 K4).f2
  have M4 : Hid (BS w [(b, [.int .i64 n, .int .u8 117]), (r, [.int .i64 0, .int .u8 0])] (W4.setCell ⟨b, 0, none⟩ (.int .i64 n))) := K4.out.set1 0 (.int .i64 n) (by simp) (by intro x hx; simp only [List.mem_singleton] at hx; subst hx; simp only []; omega)
  go_upto_region 12 with fail
  refine gen_to (BS w [(b, [.int .i64 n, .int .u8 117]), (r, [.int .i64 0, .int .u8 0])]) M4.out ?_
  intro W5 K5'
  have K5 : Hid (BS w [(b, [.int .i64 n, .int .u8 117]), (r, [.int .i64 0, .int .u8 0])] W5) := K5'
  clear K5' M4
  clear x4 y4 u4 v4 p4 q4 s4 t4
  clear K4
  obtain ⟨x5, y5⟩ := (bo1 K5).c2
  obtain ⟨u5, v5⟩ := (bo1 K5).f2
  obtain ⟨p5, q5⟩ := (bo2 K5).c2
  obtain ⟨s5, t5⟩ := (bo2 K5).f2
  go_wp2_with fail
  refine (RA.out _).mono ?_
  rintro e W6 ⟨rfl, hb⟩
  have K6 : Hid (BS w [(b, [.int .i64 n, .int .u8 117]), (r, [.int .i64 0, .int .u8 0])] W6) := K5.out.below hb
  clear x5 y5 u5 v5 p5 q5 s5 t5
  clear hb K5 RA
  cases bb
  · obtain ⟨x6, y6⟩ := (bo1 K6).c2
    obtain ⟨u6, v6⟩ := (bo1 K6).f2
    obtain ⟨p6, q6⟩ := (bo2 K6).c2
    obtain ⟨s6, t6⟩ := (bo2 K6).f2
    have XF : Hid (Bx (W6.setCells r 0 [.int .i64 0, .int .u8 0]) r [.int .i64 0, .int .u8 0]) := (bo2 K6).setAll _ rfl
    have BF : Hid (Below w.heap.size w (W6.setCells r 0 [.int .i64 0, .int .u8 0])) := below_setCells (by omega) _ _ _ K6.out.1
    have e0 := XF.out.c 0 rfl
    have e1 := XF.out.c 1 rfl
    simp only [World.setCells, Nat.zero_add] at e0 e1
    clear XF
    go_wp2
    exact bodyPost_ret (v := .tuple #[.agg #[.int .i64 0, .int .u8 0], .int .i64 21]) (by simp [results, Tryz.results89, go_sem, e0, e1]) rfl ⟨rfl, BF.out⟩
  · obtain ⟨x6, y6⟩ := (bo1 K6).c2
    obtain ⟨u6, v6⟩ := (bo1 K6).f2
    obtain ⟨p6, q6⟩ := (bo2 K6).c2
    obtain ⟨s6, t6⟩ := (bo2 K6).f2
    have XF : Hid (Bx (W6.setCells r 0 [.int .i64 n, .int .u8 117]) r [.int .i64 n, .int .u8 117]) := (bo2 K6).setAll _ rfl
    have BF : Hid (Below w.heap.size w (W6.setCells r 0 [.int .i64 n, .int .u8 117])) := below_setCells (by omega) _ _ _ K6.out.1
    have e0 := XF.out.c 0 rfl
    have e1 := XF.out.c 1 rfl
    simp only [World.setCells, Nat.zero_add] at e0 e1
    clear XF
    go_wp2
    exact bodyPost_ret (v := .tuple #[.agg #[.int .i64 n, .int .u8 117], .int .i64 0]) (by simp [results, Tryz.results89, go_sem, e0, e1]) rfl ⟨rfl, BF.out⟩

set_option maxRecDepth 100000 in
set_option maxHeartbeats 4000000 in
theorem era_122 {bb : Bool} (s : ByteArray) (n : Int) (hd : (s.toList == [45]) = false) (m : Nat) (hm : m ≤ 2097152) (hz : s.size = m + 1) (hx : ∀ w0 : World, (Instr.index 9 (.string s) (.int .i64 (m : Int))).run Tryz.prog w0 = .ok (.int .u8 122) w0) (SE : Hid (∀ w : World, Calls Tryz.prog 120 #[.string (s.extract 0 m)] w fun e w' => e = .returned (.int .i64 n) ∧ Below w.heap.size w w')) (RA : Hid (∀ w : World, Calls Tryz.prog 66 #[.agg #[.int .i64 n, .int .u8 117]] w fun e w' => e = .returned (.bool bb) ∧ Below w.heap.size w w')) (w : World) :
    Calls Tryz.prog 89 #[.string s] w fun e w' => e = .returned (if bb = true then .tuple #[.agg #[.int .i64 n, .int .u8 117], .int .i64 0] else .tuple #[.agg #[.int .i64 0, .int .u8 0], .int .i64 21]) ∧ Below w.heap.size w w' := by
  have m0 : (0 : Int) ≤ (m : Int) := by omega
  have m1 : (m : Int) < (m : Int) + 1 := by omega
  have m2 : IntKind.i64.wrap ((m : Int) + 1 - 1) = (m : Int) := by rw [IntKind.wrap_i64]; omega
  have m3 : IntKind.i64.wrap (m : Int) = (m : Int) := by rw [IntKind.wrap_i64]; omega
  have m4 : (m : Int) ≤ (m : Int) + 1 := by omega
  have m5 : (0 : Int) < (m : Int) + 1 := by omega
  obtain ⟨r, hr⟩ : ∃ r, r = w.heap.size := ⟨_, rfl⟩
  obtain ⟨b, hb0⟩ : ∃ b, b = w.heap.size + 1 := ⟨_, rfl⟩
  have K0 : Hid (BS w [(b, [.int .i64 0, .int .u8 119]), (r, [.int .i64 0, .int .u8 0])] ((w.alloc (.cells #[.int .i64 0, .int .u8 0] 69)).alloc (.cells #[.int .i64 0, .int .u8 119] 69))) := ((BS.start w).new [.int .i64 0, .int .u8 0] _ hr.symm).new [.int .i64 0, .int .u8 119] _ (by rw [hb0]; simp)
  go_enter Tryz.func89, Tryz.ntmps89
  go_upto_region 2 with fail
  rw [← hb0, ← hr]
  refine gen_to (BS w [(b, [.int .i64 0, .int .u8 119]), (r, [.int .i64 0, .int .u8 0])]) K0.out ?_
  intro W1 K1'
  have K1 : Hid (BS w [(b, [.int .i64 0, .int .u8 119]), (r, [.int .i64 0, .int .u8 0])] W1) := K1'
  clear K1' K0
  have hrb : r < b := by omega
  have hwr : w.heap.size ≤ r := by omega
  have hwb : w.heap.size ≤ b := by omega
  clear hr hb0
  obtain ⟨x1, y1⟩ := (bo1 K1).c2
  obtain ⟨u1, v1⟩ := (bo1 K1).f2
  obtain ⟨p1, q1⟩ := (bo2 K1).c2
  obtain ⟨s1, t1⟩ := (bo2 K1).f2
  have M1 : Hid (BS w [(b, [.int .i64 0, .int .u8 122]), (r, [.int .i64 0, .int .u8 0])] (W1.setCell ⟨b, 1, none⟩ (.int .u8 122))) := K1.out.set1 1 (.int .u8 122) (by simp) (by intro x hx; simp only [List.mem_singleton] at hx; subst hx; simp only []; omega)
  go_upto_region 9 with fail
  refine gen_to (BS w [(b, [.int .i64 0, .int .u8 122]), (r, [.int .i64 0, .int .u8 0])]) M1.out ?_
  intro W2 K2'
  have K2 : Hid (BS w [(b, [.int .i64 0, .int .u8 122]), (r, [.int .i64 0, .int .u8 0])] W2) := K2'
  clear K2' M1
  clear x1 y1 u1 v1 p1 q1 s1 t1
  clear K1
  obtain ⟨x2, y2⟩ := (bo1 K2).c2
  obtain ⟨u2, v2⟩ := (bo1 K2).f2
  obtain ⟨p2, q2⟩ := (bo2 K2).c2
  obtain ⟨s2, t2⟩ := (bo2 K2).f2
  have M2 : Hid (BS w [(b, [.int .i64 0, .int .u8 117]), (r, [.int .i64 0, .int .u8 0])] (W2.setCell ⟨b, 1, none⟩ (.int .u8 117))) := K2.out.set1 1 (.int .u8 117) (by simp) (by intro x hx; simp only [List.mem_singleton] at hx; subst hx; simp only []; omega)
  go_upto_region 11 with fail
  refine gen_to (BS w [(b, [.int .i64 0, .int .u8 117]), (r, [.int .i64 0, .int .u8 0])]) M2.out ?_
  intro W3 K3'
  have K3 : Hid (BS w [(b, [.int .i64 0, .int .u8 117]), (r, [.int .i64 0, .int .u8 0])] W3) := K3'
  clear K3' M2
  clear x2 y2 u2 v2 p2 q2 s2 t2
  clear K2
  obtain ⟨x3, y3⟩ := (bo1 K3).c2
  obtain ⟨u3, v3⟩ := (bo1 K3).f2
  obtain ⟨p3, q3⟩ := (bo2 K3).c2
  obtain ⟨s3, t3⟩ := (bo2 K3).f2
  go_wp2_with fail
  refine (SE.out _).mono ?_
  rintro e W4 ⟨rfl, hb⟩
  have K4 : Hid (BS w [(b, [.int .i64 0, .int .u8 117]), (r, [.int .i64 0, .int .u8 0])] W4) := K3.out.below hb
  clear x3 y3 u3 v3 p3 q3 s3 t3
  clear hb K3 SE
  obtain ⟨x4, y4⟩ := (bo1 K4).c2
  obtain ⟨u4, v4⟩ := (bo1 K4).f2
  obtain ⟨p4, q4⟩ := (bo2 K4).c2
  obtain ⟨s4, t4⟩ := (bo2 K4).f2
  have M4 : Hid (BS w [(b, [.int .i64 n, .int .u8 117]), (r, [.int .i64 0, .int .u8 0])] (W4.setCell ⟨b, 0, none⟩ (.int .i64 n))) := K4.out.set1 0 (.int .i64 n) (by simp) (by intro x hx; simp only [List.mem_singleton] at hx; subst hx; simp only []; omega)
  go_upto_region 12 with fail
  refine gen_to (BS w [(b, [.int .i64 n, .int .u8 117]), (r, [.int .i64 0, .int .u8 0])]) M4.out ?_
  intro W5 K5'
  have K5 : Hid (BS w [(b, [.int .i64 n, .int .u8 117]), (r, [.int .i64 0, .int .u8 0])] W5) := K5'
  clear K5' M4
  clear x4 y4 u4 v4 p4 q4 s4 t4
  clear K4
  obtain ⟨x5, y5⟩ := (bo1 K5).c2
  obtain ⟨u5, v5⟩ := (bo1 K5).f2
  obtain ⟨p5, q5⟩ := (bo2 K5).c2
  obtain ⟨s5, t5⟩ := (bo2 K5).f2
  go_wp2_with fail
  refine (RA.out _).mono ?_
  rintro e W6 ⟨rfl, hb⟩
  have K6 : Hid (BS w [(b, [.int .i64 n, .int .u8 117]), (r, [.int .i64 0, .int .u8 0])] W6) := K5.out.below hb
  clear x5 y5 u5 v5 p5 q5 s5 t5
  clear hb K5 RA
  cases bb
  · obtain ⟨x6, y6⟩ := (bo1 K6).c2
    obtain ⟨u6, v6⟩ := (bo1 K6).f2
    obtain ⟨p6, q6⟩ := (bo2 K6).c2
    obtain ⟨s6, t6⟩ := (bo2 K6).f2
    have XF : Hid (Bx (W6.setCells r 0 [.int .i64 0, .int .u8 0]) r [.int .i64 0, .int .u8 0]) := (bo2 K6).setAll _ rfl
    have BF : Hid (Below w.heap.size w (W6.setCells r 0 [.int .i64 0, .int .u8 0])) := below_setCells (by omega) _ _ _ K6.out.1
    have e0 := XF.out.c 0 rfl
    have e1 := XF.out.c 1 rfl
    simp only [World.setCells, Nat.zero_add] at e0 e1
    clear XF
    go_wp2
    exact bodyPost_ret (v := .tuple #[.agg #[.int .i64 0, .int .u8 0], .int .i64 21]) (by simp [results, Tryz.results89, go_sem, e0, e1]) rfl ⟨rfl, BF.out⟩
  · obtain ⟨x6, y6⟩ := (bo1 K6).c2
    obtain ⟨u6, v6⟩ := (bo1 K6).f2
    obtain ⟨p6, q6⟩ := (bo2 K6).c2
    obtain ⟨s6, t6⟩ := (bo2 K6).f2
    have XF : Hid (Bx (W6.setCells r 0 [.int .i64 n, .int .u8 117]) r [.int .i64 n, .int .u8 117]) := (bo2 K6).setAll _ rfl
    have BF : Hid (Below w.heap.size w (W6.setCells r 0 [.int .i64 n, .int .u8 117])) := below_setCells (by omega) _ _ _ K6.out.1
    have e0 := XF.out.c 0 rfl
    have e1 := XF.out.c 1 rfl
    simp only [World.setCells, Nat.zero_add] at e0 e1
    clear XF
    go_wp2
    exact bodyPost_ret (v := .tuple #[.agg #[.int .i64 n, .int .u8 117], .int .i64 0]) (by simp [results, Tryz.results89, go_sem, e0, e1]) rfl ⟨rfl, BF.out⟩

end Go.Proofs.YtgnfkkcagbbhmaaGreatDoor
