/- series: Count and Ints whole. -/
import Derived.Test.YtpdmndlpgjjopaaGreatDoorSeBq
import Derived.Laws.MakeOwn
namespace Go.Proofs.YtpdmndlpgjjopaaGreatDoor
open Go.RowKit
set_option linter.unusedVariables false

theorem cntI_up {a b s : Int} (h : 0 < s) (g : ¬ b < a) : cntI a b s = (b - a) / s + 1 := by unfold cntI; rw [if_pos h, if_neg g]
theorem cntI_dn {a b s : Int} (h : s < 0) (g : ¬ a < b) : cntI a b s = (a - b) / (-s) + 1 := by unfold cntI; rw [if_neg (by omega), if_neg g]
theorem cntI_bd {a b s : Int} (h0 : s ≠ 0) (a1 : -9223372036854775808 ≤ a) (a2 : a ≤ 9223372036854775807) (b1 : -9223372036854775808 ≤ b) (b2 : b ≤ 9223372036854775807) : 0 ≤ cntI a b s ∧ cntI a b s ≤ 18446744073709551616 := by
  unfold cntI
  by_cases h : 0 < s
  · rw [if_pos h]
    by_cases g : b < a
    · rw [if_pos g]; omega
    · rw [if_neg g]
      have e1 : 0 ≤ (b - a) / s := Int.ediv_nonneg (by omega) (by omega)
      have e2 : (b - a) / s ≤ b - a := Int.ediv_le_self _ (by omega)
      omega
  · rw [if_neg h]
    by_cases g : a < b
    · rw [if_pos g]; omega
    · rw [if_neg g]
      have e1 : 0 ≤ (a - b) / (-s) := Int.ediv_nonneg (by omega) (by omega)
      have e2 : (a - b) / (-s) ≤ a - b := Int.ediv_le_self _ (by omega)
      omega
theorem half_le {x y : Int} (hx : 0 ≤ x) (hy : 2 ≤ y) : x / y ≤ x / 2 := by
  have h1 : x / y * y ≤ x := Int.ediv_mul_le x (by omega)
  have h2 : 0 ≤ x / y := Int.ediv_nonneg hx (by omega)
  have h3 : x / y * 2 ≤ x / y * y := Int.mul_le_mul_of_nonneg_left hy h2
  omega
theorem cntI_lt {a b s : Int} (h0 : s ≠ 0) (ha : allB a b s = false) (a1 : -9223372036854775808 ≤ a) (a2 : a ≤ 9223372036854775807) (b1 : -9223372036854775808 ≤ b) (b2 : b ≤ 9223372036854775807) : cntI a b s < 18446744073709551616 := by
  unfold allB allU allD at ha
  simp only [Bool.or_eq_false_iff, Bool.and_eq_false_iff, decide_eq_false_iff_not] at ha
  unfold cntI
  by_cases h : 0 < s
  · rw [if_pos h]
    by_cases g : b < a
    · rw [if_pos g]; omega
    · rw [if_neg g]
      by_cases e : s = 1
      · subst e; rw [Int.ediv_one]; omega
      · have := half_le (x := b - a) (y := s) (by omega) (by omega)
        omega
  · rw [if_neg h]
    by_cases g : a < b
    · rw [if_pos g]; omega
    · rw [if_neg g]
      by_cases e : s = -1
      · subst e; rw [show (-(-1) : Int) = 1 by rfl, Int.ediv_one]; omega
      · have := half_le (x := a - b) (y := -s) (by omega) (by omega)
        omega

theorem count_any (a b s : Int) (h0 : s ≠ 0) (ha : allB a b s = false) (a1 : -9223372036854775808 ≤ a) (a2 : a ≤ 9223372036854775807) (b1 : -9223372036854775808 ≤ b) (b2 : b ≤ 9223372036854775807) (s1 : -9223372036854775808 ≤ s) (s2 : s ≤ 9223372036854775807) (w : World) :
    Calls Tryz.prog 64 #[.agg #[.int .i64 a, .int .i64 b, .int .i64 s]] w fun r w' => r = .returned (.int .u64 (cntI a b s)) ∧ Below w.heap.size w w' := by
  have lt := cntI_lt h0 ha a1 a2 b1 b2
  have bd := cntI_bd (a := a) (b := b) h0 a1 a2 b1 b2
  by_cases h : s < 0
  · by_cases g : a < b
    · rw [show cntI a b s = 0 by unfold cntI; rw [if_neg (by omega), if_pos g]]
      exact ct_db a b s _ _ _ _ rfl rfl rfl rfl _ _ h g rfl rfl w
    · have e := cntI_dn h g
      have hw : IntKind.u64.wrap (-(IntKind.u64.wrap (IntKind.u64.wrap b - IntKind.u64.wrap a))) = a - b := by simp only [IntKind.wrap_u64]; omega
      have hs : IntKind.u64.wrap (-(IntKind.u64.wrap s)) = -s := by simp only [IntKind.wrap_u64]; omega
      have q0 : 0 ≤ (a - b) / (-s) := Int.ediv_nonneg (by omega) (by omega)
      refine ct_d a b s _ _ _ _ rfl rfl rfl rfl (a - b) (-s) ((a - b) / (-s)) (cntI a b s) h g hw hs (by omega) ?_ ?_ w
      · rw [Int.tdiv_eq_ediv_of_nonneg (by omega), IntKind.wrap_u64]; omega
      · rw [← e, IntKind.wrap_u64]; omega
  · by_cases g : b < a
    · rw [show cntI a b s = 0 by unfold cntI; rw [if_pos (by omega), if_pos g]]
      exact ct_ub a b s _ _ _ _ rfl rfl rfl rfl h g w
    · have e := cntI_up (show 0 < s by omega) g
      have hw : IntKind.u64.wrap (IntKind.u64.wrap b - IntKind.u64.wrap a) = b - a := by simp only [IntKind.wrap_u64]; omega
      have hs : IntKind.u64.wrap s = s := by simp only [IntKind.wrap_u64]; omega
      have q0 : 0 ≤ (b - a) / s := Int.ediv_nonneg (by omega) (by omega)
      refine ct_u a b s _ _ s (b - a) rfl rfl hs hw ((b - a) / s) (cntI a b s) h g h0 ?_ ?_ w
      · rw [Int.tdiv_eq_ediv_of_nonneg (by omega), IntKind.wrap_u64]; omega
      · rw [← e, IntKind.wrap_u64]; omega

def ctV (a b s : Int) : Int := if s = 0 then 0 else if allB a b s = true then 0 else cntI a b s
def ctE (a b s : Int) : Int := if s = 0 then 11 else if allB a b s = true then 10 else 0

set_option maxRecDepth 100000 in
set_option maxHeartbeats 4000000 in
theorem Count_any (a b s : Int) (a1 : -9223372036854775808 ≤ a) (a2 : a ≤ 9223372036854775807) (b1 : -9223372036854775808 ≤ b) (b2 : b ≤ 9223372036854775807) (s1 : -9223372036854775808 ≤ s) (s2 : s ≤ 9223372036854775807) (w : World) :
    Calls Tryz.prog 40 #[.int .i64 a, .int .i64 b, .int .i64 s] w fun r w' => r = .returned (.tuple #[.int .u64 (ctV a b s), .int .i64 (ctE a b s)]) ∧ Below w.heap.size w w' := by
  unfold ctV ctE
  by_cases h0 : s = 0
  · rw [if_pos h0, if_pos h0]
    have z : (s == 0) = true := by simpa using h0
    go_enter Tryz.func40, Tryz.ntmps40
    go_wp2_with fail
    go_ret2
    exact ⟨rfl, Below.refl _ _⟩
  · rw [if_neg h0, if_neg h0]
    have z : (s == 0) = false := by simpa using h0
    have AL : Hid (∀ w : World, Calls Tryz.prog 63 #[.agg #[.int .i64 a, .int .i64 b, .int .i64 s]] w fun r w' => r = .returned (.bool (allB a b s)) ∧ Below w.heap.size w w') := fun w => all_any a b s w
    by_cases h : allB a b s = true
    · rw [if_pos h, if_pos h]
      rw [h] at AL
      clear h
      go_enter Tryz.func40, Tryz.ntmps40
      go_wp2_with fail
      refine (AL.out _).mono ?_
      rintro e W ⟨rfl, hb⟩
      have HB : Hid (Below w.heap.size w W) := ((Below.refl _ w).alloc (Nat.le_refl _) _).trans (hb.mono (by simp))
      clear hb
      go_wp2_with fail
      go_ret2
      exact ⟨rfl, HB.out⟩
    · rw [if_neg h, if_neg h]
      have h' : allB a b s = false := by simpa using h
      have CT : Hid (∀ w : World, Calls Tryz.prog 64 #[.agg #[.int .i64 a, .int .i64 b, .int .i64 s]] w fun r w' => r = .returned (.int .u64 (cntI a b s)) ∧ Below w.heap.size w w') := fun w => count_any a b s h0 h' a1 a2 b1 b2 s1 s2 w
      rw [h'] at AL
      generalize cntI a b s = C at *
      clear h h'
      have K0 := bsn (BS.start w) [.int .i64 a, .int .i64 b, .int .i64 s] 124
      go_enter Tryz.func40, Tryz.ntmps40
      go_wp2_with fail
      refine (AL.out _).mono ?_
      rintro e W ⟨rfl, hb⟩
      have K1 := bsb K0 hb
      obtain ⟨c0, c1, c2⟩ := (bo1 K1).c3
      clear hb K0
      go_wp2_with fail
      refine (CT.out _).mono ?_
      rintro e W2 ⟨rfl, hb⟩
      have K2 := bsb K1 hb
      clear hb K1 c0 c1 c2
      go_wp2_with fail
      go_ret2
      exact ⟨rfl, K2.out.1⟩

/-- numbers as cells. -/
def cI (L : List Int) : List Value := L.map fun x => .int .i64 x
theorem cI_len (L : List Int) : (cI L).length = L.length := by simp [cI]
theorem cI_get {L : List Int} {j : Nat} {x : Int} (h : L[j]? = some x) : (cI L)[j]? = some (.int .i64 x) := by simp [cI, h]
/-- a, and each one s more: n of them. -/
def arI (a s : Int) (n : Nat) : List Int := (List.range n).map fun k : Nat => a + (k : Int) * s
theorem arI_len (a s : Int) (n : Nat) : (arI a s n).length = n := by simp [arI]
theorem arI_get {a s : Int} {n j : Nat} (h : j < n) : (arI a s n)[j]? = some (a + (j : Int) * s) := by simp [arI, h]
def fiI (a s : Int) (i n : Nat) : List Int := (List.range n).map fun k => if k < i then a + (k : Int) * s else 0
theorem fiI_len (a s : Int) (i n : Nat) : (fiI a s i n).length = n := by simp [fiI]
theorem fiI_zero (a s : Int) (n : Nat) : fiI a s 0 n = List.replicate n 0 := by
  apply List.ext_getElem
  · simp [fiI]
  · intro i h1 h2; simp [fiI]
theorem fiI_all (a s : Int) (n : Nat) : fiI a s n n = arI a s n := by
  apply List.ext_getElem
  · simp [fiI, arI]
  · intro i h1 h2; simp only [fiI, arI, List.getElem_map, List.getElem_range]; rw [if_pos (by simpa [arI] using h2)]
theorem fiI_set (a s : Int) (i n : Nat) (h : i < n) : (cI (fiI a s i n)).set i (.int .i64 (a + (i : Int) * s)) = cI (fiI a s (i + 1) n) := by
  apply List.ext_getElem
  · simp [cI, fiI]
  · intro j h1 h2
    rw [List.getElem_set]
    simp only [cI, fiI, List.getElem_map, List.getElem_range]
    by_cases e : i = j
    · subst e; rw [if_pos rfl, if_pos (by omega)]
    · rw [if_neg e]
      by_cases g : j < i
      · rw [if_pos g, if_pos (by omega)]
      · rw [if_neg g, if_neg (by omega)]
theorem infoI64 : (Tryz.prog.info? 2).map (fun i => (i.zero, i.size, i.bytes)) = some (some (.int .i64 0), 1, 8) := by kernel_rfl
theorem made_i (n : Nat) : madeCells #[.int .i64 0] n = (cI (List.replicate n 0)).toArray := by
  apply Array.ext
  · simp [madeCells, cI]
  · intro i h1 h2
    simp [madeCells, cI, Nat.mod_one]
theorem make_i (n : Nat) (hn : n ≤ 1000) (w : World) : (Instr.makeSlice 71 (.int .u64 (n : Int)) (.int .u64 (n : Int))).run Tryz.prog w = .ok (.slice (some ⟨w.heap.size, 0, none⟩) n n) (w.alloc (.cells (cI (List.replicate n 0)).toArray 2)) := by
  obtain ⟨i0, hi, hz0, hz1, hz2⟩ := info_parts infoI64
  have h := run_make (P := Tryz.prog) w 71 2 i0 (.int .i64 0) Tryz.underlying71 hi hz0 .u64 .u64 (n : Int) (n : Int) (by omega) (by omega) (by rw [hz2]; omega) (by omega)
  rw [hz1] at h
  simp only [Int.toNat_natCast, Nat.mul_one] at h
  rw [h, show (Value.int .i64 0).cells = #[.int .i64 0] from rfl, made_i]

end Go.Proofs.YtpdmndlpgjjopaaGreatDoor
