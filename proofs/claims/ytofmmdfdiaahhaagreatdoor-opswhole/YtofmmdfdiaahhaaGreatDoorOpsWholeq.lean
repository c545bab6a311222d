/- A bin is not behind the stamp, less than one length ahead of it, and whole lengths from its origin: OpsWhole returns true for every two numbers and two stamps. -/
import Derived.Test.YtofmmdfdiaahhaaGreatDoorRows
import Derived.Test.YtofmmdfdiaahhaaGreatDoorCards
import Derived.Test.YtofmmdfdiaahhaaGreatDoorTie
import Derived.WalkKit
import Derived.ProofKit
import Derived.LaidMore
import Derived.OpenShut
import Derived.ShutString
import Derived.Stop.Joined
import Derived.Lib.LaidTab
import Derived.Lib.SmallJoins
import Derived.Stop.LaidErr
import Derived.Lay
import Derived.SevenTiedAt
import Derived.ChangeMaps5
import Derived.SizedLaws
import Derived.Lib.LaidU8T
import Derived.Shelf.Vars
import Derived.Test.YtofmmdfdiaahhaaGreatDoorLwOpsWholeq
namespace Go.Proofs.YtofmmdfdiaahhaaGreatDoor.opsWhole
open Go.ChangeShapes Go.WideShapes Go.ChangeAt Go.WideMaps Go.WideElems Go.RowKit
set_option linter.unusedVariables false

theorem own : ownKnob Tryz.prog.godebug = none := by kernel_rfl

theorem gLen : Tryz.prog.globalNamed "computus/civil.lengths" = some 1 := by kernel_rfl
theorem tLen : (Tryz.prog.globals[1]?).map (·.type) = some 152 := by kernel_rfl
theorem uLen : Tryz.prog.underlying 152 = some (.array 12 2) := by kernel_rfl
theorem gOps : Tryz.prog.globalNamed "computus/ops.lengths" = some 0 := by kernel_rfl
theorem tOps : (Tryz.prog.globals[0]?).map (·.type) = some 95 := by kernel_rfl
theorem uOps : Tryz.prog.underlying 95 = some (.array 6 2) := by kernel_rfl
/-- what the listed variables give the walks: the lengths of months and of fields. -/
theorem of_laid {W : World} (h : laidMetH Tryz.prog Rows.opsWholeRow.laid W) : LO W := by
  rw [MakeChecks.laidMetH_plain _ _ _ (by kernel_rfl)] at h
  have ht := Lib.tabIs_of_head (k := .i64) (zs := Cvl.tabL) (rest := _) gLen tLen uLen Tryz.underlying2 (by kernel_rfl) (by kernel_rfl) h
  have ho := Lib.tabIs_of_head (k := .i64) (zs := opTab) gOps tOps uOps Tryz.underlying2 (by kernel_rfl) (by kernel_rfl) h.tail.tail.tail.tail
  exact ⟨fun i hi => ht.cell gLen i hi, fun i hi => ho.cell gOps i hi⟩

theorem door_met (os : Os) (args : Array Value) : laidMetH Tryz.prog Rows.opsWholeRow.laid (((World.doorLaid Tryz.prog 400 os)).forCall (fun _ _ => 0) ⟨#[], args, []⟩).memory :=
  laidMetH_of_parts3 (fuel := 8) (laidMet_of_run' 8 (by kernel_rfl) (by kernel_rfl)) (by kernel_rfl) (by kernel_rfl)

theorem tm_em {a n r : Int} (hn : 0 < n) (h : a.tmod n = r) : -n < r ∧ r < n ∧ a % n = if r < 0 then r + n else r := by
  have bd := Nm.tmod_bd (a := a) (b := n) (by omega)
  rw [h] at bd
  have b1 : -n < r ∧ r < n := by omega
  have e := Int.tmod_add_mul_tdiv a n
  rw [h] at e
  have e2 : a % n = r % n := by rw [← e, Int.add_mul_emod_self_left]
  refine ⟨b1.1, b1.2, ?_⟩
  rw [e2]
  split
  · rw [← Int.add_emod_right, Int.emod_eq_of_lt (by omega) (by omega)]
  · rw [Int.emod_eq_of_lt (by omega) (by omega)]
theorem bin_math {t q n V : Int} (hn : 0 < n) (hV : V = t - (t - q) % n) : V ≤ t ∧ t - V < n ∧ V % n = q % n := by
  have g1 := Int.emod_nonneg (t - q) (show n ≠ 0 by omega)
  have g2 := Int.emod_lt_of_pos (t - q) hn
  refine ⟨by omega, by omega, ?_⟩
  have e := Int.emod_add_mul_ediv (t - q) n
  have : V = q + n * ((t - q) / n) := by omega
  rw [this, Int.add_mul_emod_self_left]

theorem walk (d : Int) (wd : (Lit.int .i64 d).wf = true) (u : Int) (wu : (Lit.int .i64 u).wf = true) (i t : Int) (wi : (Lit.int .i64 i).wf = true) (wt : (Lit.int .i64 t).wf = true) (p q : Int) (wp : (Lit.int .i64 p).wf = true) (wq : (Lit.int .i64 q).wf = true) (w : World) (hL : LO w) :
    Calls Tryz.prog 5 #[.int .i64 d, .int .i64 u, .agg #[.int .i64 i, .int .i64 t], .agg #[.int .i64 p, .int .i64 q]] w fun r w' => r = .returned (.bool true) ∧ Below w.heap.size w w' := by
  obtain ⟨t1, t2⟩ := bounds_i64 wt
  obtain ⟨q1, q2⟩ := bounds_i64 wq
  have KN : ∀ w : World, LO w → _ := fun w hw => known_any w hw
  obtain ⟨x, hx⟩ : ∃ x, d.tmod 1000 = x := ⟨_, rfl⟩
  obtain ⟨y, hy⟩ : ∃ y, u.tmod 86400000000000 = y := ⟨_, rfl⟩
  obtain ⟨x1, x2, _⟩ := tm_em (by decide) hx
  obtain ⟨y1, y2, _⟩ := tm_em (by decide) hy
  have hLL := LO.of hL
  have main : ∀ {D U n : Int}, 0 ≤ D → D ≤ 1000 → 0 ≤ U → U ≤ 86400000000000 → n = D * 86400000000 + U →
      (∀ (I V E : Int), n = 0 → E ≠ 0 → (∀ w : World, LO w → Calls Tryz.prog 12 #[.agg #[.int .i64 0, .int .i64 0, .int .i64 D, .int .i64 U], .agg #[.int .i64 i, .int .i64 t], .agg #[.int .i64 p, .int .i64 q]] w fun r' w' => r' = .returned (.tuple #[.agg #[.int .i64 I, .int .i64 V], .int .i64 E]) ∧ Below w.heap.size w w') → Calls Tryz.prog 5 #[.int .i64 d, .int .i64 u, .agg #[.int .i64 i, .int .i64 t], .agg #[.int .i64 p, .int .i64 q]] w fun r w' => r = .returned (.bool true) ∧ Below w.heap.size w w') →
      (∀ (I V E : Int), n ≠ 0 → E ≠ 0 → (∀ w : World, LO w → Calls Tryz.prog 12 #[.agg #[.int .i64 0, .int .i64 0, .int .i64 D, .int .i64 U], .agg #[.int .i64 i, .int .i64 t], .agg #[.int .i64 p, .int .i64 q]] w fun r' w' => r' = .returned (.tuple #[.agg #[.int .i64 I, .int .i64 V], .int .i64 E]) ∧ Below w.heap.size w w') → Calls Tryz.prog 5 #[.int .i64 d, .int .i64 u, .agg #[.int .i64 i, .int .i64 t], .agg #[.int .i64 p, .int .i64 q]] w fun r w' => r = .returned (.bool true) ∧ Below w.heap.size w w') →
      (∀ (I V : Int), n ≠ 0 → i ≠ 0 → (∀ w : World, LO w → Calls Tryz.prog 12 #[.agg #[.int .i64 0, .int .i64 0, .int .i64 D, .int .i64 U], .agg #[.int .i64 i, .int .i64 t], .agg #[.int .i64 p, .int .i64 q]] w fun r' w' => r' = .returned (.tuple #[.agg #[.int .i64 I, .int .i64 V], .int .i64 0]) ∧ Below w.heap.size w w') → Calls Tryz.prog 5 #[.int .i64 d, .int .i64 u, .agg #[.int .i64 i, .int .i64 t], .agg #[.int .i64 p, .int .i64 q]] w fun r w' => r = .returned (.bool true) ∧ Below w.heap.size w w') →
      (∀ (V P Q : Int), i = 0 → 0 < n → V.tmod n = P → q.tmod n = Q → -n < P → P < n → -n < Q → Q < n → V ≤ t → t - V < n → (if P < 0 then P + n else P) = (if Q < 0 then Q + n else Q) → (∀ w : World, LO w → Calls Tryz.prog 12 #[.agg #[.int .i64 0, .int .i64 0, .int .i64 D, .int .i64 U], .agg #[.int .i64 0, .int .i64 t], .agg #[.int .i64 p, .int .i64 q]] w fun r' w' => r' = .returned (.tuple #[.agg #[.int .i64 0, .int .i64 V], .int .i64 0]) ∧ Below w.heap.size w w') → Calls Tryz.prog 5 #[.int .i64 d, .int .i64 u, .agg #[.int .i64 i, .int .i64 t], .agg #[.int .i64 p, .int .i64 q]] w fun r w' => r = .returned (.bool true) ∧ Below w.heap.size w w') →
      Calls Tryz.prog 5 #[.int .i64 d, .int .i64 u, .agg #[.int .i64 i, .int .i64 t], .agg #[.int .i64 p, .int .i64 q]] w fun r w' => r = .returned (.bool true) ∧ Below w.heap.size w w' := by
    intro D U n d1 d2 b1 b2 hn K0 K1 K2 K3
    obtain ⟨I, V, E, h, C⟩ := bin_any D U i t p q n d1 d2 b1 b2 hn t1 t2 q1 q2
    rcases h with h | ⟨h1, rfl, h2⟩ | ⟨h1, rfl, h2, rfl, hV, _⟩
    · by_cases hz : n = 0
      · exact K0 I V E hz h (fun w hw => C w hw.1)
      · exact K1 I V E hz h (fun w hw => C w hw.1)
    · exact K2 I V (by omega) h2 (fun w hw => C w hw.1)
    · obtain ⟨P, hP⟩ : ∃ P, V.tmod n = P := ⟨_, rfl⟩
      obtain ⟨Q, hQ⟩ : ∃ Q, q.tmod n = Q := ⟨_, rfl⟩
      obtain ⟨p1, p2, p3⟩ := tm_em h1 hP
      obtain ⟨r1, r2, r3⟩ := tm_em h1 hQ
      obtain ⟨m1, m2, m3⟩ := bin_math h1 hV
      subst h2
      exact K3 V P Q rfl h1 hP hQ p1 p2 r1 r2 m1 m2 (by rw [← p3, ← r3]; exact m3) (fun w hw => C w hw.1)
  by_cases sx : x < 0 <;> by_cases sy : y < 0
  · refine main (D := (-x)) (U := (-y)) (by omega) (by omega) (by omega) (by omega) rfl ?_ ?_ ?_ ?_
    · intro I V E hz he C; exact wh_11n0 d u i t p q x y _ I V E hx hy x1 x2 y1 y2 sx sy rfl (by omega) (by omega) hz he C KN w hLL
    · intro I V E hz he C; exact wh_11e d u i t p q x y _ I V E hx hy x1 x2 y1 y2 sx sy rfl (by omega) (by omega) hz he C KN w hLL
    · intro I V hz hi C; exact wh_11inf d u i t p q x y _ I V 0 hx hy x1 x2 y1 y2 sx sy rfl (by omega) (by omega) hz hi C KN w hLL
    · intro V P Q hi hz hP hQ p1 p2 r1 r2 m1 m2 hpq C
      subst hi
      by_cases sp : P < 0 <;> by_cases sq : Q < 0
      · rw [if_pos sp, if_pos sq] at hpq; exact wh_1111 d u t p q x y _ V P Q hx hy x1 x2 y1 y2 sx sy rfl (by omega) (by omega) hz hP hQ p1 p2 r1 r2 sp sq m1 m2 hpq C KN w hLL
      · rw [if_pos sp, if_neg sq] at hpq; exact wh_1110 d u t p q x y _ V P Q hx hy x1 x2 y1 y2 sx sy rfl (by omega) (by omega) hz hP hQ p1 p2 r1 r2 sp sq m1 m2 hpq C KN w hLL
      · rw [if_neg sp, if_pos sq] at hpq; exact wh_1101 d u t p q x y _ V P Q hx hy x1 x2 y1 y2 sx sy rfl (by omega) (by omega) hz hP hQ p1 p2 r1 r2 sp sq m1 m2 hpq C KN w hLL
      · rw [if_neg sp, if_neg sq] at hpq; exact wh_1100 d u t p q x y _ V P Q hx hy x1 x2 y1 y2 sx sy rfl (by omega) (by omega) hz hP hQ p1 p2 r1 r2 sp sq m1 m2 hpq C KN w hLL
  · refine main (D := (-x)) (U := y) (by omega) (by omega) (by omega) (by omega) rfl ?_ ?_ ?_ ?_
    · intro I V E hz he C; exact wh_10n0 d u i t p q x y _ I V E hx hy x1 x2 y1 y2 sx sy rfl (by omega) (by omega) hz he C KN w hLL
    · intro I V E hz he C; exact wh_10e d u i t p q x y _ I V E hx hy x1 x2 y1 y2 sx sy rfl (by omega) (by omega) hz he C KN w hLL
    · intro I V hz hi C; exact wh_10inf d u i t p q x y _ I V 0 hx hy x1 x2 y1 y2 sx sy rfl (by omega) (by omega) hz hi C KN w hLL
    · intro V P Q hi hz hP hQ p1 p2 r1 r2 m1 m2 hpq C
      subst hi
      by_cases sp : P < 0 <;> by_cases sq : Q < 0
      · rw [if_pos sp, if_pos sq] at hpq; exact wh_1011 d u t p q x y _ V P Q hx hy x1 x2 y1 y2 sx sy rfl (by omega) (by omega) hz hP hQ p1 p2 r1 r2 sp sq m1 m2 hpq C KN w hLL
      · rw [if_pos sp, if_neg sq] at hpq; exact wh_1010 d u t p q x y _ V P Q hx hy x1 x2 y1 y2 sx sy rfl (by omega) (by omega) hz hP hQ p1 p2 r1 r2 sp sq m1 m2 hpq C KN w hLL
      · rw [if_neg sp, if_pos sq] at hpq; exact wh_1001 d u t p q x y _ V P Q hx hy x1 x2 y1 y2 sx sy rfl (by omega) (by omega) hz hP hQ p1 p2 r1 r2 sp sq m1 m2 hpq C KN w hLL
      · rw [if_neg sp, if_neg sq] at hpq; exact wh_1000 d u t p q x y _ V P Q hx hy x1 x2 y1 y2 sx sy rfl (by omega) (by omega) hz hP hQ p1 p2 r1 r2 sp sq m1 m2 hpq C KN w hLL
  · refine main (D := x) (U := (-y)) (by omega) (by omega) (by omega) (by omega) rfl ?_ ?_ ?_ ?_
    · intro I V E hz he C; exact wh_01n0 d u i t p q x y _ I V E hx hy x1 x2 y1 y2 sx sy rfl (by omega) (by omega) hz he C KN w hLL
    · intro I V E hz he C; exact wh_01e d u i t p q x y _ I V E hx hy x1 x2 y1 y2 sx sy rfl (by omega) (by omega) hz he C KN w hLL
    · intro I V hz hi C; exact wh_01inf d u i t p q x y _ I V 0 hx hy x1 x2 y1 y2 sx sy rfl (by omega) (by omega) hz hi C KN w hLL
    · intro V P Q hi hz hP hQ p1 p2 r1 r2 m1 m2 hpq C
      subst hi
      by_cases sp : P < 0 <;> by_cases sq : Q < 0
      · rw [if_pos sp, if_pos sq] at hpq; exact wh_0111 d u t p q x y _ V P Q hx hy x1 x2 y1 y2 sx sy rfl (by omega) (by omega) hz hP hQ p1 p2 r1 r2 sp sq m1 m2 hpq C KN w hLL
      · rw [if_pos sp, if_neg sq] at hpq; exact wh_0110 d u t p q x y _ V P Q hx hy x1 x2 y1 y2 sx sy rfl (by omega) (by omega) hz hP hQ p1 p2 r1 r2 sp sq m1 m2 hpq C KN w hLL
      · rw [if_neg sp, if_pos sq] at hpq; exact wh_0101 d u t p q x y _ V P Q hx hy x1 x2 y1 y2 sx sy rfl (by omega) (by omega) hz hP hQ p1 p2 r1 r2 sp sq m1 m2 hpq C KN w hLL
      · rw [if_neg sp, if_neg sq] at hpq; exact wh_0100 d u t p q x y _ V P Q hx hy x1 x2 y1 y2 sx sy rfl (by omega) (by omega) hz hP hQ p1 p2 r1 r2 sp sq m1 m2 hpq C KN w hLL
  · refine main (D := x) (U := y) (by omega) (by omega) (by omega) (by omega) rfl ?_ ?_ ?_ ?_
    · intro I V E hz he C; exact wh_00n0 d u i t p q x y _ I V E hx hy x1 x2 y1 y2 sx sy rfl (by omega) (by omega) hz he C KN w hLL
    · intro I V E hz he C; exact wh_00e d u i t p q x y _ I V E hx hy x1 x2 y1 y2 sx sy rfl (by omega) (by omega) hz he C KN w hLL
    · intro I V hz hi C; exact wh_00inf d u i t p q x y _ I V 0 hx hy x1 x2 y1 y2 sx sy rfl (by omega) (by omega) hz hi C KN w hLL
    · intro V P Q hi hz hP hQ p1 p2 r1 r2 m1 m2 hpq C
      subst hi
      by_cases sp : P < 0 <;> by_cases sq : Q < 0
      · rw [if_pos sp, if_pos sq] at hpq; exact wh_0011 d u t p q x y _ V P Q hx hy x1 x2 y1 y2 sx sy rfl (by omega) (by omega) hz hP hQ p1 p2 r1 r2 sp sq m1 m2 hpq C KN w hLL
      · rw [if_pos sp, if_neg sq] at hpq; exact wh_0010 d u t p q x y _ V P Q hx hy x1 x2 y1 y2 sx sy rfl (by omega) (by omega) hz hP hQ p1 p2 r1 r2 sp sq m1 m2 hpq C KN w hLL
      · rw [if_neg sp, if_pos sq] at hpq; exact wh_0001 d u t p q x y _ V P Q hx hy x1 x2 y1 y2 sx sy rfl (by omega) (by omega) hz hP hQ p1 p2 r1 r2 sp sq m1 m2 hpq C KN w hLL
      · rw [if_neg sp, if_neg sq] at hpq; exact wh_0000 d u t p q x y _ V P Q hx hy x1 x2 y1 y2 sx sy rfl (by omega) (by omega) hz hP hQ p1 p2 r1 r2 sp sq m1 m2 hpq C KN w hLL

set_option maxRecDepth 100000 in
theorem lifted (os : Os) (started : os.Started) (H : Type) (enc : TypeId × Value → H) :
    ReturnsInHanded {} Tryz.checked os 5 .any (fun w args => (Rows.opsWholeSpec.pre enc Tryz.prog Tryz.f5 [] false w args ∧ laidMetH Tryz.prog Rows.opsWholeRow.laid w) ∧ sizedMet enc Tryz.prog Tryz.f5 (OpenSpec.ofChange Rows.opsWholeSpec) false w args)
      (Rows.opsWholeSpec.post enc Tryz.prog Tryz.f5 false true false false) := by
  refine returnsInHanded_of_change_and (C := Tryz.checked) (X := fun w _ => laidMetH Tryz.prog Rows.opsWholeRow.laid w) (fun _ _ _ hh h => h.of_heap hh) own started (by kernel_rfl) Tryz.func5
    (ChangeSpec.witness_shaped (enc := enc) (C := Tryz.checked) (os := os) (X := fun w _ => laidMetH Tryz.prog Rows.opsWholeRow.laid w) false (World.doorLaid Tryz.prog 400 os) #[.int .i64 0, .int .i64 0, .agg #[.int .i64 0, .int .i64 0], .agg #[.int .i64 0, .int .i64 0]] 8 rfl (World.shaped_of_RefB (by kernel_rfl) (by kernel_rfl)) (by kernel_rfl) (by kernel_rfl) (by kernel_rfl) (door_met os _)) ?_
  intro W base args ds gs before hval0 hW _ _ hL _
  have hval : ∀ (j : Nat) t v, Tryz.f5.params[j]? = some t → args[j]? = some v → Value.okWide Tryz.prog W .any base t v := hval0
  have hW' := hW
  obtain ⟨p, q, hA0, hV, rfl, hfz, hnd⟩ := hW
  have hA : DataW.TrodAll enc Tryz.prog W 0 (fun _ => true) true Tryz.f5.params.toList args.toList ds p := hA0
  rw [Tryz.params5] at hA hval
  obtain ⟨v0, vs0, d0, ds0, p0, q0, ha0, rfl, rfl, h0, r0⟩ := trodAll_cons hA
  obtain ⟨v1, vs1, d1, ds1, p1, q1, ha1, rfl, rfl, h1, r1⟩ := trodAll_cons r0
  obtain ⟨v2, vs2, d2, ds2, p2, q2, ha2, rfl, rfl, h2, r2⟩ := trodAll_cons r1
  obtain ⟨v3, vs3, d3, ds3, p3, q3, ha3, rfl, rfl, h3, r3⟩ := trodAll_cons r2
  obtain ⟨rfl, rfl, rfl⟩ := trodAll_nil r3
  subst ha3
  subst ha2
  subst ha1
  obtain rfl : args = #[v0, v1, v2, v3] := by cases args; simp_all
  obtain ⟨rfl, rfl⟩ := trodVars_none hV
  obtain ⟨a0, rfl, rfl, rfl, w0⟩ := open_int Tryz.underlying2 (hval 0 2 v0 rfl rfl) h0
  obtain ⟨a1, rfl, rfl, rfl, w1⟩ := open_int Tryz.underlying2 (hval 1 2 v1 rfl rfl) h1
  obtain ⟨c2_0, c2_1, y2_0, y2_1, m2, rfl, rfl, rfl, hy2_0, hy2_1⟩ := Joins.open_agg2 Tryz.underlying23 (by kernel_rfl) (show Tryz.prog.cellsOf 23 = 2 by kernel_rfl) (hval 2 23 v2 rfl rfl) h2
  obtain ⟨n2_0, i2_0, rfl, wn2_0⟩ := DataW.trod_int Tryz.underlying3 hy2_0
  simp at i2_0
  subst i2_0
  obtain ⟨n2_1, i2_1, rfl, wn2_1⟩ := DataW.trod_int Tryz.underlying2 hy2_1
  simp at i2_1
  subst i2_1
  obtain ⟨c3_0, c3_1, y3_0, y3_1, m3, rfl, rfl, rfl, hy3_0, hy3_1⟩ := Joins.open_agg2 Tryz.underlying23 (by kernel_rfl) (show Tryz.prog.cellsOf 23 = 2 by kernel_rfl) (hval 3 23 v3 rfl rfl) h3
  obtain ⟨n3_0, i3_0, rfl, wn3_0⟩ := DataW.trod_int Tryz.underlying3 hy3_0
  simp at i3_0
  subst i3_0
  obtain ⟨n3_1, i3_1, rfl, wn3_1⟩ := DataW.trod_int Tryz.underlying2 hy3_1
  simp at i3_1
  subst i3_1
  clear hA0 hval0
  simp only [List.append_nil] at hW'
  refine (walk a0 w0 a1 w1 n2_0 n2_1 wn2_0 wn2_1 n3_0 n3_1 wn3_0 wn3_1 W (of_laid hL)).mono fun e W' ⟨he, hg⟩ => ?_
  subst he
  exact ⟨_, rfl, _, _, _, [], [], [], hW', (trodAll_cons_mk (shut_bool Tryz.underlying4 _) trodAll_mk0), (trodAll_cons_mk (shut_int Tryz.underlying2 w0) (trodAll_cons_mk (shut_int Tryz.underlying2 w1) (trodAll_cons_mk ((Joins.shut_agg2 (y0 := (.lit (.int .i64 n2_0), [])) (y1 := (.lit (.int .i64 n2_1), [])) Tryz.underlying23 (by kernel_rfl) (show Tryz.prog.cellsOf 23 = 2 by kernel_rfl) ⟨1, by simp [DataW.trod, Tryz.underlying3, wn2_0]⟩ ⟨1, by simp [DataW.trod, Tryz.underlying2, wn2_1]⟩)) (trodAll_cons_mk ((Joins.shut_agg2 (y0 := (.lit (.int .i64 n3_0), [])) (y1 := (.lit (.int .i64 n3_1), [])) Tryz.underlying23 (by kernel_rfl) (show Tryz.prog.cellsOf 23 = 2 by kernel_rfl) ⟨1, by simp [DataW.trod, Tryz.underlying3, wn3_0]⟩ ⟨1, by simp [DataW.trod, Tryz.underlying2, wn3_1]⟩)) trodAll_mk0)))), rfl, hg.frame _, fun h => by cases h⟩

theorem over : Rows.opsWholeRow.holds Tryz.pinned (OpenSpec.ofChange Rows.opsWholeSpec) :=
  OpenClaim.holds_of_wide 5 Tryz.f5 rfl rfl rfl rfl rfl rfl rfl ⟨rfl, rfl, rfl, rfl, rfl⟩ rfl rfl rfl rfl rfl (by kernel_rfl) Tryz.func5 (by kernel_rfl)
    (of_decide_eq_true (by kernel_rfl)) (by unfold Func.isWrapper; first | (rw [if_pos (by decide +kernel)]; kernel_rfl) | (rw [if_neg (by decide +kernel)]; exact ⟨rfl, rfl⟩))
    (fun os started H enc _ => lifted os started H enc)

theorem proved : Rows.OpsWholeCardSaid :=
  Claim7.holds_tied_plain_at .later [] [.data, .data, .data, .data, .data] true (true, "1288aef8317a012f5a7b0e0b1f0b325ad2df71ac88b0c2102696b3cf94a1a272") true
    over (fun _ h => by cases h) (by kernel_rfl) (fun _ h => by cases h) opsWhole_row_tie rfl ⟨rfl, rfl⟩ (by kernel_rfl) rfl
    (fun f fn hf hfn => by
      obtain rfl : f = 5 := Option.some.inj ((show Tryz.prog.funcNamed Rows.opsWholeRow.func = some 5 by kernel_rfl).symm.trans hf) |>.symm
      obtain rfl : fn = Tryz.f5 := (Option.some.inj (Tryz.func5.symm.trans hfn)).symm
      exact ⟨by kernel_rfl, fun j t ht => by
        rw [Tryz.params5] at ht
        have hm : t ∈ [2, 23] := by simpa using Array.mem_of_getElem? ht
        have hall : ([2, 23].all fun u => !Tryz.prog.wantsStandIn u) = true := by kernel_rfl
        exact (show Tryz.prog.wantsStandIn t = false by simpa using List.all_eq_true.1 hall t hm)⟩)
    (by kernel_rfl)
end Go.Proofs.YtofmmdfdiaahhaaGreatDoor.opsWhole
