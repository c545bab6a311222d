/- Whether two stretches of time share an instant is what the document says, whichever comes first: OpsOverlaps returns true for every four stamps. -/
import Derived.Test.YtofmmdfdiaahhaaGreatDoorRows
import Derived.Test.YtofmmdfdiaahhaaGreatDoorCards
import Derived.Test.YtofmmdfdiaahhaaGreatDoorTie
import Derived.WalkKit
import Derived.ProofKit
import Derived.LaidMore
import Derived.OpenShut
import Derived.ShutString
import Derived.Stop.Joined
import Derived.Lib.LaidTab
import Derived.Lib.SmallJoins
import Derived.Stop.LaidErr
import Derived.Lay
import Derived.SevenTiedAt
import Derived.ChangeMaps5
import Derived.SizedLaws
import Derived.Lib.LaidU8T
import Derived.Shelf.Vars
import Derived.Test.YtofmmdfdiaahhaaGreatDoorLwOpsOverlapsq
namespace Go.Proofs.YtofmmdfdiaahhaaGreatDoor.opsOverlaps
open Go.ChangeShapes Go.WideShapes Go.ChangeAt Go.WideMaps Go.WideElems Go.RowKit
set_option linter.unusedVariables false

theorem own : ownKnob Tryz.prog.godebug = none := by kernel_rfl

theorem gLen : Tryz.prog.globalNamed "computus/civil.lengths" = some 1 := by kernel_rfl
theorem tLen : (Tryz.prog.globals[1]?).map (·.type) = some 152 := by kernel_rfl
theorem uLen : Tryz.prog.underlying 152 = some (.array 12 2) := by kernel_rfl
theorem gOps : Tryz.prog.globalNamed "computus/ops.lengths" = some 0 := by kernel_rfl
theorem tOps : (Tryz.prog.globals[0]?).map (·.type) = some 95 := by kernel_rfl
theorem uOps : Tryz.prog.underlying 95 = some (.array 6 2) := by kernel_rfl
/-- what the listed variables give the walks: the lengths of months and of fields. -/
theorem of_laid {W : World} (h : laidMetH Tryz.prog Rows.opsOverlapsRow.laid W) : LO W := by
  rw [MakeChecks.laidMetH_plain _ _ _ (by kernel_rfl)] at h
  have ht := Lib.tabIs_of_head (k := .i64) (zs := Cvl.tabL) (rest := _) gLen tLen uLen Tryz.underlying2 (by kernel_rfl) (by kernel_rfl) h
  have ho := Lib.tabIs_of_head (k := .i64) (zs := opTab) gOps tOps uOps Tryz.underlying2 (by kernel_rfl) (by kernel_rfl) h.tail.tail.tail.tail
  exact ⟨fun i hi => ht.cell gLen i hi, fun i hi => ho.cell gOps i hi⟩

theorem door_met (os : Os) (args : Array Value) : laidMetH Tryz.prog Rows.opsOverlapsRow.laid (((World.doorLaid Tryz.prog 400 os)).forCall (fun _ _ => 0) ⟨#[], args, []⟩).memory :=
  laidMetH_of_parts3 (fuel := 8) (laidMet_of_run' 8 (by kernel_rfl) (by kernel_rfl)) (by kernel_rfl) (by kernel_rfl)

/-- two stamps in order. -/
def IO (i a j b p x q y : Int) : Prop := (0 < Dy.ordV i j a b ∧ p = j ∧ x = b ∧ q = i ∧ y = a) ∨ (¬ 0 < Dy.ordV i j a b ∧ p = i ∧ x = a ∧ q = j ∧ y = b)
theorem ord_neg (i j a b : Int) : Dy.ordV j i b a = - Dy.ordV i j a b := by unfold Dy.ordV; repeat' split
                                                                            all_goals omega
theorem ord_zero {i j a b : Int} (h : Dy.ordV i j a b = 0) : i = j ∧ a = b := by unfold Dy.ordV at h; repeat' split at h
                                                                                 all_goals omega
theorem ord_3v (i j a b : Int) : Dy.ordV i j a b = -1 ∨ Dy.ordV i j a b = 0 ∨ Dy.ordV i j a b = 1 := by unfold Dy.ordV; repeat' split
                                                                                                        all_goals omega
theorem io_is (i a j b : Int) : ∃ p x q y, IO i a j b p x q y := by
  by_cases h : 0 < Dy.ordV i j a b
  · exact ⟨_, _, _, _, .inl ⟨h, rfl, rfl, rfl, rfl⟩⟩
  · exact ⟨_, _, _, _, .inr ⟨h, rfl, rfl, rfl, rfl⟩⟩
theorem io_turn {i a j b p x q y : Int} (h : IO i a j b p x q y) : IO j b i a p x q y := by
  have n := ord_neg i j a b
  rcases h with ⟨h, rfl, rfl, rfl, rfl⟩ | ⟨h, rfl, rfl, rfl, rfl⟩
  · exact .inr ⟨by omega, rfl, rfl, rfl, rfl⟩
  · by_cases h0 : Dy.ordV p q x y = 0
    · obtain ⟨rfl, rfl⟩ := ord_zero h0
      exact .inr ⟨by omega, rfl, rfl, rfl, rfl⟩
    · exact .inl ⟨by omega, rfl, rfl, rfl, rfl⟩
theorem io_right {i a j b p x q y : Int} (h : IO i a j b p x q y) (h1 : Dy.sR i a = true) (h2 : Dy.sR j b = true) : Dy.sR p x = true ∧ Dy.sR q y = true := by
  rcases h with ⟨_, rfl, rfl, rfl, rfl⟩ | ⟨_, rfl, rfl, rfl, rfl⟩
  · exact ⟨h2, h1⟩
  · exact ⟨h1, h2⟩
def ovB (p x q y r z s t : Int) : Bool := if Dy.ordV p r x z = -1 then decide (Dy.ordV r q z y < 0) else if Dy.ordV p r x z = 1 then decide (Dy.ordV p s x t < 0) else true
theorem ov_turn (p x q y r z s t : Int) : ovB r z s t p x q y = ovB p x q y r z s t := by
  have n := ord_neg p r x z
  unfold ovB
  rw [n]
  rcases ord_3v p r x z with h | h | h <;> rw [h] <;> simp
theorem sR_bd {i a : Int} (h : Dy.sR i a = true) : -9223372036854775808 ≤ a ∧ a ≤ 9223372036854775807 := by
  by_cases hi : i = 0
  · subst hi
    have := Dy.dok_yes (show Dy.dok (a / 86400000000) = true from h)
    omega
  · rw [Dy.sR_1 hi] at h
    have := of_decide_eq_true h
    omega
theorem cm_in {i a j b : Int} (h1 : Dy.sR i a = true) (h2 : Dy.sR j b = true) (w : World) (hw : Cvl.Lens w) : Calls Tryz.prog 22 #[.agg #[.int .i64 i, .int .i64 a], .agg #[.int .i64 j, .int .i64 b]] w fun r w' => r = .returned (.int .i64 (Dy.ordV i j a b)) ∧ Below w.heap.size w w' := by
  have R := Dy.scmp_any i a j b (sR_bd h1).1 (sR_bd h1).2 (sR_bd h2).1 (sR_bd h2).2 w hw
  unfold Dy.spV at R
  rw [if_pos ⟨h1, h2⟩] at R
  exact R
theorem rcm_in {i a j b : Int} (h1 : Dy.sR i a = true) (h2 : Dy.sR j b = true) (w : World) : Calls Tryz.prog 11 #[.agg #[.int .i64 i, .int .i64 a], .agg #[.int .i64 j, .int .i64 b]] w fun r w' => r = .returned (.int .i64 (Dy.ordV i j a b)) ∧ Below w.heap.size w w' := by
  have R := Dy.rscmp_any i a j b (sR_bd h1).1 (sR_bd h1).2 (sR_bd h2).1 (sR_bd h2).2 w
  unfold Dy.spV at R
  rw [if_pos ⟨h1, h2⟩] at R
  exact R
theorem io_any {i a j b p x q y : Int} (h : IO i a j b p x q y) (h1 : Dy.sR i a = true) (h2 : Dy.sR j b = true) (w : World) (hw : Cvl.Lens w) :
    Calls Tryz.prog 21 #[.agg #[.int .i64 i, .int .i64 a], .agg #[.int .i64 j, .int .i64 b]] w fun r w' => r = .returned (.tuple #[.agg #[.int .i64 p, .int .i64 x], .agg #[.int .i64 q, .int .i64 y]]) ∧ Below w.heap.size w w' := by
  rcases h with ⟨h, rfl, rfl, rfl, rfl⟩ | ⟨h, rfl, rfl, rfl, rfl⟩
  · exact io_gt _ _ _ _ _ h (fun w hw => cm_in h1 h2 w hw) w (Dy.lens_of hw)
  · exact io_le _ _ _ _ _ h (fun w hw => cm_in h1 h2 w hw) w (Dy.lens_of hw)
theorem ov_any {i0 a i1 b i2 c i3 d p x q y r z s t : Int} (h0 : Dy.sR i0 a = true) (h1 : Dy.sR i1 b = true) (h2 : Dy.sR i2 c = true) (h3 : Dy.sR i3 d = true) (H : IO i0 a i1 b p x q y) (G : IO i2 c i3 d r z s t) (w : World) (hw : Cvl.Lens w) :
    Calls Tryz.prog 7 #[.agg #[.int .i64 i0, .int .i64 a], .agg #[.int .i64 i1, .int .i64 b], .agg #[.int .i64 i2, .int .i64 c], .agg #[.int .i64 i3, .int .i64 d]] w fun r' w' => r' = .returned (.tuple #[.bool (ovB p x q y r z s t), .int .i64 0]) ∧ Below w.heap.size w w' := by
  obtain ⟨k1, k2⟩ := io_right H h0 h1
  obtain ⟨k3, k4⟩ := io_right G h2 h3
  have R : ∀ {i u : Int} (h : Dy.sR i u = true) (w : World) (hw : Cvl.Lens w), Calls Tryz.prog 20 #[.agg #[.int .i64 i, .int .i64 u]] w fun r' w' => r' = .returned (.bool true) ∧ Below w.heap.size w w' := fun h w hw => rsR h (sR_bd h).1 (sR_bd h).2 w hw
  unfold ovB
  rcases ord_3v p r x z with e | e | e
  · rw [if_pos e]
    exact ov_m i0 a i1 b i2 c i3 d p x q y r z s t _ _ e (R h0) (R h1) (R h2) (R h3) (fun w hw => io_any H h0 h1 w hw) (fun w hw => io_any G h2 h3 w hw) (fun w hw => cm_in k1 k3 w hw) (fun w hw => cm_in k3 k2 w hw) w (Dy.lens_of hw)
  · rw [if_neg (by omega), if_neg (by omega)]
    exact ov_z i0 a i1 b i2 c i3 d p x q y r z s t _ 0 e (R h0) (R h1) (R h2) (R h3) (fun w hw => io_any H h0 h1 w hw) (fun w hw => io_any G h2 h3 w hw) (fun w hw => cm_in k1 k3 w hw) w (Dy.lens_of hw)
  · rw [if_neg (by omega), if_pos e]
    exact ov_p i0 a i1 b i2 c i3 d p x q y r z s t _ _ e (R h0) (R h1) (R h2) (R h3) (fun w hw => io_any H h0 h1 w hw) (fun w hw => io_any G h2 h3 w hw) (fun w hw => cm_in k1 k3 w hw) (fun w hw => cm_in k1 k4 w hw) w (Dy.lens_of hw)
theorem rov_any {i0 a i1 b i2 c i3 d p x q y r z s t : Int} (h0 : Dy.sR i0 a = true) (h1 : Dy.sR i1 b = true) (h2 : Dy.sR i2 c = true) (h3 : Dy.sR i3 d = true) (H : IO i0 a i1 b p x q y) (G : IO i2 c i3 d r z s t) (w : World) :
    Calls Tryz.prog 8 #[.agg #[.int .i64 i0, .int .i64 a], .agg #[.int .i64 i1, .int .i64 b], .agg #[.int .i64 i2, .int .i64 c], .agg #[.int .i64 i3, .int .i64 d]] w fun r' w' => r' = .returned (.tuple #[.bool (ovB p x q y r z s t), .int .i64 0]) ∧ Below w.heap.size w w' := by
  have R : ∀ {i u : Int} (h : Dy.sR i u = true) (w : World), Calls Tryz.prog 13 #[.agg #[.int .i64 i, .int .i64 u]] w fun r' w' => r' = .returned (.bool true) ∧ Below w.heap.size w w' := fun {i u} h w => by
    have R := Dy.rrst_any i u (sR_bd h).1 (sR_bd h).2 w
    rw [h] at R
    exact R
  have D1 := fun w => rcm_in h0 h1 w
  have D2 := fun w => rcm_in h2 h3 w
  unfold ovB
  rcases H with ⟨H, rfl, rfl, rfl, rfl⟩ | ⟨H, rfl, rfl, rfl, rfl⟩ <;> rcases G with ⟨G, rfl, rfl, rfl, rfl⟩ | ⟨G, rfl, rfl, rfl, rfl⟩
  · rcases ord_3v p r x z with e | e | e
    · rw [if_pos e]; exact rov_11m _ _ _ _ _ _ _ _ _ _ _ _ H G (by rw [e]; decide) (R h0) (R h1) (R h2) (R h3) D1 D2 (fun w => rcm_in h1 h3 w) (fun w => rcm_in h3 h0 w) w
    · rw [if_neg (by omega), if_neg (by omega)]; exact rov_11z _ _ _ _ _ _ _ _ _ _ _ 0 H G e (R h0) (R h1) (R h2) (R h3) D1 D2 (fun w => rcm_in h1 h3 w) w
    · rw [if_neg (by omega), if_pos e]; exact rov_11p _ _ _ _ _ _ _ _ _ _ _ _ H G (by rw [e]; decide) (R h0) (R h1) (R h2) (R h3) D1 D2 (fun w => rcm_in h1 h3 w) (fun w => rcm_in h1 h2 w) w
  · rcases ord_3v p r x z with e | e | e
    · rw [if_pos e]; exact rov_10m _ _ _ _ _ _ _ _ _ _ _ _ H G (by rw [e]; decide) (R h0) (R h1) (R h2) (R h3) D1 D2 (fun w => rcm_in h1 h2 w) (fun w => rcm_in h2 h0 w) w
    · rw [if_neg (by omega), if_neg (by omega)]; exact rov_10z _ _ _ _ _ _ _ _ _ _ _ 0 H G e (R h0) (R h1) (R h2) (R h3) D1 D2 (fun w => rcm_in h1 h2 w) w
    · rw [if_neg (by omega), if_pos e]; exact rov_10p _ _ _ _ _ _ _ _ _ _ _ _ H G (by rw [e]; decide) (R h0) (R h1) (R h2) (R h3) D1 D2 (fun w => rcm_in h1 h2 w) (fun w => rcm_in h1 h3 w) w
  · rcases ord_3v p r x z with e | e | e
    · rw [if_pos e]; exact rov_01m _ _ _ _ _ _ _ _ _ _ _ _ H G (by rw [e]; decide) (R h0) (R h1) (R h2) (R h3) D1 D2 (fun w => rcm_in h0 h3 w) (fun w => rcm_in h3 h1 w) w
    · rw [if_neg (by omega), if_neg (by omega)]; exact rov_01z _ _ _ _ _ _ _ _ _ _ _ 0 H G e (R h0) (R h1) (R h2) (R h3) D1 D2 (fun w => rcm_in h0 h3 w) w
    · rw [if_neg (by omega), if_pos e]; exact rov_01p _ _ _ _ _ _ _ _ _ _ _ _ H G (by rw [e]; decide) (R h0) (R h1) (R h2) (R h3) D1 D2 (fun w => rcm_in h0 h3 w) (fun w => rcm_in h0 h2 w) w
  · rcases ord_3v p r x z with e | e | e
    · rw [if_pos e]; exact rov_00m _ _ _ _ _ _ _ _ _ _ _ _ H G (by rw [e]; decide) (R h0) (R h1) (R h2) (R h3) D1 D2 (fun w => rcm_in h0 h2 w) (fun w => rcm_in h2 h1 w) w
    · rw [if_neg (by omega), if_neg (by omega)]; exact rov_00z _ _ _ _ _ _ _ _ _ _ _ 0 H G e (R h0) (R h1) (R h2) (R h3) D1 D2 (fun w => rcm_in h0 h2 w) w
    · rw [if_neg (by omega), if_pos e]; exact rov_00p _ _ _ _ _ _ _ _ _ _ _ _ H G (by rw [e]; decide) (R h0) (R h1) (R h2) (R h3) D1 D2 (fun w => rcm_in h0 h2 w) (fun w => rcm_in h0 h3 w) w
/-- one that can not be, among four. -/
theorem ov_no {i0 a i1 b i2 c i3 d : Int} (A1 : -9223372036854775808 ≤ a ∧ a ≤ 9223372036854775807) (A2 : -9223372036854775808 ≤ b ∧ b ≤ 9223372036854775807) (A3 : -9223372036854775808 ≤ c ∧ c ≤ 9223372036854775807) (A4 : -9223372036854775808 ≤ d ∧ d ≤ 9223372036854775807) (hn : ¬ (Dy.sR i0 a = true ∧ Dy.sR i1 b = true ∧ Dy.sR i2 c = true ∧ Dy.sR i3 d = true)) :
    (∀ w : World, Cvl.Lens w → Calls Tryz.prog 7 #[.agg #[.int .i64 i0, .int .i64 a], .agg #[.int .i64 i1, .int .i64 b], .agg #[.int .i64 i2, .int .i64 c], .agg #[.int .i64 i3, .int .i64 d]] w fun r' w' => r' = .returned (.tuple #[.bool false, .int .i64 1]) ∧ Below w.heap.size w w') ∧
    (∀ w : World, Calls Tryz.prog 8 #[.agg #[.int .i64 i0, .int .i64 a], .agg #[.int .i64 i1, .int .i64 b], .agg #[.int .i64 i2, .int .i64 c], .agg #[.int .i64 i3, .int .i64 d]] w fun r' w' => r' = .returned (.tuple #[.bool false, .int .i64 1]) ∧ Below w.heap.size w w') := by
  have R : ∀ {i u : Int} {v : Bool} (_ : -9223372036854775808 ≤ u ∧ u ≤ 9223372036854775807) (h : Dy.sR i u = v) (w : World), Calls Tryz.prog 13 #[.agg #[.int .i64 i, .int .i64 u]] w fun r' w' => r' = .returned (.bool v) ∧ Below w.heap.size w w' := fun {i u v} hb h w => by
    have R := Dy.rrst_any i u hb.1 hb.2 w
    rw [h] at R
    exact R
  have Q : ∀ {i u : Int} {v : Bool} (_ : -9223372036854775808 ≤ u ∧ u ≤ 9223372036854775807) (h : Dy.sR i u = v) (w : World) (hw : Cvl.Lens w), Calls Tryz.prog 20 #[.agg #[.int .i64 i, .int .i64 u]] w fun r' w' => r' = .returned (.bool v) ∧ Below w.heap.size w w' := fun hb h w hw => rsR h hb.1 hb.2 w hw
  cases h0 : Dy.sR i0 a
  · exact ⟨fun w hw => ov_no0 _ _ _ _ _ _ _ _ (Q A1 h0) w (Dy.lens_of hw), fun w => rov_no0 _ _ _ _ _ _ _ _ (R A1 h0) w⟩
  · cases h1 : Dy.sR i1 b
    · exact ⟨fun w hw => ov_no1 _ _ _ _ _ _ _ _ (Q A1 h0) (Q A2 h1) w (Dy.lens_of hw), fun w => rov_no1 _ _ _ _ _ _ _ _ (R A1 h0) (R A2 h1) w⟩
    · cases h2 : Dy.sR i2 c
      · exact ⟨fun w hw => ov_no2 _ _ _ _ _ _ _ _ (Q A1 h0) (Q A2 h1) (Q A3 h2) w (Dy.lens_of hw), fun w => rov_no2 _ _ _ _ _ _ _ _ (R A1 h0) (R A2 h1) (R A3 h2) w⟩
      · cases h3 : Dy.sR i3 d
        · exact ⟨fun w hw => ov_no3 _ _ _ _ _ _ _ _ (Q A1 h0) (Q A2 h1) (Q A3 h2) (Q A4 h3) w (Dy.lens_of hw), fun w => rov_no3 _ _ _ _ _ _ _ _ (R A1 h0) (R A2 h1) (R A3 h2) (R A4 h3) w⟩
        · exact absurd ⟨h0, h1, h2, h3⟩ hn

theorem walk (i0 a : Int) (wi0 : (Lit.int .i64 i0).wf = true) (wa : (Lit.int .i64 a).wf = true) (i1 b : Int) (wi1 : (Lit.int .i64 i1).wf = true) (wb : (Lit.int .i64 b).wf = true) (i2 c : Int) (wi2 : (Lit.int .i64 i2).wf = true) (wc : (Lit.int .i64 c).wf = true) (i3 d : Int) (wi3 : (Lit.int .i64 i3).wf = true) (wd : (Lit.int .i64 d).wf = true) (w : World) (hL : LO w) :
    Calls Tryz.prog 3 #[.agg #[.int .i64 i0, .int .i64 a], .agg #[.int .i64 i1, .int .i64 b], .agg #[.int .i64 i2, .int .i64 c], .agg #[.int .i64 i3, .int .i64 d]] w fun r w' => r = .returned (.bool true) ∧ Below w.heap.size w w' := by
  have A1 := bounds_i64 wa
  have A2 := bounds_i64 wb
  have A3 := bounds_i64 wc
  have A4 := bounds_i64 wd
  have KN : ∀ w : World, LO w → _ := fun w hw => known_any w hw
  by_cases hn : Dy.sR i0 a = true ∧ Dy.sR i1 b = true ∧ Dy.sR i2 c = true ∧ Dy.sR i3 d = true
  · obtain ⟨h0, h1, h2, h3⟩ := hn
    obtain ⟨p, x, q, y, H⟩ := io_is i0 a i1 b
    obtain ⟨r, z, s, t, G⟩ := io_is i2 c i3 d
    refine overlaps_run i0 a i1 b i2 c i3 d 0 (ovB p x q y r z s t) (fun w hw => ov_any h0 h1 h2 h3 H G w hw.1) (fun w => rov_any h0 h1 h2 h3 H G w) (fun w hw => ?_) KN w (LO.of hL)
    have R := ov_any h3 h2 h1 h0 (io_turn G) (io_turn H) w hw.1
    rw [ov_turn] at R
    exact R
  · obtain ⟨N1, N2⟩ := ov_no A1 A2 A3 A4 hn
    obtain ⟨N3, _⟩ := ov_no (i0 := i3) (a := d) (i1 := i2) (b := c) (i2 := i1) (c := b) (i3 := i0) (d := a) A4 A3 A2 A1 (fun ⟨k1, k2, k3, k4⟩ => hn ⟨k4, k3, k2, k1⟩)
    exact overlaps_run i0 a i1 b i2 c i3 d 1 false (fun w hw => N1 w hw.1) N2 (fun w hw => N3 w hw.1) KN w (LO.of hL)

set_option maxRecDepth 100000 in
theorem lifted (os : Os) (started : os.Started) (H : Type) (enc : TypeId × Value → H) :
    ReturnsInHanded {} Tryz.checked os 3 .any (fun w args => (Rows.opsOverlapsSpec.pre enc Tryz.prog Tryz.f3 [] false w args ∧ laidMetH Tryz.prog Rows.opsOverlapsRow.laid w) ∧ sizedMet enc Tryz.prog Tryz.f3 (OpenSpec.ofChange Rows.opsOverlapsSpec) false w args)
      (Rows.opsOverlapsSpec.post enc Tryz.prog Tryz.f3 false true false false) := by
  refine returnsInHanded_of_change_and (C := Tryz.checked) (X := fun w _ => laidMetH Tryz.prog Rows.opsOverlapsRow.laid w) (fun _ _ _ hh h => h.of_heap hh) own started (by kernel_rfl) Tryz.func3
    (ChangeSpec.witness_shaped (enc := enc) (C := Tryz.checked) (os := os) (X := fun w _ => laidMetH Tryz.prog Rows.opsOverlapsRow.laid w) false (World.doorLaid Tryz.prog 400 os) #[.agg #[.int .i64 0, .int .i64 0], .agg #[.int .i64 0, .int .i64 0], .agg #[.int .i64 0, .int .i64 0], .agg #[.int .i64 0, .int .i64 0]] 8 rfl (World.shaped_of_RefB (by kernel_rfl) (by kernel_rfl)) (by kernel_rfl) (by kernel_rfl) (by kernel_rfl) (door_met os _)) ?_
  intro W base args ds gs before hval0 hW _ _ hL _
  have hval : ∀ (j : Nat) t v, Tryz.f3.params[j]? = some t → args[j]? = some v → Value.okWide Tryz.prog W .any base t v := hval0
  have hW' := hW
  obtain ⟨p, q, hA0, hV, rfl, hfz, hnd⟩ := hW
  have hA : DataW.TrodAll enc Tryz.prog W 0 (fun _ => true) true Tryz.f3.params.toList args.toList ds p := hA0
  rw [Tryz.params3] at hA hval
  obtain ⟨v0, vs0, d0, ds0, p0, q0, ha0, rfl, rfl, h0, r0⟩ := trodAll_cons hA
  obtain ⟨v1, vs1, d1, ds1, p1, q1, ha1, rfl, rfl, h1, r1⟩ := trodAll_cons r0
  obtain ⟨v2, vs2, d2, ds2, p2, q2, ha2, rfl, rfl, h2, r2⟩ := trodAll_cons r1
  obtain ⟨v3, vs3, d3, ds3, p3, q3, ha3, rfl, rfl, h3, r3⟩ := trodAll_cons r2
  obtain ⟨rfl, rfl, rfl⟩ := trodAll_nil r3
  subst ha3
  subst ha2
  subst ha1
  obtain rfl : args = #[v0, v1, v2, v3] := by cases args; simp_all
  obtain ⟨rfl, rfl⟩ := trodVars_none hV
  obtain ⟨c0_0, c0_1, y0_0, y0_1, m0, rfl, rfl, rfl, hy0_0, hy0_1⟩ := Joins.open_agg2 Tryz.underlying23 (by kernel_rfl) (show Tryz.prog.cellsOf 23 = 2 by kernel_rfl) (hval 0 23 v0 rfl rfl) h0
  obtain ⟨n0_0, i0_0, rfl, wn0_0⟩ := DataW.trod_int Tryz.underlying3 hy0_0
  simp at i0_0
  subst i0_0
  obtain ⟨n0_1, i0_1, rfl, wn0_1⟩ := DataW.trod_int Tryz.underlying2 hy0_1
  simp at i0_1
  subst i0_1
  obtain ⟨c1_0, c1_1, y1_0, y1_1, m1, rfl, rfl, rfl, hy1_0, hy1_1⟩ := Joins.open_agg2 Tryz.underlying23 (by kernel_rfl) (show Tryz.prog.cellsOf 23 = 2 by kernel_rfl) (hval 1 23 v1 rfl rfl) h1
  obtain ⟨n1_0, i1_0, rfl, wn1_0⟩ := DataW.trod_int Tryz.underlying3 hy1_0
  simp at i1_0
  subst i1_0
  obtain ⟨n1_1, i1_1, rfl, wn1_1⟩ := DataW.trod_int Tryz.underlying2 hy1_1
  simp at i1_1
  subst i1_1
  obtain ⟨c2_0, c2_1, y2_0, y2_1, m2, rfl, rfl, rfl, hy2_0, hy2_1⟩ := Joins.open_agg2 Tryz.underlying23 (by kernel_rfl) (show Tryz.prog.cellsOf 23 = 2 by kernel_rfl) (hval 2 23 v2 rfl rfl) h2
  obtain ⟨n2_0, i2_0, rfl, wn2_0⟩ := DataW.trod_int Tryz.underlying3 hy2_0
  simp at i2_0
  subst i2_0
  obtain ⟨n2_1, i2_1, rfl, wn2_1⟩ := DataW.trod_int Tryz.underlying2 hy2_1
  simp at i2_1
  subst i2_1
  obtain ⟨c3_0, c3_1, y3_0, y3_1, m3, rfl, rfl, rfl, hy3_0, hy3_1⟩ := Joins.open_agg2 Tryz.underlying23 (by kernel_rfl) (show Tryz.prog.cellsOf 23 = 2 by kernel_rfl) (hval 3 23 v3 rfl rfl) h3
  obtain ⟨n3_0, i3_0, rfl, wn3_0⟩ := DataW.trod_int Tryz.underlying3 hy3_0
  simp at i3_0
  subst i3_0
  obtain ⟨n3_1, i3_1, rfl, wn3_1⟩ := DataW.trod_int Tryz.underlying2 hy3_1
  simp at i3_1
  subst i3_1
  clear hA0 hval0
  simp only [List.append_nil] at hW'
  refine (walk n0_0 n0_1 wn0_0 wn0_1 n1_0 n1_1 wn1_0 wn1_1 n2_0 n2_1 wn2_0 wn2_1 n3_0 n3_1 wn3_0 wn3_1 W (of_laid hL)).mono fun e W' ⟨he, hg⟩ => ?_
  subst he
  exact ⟨_, rfl, _, _, _, [], [], [], hW', (trodAll_cons_mk (shut_bool Tryz.underlying4 _) trodAll_mk0), (trodAll_cons_mk ((Joins.shut_agg2 (y0 := (.lit (.int .i64 n0_0), [])) (y1 := (.lit (.int .i64 n0_1), [])) Tryz.underlying23 (by kernel_rfl) (show Tryz.prog.cellsOf 23 = 2 by kernel_rfl) ⟨1, by simp [DataW.trod, Tryz.underlying3, wn0_0]⟩ ⟨1, by simp [DataW.trod, Tryz.underlying2, wn0_1]⟩)) (trodAll_cons_mk ((Joins.shut_agg2 (y0 := (.lit (.int .i64 n1_0), [])) (y1 := (.lit (.int .i64 n1_1), [])) Tryz.underlying23 (by kernel_rfl) (show Tryz.prog.cellsOf 23 = 2 by kernel_rfl) ⟨1, by simp [DataW.trod, Tryz.underlying3, wn1_0]⟩ ⟨1, by simp [DataW.trod, Tryz.underlying2, wn1_1]⟩)) (trodAll_cons_mk ((Joins.shut_agg2 (y0 := (.lit (.int .i64 n2_0), [])) (y1 := (.lit (.int .i64 n2_1), [])) Tryz.underlying23 (by kernel_rfl) (show Tryz.prog.cellsOf 23 = 2 by kernel_rfl) ⟨1, by simp [DataW.trod, Tryz.underlying3, wn2_0]⟩ ⟨1, by simp [DataW.trod, Tryz.underlying2, wn2_1]⟩)) (trodAll_cons_mk ((Joins.shut_agg2 (y0 := (.lit (.int .i64 n3_0), [])) (y1 := (.lit (.int .i64 n3_1), [])) Tryz.underlying23 (by kernel_rfl) (show Tryz.prog.cellsOf 23 = 2 by kernel_rfl) ⟨1, by simp [DataW.trod, Tryz.underlying3, wn3_0]⟩ ⟨1, by simp [DataW.trod, Tryz.underlying2, wn3_1]⟩)) trodAll_mk0)))), rfl, hg.frame _, fun h => by cases h⟩

theorem over : Rows.opsOverlapsRow.holds Tryz.pinned (OpenSpec.ofChange Rows.opsOverlapsSpec) :=
  OpenClaim.holds_of_wide 3 Tryz.f3 rfl rfl rfl rfl rfl rfl rfl ⟨rfl, rfl, rfl, rfl, rfl⟩ rfl rfl rfl rfl rfl (by kernel_rfl) Tryz.func3 (by kernel_rfl)
    (of_decide_eq_true (by kernel_rfl)) (by unfold Func.isWrapper; first | (rw [if_pos (by decide +kernel)]; kernel_rfl) | (rw [if_neg (by decide +kernel)]; exact ⟨rfl, rfl⟩))
    (fun os started H enc _ => lifted os started H enc)

theorem proved : Rows.OpsOverlapsCardSaid :=
  Claim7.holds_tied_plain_at .later [] [.data, .data, .data, .data, .data] true (true, "1288aef8317a012f5a7b0e0b1f0b325ad2df71ac88b0c2102696b3cf94a1a272") true
    over (fun _ h => by cases h) (by kernel_rfl) (fun _ h => by cases h) opsOverlaps_row_tie rfl ⟨rfl, rfl⟩ (by kernel_rfl) rfl
    (fun f fn hf hfn => by
      obtain rfl : f = 3 := Option.some.inj ((show Tryz.prog.funcNamed Rows.opsOverlapsRow.func = some 3 by kernel_rfl).symm.trans hf) |>.symm
      obtain rfl : fn = Tryz.f3 := (Option.some.inj (Tryz.func3.symm.trans hfn)).symm
      exact ⟨by kernel_rfl, fun j t ht => by
        rw [Tryz.params3] at ht
        have hm : t ∈ [23] := by simpa using Array.mem_of_getElem? ht
        have hall : ([23].all fun u => !Tryz.prog.wantsStandIn u) = true := by kernel_rfl
        exact (show Tryz.prog.wantsStandIn t = false by simpa using List.all_eq_true.1 hall t hm)⟩)
    (by kernel_rfl)
end Go.Proofs.YtofmmdfdiaahhaaGreatDoor.opsOverlaps
