/- How clocks stand at any instant by any foot, and when they are shifted next, is what the document says: FootStands returns true for every foot and every instant, where the listed tables are as the program's text lays them. -/
import Derived.Test.YthbcicjkmgoliaaDoorRows
import Derived.Test.YthbcicjkmgoliaaDoorCards
import Derived.Test.YthbcicjkmgoliaaDoorTie
import Derived.WalkKit
import Derived.ProofKit
import Derived.LaidMore
import Derived.OpenShut
import Derived.ShutString
import Derived.Stop.Joined
import Derived.Lib.LaidTab
import Derived.Lib.SmallJoins
import Derived.Stop.LaidErr
import Derived.Lay
import Derived.SevenTiedAt
import Derived.ChangeMaps5
import Derived.SizedLaws
import Derived.Lib.LaidU8T
import Derived.Shelf.Vars
import Derived.Test.YthbcicjkmgoliaaDoorLwFootStands
namespace Go.Proofs.YthbcicjkmgoliaaDoor.footStands
open Go.ChangeShapes Go.WideShapes Go.ChangeAt Go.WideMaps Go.WideElems Go.RowKit
set_option linter.unusedVariables false

theorem own : ownKnob Tryd.prog.godebug = none := by kernel_rfl

theorem gLen : Tryd.prog.globalNamed "computus/civil.lengths" = some 0 := by kernel_rfl
theorem tLen : (Tryd.prog.globals[0]?).map (·.type) = some 107 := by kernel_rfl
theorem uLen : Tryd.prog.underlying 107 = some (.array 12 2) := by kernel_rfl
theorem gTab : Tryd.prog.globalNamed "internal/strconv.uint64pow10" = some 1 := by kernel_rfl
theorem tTab : (Tryd.prog.globals[1]?).map (·.type) = some 120 := by kernel_rfl
theorem uTab : Tryd.prog.underlying 120 = some (.array 20 112) := by kernel_rfl
/-- what the listed variables give the walks: the twelve lengths, the powers of ten. -/
theorem of_laid {W : World} (h : laidMetH Tryd.prog Rows.footStandsRow.laid W) : Cvl.Lens W ∧ Clk.Tab W := by
  rw [MakeChecks.laidMetH_plain _ _ _ (by kernel_rfl)] at h
  have ht := Lib.tabIs_of_head (k := .i64) (zs := Cvl.tabL) gLen tLen uLen Tryd.underlying2 (by kernel_rfl) (by kernel_rfl) h
  exact ⟨fun i hi => ht.cell gLen i hi, Lib.tabIs_of_head (k := .u64) (zs := Lib.pow10Tab) gTab tTab uTab Tryd.underlying112 (by kernel_rfl) (by kernel_rfl) h.tail.tail.tail⟩

theorem door_met (os : Os) (args : Array Value) : laidMetH Tryd.prog Rows.footStandsRow.laid (((World.doorLaid Tryd.prog 400 os)).forCall (fun _ _ => 0) ⟨#[], args, []⟩).memory :=
  laidMetH_of_parts3 (fuel := 8) (laidMet_of_run' 8 (by kernel_rfl) (by kernel_rfl)) (by kernel_rfl) (by kernel_rfl)

theorem far_gt {f : Ft} (L : LH f) {t j : Int} (hS : St f t j) {i : Int} (h1 : j < i) (h2 : i ≤ 588563) : t < (gs f i).t := by
  obtain ⟨a, b, c, d⟩ := hS
  by_cases e : i = j + 1
  · rw [e]; exact d
  · have := gs_lt L (i := j + 1) (j := i) (by omega) (by omega) h2; omega
theorem near_le {f : Ft} (L : LH f) {t j : Int} (hS : St f t j) {i : Int} (h1 : i ≤ j) (h2 : -9434 ≤ i) : (gs f i).t ≤ t := by
  obtain ⟨a, b, c, d⟩ := hS
  by_cases e : i = j
  · rw [e]; exact c
  · have := gs_lt L (i := i) (j := j) h2 (by omega) (by omega); omega

theorem walk (w : World) (f : Ft) (wf : wfF f) (t : Int) (wt : (Lit.int .i64 t).wf = true) (hT : Cvl.Lens w ∧ Clk.Tab w) :
    Calls Tryd.prog 4 #[.agg #[.bool f.h, .int .i64 f.fr, .int .i64 f.off, .int .i64 f.A.m, .int .i64 f.A.k, .int .i64 f.A.d, .int .i64 f.A.n, .int .i64 f.A.s, .int .u8 f.A.z, .int .i64 f.A.v, .string f.A.t, .int .i64 f.B.m, .int .i64 f.B.k, .int .i64 f.B.d, .int .i64 f.B.n, .int .i64 f.B.s, .int .u8 f.B.z, .int .i64 f.B.v, .string f.B.t], .int .i64 t] w fun e w' => e = .returned (.bool true) ∧ Below w.heap.size w w' := by
  have hb := bounds_i64 wt
  cases hf : okF f with
  | false =>
    have Z := stand_no f t 1 (fun w hL hT => around_arg f t hf w hL hT)
    have RC : ∀ w : World, Calls Tryd.prog 23 #[.agg (fL f).toArray] w fun e w' => e = .returned (.bool false) ∧ Below w.heap.size w w' := fun w => by have R := rcan_any f w; rw [hf] at R; exact R
    have N := near_arg f t RC
    exact core_FootStands f t 1 trZ trZ (given_any f) Z.1 (fun w _ _ => rat_no f t 1 N w) Z.2 (fun w _ _ => rnext_no f t 1 N w) known_any w hT.1 hT.2
  | true =>
    have RC : ∀ w : World, Calls Tryd.prog 23 #[.agg (fL f).toArray] w fun e w' => e = .returned (.bool true) ∧ Below w.heap.size w w' := fun w => by have R := rcan_any f w; rw [hf] at R; exact R
    obtain ⟨y, hy⟩ := yat_is t
    have YA := ryat_any t y hy hb.1 hb.2
    by_cases h : -4714 ≤ y ∧ y ≤ 294278
    · have L := lh_of hf
      obtain ⟨K, k1, k2, hK, hlo, hS⟩ := findK L hy h.1 h.2
      obtain ⟨j, hS', hA, hN⟩ := stand_ok f t y hf hy h.1 h.2 hb.1 hb.2
      obtain rfl := hS'.one L hS
      have NR : ∀ w : World, Cvl.Lens w → Clk.Tab w → Calls Tryd.prog 26 #[.agg (fL f).toArray, .int .i64 t] w fun e w' => ∃ g cap, e = .returned (.tuple #[.slice (some ⟨g, 0, none⟩) 10 cap, .int .i64 0]) ∧ Bx w' g (rowsK f (y - 2) 10) ∧ Below w.heap.size w w' := fun w hL hT => by
        refine (near_ok f t y h.1 h.2 RC YA (fun i hi w hL hT => ryear_ok f (y - 2 + i) hf (by unfold dyY; omega) w hL hT) w hL hT).mono ?_
        rintro e w' ⟨v, rfl, hr, hb⟩
        obtain ⟨g, cap, rfl, _, hx, _⟩ := bx_of_own hr (by omega)
        exact ⟨g, cap, rfl, hx, hb⟩
      have e1 : gs f (2 * (y - 1) + K - 1) = shK f (y - 2) (K + 1) := by rw [shK_gs]; congr 1; omega
      have e2 : gs f (2 * (y - 1) + K - 1 + 1) = shK f (y - 2) (K + 2) := by rw [shK_gs]; congr 1; omega
      rw [e1] at hA
      rw [e2] at hN
      have RA := rat_run f t (y - 2) (K + 1) (by omega) (by rw [← e1]; exact hS.2.2.1) (fun k a b => by rw [shK_gs]; exact far_gt L hS (by omega) (by omega)) NR
      have RN := rnext_run f t (y - 2) (K + 2) (by omega) (by rw [← e2]; exact hS.2.2.2) (fun k a => by rw [shK_gs]; exact near_le L hS (by omega) (by omega)) NR
      exact core_FootStands f t 0 _ _ (given_any f) hA RA hN RN known_any w hT.1 hT.2
    · have Z := stand_no f t 10 (fun w hL hT => around_range f t y hf hy hb.1 hb.2 (by omega) w hL hT)
      have N := near_range f t y (by omega) RC YA
      exact core_FootStands f t 10 trZ trZ (given_any f) Z.1 (fun w _ _ => rat_no f t 10 N w) Z.2 (fun w _ _ => rnext_no f t 10 N w) known_any w hT.1 hT.2

set_option maxRecDepth 100000 in
theorem lifted (os : Os) (started : os.Started) (H : Type) (enc : TypeId × Value → H) :
    ReturnsInHanded {} Tryd.checked os 4 .any (fun w args => (Rows.footStandsSpec.pre enc Tryd.prog Tryd.f4 [] false w args ∧ laidMetH Tryd.prog Rows.footStandsRow.laid w) ∧ sizedMet enc Tryd.prog Tryd.f4 (OpenSpec.ofChange Rows.footStandsSpec) false w args)
      (Rows.footStandsSpec.post enc Tryd.prog Tryd.f4 false true false false) := by
  refine returnsInHanded_of_change_and (C := Tryd.checked) (X := fun w _ => laidMetH Tryd.prog Rows.footStandsRow.laid w) (fun _ _ _ hh h => h.of_heap hh) own started (by kernel_rfl) Tryd.func4
    (ChangeSpec.witness_shaped (enc := enc) (C := Tryd.checked) (os := os) (X := fun w _ => laidMetH Tryd.prog Rows.footStandsRow.laid w) false (World.doorLaid Tryd.prog 400 os) #[.agg #[.bool false, .int .i64 0, .int .i64 0, .int .i64 0, .int .i64 0, .int .i64 0, .int .i64 0, .int .i64 0, .int .u8 0, .int .i64 0, .string ⟨#[]⟩, .int .i64 0, .int .i64 0, .int .i64 0, .int .i64 0, .int .i64 0, .int .u8 0, .int .i64 0, .string ⟨#[]⟩], .int .i64 0] 8 rfl (World.shaped_of_RefB (by kernel_rfl) (by kernel_rfl)) (by kernel_rfl) (by kernel_rfl) (by kernel_rfl) (door_met os _)) ?_
  intro W base args ds gs before hval0 hW _ _ hL _
  have hval : ∀ (j : Nat) t v, Tryd.f4.params[j]? = some t → args[j]? = some v → Value.okWide Tryd.prog W .any base t v := hval0
  have hW' := hW
  obtain ⟨p, q, hA0, hV, rfl, hfz, hnd⟩ := hW
  have hA : DataW.TrodAll enc Tryd.prog W 0 (fun _ => true) true Tryd.f4.params.toList args.toList ds p := hA0
  rw [Tryd.params4] at hA hval
  obtain ⟨v0, vs0, d0, ds0, p0, q0, ha0, rfl, rfl, h0, r0⟩ := trodAll_cons hA
  obtain ⟨v1, vs1, d1, ds1, p1, q1, ha1, rfl, rfl, h1, r1⟩ := trodAll_cons r0
  obtain ⟨rfl, rfl, rfl⟩ := trodAll_nil r1
  subst ha1
  obtain rfl : args = #[v0, v1] := by cases args; simp_all
  obtain ⟨rfl, rfl⟩ := trodVars_none hV
  have hk0 := h0
  have hlt0 : ∀ x ∈ p0, x.block < W.heap.size := fun x hx => by simpa using hW'.lt x (by simp [hx])
  obtain ⟨f0, rfl, wf0⟩ := foot_open (hval 0 29 v0 rfl rfl) h0
  obtain ⟨a1, rfl, rfl, rfl, w1⟩ := open_int Tryd.underlying2 (hval 1 2 v1 rfl rfl) h1
  clear hA0 hval0
  simp only [List.append_nil] at hW'
  refine (walk W f0 wf0 a1 w1 (of_laid hL)).mono fun e W' ⟨he, hg⟩ => ?_
  subst he
  exact ⟨_, rfl, _, _, _, [], _, [], hW', (trodAll_cons_mk (shut_bool Tryd.underlying4 _) trodAll_mk0), (trodAll_cons_mk (Below.trod laidOutP (by kernel_rfl) (of_decide_eq_true (by kernel_rfl)) hk0 hg hlt0) (trodAll_cons_mk (shut_int Tryd.underlying2 w1) trodAll_mk0)), rfl, hg.frame _, fun h => by cases h⟩

theorem over : Rows.footStandsRow.holds Tryd.pinned (OpenSpec.ofChange Rows.footStandsSpec) :=
  OpenClaim.holds_of_wide 4 Tryd.f4 rfl rfl rfl rfl rfl rfl rfl ⟨rfl, rfl, rfl, rfl, rfl⟩ rfl rfl rfl rfl rfl (by kernel_rfl) Tryd.func4 (by kernel_rfl)
    (of_decide_eq_true (by kernel_rfl)) (by unfold Func.isWrapper; first | (rw [if_pos (by decide +kernel)]; kernel_rfl) | (rw [if_neg (by decide +kernel)]; exact ⟨rfl, rfl⟩))
    (fun os started H enc _ => lifted os started H enc)

theorem proved : Rows.FootStandsCardSaid :=
  Claim7.holds_tied_plain_at .later [] [.data, .data, .data, .data] true (true, "2e9a5d94f2031cf50ddf848ef9b408c48e24073a734df665761314347aca71f4") true
    over (fun _ h => by cases h) (by kernel_rfl) (fun _ h => by cases h) footStands_row_tie rfl ⟨rfl, rfl⟩ (by kernel_rfl) rfl
    (fun f fn hf hfn => by
      obtain rfl : f = 4 := Option.some.inj ((show Tryd.prog.funcNamed Rows.footStandsRow.func = some 4 by kernel_rfl).symm.trans hf) |>.symm
      obtain rfl : fn = Tryd.f4 := (Option.some.inj (Tryd.func4.symm.trans hfn)).symm
      exact ⟨by kernel_rfl, fun j t ht => by
        rw [Tryd.params4] at ht
        have hm : t ∈ [29, 2] := by simpa using Array.mem_of_getElem? ht
        have hall : ([29, 2].all fun u => !Tryd.prog.wantsStandIn u) = true := by kernel_rfl
        exact (show Tryd.prog.wantsStandIn t = false by simpa using List.all_eq_true.1 hall t hm)⟩)
    (by kernel_rfl)
end Go.Proofs.YthbcicjkmgoliaaDoor.footStands
