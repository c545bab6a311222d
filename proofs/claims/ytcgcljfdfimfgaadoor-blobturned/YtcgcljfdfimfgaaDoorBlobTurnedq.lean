import Derived.Test.YtcgcljfdfimfgaaDoorRows
import Derived.Test.YtcgcljfdfimfgaaDoorCards
import Derived.Test.YtcgcljfdfimfgaaDoorTie
import Derived.WalkKit
import Derived.ProofKit
import Derived.LaidMore
import Derived.OpenShut
import Derived.ShutString
import Derived.Stop.Joined
import Derived.Lib.LaidTab
import Derived.Lib.SmallJoins
import Derived.Stop.LaidErr
import Derived.Lay
import Derived.SevenTiedAt
import Derived.ChangeMaps5
import Derived.SizedLaws
import Derived.Lib.LaidU8T
import Derived.Shelf.Vars
import Derived.Test.YtcgcljfdfimfgaaDoorR6
import Derived.Test.YtcgcljfdfimfgaaDoorR27
import Derived.Test.YtcgcljfdfimfgaaDoorR28
import Derived.Test.YtcgcljfdfimfgaaDoorR29
/- One bit of a table's bytes that is turned is told: BlobTurned returns true for every table and every int, where the listed tables are as the program's text lays them. -/
namespace Go.Proofs.YtcgcljfdfimfgaaDoor.blobTurned
open Go.ChangeShapes Go.WideShapes Go.ChangeAt Go.WideMaps Go.WideElems Go.RowKit
set_option linter.unusedVariables false

theorem own : ownKnob Tryd.prog.godebug = none := by kernel_rfl

theorem gLen : Tryd.prog.globalNamed "computus/civil.lengths" = some 1 := by kernel_rfl
theorem tLen : (Tryd.prog.globals[1]?).map (·.type) = some 111 := by kernel_rfl
theorem uLen : Tryd.prog.underlying 111 = some (.array 12 2) := by kernel_rfl
theorem gTab : Tryd.prog.globalNamed "internal/strconv.uint64pow10" = some 2 := by kernel_rfl
theorem tTab : (Tryd.prog.globals[2]?).map (·.type) = some 153 := by kernel_rfl
theorem uTab : Tryd.prog.underlying 153 = some (.array 20 88) := by kernel_rfl
/-- what the listed variables give the walks: the twelve lengths, the powers of ten. -/
theorem of_laid {W : World} (h : laidMetH Tryd.prog Rows.blobTurnedRow.laid W) : Cvl.Lens W ∧ Clk.Tab W := by
  rw [MakeChecks.laidMetH_plain _ _ _ (by kernel_rfl)] at h
  have ht := Lib.tabIs_of_head (k := .i64) (zs := Cvl.tabL) gLen tLen uLen Tryd.underlying2 (by kernel_rfl) (by kernel_rfl) h
  exact ⟨fun i hi => ht.cell gLen i hi, Lib.tabIs_of_head (k := .u64) (zs := Lib.pow10Tab) gTab tTab uTab Tryd.underlying88 (by kernel_rfl) (by kernel_rfl) h.tail.tail.tail⟩

theorem door_met (os : Os) (args : Array Value) : laidMetH Tryd.prog Rows.blobTurnedRow.laid (((World.doorLaid Tryd.prog 400 os)).forCall (fun _ _ => 0) ⟨#[], args, []⟩).memory :=
  laidMetH_of_parts3 (fuel := 8) (laidMet_of_run' 8 (by kernel_rfl) (by kernel_rfl)) (by kernel_rfl) (by kernel_rfl)

theorem laidOutP : laidOutB Tryd.prog = true := Fn.laidOutP
/- a table's changes stay where they lie. -/
theorem transA_below {w W : World} {sv : Value} {L : List TrR} (h : TransA w sv L) (hp : ∀ a n c, sv = .slice (some a) n c → a.block < w.heap.size ∧ a.spot = none) (hb : Below w.heap.size w W) : TransA W sv L := by
  rcases h with h | ⟨a, cap, e, h1, h2, h3⟩
  · exact .inl h
  · exact .inr ⟨a, cap, e, h1, h2, fun j u hj => (hb.cell (World.block_lt_of_cell? w _ (h3 j u hj))).trans (h3 j u hj)⟩

theorem walk (w : World) (t : TbR) (sv : Value) (hA : TransA w sv t.trs) (hp : ∀ a n c, sv = .slice (some a) n c → a.block < w.heap.size ∧ a.spot = none) (hz : t.trs.length * 40 ≤ 140737488355328) (wr : (Lit.int .i64 t.foot.fr).wf = true) (wt : ∀ x ∈ t.trs, wfT x) (wf : wfT t.first) (wg : Fn.wfF t.foot ∧ t.foot.A.t.size ≤ maxLen ∧ t.foot.B.t.size ≤ maxLen ∧ t.nm.size ≤ maxLen)
    (n : Int) (wn : (Lit.int .i64 n).wf = true) (hL : Cvl.Lens w ∧ Clk.Tab w) :
    Calls Tryd.prog 3 #[.agg (tbL t sv).toArray, .int .i64 n] w fun r w' => r = .returned (.bool true) ∧ Below w.heap.size w w' := by
  obtain ⟨R, hR⟩ := bodB_tz t
  refine bt_run (fun W => (Cvl.Lens W ∧ Clk.Tab W) ∧ TransA W sv t.trs ∧ ∀ a n c, sv = .slice (some a) n c → a.block < W.heap.size ∧ a.spot = none) (tbL t sv) rfl n (fun W hW => ?_) w ?_
  · refine (given_any14 t sv W hW.2.1 hz hW.2.2).mono ?_
    rintro e W1 ⟨sv', rfl, hO, hb, _⟩
    refine ⟨tbL t sv', rfl, rfl, hb, ?_⟩
    refine (put14 t sv' wr wg.1 wg.2.2.2 wf.2.2 wg.2.1 wg.2.2.1 (fun x hx => (wt x hx).2.2) W1 (Fn.bel_lens hb hW.1.1) (hW.1.2.below hb) hO).mono ?_
    rintro e W2 ⟨hb2, h | ⟨h1, v, h2, h3⟩⟩
    · exact ⟨hb2, .inl h⟩
    · rw [hR] at h1 h3
      exact ⟨hb2, .inr ⟨R, v, h1, h2, h3⟩⟩
  · have hb : Below w.heap.size w (w.alloc (.cells (tbL t sv).toArray 34)) := (Below.refl _ _).alloc (Nat.le_refl _) _
    exact ⟨⟨Fn.bel_lens hb hL.1, hL.2.below hb⟩, transA_below hA hp hb, fun a n c e => ⟨Nat.lt_of_lt_of_le (hp a n c e).1 hb.size, (hp a n c e).2⟩⟩

set_option maxRecDepth 100000 in
theorem lifted (os : Os) (started : os.Started) (H : Type) (enc : TypeId × Value → H) :
    ReturnsInHanded {} Tryd.checked os 3 .any (fun w args => (Rows.blobTurnedSpec.pre enc Tryd.prog Tryd.f3 [] false w args ∧ laidMetH Tryd.prog Rows.blobTurnedRow.laid w) ∧ sizedMet enc Tryd.prog Tryd.f3 (OpenSpec.ofChange Rows.blobTurnedSpec) false w args)
      (Rows.blobTurnedSpec.post enc Tryd.prog Tryd.f3 false true false false) := by
  refine returnsInHanded_of_change_and (C := Tryd.checked) (X := fun w _ => laidMetH Tryd.prog Rows.blobTurnedRow.laid w) (fun _ _ _ hh h => h.of_heap hh) own started (by kernel_rfl) Tryd.func3
    (ChangeSpec.witness_shaped (enc := enc) (C := Tryd.checked) (os := os) (X := fun w _ => laidMetH Tryd.prog Rows.blobTurnedRow.laid w) false (World.doorLaid Tryd.prog 400 os) #[.agg #[.string ⟨#[]⟩, .int .i64 0, .int .i64 0, .bool false, .string ⟨#[]⟩, .slice none 0 0, .bool false, .int .i64 0, .int .i64 0, .int .i64 0, .int .i64 0, .int .i64 0, .int .i64 0, .int .i64 0, .int .u8 0, .int .i64 0, .string ⟨#[]⟩, .int .i64 0, .int .i64 0, .int .i64 0, .int .i64 0, .int .i64 0, .int .u8 0, .int .i64 0, .string ⟨#[]⟩], .int .i64 0] 8 rfl (World.shaped_of_RefB (by kernel_rfl) (by kernel_rfl)) (by kernel_rfl) (by kernel_rfl) (by kernel_rfl) (door_met os _)) ?_
  intro W base args ds gs before hval0 hW _ hsz0 hL _
  have hval : ∀ (j : Nat) t v, Tryd.f3.params[j]? = some t → args[j]? = some v → Value.okWide Tryd.prog W .any base t v := hval0
  have hsz : (DataW.weightsEach Tryd.prog (Tryd.f3.params.toList ++ Rows.blobTurnedSpec.plain.varTypes Tryd.prog) (ds ++ gs)).all (· ≤ reachBytes) = true := hsz0
  have hW' := hW
  obtain ⟨p, q, hA0, hV, rfl, hfz, hnd⟩ := hW
  have hA : DataW.TrodAll enc Tryd.prog W 0 (fun _ => true) true Tryd.f3.params.toList args.toList ds p := hA0
  rw [Tryd.params3] at hA hval hsz
  obtain ⟨v0, vs0, d0, ds0, p0, q0, ha0, rfl, rfl, h0, r0⟩ := trodAll_cons hA
  obtain ⟨v1, vs1, d1, ds1, p1, q1, ha1, rfl, rfl, h1, r1⟩ := trodAll_cons r0
  obtain ⟨rfl, rfl, rfl⟩ := trodAll_nil r1
  subst ha1
  obtain rfl : args = #[v0, v1] := by cases args; simp_all
  obtain ⟨rfl, rfl⟩ := trodVars_none hV
  have hk0 := h0
  have hlt0 : ∀ x ∈ p0, x.block < W.heap.size := fun x hx => by simpa using hW'.lt x (by simp [hx])
  obtain ⟨t0, sv0, rfl, hTa0, wt0, wf0, wg0, wr0, e00, e01, e02, e03, hd0, he0⟩ := table_open (hval 0 34 v0 rfl rfl) h0
  have hp0 := table_place (hval 0 34 _ rfl rfl)
  have hz0 := table_sized hsz (j := 0) rfl rfl hd0 he0
  obtain ⟨a1, rfl, rfl, rfl, w1⟩ := open_int Tryd.underlying3 (hval 1 3 v1 rfl rfl) h1
  clear hA0 hval0
  simp only [List.append_nil] at hW'
  refine (walk W t0 sv0 hTa0 hp0 hz0 wr0 wt0 wf0 wg0 a1 w1 (of_laid hL)).mono fun e W' ⟨he, hg⟩ => ?_
  subst he
  exact ⟨_, rfl, _, _, _, [], _, [], hW', (trodAll_cons_mk (shut_bool Tryd.underlying4 _) trodAll_mk0), (trodAll_cons_mk (Below.trod laidOutP (by kernel_rfl) (of_decide_eq_true (by kernel_rfl)) hk0 hg hlt0) (trodAll_cons_mk (shut_int Tryd.underlying3 w1) trodAll_mk0)), rfl, hg.frame _, fun h => by cases h⟩

theorem over : Rows.blobTurnedRow.holds Tryd.pinned (OpenSpec.ofChange Rows.blobTurnedSpec) :=
  OpenClaim.holds_of_wide 3 Tryd.f3 rfl rfl rfl rfl rfl rfl rfl ⟨rfl, rfl, rfl, rfl, rfl⟩ rfl rfl rfl rfl rfl (by kernel_rfl) Tryd.func3 (by kernel_rfl)
    (of_decide_eq_true (by kernel_rfl)) (by unfold Func.isWrapper; first | (rw [if_pos (by decide +kernel)]; kernel_rfl) | (rw [if_neg (by decide +kernel)]; exact ⟨rfl, rfl⟩))
    (fun os started H enc _ => lifted os started H enc)

theorem proved : Rows.BlobTurnedCardSaid :=
  Claim7.holds_tied_plain_at .later [] [.data, .data, .data, .data] true (true, "364427065dc5aad72fc1d5896fb1173686c8e77a10593a5dcd33bd46f0f2e80c") true
    over (fun _ h => by cases h) (by kernel_rfl) (fun _ h => by cases h) blobTurned_row_tie rfl ⟨rfl, rfl⟩ (by kernel_rfl) rfl
    (fun f fn hf hfn => by
      obtain rfl : f = 3 := Option.some.inj ((show Tryd.prog.funcNamed Rows.blobTurnedRow.func = some 3 by kernel_rfl).symm.trans hf) |>.symm
      obtain rfl : fn = Tryd.f3 := (Option.some.inj (Tryd.func3.symm.trans hfn)).symm
      exact ⟨by kernel_rfl, fun j t ht => by
        rw [Tryd.params3] at ht
        have hm : t ∈ [34, 3] := by simpa using Array.mem_of_getElem? ht
        have hall : ([34, 3].all fun u => !Tryd.prog.wantsStandIn u) = true := by kernel_rfl
        exact (show Tryd.prog.wantsStandIn t = false by simpa using List.all_eq_true.1 hall t hm)⟩)
    (by kernel_rfl)
end Go.Proofs.YtcgcljfdfimfgaaDoor.blobTurned
