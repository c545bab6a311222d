import Derived.Test.YtklehbmghjcmaaaGreatDoorRows
import Derived.Test.YtklehbmghjcmaaaGreatDoorCards
import Derived.Test.YtklehbmghjcmaaaGreatDoorTie
import Derived.WalkKit
import Derived.ProofKit
import Derived.LaidMore
import Derived.OpenShut
import Derived.ShutString
import Derived.Stop.Joined
import Derived.Lib.LaidTab
import Derived.Lib.SmallJoins
import Derived.Stop.LaidErr
import Derived.Lay
import Derived.SevenTiedAt
import Derived.ChangeMaps5
import Derived.SizedLaws
import Derived.Lib.LaidU8T
import Derived.Shelf.Vars
import Derived.Test.YtklehbmghjcmaaaGreatDoorS34
/- Microseconds on hang on no zone, and an interval of whole days by UTC is days of 24 hours: StampFlat returns true for every table, stamp and two int64s, where the listed tables are as the program's text lays them. -/
namespace Go.Proofs.YtklehbmghjcmaaaGreatDoor.stampFlat
open Go.ChangeShapes Go.WideShapes Go.ChangeAt Go.WideMaps Go.WideElems Go.RowKit
set_option linter.unusedVariables false

theorem own : ownKnob Tryz.prog.godebug = none := by kernel_rfl

theorem gLen : Tryz.prog.globalNamed "computus/civil.lengths" = some 1 := by kernel_rfl
theorem tLen : (Tryz.prog.globals[1]?).map (·.type) = some 232 := by kernel_rfl
theorem uLen : Tryz.prog.underlying 232 = some (.array 12 2) := by kernel_rfl
theorem gTab : Tryz.prog.globalNamed "internal/strconv.uint64pow10" = some 2 := by kernel_rfl
theorem tTab : (Tryz.prog.globals[2]?).map (·.type) = some 279 := by kernel_rfl
theorem uTab : Tryz.prog.underlying 279 = some (.array 20 203) := by kernel_rfl
/-- what the listed variables give the walks: the twelve lengths, the powers of ten. -/
theorem of_laid {W : World} (h : laidMetH Tryz.prog Rows.stampFlatRow.laid W) : Cvl.Lens W ∧ Clk.Tab W := by
  rw [MakeChecks.laidMetH_plain _ _ _ (by kernel_rfl)] at h
  have ht := Lib.tabIs_of_head (k := .i64) (zs := Cvl.tabL) gLen tLen uLen Tryz.underlying2 (by kernel_rfl) (by kernel_rfl) h
  exact ⟨fun i hi => ht.cell gLen i hi, Lib.tabIs_of_head (k := .u64) (zs := Lib.pow10Tab) gTab tTab uTab Tryz.underlying203 (by kernel_rfl) (by kernel_rfl) h.tail.tail.tail⟩

theorem door_met (os : Os) (args : Array Value) : laidMetH Tryz.prog Rows.stampFlatRow.laid (((World.doorLaid Tryz.prog 400 os)).forCall (fun _ _ => 0) ⟨#[], args, []⟩).memory :=
  laidMetH_of_parts3 (fuel := 8) (laidMet_of_run' 8 (by kernel_rfl) (by kernel_rfl)) (by kernel_rfl) (by kernel_rfl)

theorem laidOutP : laidOutB Tryz.prog = true := Fn.laidOutP
/- a table's changes stay where they lie. -/
theorem transA_below {w W : World} {sv : Value} {L : List TrR} (h : TransA w sv L) (hp : ∀ a n c, sv = .slice (some a) n c → a.block < w.heap.size ∧ a.spot = none) (hb : Below w.heap.size w W) : TransA W sv L := by
  rcases h with h | ⟨a, cap, e, h1, h2, h3⟩
  · exact .inl h
  · exact .inr ⟨a, cap, e, h1, h2, fun j u hj => (hb.cell (World.block_lt_of_cell? w _ (h3 j u hj))).trans (h3 j u hj)⟩
theorem trat_of {w : World} {sv : Value} {L : List TrR} (HT : TransA w sv L) (h40 : L.length * 40 ≤ 140737488355328) (hg : ∀ a n c, sv = .slice (some a) n c → a.block < w.heap.size ∧ a.spot = none) : TrAt w sv L := by
  rcases HT with ⟨rfl, rfl⟩ | ⟨a, cap, rfl, h1, h2, hc⟩
  · exact ⟨⟨none, 0, rfl⟩, by decide, .inl rfl⟩
  · obtain ⟨h3, h4⟩ := hg _ _ _ rfl
    obtain ⟨g, o, s⟩ := a
    simp only at h3 h4
    subst h4
    refine ⟨⟨_, _, rfl⟩, by omega, .inr ⟨g, o, cap, rfl, h3, fun j u hu => ?_⟩⟩
    have := hc j u hu
    unfold Addr.add at this
    split at this
    · rename_i h; subst h; simpa using this
    · exact this
theorem tmod_bd (d : Int) : -10000 < d.tmod 10000 ∧ d.tmod 10000 < 10000 := by
  have := Int.tmod_lt_of_pos d (show (0 : Int) < 10000 by decide)
  have h := Int.tmod_lt_of_pos (-d) (show (0 : Int) < 10000 by decide)
  rw [Int.neg_tmod] at h
  omega

theorem walk (w : World) (t : TbR) (sv : Value) (hA : TransA w sv t.trs) (hp : ∀ a n c, sv = .slice (some a) n c → a.block < w.heap.size ∧ a.spot = none) (hz : t.trs.length * 40 ≤ 140737488355328) (wr : (Lit.int .i64 t.foot.fr).wf = true)
    (i a : Int) (wi : (Lit.int .i64 i).wf = true) (wa : (Lit.int .i64 a).wf = true) (n : Int) (wn : (Lit.int .i64 n).wf = true) (d : Int) (wd : (Lit.int .i64 d).wf = true) (hL : Cvl.Lens w ∧ Clk.Tab w) :
    Calls Tryz.prog 6 #[.agg (tbL t sv).toArray, .agg #[.int .i64 i, .int .i64 a], .int .i64 n, .int .i64 d] w fun r w' => r = .returned (.bool true) ∧ Below w.heap.size w w' := by
  obtain ⟨a1, a2⟩ := bounds_i64 wa
  obtain ⟨n1, n2⟩ := bounds_i64 wn
  obtain ⟨f1, f2⟩ := bounds_i64 wr
  obtain ⟨rb, hR, RT⟩ := rright_any t sv f1 f2
  obtain ⟨I, V, E, h1⟩ := add_is i a 0 0 0 n
  obtain ⟨D, hD⟩ : ∃ D, d.tmod 10000 = D := ⟨_, rfl⟩
  have bD := tmod_bd d
  rw [hD] at bD
  obtain ⟨J, X, G, h2, hF⟩ := flat_utc i a D a1 a2 bD
  obtain ⟨L, Y, H, h3⟩ := add_is i a 0 0 0 (D * 86400000000)
  refine sf_run (fun W => (Cvl.Lens W ∧ Clk.Tab W) ∧ TransA W sv t.trs ∧ ∀ a n c, sv = .slice (some a) n c → a.block < W.heap.size ∧ a.spot = none) (tbL t sv) utL (by simp [tbL, trC, Fn.fL]) i a n d D (D * 86400000000) I V E J X G L Y H rb hD (by rw [IntKind.wrap_i64]; omega) (hF L Y H h3)
    (fun W hW => RT W hW.1.1 hW.1.2 (trat_of hW.2.1 hz hW.2.2)) (fun W hW => gf_any t sv rb hR f1 f2 hz i a n I V E a1 a2 n1 n2 h1 W hW.1.1 hW.1.2 hW.2.1 hW.2.2)
    (fun W hW => sadd_any i a 0 0 0 n I V E h1 a1 a2 n1 n2 W hW.1.1) (fun W => utc17_any W) (fun W hW => h2 W hW.1.1)
    (fun W hW => sadd_any i a 0 0 0 _ L Y H h3 a1 a2 (by omega) (by omega) W hW.1.1) (fun W hW => pr_yes (pR_of (by omega)) W) (fun W hW => known_any W hW.1.1) w (fun W hb => ?_)
  exact ⟨⟨(Dy.lens_of hL.1).out W hb, hL.2.below hb⟩, transA_below hA hp hb, fun a n c e => ⟨Nat.lt_of_lt_of_le (hp a n c e).1 hb.size, (hp a n c e).2⟩⟩

set_option maxRecDepth 100000 in
theorem lifted (os : Os) (started : os.Started) (H : Type) (enc : TypeId × Value → H) :
    ReturnsInHanded {} Tryz.checked os 6 .any (fun w args => (Rows.stampFlatSpec.pre enc Tryz.prog Tryz.f6 [] false w args ∧ laidMetH Tryz.prog Rows.stampFlatRow.laid w) ∧ sizedMet enc Tryz.prog Tryz.f6 (OpenSpec.ofChange Rows.stampFlatSpec) false w args)
      (Rows.stampFlatSpec.post enc Tryz.prog Tryz.f6 false true false false) := by
  refine returnsInHanded_of_change_and (C := Tryz.checked) (X := fun w _ => laidMetH Tryz.prog Rows.stampFlatRow.laid w) (fun _ _ _ hh h => h.of_heap hh) own started (by kernel_rfl) Tryz.func6
    (ChangeSpec.witness_shaped (enc := enc) (C := Tryz.checked) (os := os) (X := fun w _ => laidMetH Tryz.prog Rows.stampFlatRow.laid w) false (World.doorLaid Tryz.prog 400 os) #[.agg #[.string ⟨#[]⟩, .int .i64 0, .int .i64 0, .bool false, .string ⟨#[]⟩, .slice none 0 0, .bool false, .int .i64 0, .int .i64 0, .int .i64 0, .int .i64 0, .int .i64 0, .int .i64 0, .int .i64 0, .int .u8 0, .int .i64 0, .string ⟨#[]⟩, .int .i64 0, .int .i64 0, .int .i64 0, .int .i64 0, .int .i64 0, .int .u8 0, .int .i64 0, .string ⟨#[]⟩], .agg #[.int .i64 0, .int .i64 0], .int .i64 0, .int .i64 0] 8 rfl (World.shaped_of_RefB (by kernel_rfl) (by kernel_rfl)) (by kernel_rfl) (by kernel_rfl) (by kernel_rfl) (door_met os _)) ?_
  intro W base args ds gs before hval0 hW _ hsz0 hL _
  have hval : ∀ (j : Nat) t v, Tryz.f6.params[j]? = some t → args[j]? = some v → Value.okWide Tryz.prog W .any base t v := hval0
  have hsz : (DataW.weightsEach Tryz.prog (Tryz.f6.params.toList ++ Rows.stampFlatSpec.plain.varTypes Tryz.prog) (ds ++ gs)).all (· ≤ reachBytes) = true := hsz0
  have hW' := hW
  obtain ⟨p, q, hA0, hV, rfl, hfz, hnd⟩ := hW
  have hA : DataW.TrodAll enc Tryz.prog W 0 (fun _ => true) true Tryz.f6.params.toList args.toList ds p := hA0
  rw [Tryz.params6] at hA hval hsz
  obtain ⟨v0, vs0, d0, ds0, p0, q0, ha0, rfl, rfl, h0, r0⟩ := trodAll_cons hA
  obtain ⟨v1, vs1, d1, ds1, p1, q1, ha1, rfl, rfl, h1, r1⟩ := trodAll_cons r0
  obtain ⟨v2, vs2, d2, ds2, p2, q2, ha2, rfl, rfl, h2, r2⟩ := trodAll_cons r1
  obtain ⟨v3, vs3, d3, ds3, p3, q3, ha3, rfl, rfl, h3, r3⟩ := trodAll_cons r2
  obtain ⟨rfl, rfl, rfl⟩ := trodAll_nil r3
  subst ha3
  subst ha2
  subst ha1
  obtain rfl : args = #[v0, v1, v2, v3] := by cases args; simp_all
  obtain ⟨rfl, rfl⟩ := trodVars_none hV
  have hk0 := h0
  have hlt0 : ∀ x ∈ p0, x.block < W.heap.size := fun x hx => by simpa using hW'.lt x (by simp [hx])
  obtain ⟨t0, sv0, rfl, hTa0, wt0, wf0, wg0, wr0, e00, e01, e02, e03, hd0, he0⟩ := table_open (hval 0 34 v0 rfl rfl) h0
  have hp0 := table_place (hval 0 34 _ rfl rfl)
  have hz0 := table_sized hsz (j := 0) rfl rfl hd0 he0
  obtain ⟨c1_0, c1_1, y1_0, y1_1, m1, rfl, rfl, rfl, hy1_0, hy1_1⟩ := Joins.open_agg2 Tryz.underlying36 (by kernel_rfl) (show Tryz.prog.cellsOf 36 = 2 by kernel_rfl) (hval 1 36 v1 rfl rfl) h1
  obtain ⟨n1_0, i1_0, rfl, wn1_0⟩ := DataW.trod_int Tryz.underlying3 hy1_0
  simp at i1_0
  subst i1_0
  obtain ⟨n1_1, i1_1, rfl, wn1_1⟩ := DataW.trod_int Tryz.underlying2 hy1_1
  simp at i1_1
  subst i1_1
  obtain ⟨a2, rfl, rfl, rfl, w2⟩ := open_int Tryz.underlying2 (hval 2 2 v2 rfl rfl) h2
  obtain ⟨a3, rfl, rfl, rfl, w3⟩ := open_int Tryz.underlying2 (hval 3 2 v3 rfl rfl) h3
  clear hA0 hval0
  simp only [List.append_nil] at hW'
  refine (walk W t0 sv0 hTa0 hp0 hz0 wr0 n1_0 n1_1 wn1_0 wn1_1 a2 w2 a3 w3 (of_laid hL)).mono fun e W' ⟨he, hg⟩ => ?_
  subst he
  exact ⟨_, rfl, _, _, _, [], _, [], hW', (trodAll_cons_mk (shut_bool Tryz.underlying4 _) trodAll_mk0), (trodAll_cons_mk (Below.trod laidOutP (by kernel_rfl) (of_decide_eq_true (by kernel_rfl)) hk0 hg hlt0) (trodAll_cons_mk ((Joins.shut_agg2 (y0 := (.lit (.int .i64 n1_0), [])) (y1 := (.lit (.int .i64 n1_1), [])) Tryz.underlying36 (by kernel_rfl) (show Tryz.prog.cellsOf 36 = 2 by kernel_rfl) ⟨1, by show DataW.trod _ Tryz.prog _ _ _ _ 1 _ _ = _; simp [DataW.trod, Tryz.underlying3, wn1_0]⟩ ⟨1, by show DataW.trod _ Tryz.prog _ _ _ _ 1 _ _ = _; simp [DataW.trod, Tryz.underlying2, wn1_1]⟩)) (trodAll_cons_mk (shut_int Tryz.underlying2 w2) (trodAll_cons_mk (shut_int Tryz.underlying2 w3) trodAll_mk0)))), rfl, hg.frame _, fun h => by cases h⟩

theorem over : Rows.stampFlatRow.holds Tryz.pinned (OpenSpec.ofChange Rows.stampFlatSpec) :=
  OpenClaim.holds_of_wide 6 Tryz.f6 rfl rfl rfl rfl rfl rfl rfl ⟨rfl, rfl, rfl, rfl, rfl⟩ rfl rfl rfl rfl rfl (by kernel_rfl) Tryz.func6 (by kernel_rfl)
    (of_decide_eq_true (by kernel_rfl)) (by unfold Func.isWrapper; first | (rw [if_pos (by decide +kernel)]; kernel_rfl) | (rw [if_neg (by decide +kernel)]; exact ⟨rfl, rfl⟩))
    (fun os started H enc _ => lifted os started H enc)

theorem proved : Rows.StampFlatCardSaid :=
  Claim7.holds_tied_plain_at .later [] [.data, .data, .data, .data] true (true, "746b7686ae2c058c02a4bf30218e9c8642450b74247e214a736fd31ac7b25f5e") true
    over (fun _ h => by cases h) (by kernel_rfl) (fun _ h => by cases h) stampFlat_row_tie rfl ⟨rfl, rfl⟩ (by kernel_rfl) rfl
    (fun f fn hf hfn => by
      obtain rfl : f = 6 := Option.some.inj ((show Tryz.prog.funcNamed Rows.stampFlatRow.func = some 6 by kernel_rfl).symm.trans hf) |>.symm
      obtain rfl : fn = Tryz.f6 := (Option.some.inj (Tryz.func6.symm.trans hfn)).symm
      exact ⟨by kernel_rfl, fun j t ht => by
        rw [Tryz.params6] at ht
        have hm : t ∈ [34, 36, 2] := by simpa using Array.mem_of_getElem? ht
        have hall : ([34, 36, 2].all fun u => !Tryz.prog.wantsStandIn u) = true := by kernel_rfl
        exact (show Tryz.prog.wantsStandIn t = false by simpa using List.all_eq_true.1 hall t hm)⟩)
    (by kernel_rfl)
end Go.Proofs.YtklehbmghjcmaaaGreatDoor.stampFlat
