import Derived.Test.YtcmefhnfdcngfaaDoorRows
import Derived.Test.YtcmefhnfdcngfaaDoorCards
import Derived.Test.YtcmefhnfdcngfaaDoorTie
import Derived.WalkKit
import Derived.ProofKit
import Derived.LaidMore
import Derived.OpenShut
import Derived.ShutString
import Derived.Stop.Joined
import Derived.Lib.LaidTab
import Derived.Lib.SmallJoins
import Derived.Stop.LaidErr
import Derived.Lay
import Derived.SevenTiedAt
import Derived.ChangeMaps5
import Derived.SizedLaws
import Derived.Lib.LaidU8T
import Derived.Shelf.Vars
import Derived.Test.YtcmefhnfdcngfaaDoorO39
import Derived.Test.YtcmefhnfdcngfaaDoorO41
/- Of no operation and kinds there are two rows in the table: KindOne returns true for any two numbers, where the listed tables and the names of kinds are as the program lays them, whatever the variable internal/bytealg.MaxLen holds. -/
namespace Go.Proofs.YtcmefhnfdcngfaaDoor.kindOne
open Go.ChangeShapes Go.WideShapes Go.ChangeAt Go.WideMaps Go.WideElems Go.RowKit
set_option linter.unusedVariables false

theorem own : ownKnob Tryd.prog.godebug = none := by kernel_rfl

/-- an array of texts that reads so holds these texts. -/
theorem strs_cells {H : Type} {enc : TypeId × Value → H} {P : Program} {w : World} {base : Nat} {sp : Nat → Bool} {held : Bool} {fuel : Nat} {t e : TypeId} {n : Nat} {cs : List Value} {l : List (List UInt8)} {p : List MemPlace}
    (ht : P.underlying t = some (.array n e)) (he : P.underlying e = some .string) (hce : P.cellsOf e = 1) (hct : P.cellsOf t = n)
    (h : DataW.trod enc P w base sp held fuel t cs = some (.agg (l.map fun b => .lit (.string b)), p)) (i : Nat) (b : List UInt8) (hb : l[i]? = some b) : cs[i]? = some (.string ⟨b.toArray⟩) := by
  cases fuel with
  | zero => simp [DataW.trod] at h
  | succ fuel =>
    simp only [DataW.trod, ht, hce, hct, Nat.mul_one] at h
    split at h
    · obtain ⟨xs, hm, hx⟩ := Option.map_eq_some_iff.1 h
      have hxs : xs.map (·.1) = l.map fun b => (DataW.lit (.string b) : DataW H) := by
        have := congrArg Prod.fst hx
        simpa using this
      have hxl : xs.length = n := by simpa using Lib.mapM_length hm
      have hll : l.length = n := by
        have := congrArg List.length hxs
        simp at this
        omega
      have hi : i < n := by have := (List.getElem?_eq_some_iff.1 hb).1; omega
      obtain ⟨y, hy, hf⟩ := Lib.mapM_at hm i i (by simp [hi])
      obtain ⟨s, hc, hxx, _⟩ := DataW.trod_string he hf
      have h1 : cs[i]? = some (.string s) := by
        have := congrArg (·[0]?) hc
        simpa [List.getElem?_take, List.getElem?_drop] using this
      have h2 : (xs.map (·.1))[i]? = some y.1 := by simp [hy]
      rw [hxs] at h2
      simp only [List.getElem?_map, hb, Option.map_some, Option.some.injEq] at h2
      rw [hxx] at h2
      have h3 : b = s.data.toList := by simpa using h2
      rw [h1, h3]
    · cases h
theorem gKin : Tryd.prog.globalNamed "computus/kind.kinds" = some 0 := by kernel_rfl
theorem tKin : (Tryd.prog.globals[0]?).map (·.type) = some 49 := by kernel_rfl
theorem uKin : Tryd.prog.underlying 49 = some (.array 9 9) := by kernel_rfl
def knB : List (List UInt8) := knm.map (fun t => t.data.toList)
theorem knB_at {i : Nat} {t : ByteArray} (h : knm[i]? = some t) : knB[i]? = some t.data.toList := by unfold knB; rw [List.getElem?_map, h]; rfl
/-- what the world's shape and the listed variables give the walks: the library's variable holds some number; the two tables of unicode/utf8; the names of kinds. -/
theorem of_both {W : World} (hs : W.ShapedOpen Tryd.prog) (h : laidMetH Tryd.prog Rows.kindOneRow.laid W) : G23 W := by
  rw [MakeChecks.laidMetH_plain _ _ _ (by kernel_rfl)] at h
  rw [show Rows.kindOneRow.laid = [("unicode/utf8.acceptRanges", Lib.acceptData), ("computus/kind.kinds", .agg (knB.map fun b => .lit (.string b))), ("unicode/utf8.first", Lib.firstData)] by kernel_rfl] at h
  refine ⟨⟨?_, cell_of_shapedOpen_int (zero := #[.int .i64 0]) (t := 3) hs (of_decide_eq_true (by kernel_rfl)) (by kernel_rfl) rfl (by kernel_rfl) (by kernel_rfl) Tryd.underlying3⟩, ?_⟩
  · exact utf8Tabs_of_readsT (ρ := Tryd.lays197_ren) (U8Types.of260 { Tryd.lays197 with }) ⟨by kernel_rfl, by kernel_rfl, by kernel_rfl, by kernel_rfl, by kernel_rfl, by kernel_rfl, by kernel_rfl⟩ (Lib.laidMet.reads h (.tail _ (.tail _ (.head _)))) (Lib.laidMet.reads h (.head _))
  · obtain ⟨g, t, cs, fuel, p, h1, h2, h3, h4⟩ := Lib.laidMet.reads h (.tail _ (.head _))
    obtain rfl := Option.some.inj (gKin.symm.trans h1)
    obtain rfl := Option.some.inj (tKin.symm.trans h2)
    intro i t ht
    have q := strs_cells uKin Tryd.underlying9 (by kernel_rfl) (by kernel_rfl) h4 i _ (knB_at ht)
    have r := World.var?_cell gKin h3 i
    rw [r, ← Array.getElem?_toList, q]

theorem door_met (os : Os) (args : Array Value) : laidMetH Tryd.prog Rows.kindOneRow.laid (((World.laidAll Tryd.prog os Rows.kindOneRow.laid)).forCall (fun _ _ => 0) ⟨#[], args, []⟩).memory := by
  rw [MakeChecks.laidMetH_plain _ _ _ (by kernel_rfl)]; exact laidMet_laidAll _ (by kernel_rfl) (by kernel_rfl)

theorem walk (i : Int) (mi : (Lit.int .i64 i).wf = true) (j : Int) (mj : (Lit.int .i64 j).wf = true) (w : World) (hG : G23 w) :
    Calls Tryd.prog 4 #[.int .i64 i, .int .i64 j] w fun e w' => e = .returned (.bool true) ∧ Below w.heap.size w w' := one_any i j rt_any w hG

set_option maxRecDepth 100000 in
theorem lifted (os : Os) (started : os.Started) (H : Type) (enc : TypeId × Value → H) :
    ReturnsInHanded {} Tryd.checked os 4 .any (fun w args => (Rows.kindOneSpec.pre enc Tryd.prog Tryd.f4 [] false w args ∧ laidMetH Tryd.prog Rows.kindOneRow.laid w) ∧ sizedMet enc Tryd.prog Tryd.f4 (OpenSpec.ofChange Rows.kindOneSpec) false w args)
      (Rows.kindOneSpec.post enc Tryd.prog Tryd.f4 false true false false) := by
  have contract : ∀ (W : World) (base : Nat) (args : Array Value) (ds gs : List (DataW H)) (before : List MemPlace), (∀ (j : Nat) t v, Tryd.f4.params[j]? = some t → args[j]? = some v → Value.okWide Tryd.prog W .any base t v) →
      DataW.Whole enc Tryd.prog Tryd.f4.params.toList Rows.kindOneSpec.vars false W args.toList ds gs before → (DataW.weightsEach Tryd.prog (Tryd.f4.params.toList ++ Rows.kindOneSpec.plain.varTypes Tryd.prog) (ds ++ gs)).all (· ≤ reachBytes) = true →
      W.ShapedOpen Tryd.prog → laidMetH Tryd.prog Rows.kindOneRow.laid W → Calls Tryd.prog 4 args W fun e W' => ∃ v, e = .returned v ∧ Rows.kindOneSpec.post enc Tryd.prog Tryd.f4 false true false false W args v W' := by
    intro W base args ds gs before hval0 hW hsz0 hsh hL
    have hval : ∀ (j : Nat) t v, Tryd.f4.params[j]? = some t → args[j]? = some v → Value.okWide Tryd.prog W .any base t v := hval0
    have hW' := hW
    obtain ⟨p, q, hA0, hV, rfl, hfz, hnd⟩ := hW
    have hA : DataW.TrodAll enc Tryd.prog W 0 (fun _ => true) true Tryd.f4.params.toList args.toList ds p := hA0
    rw [Tryd.params4] at hA hval
    obtain ⟨v0, vs0, d0, ds0, p0, q0, ha0, rfl, rfl, h0, r0⟩ := trodAll_cons hA
    obtain ⟨v1, vs1, d1, ds1, p1, q1, ha1, rfl, rfl, h1, r1⟩ := trodAll_cons r0
    obtain ⟨rfl, rfl, rfl⟩ := trodAll_nil r1
    subst ha1
    obtain rfl : args = #[v0, v1] := by cases args; simp_all
    obtain ⟨rfl, rfl⟩ := trodVars_none hV
    obtain ⟨a0, rfl, rfl, rfl, w0⟩ := open_int Tryd.underlying3 (hval 0 3 v0 rfl rfl) h0
    obtain ⟨a1, rfl, rfl, rfl, w1⟩ := open_int Tryd.underlying3 (hval 1 3 v1 rfl rfl) h1
    clear hA0 hval0
    simp only [List.append_nil] at hW'
    refine (walk a0 w0 a1 w1 W (of_both hsh hL)).mono fun e W' ⟨he, hg⟩ => ?_
    subst he
    exact ⟨_, rfl, _, _, _, [], [], [], hW', (trodAll_cons_mk (shut_bool Tryd.underlying4 _) trodAll_mk0), (trodAll_cons_mk (shut_int Tryd.underlying3 w0) (trodAll_cons_mk (shut_int Tryd.underlying3 w1) trodAll_mk0)), rfl, hg.frame _, fun h => by cases h⟩
  refine returnsInHanded_of_calls own started (by kernel_rfl) (ChangeSpec.witness_shaped (enc := enc) (C := Tryd.checked) (os := os) (X := fun w _ => laidMetH Tryd.prog Rows.kindOneRow.laid w) false (World.laidAll Tryd.prog os Rows.kindOneRow.laid) #[.int .i64 0, .int .i64 0] 8 (World.laidAll_os _ _ _) (World.shaped_of_ZipB (by kernel_rfl) (by kernel_rfl)) (by kernel_rfl) (by kernel_rfl) (by kernel_rfl) (door_met os _)) ?_
  intro w9 tape9 i9 _ hsh _ hok hpre _
  obtain ⟨_, _, _, fn', hfn', _, _, _, _, hval⟩ := hok
  have e9 : fn' = Tryd.f4 := Option.some.inj (hfn'.symm.trans Tryd.func4)
  subst e9
  obtain ⟨⟨⟨ds, gs, before, hw9, _⟩, hl9⟩, hz9⟩ := hpre
  refine (contract (w9.forCall tape9 i9) w9.heap.size i9.args ds gs before hval (DataW.Whole.of_heap (w' := w9.forCall tape9 i9) (by rfl) hw9) (hz9.weights hw9) hsh (hl9.of_heap (by rfl))).mono fun e W' ⟨v, he, hp⟩ => ?_
  subst he
  exact ChangeSpec.post_blind hp

theorem over : Rows.kindOneRow.holds Tryd.pinned (OpenSpec.ofChange Rows.kindOneSpec) :=
  OpenClaim.holds_of_wide 4 Tryd.f4 rfl rfl rfl rfl rfl rfl rfl ⟨rfl, rfl, rfl, rfl, rfl⟩ rfl rfl rfl rfl rfl (by kernel_rfl) Tryd.func4 (by kernel_rfl)
    (of_decide_eq_true (by kernel_rfl)) (by unfold Func.isWrapper; first | (rw [if_pos (by decide +kernel)]; kernel_rfl) | (rw [if_neg (by decide +kernel)]; exact ⟨rfl, rfl⟩))
    (fun os started H enc _ => lifted os started H enc)

theorem proved : Rows.KindOneCardSaid :=
  Claim7.holds_tied_plain_at .later [] [.data, .data, .pinned] true (true, "8507dd0291704cb6d4788b8338c9da218bc6bea2cdd21fba0c5b5e7e43406e3d") true
    over (fun _ h => by cases h) (by kernel_rfl) (fun _ h => by cases h) kindOne_row_tie rfl ⟨rfl, rfl⟩ (by kernel_rfl) rfl
    (fun f fn hf hfn => by
      obtain rfl : f = 4 := Option.some.inj ((show Tryd.prog.funcNamed Rows.kindOneRow.func = some 4 by kernel_rfl).symm.trans hf) |>.symm
      obtain rfl : fn = Tryd.f4 := (Option.some.inj (Tryd.func4.symm.trans hfn)).symm
      exact ⟨by kernel_rfl, fun j t ht => by
        rw [Tryd.params4] at ht
        have hm : t ∈ [3] := by simpa using Array.mem_of_getElem? ht
        have hall : ([3].all fun u => !Tryd.prog.wantsStandIn u) = true := by kernel_rfl
        exact (show Tryd.prog.wantsStandIn t = false by simpa using List.all_eq_true.1 hall t hm)⟩)
    (by kernel_rfl)
end Go.Proofs.YtcmefhnfdcngfaaDoor.kindOne
