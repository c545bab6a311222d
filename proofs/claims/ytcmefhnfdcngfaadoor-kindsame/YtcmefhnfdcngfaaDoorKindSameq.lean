import Derived.Test.YtcmefhnfdcngfaaDoorRows
import Derived.Test.YtcmefhnfdcngfaaDoorCards
import Derived.Test.YtcmefhnfdcngfaaDoorTie
import Derived.WalkKit
import Derived.ProofKit
import Derived.LaidMore
import Derived.OpenShut
import Derived.ShutString
import Derived.Stop.Joined
import Derived.Lib.LaidTab
import Derived.Lib.SmallJoins
import Derived.Stop.LaidErr
import Derived.Lay
import Derived.SevenTiedAt
import Derived.ChangeMaps5
import Derived.SizedLaws
import Derived.Lib.LaidU8T
import Derived.Shelf.Vars
import Derived.Test.YtcmefhnfdcngfaaDoorK43
/- Brackets about an expression, and a cast to its own kind, change no kind: KindSame returns true for every text, where the listed tables and the names of kinds are as the program lays them, whatever the variable internal/bytealg.MaxLen holds. -/
namespace Go.Proofs.YtcmefhnfdcngfaaDoor.kindSame
open Go.ChangeShapes Go.WideShapes Go.ChangeAt Go.WideMaps Go.WideElems Go.RowKit
set_option linter.unusedVariables false

theorem own : ownKnob Tryd.prog.godebug = none := by kernel_rfl

/-- an array of texts that reads so holds these texts. -/
theorem strs_cells {H : Type} {enc : TypeId × Value → H} {P : Program} {w : World} {base : Nat} {sp : Nat → Bool} {held : Bool} {fuel : Nat} {t e : TypeId} {n : Nat} {cs : List Value} {l : List (List UInt8)} {p : List MemPlace}
    (ht : P.underlying t = some (.array n e)) (he : P.underlying e = some .string) (hce : P.cellsOf e = 1) (hct : P.cellsOf t = n)
    (h : DataW.trod enc P w base sp held fuel t cs = some (.agg (l.map fun b => .lit (.string b)), p)) (i : Nat) (b : List UInt8) (hb : l[i]? = some b) : cs[i]? = some (.string ⟨b.toArray⟩) := by
  cases fuel with
  | zero => simp [DataW.trod] at h
  | succ fuel =>
    simp only [DataW.trod, ht, hce, hct, Nat.mul_one] at h
    split at h
    · obtain ⟨xs, hm, hx⟩ := Option.map_eq_some_iff.1 h
      have hxs : xs.map (·.1) = l.map fun b => (DataW.lit (.string b) : DataW H) := by
        have := congrArg Prod.fst hx
        simpa using this
      have hxl : xs.length = n := by simpa using Lib.mapM_length hm
      have hll : l.length = n := by
        have := congrArg List.length hxs
        simp at this
        omega
      have hi : i < n := by have := (List.getElem?_eq_some_iff.1 hb).1; omega
      obtain ⟨y, hy, hf⟩ := Lib.mapM_at hm i i (by simp [hi])
      obtain ⟨s, hc, hxx, _⟩ := DataW.trod_string he hf
      have h1 : cs[i]? = some (.string s) := by
        have := congrArg (·[0]?) hc
        simpa [List.getElem?_take, List.getElem?_drop] using this
      have h2 : (xs.map (·.1))[i]? = some y.1 := by simp [hy]
      rw [hxs] at h2
      simp only [List.getElem?_map, hb, Option.map_some, Option.some.injEq] at h2
      rw [hxx] at h2
      have h3 : b = s.data.toList := by simpa using h2
      rw [h1, h3]
    · cases h
theorem gKin : Tryd.prog.globalNamed "computus/kind.kinds" = some 0 := by kernel_rfl
theorem tKin : (Tryd.prog.globals[0]?).map (·.type) = some 49 := by kernel_rfl
theorem uKin : Tryd.prog.underlying 49 = some (.array 9 9) := by kernel_rfl
def knB : List (List UInt8) := knm.map (fun t => t.data.toList)
theorem knB_at {i : Nat} {t : ByteArray} (h : knm[i]? = some t) : knB[i]? = some t.data.toList := by unfold knB; rw [List.getElem?_map, h]; rfl
/-- what the world's shape and the listed variables give the walks: the library's variable holds some number; the two tables of unicode/utf8; the names of kinds. -/
theorem of_both {W : World} (hs : W.ShapedOpen Tryd.prog) (h : laidMetH Tryd.prog Rows.kindSameRow.laid W) : G23 W := by
  rw [MakeChecks.laidMetH_plain _ _ _ (by kernel_rfl)] at h
  rw [show Rows.kindSameRow.laid = [("unicode/utf8.acceptRanges", Lib.acceptData), ("computus/kind.kinds", .agg (knB.map fun b => .lit (.string b))), ("unicode/utf8.first", Lib.firstData)] by kernel_rfl] at h
  refine ⟨⟨?_, cell_of_shapedOpen_int (zero := #[.int .i64 0]) (t := 3) hs (of_decide_eq_true (by kernel_rfl)) (by kernel_rfl) rfl (by kernel_rfl) (by kernel_rfl) Tryd.underlying3⟩, ?_⟩
  · exact utf8Tabs_of_readsT (ρ := Tryd.lays197_ren) (U8Types.of260 { Tryd.lays197 with }) ⟨by kernel_rfl, by kernel_rfl, by kernel_rfl, by kernel_rfl, by kernel_rfl, by kernel_rfl, by kernel_rfl⟩ (Lib.laidMet.reads h (.tail _ (.tail _ (.head _)))) (Lib.laidMet.reads h (.head _))
  · obtain ⟨g, t, cs, fuel, p, h1, h2, h3, h4⟩ := Lib.laidMet.reads h (.tail _ (.head _))
    obtain rfl := Option.some.inj (gKin.symm.trans h1)
    obtain rfl := Option.some.inj (tKin.symm.trans h2)
    intro i t ht
    have q := strs_cells uKin Tryd.underlying9 (by kernel_rfl) (by kernel_rfl) h4 i _ (knB_at ht)
    have r := World.var?_cell gKin h3 i
    rw [r, ← Array.getElem?_toList, q]

theorem door_met (os : Os) (args : Array Value) : laidMetH Tryd.prog Rows.kindSameRow.laid (((World.laidAll Tryd.prog os Rows.kindSameRow.laid)).forCall (fun _ _ => 0) ⟨#[], args, []⟩).memory := by
  rw [MakeChecks.laidMetH_plain _ _ _ (by kernel_rfl)]; exact laidMet_laidAll _ (by kernel_rfl) (by kernel_rfl)

theorem walk (s : ByteArray) (ms : s.size ≤ maxLen) (hs : s.size ≤ 140737488351232) (w : World) (hG : G23 w) :
    Calls Tryd.prog 5 #[.string s] w fun e w' => e = .returned (.bool true) ∧ Below w.heap.size w w' := same_any23 s hs w hG

set_option maxRecDepth 100000 in
theorem lifted (os : Os) (started : os.Started) (H : Type) (enc : TypeId × Value → H) :
    ReturnsInHanded {} Tryd.checked os 5 .any (fun w args => (Rows.kindSameSpec.pre enc Tryd.prog Tryd.f5 [] false w args ∧ laidMetH Tryd.prog Rows.kindSameRow.laid w) ∧ sizedMet enc Tryd.prog Tryd.f5 (OpenSpec.ofChange Rows.kindSameSpec) false w args)
      (Rows.kindSameSpec.post enc Tryd.prog Tryd.f5 false true false false) := by
  have contract : ∀ (W : World) (base : Nat) (args : Array Value) (ds gs : List (DataW H)) (before : List MemPlace), (∀ (j : Nat) t v, Tryd.f5.params[j]? = some t → args[j]? = some v → Value.okWide Tryd.prog W .any base t v) →
      DataW.Whole enc Tryd.prog Tryd.f5.params.toList Rows.kindSameSpec.vars false W args.toList ds gs before → (DataW.weightsEach Tryd.prog (Tryd.f5.params.toList ++ Rows.kindSameSpec.plain.varTypes Tryd.prog) (ds ++ gs)).all (· ≤ reachBytes) = true →
      W.ShapedOpen Tryd.prog → laidMetH Tryd.prog Rows.kindSameRow.laid W → Calls Tryd.prog 5 args W fun e W' => ∃ v, e = .returned v ∧ Rows.kindSameSpec.post enc Tryd.prog Tryd.f5 false true false false W args v W' := by
    intro W base args ds gs before hval0 hW hsz0 hsh hL
    have hval : ∀ (j : Nat) t v, Tryd.f5.params[j]? = some t → args[j]? = some v → Value.okWide Tryd.prog W .any base t v := hval0
    have hsz : (DataW.weightsEach Tryd.prog (Tryd.f5.params.toList ++ Rows.kindSameSpec.plain.varTypes Tryd.prog) (ds ++ gs)).all (· ≤ reachBytes) = true := hsz0
    have hW' := hW
    obtain ⟨p, q, hA0, hV, rfl, hfz, hnd⟩ := hW
    have hA : DataW.TrodAll enc Tryd.prog W 0 (fun _ => true) true Tryd.f5.params.toList args.toList ds p := hA0
    rw [Tryd.params5] at hA hval hsz
    obtain ⟨v0, vs0, d0, ds0, p0, q0, ha0, rfl, rfl, h0, r0⟩ := trodAll_cons hA
    obtain ⟨rfl, rfl, rfl⟩ := trodAll_nil r0
    obtain rfl : args = #[v0] := by cases args; simp_all
    obtain ⟨rfl, rfl⟩ := trodVars_none hV
    obtain ⟨a0, rfl, rfl, rfl, w0⟩ := Go.ChangeMaps.open_string Tryd.underlying9 (hval 0 9 v0 rfl rfl) h0
    have z0 : a0.size ≤ 140737488351232 := by have := sized_string hsz (j := 0) (t := 9) rfl rfl; rw [show a0.data.toList.length = a0.size from Array.length_toList] at this; unfold reachBytes at this; omega
    clear hA0 hval0
    simp only [List.append_nil] at hW'
    refine (walk a0 w0 z0 W (of_both hsh hL)).mono fun e W' ⟨he, hg⟩ => ?_
    subst he
    exact ⟨_, rfl, _, _, _, [], [], [], hW', (trodAll_cons_mk (shut_bool Tryd.underlying4 _) trodAll_mk0), (trodAll_cons_mk (Go.ChangeMaps.shut_string Tryd.underlying9 w0) trodAll_mk0), rfl, hg.frame _, fun h => by cases h⟩
  refine returnsInHanded_of_calls own started (by kernel_rfl) (ChangeSpec.witness_shaped (enc := enc) (C := Tryd.checked) (os := os) (X := fun w _ => laidMetH Tryd.prog Rows.kindSameRow.laid w) false (World.laidAll Tryd.prog os Rows.kindSameRow.laid) #[.string ⟨#[]⟩] 8 (World.laidAll_os _ _ _) (World.shaped_of_ZipB (by kernel_rfl) (by kernel_rfl)) (by kernel_rfl) (by kernel_rfl) (by kernel_rfl) (door_met os _)) ?_
  intro w9 tape9 i9 _ hsh _ hok hpre _
  obtain ⟨_, _, _, fn', hfn', _, _, _, _, hval⟩ := hok
  have e9 : fn' = Tryd.f5 := Option.some.inj (hfn'.symm.trans Tryd.func5)
  subst e9
  obtain ⟨⟨⟨ds, gs, before, hw9, _⟩, hl9⟩, hz9⟩ := hpre
  refine (contract (w9.forCall tape9 i9) w9.heap.size i9.args ds gs before hval (DataW.Whole.of_heap (w' := w9.forCall tape9 i9) (by rfl) hw9) (hz9.weights hw9) hsh (hl9.of_heap (by rfl))).mono fun e W' ⟨v, he, hp⟩ => ?_
  subst he
  exact ChangeSpec.post_blind hp

theorem over : Rows.kindSameRow.holds Tryd.pinned (OpenSpec.ofChange Rows.kindSameSpec) :=
  OpenClaim.holds_of_wide 5 Tryd.f5 rfl rfl rfl rfl rfl rfl rfl ⟨rfl, rfl, rfl, rfl, rfl⟩ rfl rfl rfl rfl rfl (by kernel_rfl) Tryd.func5 (by kernel_rfl)
    (of_decide_eq_true (by kernel_rfl)) (by unfold Func.isWrapper; first | (rw [if_pos (by decide +kernel)]; kernel_rfl) | (rw [if_neg (by decide +kernel)]; exact ⟨rfl, rfl⟩))
    (fun os started H enc _ => lifted os started H enc)

theorem proved : Rows.KindSameCardSaid :=
  Claim7.holds_tied_plain_at .later [] [.data, .data, .pinned] true (true, "8507dd0291704cb6d4788b8338c9da218bc6bea2cdd21fba0c5b5e7e43406e3d") true
    over (fun _ h => by cases h) (by kernel_rfl) (fun _ h => by cases h) kindSame_row_tie rfl ⟨rfl, rfl⟩ (by kernel_rfl) rfl
    (fun f fn hf hfn => by
      obtain rfl : f = 5 := Option.some.inj ((show Tryd.prog.funcNamed Rows.kindSameRow.func = some 5 by kernel_rfl).symm.trans hf) |>.symm
      obtain rfl : fn = Tryd.f5 := (Option.some.inj (Tryd.func5.symm.trans hfn)).symm
      exact ⟨by kernel_rfl, fun j t ht => by
        rw [Tryd.params5] at ht
        have hm : t ∈ [9] := by simpa using Array.mem_of_getElem? ht
        have hall : ([9].all fun u => !Tryd.prog.wantsStandIn u) = true := by kernel_rfl
        exact (show Tryd.prog.wantsStandIn t = false by simpa using List.all_eq_true.1 hall t hm)⟩)
    (by kernel_rfl)
end Go.Proofs.YtcmefhnfdcngfaaDoor.kindSame
