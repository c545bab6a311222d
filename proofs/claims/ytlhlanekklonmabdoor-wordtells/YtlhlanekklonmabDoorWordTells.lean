/- Any text in small letters, as a number, as a month and a weekday, and whether it is another one's but for great letters, is what the document says: WordTells returns true for every two texts, where the listed tables are as the program's text lays them. -/
import Derived.Test.YtlhlanekklonmabDoorRows
import Derived.Test.YtlhlanekklonmabDoorCards
import Derived.Test.YtlhlanekklonmabDoorTie
import Derived.WalkKit
import Derived.ProofKit
import Derived.LaidMore
import Derived.OpenShut
import Derived.ShutString
import Derived.Stop.Joined
import Derived.Lib.LaidTab
import Derived.Lib.SmallJoins
import Derived.Stop.LaidErr
import Derived.Lay
import Derived.SevenTiedAt
import Derived.ChangeMaps5
import Derived.SizedLaws
import Derived.Lib.LaidU8T
import Derived.Test.YtlhlanekklonmabDoorWdK
import Derived.Test.YtlhlanekklonmabDoorWdO
import Derived.Test.YtlhlanekklonmabDoorWdP
namespace Go.Proofs.YtlhlanekklonmabDoor.wordTells
open Go.ChangeShapes Go.WideShapes Go.ChangeAt Go.WideMaps Go.WideElems Go.RowKit
set_option linter.unusedVariables false

theorem own : ownKnob Tryd.prog.godebug = none := by kernel_rfl

/-- what the listed variables give the walks: the two tables of unicode/utf8. -/
theorem of_laid {W : World} (h : laidMetH Tryd.prog Rows.wordTellsRow.laid W) : Tabs W := by
  rw [MakeChecks.laidMetH_plain _ _ _ (by kernel_rfl)] at h
  rw [show Rows.wordTellsRow.laid = [("unicode/utf8.acceptRanges", Lib.acceptData), ("unicode/utf8.first", Lib.firstData)] by kernel_rfl] at h
  exact utf8Tabs_of_readsT (ρ := Tryd.lays197_ren) (U8Types.of260 { Tryd.lays197 with }) ⟨by kernel_rfl, by kernel_rfl, by kernel_rfl, by kernel_rfl, by kernel_rfl, by kernel_rfl, by kernel_rfl⟩ (Lib.laidMet.reads h (.tail _ (.head _))) (Lib.laidMet.reads h (.head _))

theorem door_met (os : Os) (args : Array Value) : laidMetH Tryd.prog Rows.wordTellsRow.laid (((World.laidAll Tryd.prog os Rows.wordTellsRow.laid)).forCall (fun _ _ => 0) ⟨#[], args, []⟩).memory := by
  rw [MakeChecks.laidMetH_plain _ _ _ (by kernel_rfl)]; exact laidMet_laidAll _ (by kernel_rfl) (by kernel_rfl)

set_option maxRecDepth 100000 in
set_option maxHeartbeats 4000000 in
theorem core (s t L : ByteArray) (B : Bool) (V E M D : Int)
    (C1 : Hid (∀ w : World, Calls Tryd.prog 22 #[.string s] w fun e w' => e = .returned (.tuple #[.int .i64 V, .int .i64 E]) ∧ Below w.heap.size w w'))
    (C2 : Hid (∀ w : World, Calls Tryd.prog 23 #[.string s] w fun e w' => e = .returned (.tuple #[.int .i64 V, .int .i64 E]) ∧ Below w.heap.size w w'))
    (C3 : Hid (∀ w : World, Calls Tryd.prog 24 #[.string s] w fun e w' => e = .returned (.string L) ∧ Below w.heap.size w w'))
    (C4 : Hid (∀ w : World, Calls Tryd.prog 25 #[.string s] w fun e w' => e = .returned (.string L) ∧ Below w.heap.size w w'))
    (C5 : Hid (∀ w : World, Calls Tryd.prog 26 #[.string s, .string t] w fun e w' => e = .returned (.bool B) ∧ Below w.heap.size w w'))
    (C6 : Hid (∀ w : World, Calls Tryd.prog 27 #[.string s, .string t] w fun e w' => e = .returned (.bool B) ∧ Below w.heap.size w w'))
    (C7 : Hid (∀ w : World, Calls Tryd.prog 28 #[.string s] w fun e w' => e = .returned (.int .i64 M) ∧ Below w.heap.size w w'))
    (C8 : Hid (∀ w : World, Calls Tryd.prog 29 #[.string s] w fun e w' => e = .returned (.int .i64 M) ∧ Below w.heap.size w w'))
    (C9 : Hid (∀ w : World, Calls Tryd.prog 30 #[.string s] w fun e w' => e = .returned (.int .i64 D) ∧ Below w.heap.size w w'))
    (C10 : Hid (∀ w : World, Calls Tryd.prog 31 #[.string s] w fun e w' => e = .returned (.int .i64 D) ∧ Below w.heap.size w w'))
    (w : World) (hT : Tabs w) :
    Calls Tryd.prog 5 #[.string s, .string t] w fun e w' => e = .returned (.bool true) ∧ Below w.heap.size w w' := by
  go_enter Tryd.func5, Tryd.ntmps5
  have HB0 : Hid (Below w.heap.size w w) := Below.refl _ _
  go_wp2_with fail
  refine (C1.out _).mono ?_
  rintro e w1 ⟨rfl, b⟩
  have HB1 : Hid (Below w.heap.size w w1) := HB0.out.trans (b.mono HB0.out.size)
  clear b HB0
  go_wp2_with fail
  refine (C2.out _).mono ?_
  rintro e w2 ⟨rfl, b⟩
  have HB2 : Hid (Below w.heap.size w w2) := HB1.out.trans (b.mono HB1.out.size)
  clear b HB1
  go_wp2_with fail
  refine (C3.out _).mono ?_
  rintro e w3 ⟨rfl, b⟩
  have HB3 : Hid (Below w.heap.size w w3) := HB2.out.trans (b.mono HB2.out.size)
  clear b HB2
  go_wp2_with fail
  refine (C4.out _).mono ?_
  rintro e w4 ⟨rfl, b⟩
  have HB4 : Hid (Below w.heap.size w w4) := HB3.out.trans (b.mono HB3.out.size)
  clear b HB3
  go_wp2_with fail
  refine (C5.out _).mono ?_
  rintro e w5 ⟨rfl, b⟩
  have HB5 : Hid (Below w.heap.size w w5) := HB4.out.trans (b.mono HB4.out.size)
  clear b HB4
  go_wp2_with fail
  refine (C6.out _).mono ?_
  rintro e w6 ⟨rfl, b⟩
  have HB6 : Hid (Below w.heap.size w w6) := HB5.out.trans (b.mono HB5.out.size)
  clear b HB5
  go_wp2_with fail
  refine (C7.out _).mono ?_
  rintro e w7 ⟨rfl, b⟩
  have HB7 : Hid (Below w.heap.size w w7) := HB6.out.trans (b.mono HB6.out.size)
  clear b HB6
  go_wp2_with fail
  refine (C8.out _).mono ?_
  rintro e w8 ⟨rfl, b⟩
  have HB8 : Hid (Below w.heap.size w w8) := HB7.out.trans (b.mono HB7.out.size)
  clear b HB7
  go_wp2_with fail
  refine (C9.out _).mono ?_
  rintro e w9 ⟨rfl, b⟩
  have HB9 : Hid (Below w.heap.size w w9) := HB8.out.trans (b.mono HB8.out.size)
  clear b HB8
  go_wp2_with fail
  refine (C10.out _).mono ?_
  rintro e w10 ⟨rfl, b⟩
  have HB10 : Hid (Below w.heap.size w w10) := HB9.out.trans (b.mono HB9.out.size)
  clear b HB9
  go_wp2_with fail
  refine (known_any _ (Tabs_below hT HB10.out)).mono ?_
  rintro e wz ⟨rfl, b⟩
  have HBz : Hid (Below w.heap.size w wz) := HB10.out.trans (b.mono HB10.out.size)
  clear b HB10
  go_wp2
  go_ret
  exact ⟨rfl, HBz.out⟩

theorem walk (s : ByteArray) (ws : s.size ≤ maxLen) (zs : s.size ≤ 140737488351232) (t : ByteArray) (wt : t.size ≤ maxLen) (zt : t.size ≤ 140737488351232) (w : World) (hT : Tabs w) :
    Calls Tryd.prog 5 #[.string s, .string t] w fun e w' => e = .returned (.bool true) ∧ Below w.heap.size w w' :=
  core s t (lowB s) (sameB s t) (numV s) (numE s) (shortB s monthsL + 1) (shortB s daysL) (wnumber_any s _ _ rfl rfl ws) (fun w => (rnumber_any s _ _ rfl rfl ws w).mono (by rintro e w' ⟨he, rfl⟩; exact ⟨he, Below.refl _ _⟩))
    (lower_any s ws) (rlower_any s zs) (same_any s t ws wt) (rsame_any s t zs zt) (month_any s ws) (rmonth_any s zs) (day_any s ws) (rday_any s zs) w hT

set_option maxRecDepth 100000 in
theorem lifted (os : Os) (started : os.Started) (H : Type) (enc : TypeId × Value → H) :
    ReturnsInHanded {} Tryd.checked os 5 .any (fun w args => (Rows.wordTellsSpec.pre enc Tryd.prog Tryd.f5 [] false w args ∧ laidMetH Tryd.prog Rows.wordTellsRow.laid w) ∧ sizedMet enc Tryd.prog Tryd.f5 (OpenSpec.ofChange Rows.wordTellsSpec) false w args)
      (Rows.wordTellsSpec.post enc Tryd.prog Tryd.f5 false true false false) := by
  refine returnsInHanded_of_change_and (C := Tryd.checked) (X := fun w _ => laidMetH Tryd.prog Rows.wordTellsRow.laid w) (fun _ _ _ hh h => h.of_heap hh) own started (by kernel_rfl) Tryd.func5
    (ChangeSpec.witness_shaped (enc := enc) (C := Tryd.checked) (os := os) (X := fun w _ => laidMetH Tryd.prog Rows.wordTellsRow.laid w) false (World.laidAll Tryd.prog os Rows.wordTellsRow.laid) #[.string ⟨#[]⟩, .string ⟨#[]⟩] 8 (World.laidAll_os _ _ _) (World.shaped_of_ZipB (by kernel_rfl) (by kernel_rfl)) (by kernel_rfl) (by kernel_rfl) (by kernel_rfl) (door_met os _)) ?_
  intro W base args ds gs before hval0 hW _ hsz0 hL _
  have hval : ∀ (j : Nat) t v, Tryd.f5.params[j]? = some t → args[j]? = some v → Value.okWide Tryd.prog W .any base t v := hval0
  have hsz : (DataW.weightsEach Tryd.prog (Tryd.f5.params.toList ++ Rows.wordTellsSpec.plain.varTypes Tryd.prog) (ds ++ gs)).all (· ≤ reachBytes) = true := hsz0
  have hW' := hW
  obtain ⟨p, q, hA0, hV, rfl, hfz, hnd⟩ := hW
  have hA : DataW.TrodAll enc Tryd.prog W 0 (fun _ => true) true Tryd.f5.params.toList args.toList ds p := hA0
  rw [Tryd.params5] at hA hval hsz
  obtain ⟨v0, vs0, d0, ds0, p0, q0, ha0, rfl, rfl, h0, r0⟩ := trodAll_cons hA
  obtain ⟨v1, vs1, d1, ds1, p1, q1, ha1, rfl, rfl, h1, r1⟩ := trodAll_cons r0
  obtain ⟨rfl, rfl, rfl⟩ := trodAll_nil r1
  subst ha1
  obtain rfl : args = #[v0, v1] := by cases args; simp_all
  obtain ⟨rfl, rfl⟩ := trodVars_none hV
  obtain ⟨a0, rfl, rfl, rfl, w0⟩ := Go.ChangeMaps.open_string Tryd.underlying9 (hval 0 9 v0 rfl rfl) h0
  obtain ⟨a1, rfl, rfl, rfl, w1⟩ := Go.ChangeMaps.open_string Tryd.underlying9 (hval 1 9 v1 rfl rfl) h1
  have z0 : a0.size ≤ 140737488351232 := by have := sized_string hsz (j := 0) (t := 9) rfl rfl; rw [sz] at this; unfold reachBytes at this; omega
  have z1 : a1.size ≤ 140737488351232 := by have := sized_string hsz (j := 1) (t := 9) rfl rfl; rw [sz] at this; unfold reachBytes at this; omega
  clear hA0 hval0
  simp only [List.append_nil] at hW'
  refine (walk a0 w0 z0 a1 w1 z1 W (of_laid hL)).mono fun e W' ⟨he, hg⟩ => ?_
  subst he
  exact ⟨_, rfl, _, _, _, [], [], [], hW', (trodAll_cons_mk (shut_bool Tryd.underlying4 _) trodAll_mk0), (trodAll_cons_mk (Go.ChangeMaps.shut_string Tryd.underlying9 w0) (trodAll_cons_mk (Go.ChangeMaps.shut_string Tryd.underlying9 w1) trodAll_mk0)), rfl, hg.frame _, fun h => by cases h⟩

theorem over : Rows.wordTellsRow.holds Tryd.pinned (OpenSpec.ofChange Rows.wordTellsSpec) :=
  OpenClaim.holds_of_wide 5 Tryd.f5 rfl rfl rfl rfl rfl rfl rfl ⟨rfl, rfl, rfl, rfl, rfl⟩ rfl rfl rfl rfl rfl (by kernel_rfl) Tryd.func5 (by kernel_rfl)
    (of_decide_eq_true (by kernel_rfl)) (by unfold Func.isWrapper; first | (rw [if_pos (by decide +kernel)]; kernel_rfl) | (rw [if_neg (by decide +kernel)]; exact ⟨rfl, rfl⟩))
    (fun os started H enc _ => lifted os started H enc)

theorem proved : Rows.WordTellsCardSaid :=
  Claim7.holds_tied_plain_at .later [] [.data, .pinned] true (true, "a209028a94d8555ffdbe5b0ba04c1630528b8ca79e6126e246748e8e02c76fbf") false
    over (fun _ h => by cases h) (by kernel_rfl) (fun _ h => by cases h) wordTells_row_tie rfl ⟨rfl, rfl⟩ (by kernel_rfl) rfl
    (fun f fn hf hfn => by
      obtain rfl : f = 5 := Option.some.inj ((show Tryd.prog.funcNamed Rows.wordTellsRow.func = some 5 by kernel_rfl).symm.trans hf) |>.symm
      obtain rfl : fn = Tryd.f5 := (Option.some.inj (Tryd.func5.symm.trans hfn)).symm
      exact ⟨by kernel_rfl, fun j t ht => by
        rw [Tryd.params5] at ht
        have hm : t ∈ [9] := by simpa using Array.mem_of_getElem? ht
        have hall : ([9].all fun u => !Tryd.prog.wantsStandIn u) = true := by kernel_rfl
        exact (show Tryd.prog.wantsStandIn t = false by simpa using List.all_eq_true.1 hall t hm)⟩)
    (by kernel_rfl)
end Go.Proofs.YtlhlanekklonmabDoor.wordTells
