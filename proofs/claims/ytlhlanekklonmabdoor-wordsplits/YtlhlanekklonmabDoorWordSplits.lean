/- Any text's parts, or the place where it is not right, are what the document says: WordSplits returns true for every text, where the listed tables are as the program's text lays them. -/
import Derived.Test.YtlhlanekklonmabDoorRows
import Derived.Test.YtlhlanekklonmabDoorCards
import Derived.Test.YtlhlanekklonmabDoorTie
import Derived.WalkKit
import Derived.ProofKit
import Derived.LaidMore
import Derived.OpenShut
import Derived.ShutString
import Derived.Stop.Joined
import Derived.Lib.LaidTab
import Derived.Lib.SmallJoins
import Derived.Stop.LaidErr
import Derived.Lay
import Derived.SevenTiedAt
import Derived.ChangeMaps5
import Derived.SizedLaws
import Derived.Lib.LaidU8T
import Derived.Test.YtlhlanekklonmabDoorWdH
namespace Go.Proofs.YtlhlanekklonmabDoor.wordSplits
open Go.ChangeShapes Go.WideShapes Go.ChangeAt Go.WideMaps Go.WideElems Go.RowKit
set_option linter.unusedVariables false

theorem own : ownKnob Tryd.prog.godebug = none := by kernel_rfl

/-- what the listed variables give the walks: the two tables of unicode/utf8. -/
theorem of_laid {W : World} (h : laidMetH Tryd.prog Rows.wordSplitsRow.laid W) : Tabs W := by
  rw [MakeChecks.laidMetH_plain _ _ _ (by kernel_rfl)] at h
  rw [show Rows.wordSplitsRow.laid = [("unicode/utf8.acceptRanges", Lib.acceptData), ("unicode/utf8.first", Lib.firstData)] by kernel_rfl] at h
  exact utf8Tabs_of_readsT (ρ := Tryd.lays197_ren) (U8Types.of260 { Tryd.lays197 with }) ⟨by kernel_rfl, by kernel_rfl, by kernel_rfl, by kernel_rfl, by kernel_rfl, by kernel_rfl, by kernel_rfl⟩ (Lib.laidMet.reads h (.tail _ (.head _))) (Lib.laidMet.reads h (.head _))

theorem door_met (os : Os) (args : Array Value) : laidMetH Tryd.prog Rows.wordSplitsRow.laid (((World.laidAll Tryd.prog os Rows.wordSplitsRow.laid)).forCall (fun _ _ => 0) ⟨#[], args, []⟩).memory := by
  rw [MakeChecks.laidMetH_plain _ _ _ (by kernel_rfl)]; exact laidMet_laidAll _ (by kernel_rfl) (by kernel_rfl)

set_option maxRecDepth 100000 in
set_option maxHeartbeats 4000000 in
theorem core (s : ByteArray) (l : List PT) (at_ E : Int) (hl : l.length ≤ 2048)
    (C1 : Hid (∀ w : World, Tabs w → Calls Tryd.prog 17 #[.string s] w fun e w' => ∃ v, e = .returned (.tuple #[v, .int .i64 at_, .int .i64 E]) ∧ w'.ownsRow w.heap.size 55 3 v l.length (flatT l) ∧ Below w.heap.size w w'))
    (C2 : Hid (∀ w : World, Calls Tryd.prog 18 #[.string s] w fun e w' => ∃ v, e = .returned (.tuple #[v, .int .i64 at_, .int .i64 E]) ∧ w'.ownsRow w.heap.size 82 3 v l.length (flatT l) ∧ Below w.heap.size w w'))
    (w : World) (hT : Tabs w) :
    Calls Tryd.prog 4 #[.string s] w fun e w' => e = .returned (.bool true) ∧ Below w.heap.size w w' := by
  go_enter Tryd.func4, Tryd.ntmps4
  go_wp2_with fail
  refine (C1.out _ hT).mono ?_
  rintro e w1 ⟨v1, rfl, ho1, B1⟩
  have HB1 : Hid (Below w.heap.size w w1) := B1
  have HO1 : Hid (w1.ownsRow w.heap.size 55 3 v1 l.length (flatT l)) := ho1
  clear ho1 B1
  go_wp2_with fail
  refine (C2.out _).mono ?_
  rintro e w2 ⟨v2, rfl, ho2, b2⟩
  have HB2 : Hid (Below w.heap.size w w2) := HB1.out.trans (b2.mono HB1.out.size)
  have HO1' : Hid (w2.ownsRow w.heap.size 55 3 v1 l.length (flatT l)) := ownsRow_keep HO1.out (fun k _ hk => b2.block k hk)
  have HR2 : Hid (Row w2 v2 l) := ⟨_, ho2⟩
  clear ho2 b2 HB1 HO1
  go_wp2_with fail
  refine (taken_any l v1 w.heap.size _ hl HO1'.out).mono ?_
  rintro e w3 ⟨v3, rfl, ho3, b3⟩
  have HB3 : Hid (Below w.heap.size w w3) := HB2.out.trans (b3.mono HB2.out.size)
  have HR1 : Hid (Row w3 v3 l) := ⟨_, ho3⟩
  have HR2' : Hid (Row w3 v2 l) := HR2.out.below b3
  clear ho3 b3 HB2 HO1' HR2
  go_wp2_with fail
  refine (parts_any l l v3 v2 _ hl hl HR1.out HR2'.out).mono ?_
  rintro e w4 ⟨rfl, b4⟩
  have HB4 : Hid (Below w.heap.size w w4) := HB3.out.trans (b4.mono HB3.out.size)
  clear b4 HB3 HR1 HR2'
  have hd : decide (l = l) = true := by simp
  rw [hd]
  go_wp2_with fail
  refine (known_any _ (Tabs_below hT HB4.out)).mono ?_
  rintro e w5 ⟨rfl, b5⟩
  have HB5 : Hid (Below w.heap.size w w5) := HB4.out.trans (b5.mono HB4.out.size)
  clear b5 HB4
  go_wp2
  go_ret
  exact ⟨rfl, HB5.out⟩

theorem walk (s : ByteArray) (ws : s.size ≤ maxLen) (w : World) (hT : Tabs w) :
    Calls Tryd.prog 4 #[.string s] w fun e w' => e = .returned (.bool true) ∧ Below w.heap.size w w' := by
  by_cases h : s.size ≤ 2048
  · have hc := fun w hT => wsplit_any s w hT h
    have hr := fun w => rsplit_any s w h
    cases hB : rcheck s s.size 0 with
    | some i =>
      have e := splitB_bad hB
      refine core s [] i 21 (by decide) (fun w hT => (hc w hT).mono ?_) (fun w => (hr w).mono ?_) w hT
      · rintro e' w' ⟨hb, he⟩
        rw [e] at he
        exact ⟨_, he, World.ownsRow_nil _ _ _ _, hb⟩
      · rintro e' w' ⟨hb, he⟩
        rw [hB] at he
        exact ⟨_, he, World.ownsRow_nil _ _ _ _, hb⟩
    | none =>
      have e := splitB_good hB
      have hln := Cov_length s _ _ _ (splitB_cov e)
      refine core s (texts s (rparts s s.size 0 [])) 0 0 (by rw [texts_length]; omega) (fun w hT => (hc w hT).mono ?_) (fun w => (hr w).mono ?_) w hT
      · rintro e' w' ⟨hb, he⟩
        rw [e] at he
        obtain ⟨v, h1, h2⟩ := he
        rw [flatP_texts, ← texts_length s (rparts s s.size 0 [])] at h2
        exact ⟨v, h1, h2, hb⟩
      · rintro e' w' ⟨hb, he⟩
        rw [hB] at he
        obtain ⟨v, h1, h2⟩ := he
        rw [flatP_texts, ← texts_length s (rparts s s.size 0 [])] at h2
        exact ⟨v, h1, h2, hb⟩
  · refine core s [] 0 3 (by decide) (fun w hT => (wsplit_long s w ws h).mono ?_) (fun w => (rsplit_long s w ws h).mono ?_) w hT
    · rintro e w' ⟨he, rfl⟩
      exact ⟨_, he, World.ownsRow_nil _ _ _ _, Below.refl _ _⟩
    · rintro e w' ⟨he, rfl⟩
      exact ⟨_, he, World.ownsRow_nil _ _ _ _, Below.refl _ _⟩

set_option maxRecDepth 100000 in
theorem lifted (os : Os) (started : os.Started) (H : Type) (enc : TypeId × Value → H) :
    ReturnsInHanded {} Tryd.checked os 4 .any (fun w args => (Rows.wordSplitsSpec.pre enc Tryd.prog Tryd.f4 [] false w args ∧ laidMetH Tryd.prog Rows.wordSplitsRow.laid w) ∧ sizedMet enc Tryd.prog Tryd.f4 (OpenSpec.ofChange Rows.wordSplitsSpec) false w args)
      (Rows.wordSplitsSpec.post enc Tryd.prog Tryd.f4 false true false false) := by
  refine returnsInHanded_of_change_and (C := Tryd.checked) (X := fun w _ => laidMetH Tryd.prog Rows.wordSplitsRow.laid w) (fun _ _ _ hh h => h.of_heap hh) own started (by kernel_rfl) Tryd.func4
    (ChangeSpec.witness_shaped (enc := enc) (C := Tryd.checked) (os := os) (X := fun w _ => laidMetH Tryd.prog Rows.wordSplitsRow.laid w) false (World.laidAll Tryd.prog os Rows.wordSplitsRow.laid) #[.string ⟨#[]⟩] 8 (World.laidAll_os _ _ _) (World.shaped_of_ZipB (by kernel_rfl) (by kernel_rfl)) (by kernel_rfl) (by kernel_rfl) (by kernel_rfl) (door_met os _)) ?_
  intro W base args ds gs before hval0 hW _ _ hL _
  have hval : ∀ (j : Nat) t v, Tryd.f4.params[j]? = some t → args[j]? = some v → Value.okWide Tryd.prog W .any base t v := hval0
  have hW' := hW
  obtain ⟨p, q, hA0, hV, rfl, hfz, hnd⟩ := hW
  have hA : DataW.TrodAll enc Tryd.prog W 0 (fun _ => true) true Tryd.f4.params.toList args.toList ds p := hA0
  rw [Tryd.params4] at hA hval
  obtain ⟨v0, vs0, d0, ds0, p0, q0, ha0, rfl, rfl, h0, r0⟩ := trodAll_cons hA
  obtain ⟨rfl, rfl, rfl⟩ := trodAll_nil r0
  obtain rfl : args = #[v0] := by cases args; simp_all
  obtain ⟨rfl, rfl⟩ := trodVars_none hV
  obtain ⟨a0, rfl, rfl, rfl, w0⟩ := Go.ChangeMaps.open_string Tryd.underlying9 (hval 0 9 v0 rfl rfl) h0
  clear hA0 hval0
  simp only [List.append_nil] at hW'
  refine (walk a0 w0 W (of_laid hL)).mono fun e W' ⟨he, hg⟩ => ?_
  subst he
  exact ⟨_, rfl, _, _, _, [], [], [], hW', (trodAll_cons_mk (shut_bool Tryd.underlying4 _) trodAll_mk0), (trodAll_cons_mk (Go.ChangeMaps.shut_string Tryd.underlying9 w0) trodAll_mk0), rfl, hg.frame _, fun h => by cases h⟩

theorem over : Rows.wordSplitsRow.holds Tryd.pinned (OpenSpec.ofChange Rows.wordSplitsSpec) :=
  OpenClaim.holds_of_wide 4 Tryd.f4 rfl rfl rfl rfl rfl rfl rfl ⟨rfl, rfl, rfl, rfl, rfl⟩ rfl rfl rfl rfl rfl (by kernel_rfl) Tryd.func4 (by kernel_rfl)
    (of_decide_eq_true (by kernel_rfl)) (by unfold Func.isWrapper; first | (rw [if_pos (by decide +kernel)]; kernel_rfl) | (rw [if_neg (by decide +kernel)]; exact ⟨rfl, rfl⟩))
    (fun os started H enc _ => lifted os started H enc)

theorem proved : Rows.WordSplitsCardSaid :=
  Claim7.holds_tied_plain_at .later [] [.data, .pinned] true (true, "a209028a94d8555ffdbe5b0ba04c1630528b8ca79e6126e246748e8e02c76fbf") false
    over (fun _ h => by cases h) (by kernel_rfl) (fun _ h => by cases h) wordSplits_row_tie rfl ⟨rfl, rfl⟩ (by kernel_rfl) rfl
    (fun f fn hf hfn => by
      obtain rfl : f = 4 := Option.some.inj ((show Tryd.prog.funcNamed Rows.wordSplitsRow.func = some 4 by kernel_rfl).symm.trans hf) |>.symm
      obtain rfl : fn = Tryd.f4 := (Option.some.inj (Tryd.func4.symm.trans hfn)).symm
      exact ⟨by kernel_rfl, fun j t ht => by
        rw [Tryd.params4] at ht
        have hm : t ∈ [9] := by simpa using Array.mem_of_getElem? ht
        have hall : ([9].all fun u => !Tryd.prog.wantsStandIn u) = true := by kernel_rfl
        exact (show Tryd.prog.wantsStandIn t = false by simpa using List.all_eq_true.1 hall t hm)⟩)
    (by kernel_rfl)
end Go.Proofs.YtlhlanekklonmabDoor.wordSplits
