/- Two texts with a blank between them have the parts of the one, and those of the other behind them: WordTwo returns true for every two texts, where the listed tables are as the program's text lays them. -/
import Derived.Test.YtlhlanekklonmabDoorRows
import Derived.Test.YtlhlanekklonmabDoorCards
import Derived.Test.YtlhlanekklonmabDoorTie
import Derived.WalkKit
import Derived.ProofKit
import Derived.LaidMore
import Derived.OpenShut
import Derived.ShutString
import Derived.Stop.Joined
import Derived.Lib.LaidTab
import Derived.Lib.SmallJoins
import Derived.Stop.LaidErr
import Derived.Lay
import Derived.SevenTiedAt
import Derived.ChangeMaps5
import Derived.Lib.LaidU8T
import Derived.Test.YtlhlanekklonmabDoorLwWordTwo
namespace Go.Proofs.YtlhlanekklonmabDoor.wordTwo
open Go.ChangeShapes Go.WideShapes Go.ChangeAt Go.WideMaps Go.WideElems Go.RowKit
set_option linter.unusedVariables false

theorem own : ownKnob Tryd.prog.godebug = none := by kernel_rfl

/-- what the listed variables give the walks: the two tables of unicode/utf8. -/
theorem of_laid {W : World} (h : laidMetH Tryd.prog Rows.wordTwoRow.laid W) : Tabs W := by
  rw [MakeChecks.laidMetH_plain _ _ _ (by kernel_rfl)] at h
  rw [show Rows.wordTwoRow.laid = [("unicode/utf8.acceptRanges", Lib.acceptData), ("unicode/utf8.first", Lib.firstData)] by kernel_rfl] at h
  exact utf8Tabs_of_readsT (ρ := Tryd.lays197_ren) (U8Types.of260 { Tryd.lays197 with }) ⟨by kernel_rfl, by kernel_rfl, by kernel_rfl, by kernel_rfl, by kernel_rfl, by kernel_rfl, by kernel_rfl⟩ (Lib.laidMet.reads h (.tail _ (.head _))) (Lib.laidMet.reads h (.head _))

theorem door_met (os : Os) (args : Array Value) : laidMetH Tryd.prog Rows.wordTwoRow.laid (((World.laidAll Tryd.prog os Rows.wordTwoRow.laid)).forCall (fun _ _ => 0) ⟨#[], args, []⟩).memory := by
  rw [MakeChecks.laidMetH_plain _ _ _ (by kernel_rfl)]; exact laidMet_laidAll _ (by kernel_rfl) (by kernel_rfl)

theorem cov_end (s : ByteArray) : ∀ (l : List Prt) (a to : Nat), Cov s a l to → ∀ p ∈ l, p.2.1 < p.2.2 ∧ p.2.2 ≤ s.size
  | [], _, _, _, p, h => by simp at h
  | q :: l, a, to, ⟨h1, h2, h3, h4, h5⟩, p, h => by
    rcases List.mem_cons.1 h with e | e
    · subst e; exact ⟨h2, h3⟩
    · exact cov_end s l _ _ h5 p e
theorem extract_left (a c : ByteArray) (x y : Nat) (h : y ≤ a.size) : (a ++ c).extract x y = a.extract x y := by
  apply ByteArray.ext
  rw [ByteArray.data_extract, ByteArray.data_extract, ByteArray.data_append]
  have hz : a.data.size = a.size := rfl
  apply Array.ext
  · simp; omega
  · intro i h1 h2
    simp at h1 h2
    rw [Array.getElem_extract, Array.getElem_extract, Array.getElem_append_left (by omega)]
theorem extract_right (a c : ByteArray) (x y : Nat) (h : y ≤ c.size) : (a ++ c).extract (a.size + x) (a.size + y) = c.extract x y := by
  apply ByteArray.ext
  rw [ByteArray.data_extract, ByteArray.data_extract, ByteArray.data_append]
  have hz : a.data.size = a.size := rfl
  have hy : c.data.size = c.size := rfl
  apply Array.ext
  · simp <;> omega
  · intro i h1 h2
    simp at h1 h2
    rw [Array.getElem_extract, Array.getElem_extract, Array.getElem_append_right (by omega)]
    congr 1
    omega
theorem texts_two {a b : ByteArray} {l m : List Prt} (hl : Cov a 0 l a.size) (hm : Cov b 0 m b.size) :
    texts (a ++ ⟨#[32]⟩ ++ b) (l ++ m.map (sh (a.size + 1))) = texts a l ++ (texts b m).map (shT a.size) := by
  unfold texts
  rw [List.map_append, List.map_map, List.map_map]
  congr 1
  · apply List.map_congr_left
    intro p hp
    have := cov_end a l _ _ hl p hp
    rw [ByteArray.append_assoc, extract_left a _ _ _ this.2]
  · apply List.map_congr_left
    intro p hp
    have := cov_end b m _ _ hm p hp
    have hsz : (a ++ ⟨#[32]⟩ : ByteArray).size = a.size + 1 := by rw [ByteArray.size_append]; rfl
    have e := extract_right (a ++ ⟨#[32]⟩) b p.2.1 p.2.2 this.2
    rw [hsz] at e
    simp only [Function.comp, sh, shT, e]
    congr 2
    omega
theorem splits (s : ByteArray) (l : List Prt) (h : s.size ≤ 2048) (hB : splitB s = .inr l) (w : World) (hT : Tabs w) :
    Calls Tryd.prog 17 #[.string s] w fun e w' => ∃ v, e = .returned (.tuple #[v, .int .i64 0, .int .i64 0]) ∧ w'.ownsRow w.heap.size 55 3 v (texts s l).length (flatT (texts s l)) ∧ Below w.heap.size w w' := by
  refine (wsplit_any s w hT h).mono ?_
  rintro e w' ⟨hb, he⟩
  rw [hB] at he
  obtain ⟨v, h1, h2⟩ := he
  rw [flatP_texts, ← texts_length s l] at h2
  exact ⟨v, h1, h2, hb⟩
theorem errE_cases (s : ByteArray) : errE s = 0 ∨ errE s = 3 ∨ errE s = 21 := by
  unfold errE
  split
  · cases splitB s <;> simp
  · simp

theorem walk (a : ByteArray) (wa : a.size ≤ maxLen) (b : ByteArray) (wb : b.size ≤ maxLen) (w : World) (hT : Tabs w) :
    Calls Tryd.prog 8 #[.string a, .string b] w fun e w' => e = .returned (.bool true) ∧ Below w.heap.size w w' := by
  by_cases hE : errE a = 0
  · by_cases hF : errE b = 0
    · obtain ⟨a1, l, al⟩ := errE_ok hE
      obtain ⟨b1, m, bm⟩ := errE_ok hF
      by_cases hab : (b.size : Int) < (2048 : Int) - (a.size : Int)
      · have hl := splitB_cov al
        have hm := splitB_cov bm
        have e := splitB_two al bm
        have ll := Cov_length a l _ _ hl
        have lm := Cov_length b m _ _ hm
        have hsz : (a ++ ⟨#[32]⟩ ++ b : ByteArray).size = a.size + 1 + b.size := by rw [ByteArray.size_append, ByteArray.size_append]; rfl
        refine two_good a b (texts a l) (texts b m) a1 b1 hab (by rw [texts_length]; omega) (by rw [texts_length]; omega) ?_ (splits a l a1 al) (splits b m b1 bm) ?_ w hT
        · intro r hr
          obtain ⟨p, hp, rfl⟩ := List.mem_map.1 hr
          have := cov_end b m _ _ hm p hp
          simp only; omega
        · have := splits (a ++ ⟨#[32]⟩ ++ b) _ (by omega) e
          rw [texts_two hl hm] at this
          exact this
      · exact two_none a b 0 0 wa wb (.inr (.inr ⟨rfl, rfl, a1, b1, by omega⟩)) (by have := errE_any a wa; rw [hE] at this; exact this) (by have := errE_any b wb; rw [hF] at this; exact this) w hT
    · exact two_none a b 0 (errE b) wa wb (.inr (.inl ⟨rfl, by have := errE_cases b; omega⟩)) (by have := errE_any a wa; rw [hE] at this; exact this) (errE_any b wb) w hT
  · exact two_none a b (errE a) (errE b) wa wb (.inl (by have := errE_cases a; omega)) (errE_any a wa) (errE_any b wb) w hT

set_option maxRecDepth 100000 in
theorem lifted (os : Os) (started : os.Started) (H : Type) (enc : TypeId × Value → H) :
    ReturnsInHanded {} Tryd.checked os 8 .any (fun w args => (Rows.wordTwoSpec.pre enc Tryd.prog Tryd.f8 [] false w args ∧ laidMetH Tryd.prog Rows.wordTwoRow.laid w) ∧ sizedMet enc Tryd.prog Tryd.f8 (OpenSpec.ofChange Rows.wordTwoSpec) false w args)
      (Rows.wordTwoSpec.post enc Tryd.prog Tryd.f8 false true false false) := by
  refine returnsInHanded_of_change_and (C := Tryd.checked) (X := fun w _ => laidMetH Tryd.prog Rows.wordTwoRow.laid w) (fun _ _ _ hh h => h.of_heap hh) own started (by kernel_rfl) Tryd.func8
    (ChangeSpec.witness_shaped (enc := enc) (C := Tryd.checked) (os := os) (X := fun w _ => laidMetH Tryd.prog Rows.wordTwoRow.laid w) false (World.laidAll Tryd.prog os Rows.wordTwoRow.laid) #[.string ⟨#[]⟩, .string ⟨#[]⟩] 8 (World.laidAll_os _ _ _) (World.shaped_of_ZipB (by kernel_rfl) (by kernel_rfl)) (by kernel_rfl) (by kernel_rfl) (by kernel_rfl) (door_met os _)) ?_
  intro W base args ds gs before hval0 hW _ _ hL _
  have hval : ∀ (j : Nat) t v, Tryd.f8.params[j]? = some t → args[j]? = some v → Value.okWide Tryd.prog W .any base t v := hval0
  have hW' := hW
  obtain ⟨p, q, hA0, hV, rfl, hfz, hnd⟩ := hW
  have hA : DataW.TrodAll enc Tryd.prog W 0 (fun _ => true) true Tryd.f8.params.toList args.toList ds p := hA0
  rw [Tryd.params8] at hA hval
  obtain ⟨v0, vs0, d0, ds0, p0, q0, ha0, rfl, rfl, h0, r0⟩ := trodAll_cons hA
  obtain ⟨v1, vs1, d1, ds1, p1, q1, ha1, rfl, rfl, h1, r1⟩ := trodAll_cons r0
  obtain ⟨rfl, rfl, rfl⟩ := trodAll_nil r1
  subst ha1
  obtain rfl : args = #[v0, v1] := by cases args; simp_all
  obtain ⟨rfl, rfl⟩ := trodVars_none hV
  obtain ⟨a0, rfl, rfl, rfl, w0⟩ := Go.ChangeMaps.open_string Tryd.underlying9 (hval 0 9 v0 rfl rfl) h0
  obtain ⟨a1, rfl, rfl, rfl, w1⟩ := Go.ChangeMaps.open_string Tryd.underlying9 (hval 1 9 v1 rfl rfl) h1
  clear hA0 hval0
  simp only [List.append_nil] at hW'
  refine (walk a0 w0 a1 w1 W (of_laid hL)).mono fun e W' ⟨he, hg⟩ => ?_
  subst he
  exact ⟨_, rfl, _, _, _, [], [], [], hW', (trodAll_cons_mk (shut_bool Tryd.underlying4 _) trodAll_mk0), (trodAll_cons_mk (Go.ChangeMaps.shut_string Tryd.underlying9 w0) (trodAll_cons_mk (Go.ChangeMaps.shut_string Tryd.underlying9 w1) trodAll_mk0)), rfl, hg.frame _, fun h => by cases h⟩

theorem over : Rows.wordTwoRow.holds Tryd.pinned (OpenSpec.ofChange Rows.wordTwoSpec) :=
  OpenClaim.holds_of_wide 8 Tryd.f8 rfl rfl rfl rfl rfl rfl rfl ⟨rfl, rfl, rfl, rfl, rfl⟩ rfl rfl rfl rfl rfl (by kernel_rfl) Tryd.func8 (by kernel_rfl)
    (of_decide_eq_true (by kernel_rfl)) (by unfold Func.isWrapper; first | (rw [if_pos (by decide +kernel)]; kernel_rfl) | (rw [if_neg (by decide +kernel)]; exact ⟨rfl, rfl⟩))
    (fun os started H enc _ => lifted os started H enc)

theorem proved : Rows.WordTwoCardSaid :=
  Claim7.holds_tied_plain_at .later [] [.data, .pinned] true (true, "a209028a94d8555ffdbe5b0ba04c1630528b8ca79e6126e246748e8e02c76fbf") false
    over (fun _ h => by cases h) (by kernel_rfl) (fun _ h => by cases h) wordTwo_row_tie rfl ⟨rfl, rfl⟩ (by kernel_rfl) rfl
    (fun f fn hf hfn => by
      obtain rfl : f = 8 := Option.some.inj ((show Tryd.prog.funcNamed Rows.wordTwoRow.func = some 8 by kernel_rfl).symm.trans hf) |>.symm
      obtain rfl : fn = Tryd.f8 := (Option.some.inj (Tryd.func8.symm.trans hfn)).symm
      exact ⟨by kernel_rfl, fun j t ht => by
        rw [Tryd.params8] at ht
        have hm : t ∈ [9] := by simpa using Array.mem_of_getElem? ht
        have hall : ([9].all fun u => !Tryd.prog.wantsStandIn u) = true := by kernel_rfl
        exact (show Tryd.prog.wantsStandIn t = false by simpa using List.all_eq_true.1 hall t hm)⟩)
    (by kernel_rfl)
end Go.Proofs.YtlhlanekklonmabDoor.wordTwo
