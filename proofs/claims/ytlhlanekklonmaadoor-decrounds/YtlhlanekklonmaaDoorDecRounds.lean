/- Any number without noughts at its end, with other places, and without what stands behind the point: DecRounds returns true for every number and places, where the table of the powers of ten is as the program's text lays it. -/
import Derived.Test.YtlhlanekklonmaaDoorRows
import Derived.Test.YtlhlanekklonmaaDoorCards
import Derived.Test.YtlhlanekklonmaaDoorTie
import Derived.WalkKit
import Derived.ProofKit
import Derived.LaidMore
import Derived.OpenShut
import Derived.ShutString
import Derived.Stop.Joined
import Derived.Lib.LaidTab
import Derived.Lib.SmallJoins
import Derived.Stop.LaidErr
import Derived.Lay
import Derived.SevenTiedAt
import Derived.ChangeMaps5
import Derived.SizedLaws
import Derived.Lib.LaidU8T
import Derived.Test.YtlhlanekklonmaaDoorLwDecRounds
namespace Go.Proofs.YtlhlanekklonmaaDoor.decRounds
open Go.ChangeShapes Go.WideShapes Go.ChangeAt Go.WideMaps Go.WideElems Go.RowKit
set_option linter.unusedVariables false

theorem own : ownKnob Tryd.prog.godebug = none := by kernel_rfl

theorem gTab : Tryd.prog.globalNamed "internal/strconv.uint64pow10" = some 0 := by kernel_rfl
theorem tTab : (Tryd.prog.globals[0]?).map (·.type) = some 140 := by kernel_rfl
theorem uTab : Tryd.prog.underlying 140 = some (.array 20 60) := by kernel_rfl
/-- what the listed variable gives the walks: the powers of ten. -/
theorem of_laid {W : World} (h : laidMetH Tryd.prog Rows.decRoundsRow.laid W) : Tab W := by
  rw [MakeChecks.laidMetH_plain _ _ _ (by kernel_rfl)] at h
  exact Lib.tabIs_of_head (k := .u64) (zs := Lib.pow10Tab) (rest := []) gTab tTab uTab Tryd.underlying60 (by kernel_rfl) (by kernel_rfl) h.tail.tail

theorem door_met (os : Os) (args : Array Value) : laidMetH Tryd.prog Rows.decRoundsRow.laid (((World.doorLaid Tryd.prog 400 os)).forCall (fun _ _ => 0) ⟨#[], args, []⟩).memory :=
  laidMetH_of_parts3 (fuel := 8) (laidMet_of_run' 8 (by kernel_rfl) (by kernel_rfl)) (by kernel_rfl) (by kernel_rfl)

theorem wf_bd {a : Int} (h : (Lit.int .i64 a).wf = true) : -9223372036854775808 ≤ a ∧ a ≤ 9223372036854775807 := by
  have e : IntKind.i64.min = -9223372036854775808 := by decide
  simpa [Lit.wf, e] using h
theorem trimS_le (s : Nat) : ∀ n : Int, trimS n s ≤ s := by
  induction s with
  | zero => intro n; exact Nat.le_refl _
  | succ s ih =>
    intro n
    unfold trimS
    split
    · exact Nat.le_succ_of_le (ih _)
    · exact Nat.le_refl _
theorem trimN_in (s : Nat) : ∀ n : Int, -9223372036854775808 ≤ n → n ≤ 9223372036854775807 → -9223372036854775808 ≤ trimN n s ∧ trimN n s ≤ 9223372036854775807 := by
  induction s with
  | zero => intro n h1 h2; exact ⟨h1, h2⟩
  | succ s ih =>
    intro n h1 h2
    unfold trimN
    split
    · have q := Nm.tdiv_half h1 h2 (b := 10) (by omega)
      exact ih _ (by omega) (by omega)
    · exact ⟨h1, h2⟩
theorem trim_same (s : Nat) : ∀ n : Int, s ≤ 9 → at9 (trimN n s) (trimS n s : Int) = at9 n (s : Int) := by
  induction s with
  | zero => intro n _; rfl
  | succ s ih =>
    intro n hs
    by_cases h : n.tmod 10 = 0
    · have e1 : trimN n (s + 1) = trimN (n.tdiv 10) s := by simp [trimN, h]
      have e2 : trimS n (s + 1) = trimS (n.tdiv 10) s := by simp [trimS, h]
      rw [e1, e2, ih _ (by omega)]
      unfold at9
      have hn : n.tdiv 10 * 10 = n := by
        have := Int.mul_tdiv_add_tmod n 10
        omega
      rw [show (9 - (s : Int)).toNat = 1 + (9 - ((s + 1 : Nat) : Int)).toNat by omega, Dm.ten_add, ← Int.mul_assoc, show Dm.ten 1 = 10 by decide, hn]
    · have e1 : trimN n (s + 1) = n := by simp [trimN, h]
      have e2 : trimS n (s + 1) = s + 1 := by simp [trimS, h]
      rw [e1, e2]
theorem cmp3_self (a : Int) : cmp3 a a = 0 := by
  unfold cmp3
  repeat' split
  all_goals omega

theorem walk (xn xs : Int) (wn : (Lit.int .i64 xn).wf = true) (ws : (Lit.int .i64 xs).wf = true) (pl : Int) (wp : (Lit.int .i64 pl).wf = true) (w : World) (hT : Tab w) :
    Calls Tryd.prog 7 #[.agg #[.int .i64 xn, .int .i64 xs], .int .i64 pl] w fun e w' => e = .returned (.bool true) ∧ Below w.heap.size w w' := by
  obtain ⟨x1, x2⟩ := wf_bd wn
  have HX := given_any xn xs
  have OX := dround_any xn xs pl x1 x2
  have ER := eround_any xn xs pl x1 x2
  cases hx : rt xs
  · have CT := dcmp_any xn xs xn xs x1 x2 x1 x2
    have hc : cmpV xn xs xn xs = 0 := by unfold cmpV; rw [if_neg (fun q => by rw [hx] at q; exact absurd q.1 (by decide))]
    rw [hc] at CT
    exact core_DecRounds xn xs pl _ _ _ _ _ _ _ HX OX ER (dfloor_bad xn xs hx) (efloor_bad xn xs hx) (dtrim_bad xn xs hx) (etrim_bad xn xs hx) (taken_any _ _) (taken_any _ _) CT known_any w hT
  · have FX := dfloor_any xn xs x1 x2 hx
    have EF := efloor_any xn xs x1 x2 hx
    obtain ⟨k, hk, rfl⟩ := nat_of_rt hx
    obtain ⟨t1, t2⟩ := trimN_in k xn x1 x2
    have CT := dcmp_any (trimN xn k) (trimS xn k : Int) xn (k : Int) t1 t2 x1 x2
    have hc : cmpV (trimN xn k) (trimS xn k : Int) xn (k : Int) = 0 := by
      unfold cmpV
      rw [if_pos ⟨rt_nat (Nat.le_trans (trimS_le k xn) hk), hx⟩, trim_same k xn hk]
      exact cmp3_self _
    rw [hc] at CT
    exact core_DecRounds xn k pl _ _ _ _ _ _ _ HX OX ER FX EF (dtrim_ok xn k x1 x2 hk) (etrim_ok xn k x1 x2 hk) (taken_any _ _) (taken_any _ _) CT known_any w hT

set_option maxRecDepth 100000 in
theorem lifted (os : Os) (started : os.Started) (H : Type) (enc : TypeId × Value → H) :
    ReturnsInHanded {} Tryd.checked os 7 .any (fun w args => (Rows.decRoundsSpec.pre enc Tryd.prog Tryd.f7 [] false w args ∧ laidMetH Tryd.prog Rows.decRoundsRow.laid w) ∧ sizedMet enc Tryd.prog Tryd.f7 (OpenSpec.ofChange Rows.decRoundsSpec) false w args)
      (Rows.decRoundsSpec.post enc Tryd.prog Tryd.f7 false true false false) := by
  refine returnsInHanded_of_change_and (C := Tryd.checked) (X := fun w _ => laidMetH Tryd.prog Rows.decRoundsRow.laid w) (fun _ _ _ hh h => h.of_heap hh) own started (by kernel_rfl) Tryd.func7
    (ChangeSpec.witness_shaped (enc := enc) (C := Tryd.checked) (os := os) (X := fun w _ => laidMetH Tryd.prog Rows.decRoundsRow.laid w) false (World.doorLaid Tryd.prog 400 os) #[.agg #[.int .i64 0, .int .i64 0], .int .i64 0] 8 rfl (World.shaped_of_RefB (by kernel_rfl) (by kernel_rfl)) (by kernel_rfl) (by kernel_rfl) (by kernel_rfl) (door_met os _)) ?_
  intro W base args ds gs before hval0 hW _ _ hL _
  have hval : ∀ (j : Nat) t v, Tryd.f7.params[j]? = some t → args[j]? = some v → Value.okWide Tryd.prog W .any base t v := hval0
  have hW' := hW
  obtain ⟨p, q, hA0, hV, rfl, hfz, hnd⟩ := hW
  have hA : DataW.TrodAll enc Tryd.prog W 0 (fun _ => true) true Tryd.f7.params.toList args.toList ds p := hA0
  rw [Tryd.params7] at hA hval
  obtain ⟨v0, vs0, d0, ds0, p0, q0, ha0, rfl, rfl, h0, r0⟩ := trodAll_cons hA
  obtain ⟨v1, vs1, d1, ds1, p1, q1, ha1, rfl, rfl, h1, r1⟩ := trodAll_cons r0
  obtain ⟨rfl, rfl, rfl⟩ := trodAll_nil r1
  subst ha1
  obtain rfl : args = #[v0, v1] := by cases args; simp_all
  obtain ⟨rfl, rfl⟩ := trodVars_none hV
  obtain ⟨c0, e0, y0, z0, m0, rfl, rfl, rfl, hy0, hz0⟩ := Joins.open_agg2 Tryd.underlying33 (by kernel_rfl) (show Tryd.prog.cellsOf 33 = 2 by kernel_rfl) (hval 0 33 v0 rfl rfl) h0
  obtain ⟨n0, i0, rfl, wn0⟩ := DataW.trod_int Tryd.underlying2 hy0
  obtain ⟨s0, k0, rfl, ws0⟩ := DataW.trod_int Tryd.underlying3 hz0
  simp at i0 k0
  subst i0 k0
  obtain ⟨a1, rfl, rfl, rfl, w1⟩ := open_int Tryd.underlying3 (hval 1 3 v1 rfl rfl) h1
  clear hA0 hval0
  simp only [List.append_nil] at hW'
  refine (walk n0 s0 wn0 ws0 a1 w1 W (of_laid hL)).mono fun e W' ⟨he, hg⟩ => ?_
  subst he
  exact ⟨_, rfl, _, _, _, [], [], [], hW', (trodAll_cons_mk (shut_bool Tryd.underlying4 _) trodAll_mk0), (trodAll_cons_mk ((Joins.shut_agg2 (y0 := (.lit (.int .i64 n0), [])) (y1 := (.lit (.int .i64 s0), [])) Tryd.underlying33 (by kernel_rfl) (show Tryd.prog.cellsOf 33 = 2 by kernel_rfl) ⟨1, by simp [DataW.trod, Tryd.underlying2, wn0]⟩ ⟨1, by simp [DataW.trod, Tryd.underlying3, ws0]⟩)) (trodAll_cons_mk (shut_int Tryd.underlying3 w1) trodAll_mk0)), rfl, hg.frame _, fun h => by cases h⟩

theorem over : Rows.decRoundsRow.holds Tryd.pinned (OpenSpec.ofChange Rows.decRoundsSpec) :=
  OpenClaim.holds_of_wide 7 Tryd.f7 rfl rfl rfl rfl rfl rfl rfl ⟨rfl, rfl, rfl, rfl, rfl⟩ rfl rfl rfl rfl rfl (by kernel_rfl) Tryd.func7 (by kernel_rfl)
    (of_decide_eq_true (by kernel_rfl)) (by unfold Func.isWrapper; first | (rw [if_pos (by decide +kernel)]; kernel_rfl) | (rw [if_neg (by decide +kernel)]; exact ⟨rfl, rfl⟩))
    (fun os started H enc _ => lifted os started H enc)

theorem proved : Rows.DecRoundsCardSaid :=
  Claim7.holds_tied_plain_at .later [] [.data, .data, .data] true (true, "e996b4679f1030e1e5afb07066812dc384830c3b091e0d554c5384a878fa23f5") false
    over (fun _ h => by cases h) (by kernel_rfl) (fun _ h => by cases h) decRounds_row_tie rfl ⟨rfl, rfl⟩ (by kernel_rfl) rfl
    (fun f fn hf hfn => by
      obtain rfl : f = 7 := Option.some.inj ((show Tryd.prog.funcNamed Rows.decRoundsRow.func = some 7 by kernel_rfl).symm.trans hf) |>.symm
      obtain rfl : fn = Tryd.f7 := (Option.some.inj (Tryd.func7.symm.trans hfn)).symm
      exact ⟨by kernel_rfl, fun j t ht => by
        rw [Tryd.params7] at ht
        have hm : t ∈ [33, 3] := by simpa using Array.mem_of_getElem? ht
        have hall : ([33, 3].all fun u => !Tryd.prog.wantsStandIn u) = true := by kernel_rfl
        exact (show Tryd.prog.wantsStandIn t = false by simpa using List.all_eq_true.1 hall t hm)⟩)
    (by kernel_rfl)
end Go.Proofs.YtlhlanekklonmaaDoor.decRounds
