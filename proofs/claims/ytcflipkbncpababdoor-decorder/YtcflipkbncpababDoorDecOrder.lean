/- Of two numbers the lesser one's whole part is not the greater one, and rounding keeps their order: DecOrder returns true for every two numbers and places, where the table of the powers of ten is as the program's text lays it. -/
import Derived.Test.YtcflipkbncpababDoorRows
import Derived.Test.YtcflipkbncpababDoorCards
import Derived.Test.YtcflipkbncpababDoorTie
import Derived.WalkKit
import Derived.ProofKit
import Derived.LaidMore
import Derived.OpenShut
import Derived.ShutString
import Derived.Stop.Joined
import Derived.Lib.LaidTab
import Derived.Lib.SmallJoins
import Derived.Stop.LaidErr
import Derived.SevenTiedAt
import Derived.Test.YtcflipkbncpababDoorLwDecOrder
namespace Go.Proofs.YtcflipkbncpababDoor.decOrder
open Go.ChangeShapes Go.WideShapes Go.ChangeAt Go.WideMaps Go.WideElems Go.RowKit
set_option linter.unusedVariables false

theorem own : ownKnob Tryd.prog.godebug = none := by kernel_rfl

theorem gTab : Tryd.prog.globalNamed "internal/strconv.uint64pow10" = some 0 := by kernel_rfl
theorem tTab : (Tryd.prog.globals[0]?).map (·.type) = some 117 := by kernel_rfl
theorem uTab : Tryd.prog.underlying 117 = some (.array 20 64) := by kernel_rfl
/-- what the listed variable gives the walks: the powers of ten. -/
theorem of_laid {W : World} (h : laidMetH Tryd.prog Rows.decOrderRow.laid W) : Tab W := by
  rw [MakeChecks.laidMetH_plain _ _ _ (by kernel_rfl)] at h
  exact Lib.tabIs_of_head (k := .u64) (zs := Lib.pow10Tab) (rest := []) gTab tTab uTab Tryd.underlying64 (by kernel_rfl) (by kernel_rfl) h.tail.tail

theorem door_met (os : Os) (args : Array Value) : laidMetH Tryd.prog Rows.decOrderRow.laid ((World.doorLaid Tryd.prog 400 os).forCall (fun _ _ => 0) ⟨#[], args, []⟩).memory :=
  laidMetH_of_parts3 (fuel := 8) (laidMet_of_run' 8 (by kernel_rfl) (by kernel_rfl)) (by kernel_rfl) (by kernel_rfl)

theorem wf_bd {a : Int} (h : (Lit.int .i64 a).wf = true) : -9223372036854775808 ≤ a ∧ a ≤ 9223372036854775807 := by
  have e : IntKind.i64.min = -9223372036854775808 := by decide
  simpa [Lit.wf, e] using h
theorem cmp3_le {a b : Int} : ¬ 0 < cmp3 a b ↔ a ≤ b := by
  unfold cmp3
  repeat' split
  all_goals omega
theorem cmp3_le' {a b : Int} (h : a ≤ b) : cmp3 a b ≤ 0 := by
  unfold cmp3
  repeat' split
  all_goals omega
theorem rndN_at {n s p : Int} (hs : rt s = true) (hp : rt p = true) : rndN n s p = Dm.rnd (at9 n s) (Dm.ten (9 - p).toNat) := by
  obtain ⟨s1, s2⟩ := rt_yes hs
  obtain ⟨p1, p2⟩ := rt_yes hp
  unfold rndN
  by_cases h : s ≤ p
  · rw [if_pos h, at9_up hs hp h, Dm.rnd_self (Dm.ten_pos _)]
  · rw [if_neg h]
    unfold at9
    rw [show (9 - p).toNat = (s - p).toNat + (9 - s).toNat by omega, Dm.ten_add, Dm.rnd_mul (Dm.ten_pos _) (Dm.ten_pos _)]
theorem floor_at {n s : Int} (hs : rt s = true) : n.fdiv (Dm.ten s.toNat) = at9 n s / 1000000000 := by
  obtain ⟨s1, s2⟩ := rt_yes hs
  have h := Dm.fdiv_mul (a := n) (Dm.ten_pos (9 - s).toNat) (Dm.ten_pos s.toNat)
  rw [← Dm.ten_add, show s.toNat + (9 - s).toNat = 9 by omega] at h
  rw [← h]
  exact Int.fdiv_eq_ediv_of_nonneg _ (by decide)

theorem rnd_in (n s p : Int) (h1 : -9223372036854775808 ≤ n) (h2 : n ≤ 9223372036854775807) (hs : rt s = true) (hp : rt p = true) (e : rndE n s p = 0) : -9223372036854775808 ≤ rndN n s p ∧ rndN n s p ≤ 9223372036854775807 := by
  obtain ⟨s1, s2⟩ := rt_yes hs
  obtain ⟨p1, p2⟩ := rt_yes hp
  unfold rndE at e
  rw [if_pos ⟨hs, hp⟩] at e
  unfold rndN
  by_cases h : s ≤ p
  · rw [if_pos h] at e ⊢
    exact (sm_ok e).1
  · rw [if_neg h]
    obtain ⟨g, g0, hg⟩ := ten_even (k := (s - p).toNat) (by omega)
    have q := Nm.tdiv_half h1 h2 (b := 2 * g) (by omega)
    rw [hg]
    rcases rnd_three n g g0 with ⟨_, k⟩ | ⟨_, k⟩ | ⟨_, _, k⟩ <;> rw [k] <;> omega

theorem walk (xn xs : Int) (wn : (Lit.int .i64 xn).wf = true) (ws : (Lit.int .i64 xs).wf = true) (yn ys : Int) (wm : (Lit.int .i64 yn).wf = true) (wt : (Lit.int .i64 ys).wf = true) (pl : Int) (wp : (Lit.int .i64 pl).wf = true) (w : World) (hT : Tab w) :
    Calls Tryd.prog 7 #[.agg #[.int .i64 xn, .int .i64 xs], .agg #[.int .i64 yn, .int .i64 ys], .int .i64 pl] w fun e w' => e = .returned (.bool true) ∧ Below w.heap.size w w' := by
  obtain ⟨x1, x2⟩ := wf_bd wn
  obtain ⟨y1, y2⟩ := wf_bd wm
  have HX := given_any xn xs
  have HY := given_any yn ys
  cases hx : rt xs
  · exact core_DecOrder_a xn xs yn ys pl HX HY (rright_no xn xs hx) known_any w hT
  cases hy : rt ys
  · exact core_DecOrder_b xn xs yn ys pl HX HY (rright_yes xn xs hx) (rright_no yn ys hy) known_any w hT
  have RX := rright_yes xn xs hx
  have RY := rright_yes yn ys hy
  have CX := dcmp_any xn xs yn ys x1 x2 y1 y2
  have hc : cmpV xn xs yn ys = cmp3 (at9 xn xs) (at9 yn ys) := by unfold cmpV; rw [if_pos ⟨hx, hy⟩]
  by_cases hC : 0 < cmpV xn xs yn ys
  · exact core_DecOrder_c xn xs yn ys pl _ hC HX HY RX RY CX known_any w hT
  have hle : at9 xn xs ≤ at9 yn ys := cmp3_le.1 (hc ▸ hC)
  have FX := dfloor_any xn xs x1 x2 hx
  have FY := dfloor_any yn ys y1 y2 hy
  have hf : ¬ yn.fdiv (Dm.ten ys.toNat) < xn.fdiv (Dm.ten xs.toNat) := by
    rw [floor_at hx, floor_at hy]
    have := Int.ediv_le_ediv (c := 1000000000) (by decide) hle
    omega
  have OX := dround_any xn xs pl x1 x2
  have OY := dround_any yn ys pl y1 y2
  by_cases e1 : rndE xn xs pl = 0
  · rw [e1] at OX
    by_cases e2 : rndE yn ys pl = 0
    · rw [e2] at OY
      have hp : rt pl = true := by
        cases hp : rt pl
        · exfalso
          unfold rndE at e1
          rw [if_neg (fun q => by rw [hp] at q; exact absurd q.2 (by decide))] at e1
          exact absurd e1 (by decide)
        · rfl
      have b1 : -9223372036854775808 ≤ rndN xn xs pl ∧ rndN xn xs pl ≤ 9223372036854775807 := rnd_in xn xs pl x1 x2 hx hp e1
      have b2 : -9223372036854775808 ≤ rndN yn ys pl ∧ rndN yn ys pl ≤ 9223372036854775807 := rnd_in yn ys pl y1 y2 hy hp e2
      have CP := dcmp_any (rndN xn xs pl) pl (rndN yn ys pl) pl b1.1 b1.2 b2.1 b2.2
      have hD : cmpV (rndN xn xs pl) pl (rndN yn ys pl) pl ≤ 0 := by
        unfold cmpV
        rw [if_pos ⟨hp, hp⟩]
        refine cmp3_le' ?_
        unfold at9
        rw [rndN_at hx hp, rndN_at hy hp]
        exact Int.mul_le_mul_of_nonneg_right (Dm.rnd_mono (Dm.ten_pos _) hle) (Int.le_of_lt (Dm.ten_pos _))
      exact core_DecOrder_d3 xn xs yn ys pl _ _ _ _ _ _ _ _ hC hf hD HX HY RX RY CX FX FY OX OY CP known_any w hT
    · exact core_DecOrder_d2 xn xs yn ys pl _ _ _ _ _ _ _ _ hC hf (by rw [bne_iff_ne]; exact e2) HX HY RX RY CX FX FY OX OY known_any w hT
  · exact core_DecOrder_d1 xn xs yn ys pl _ _ _ _ _ _ _ _ _ hC hf (by rw [bne_iff_ne]; exact e1) HX HY RX RY CX FX FY OX OY known_any w hT

set_option maxRecDepth 100000 in
theorem lifted (os : Os) (started : os.Started) (H : Type) (enc : TypeId × Value → H) :
    ReturnsInHanded {} Tryd.checked os 7 .any (fun w args => (Rows.decOrderSpec.pre enc Tryd.prog Tryd.f7 [] false w args ∧ laidMetH Tryd.prog Rows.decOrderRow.laid w) ∧ sizedMet enc Tryd.prog Tryd.f7 (OpenSpec.ofChange Rows.decOrderSpec) false w args)
      (Rows.decOrderSpec.post enc Tryd.prog Tryd.f7 false true false false) := by
  refine returnsInHanded_of_change_and (C := Tryd.checked) (X := fun w _ => laidMetH Tryd.prog Rows.decOrderRow.laid w) (fun _ _ _ hh h => h.of_heap hh) own started (by kernel_rfl) Tryd.func7
    (ChangeSpec.witness_shaped (enc := enc) (C := Tryd.checked) (os := os) (X := fun w _ => laidMetH Tryd.prog Rows.decOrderRow.laid w) false (World.doorLaid Tryd.prog 400 os) #[.agg #[.int .i64 0, .int .i64 0], .agg #[.int .i64 0, .int .i64 0], .int .i64 0] 8 rfl (World.shaped_of_RefB (by kernel_rfl) (by kernel_rfl)) (by kernel_rfl) (by kernel_rfl) (by kernel_rfl) (door_met os _)) ?_
  intro W base args ds gs before hval0 hW _ _ hL _
  have hval : ∀ (j : Nat) t v, Tryd.f7.params[j]? = some t → args[j]? = some v → Value.okWide Tryd.prog W .any base t v := hval0
  have hW' := hW
  obtain ⟨p, q, hA0, hV, rfl, hfz, hnd⟩ := hW
  have hA : DataW.TrodAll enc Tryd.prog W 0 (fun _ => true) true Tryd.f7.params.toList args.toList ds p := hA0
  rw [Tryd.params7] at hA hval
  obtain ⟨v0, vs0, d0, ds0, p0, q0, ha0, rfl, rfl, h0, r0⟩ := trodAll_cons hA
  obtain ⟨v1, vs1, d1, ds1, p1, q1, ha1, rfl, rfl, h1, r1⟩ := trodAll_cons r0
  obtain ⟨v2, vs2, d2, ds2, p2, q2, ha2, rfl, rfl, h2, r2⟩ := trodAll_cons r1
  obtain ⟨rfl, rfl, rfl⟩ := trodAll_nil r2
  subst ha2
  subst ha1
  obtain rfl : args = #[v0, v1, v2] := by cases args; simp_all
  obtain ⟨rfl, rfl⟩ := trodVars_none hV
  obtain ⟨c0, e0, y0, z0, m0, rfl, rfl, rfl, hy0, hz0⟩ := Joins.open_agg2 Tryd.underlying23 (by kernel_rfl) (show Tryd.prog.cellsOf 23 = 2 by kernel_rfl) (hval 0 23 v0 rfl rfl) h0
  obtain ⟨n0, i0, rfl, wn0⟩ := DataW.trod_int Tryd.underlying2 hy0
  obtain ⟨s0, k0, rfl, ws0⟩ := DataW.trod_int Tryd.underlying3 hz0
  simp at i0 k0
  subst i0 k0
  obtain ⟨c1, e1, y1, z1, m1, rfl, rfl, rfl, hy1, hz1⟩ := Joins.open_agg2 Tryd.underlying23 (by kernel_rfl) (show Tryd.prog.cellsOf 23 = 2 by kernel_rfl) (hval 1 23 v1 rfl rfl) h1
  obtain ⟨n1, i1, rfl, wn1⟩ := DataW.trod_int Tryd.underlying2 hy1
  obtain ⟨s1, k1, rfl, ws1⟩ := DataW.trod_int Tryd.underlying3 hz1
  simp at i1 k1
  subst i1 k1
  obtain ⟨a2, rfl, rfl, rfl, w2⟩ := open_int Tryd.underlying3 (hval 2 3 v2 rfl rfl) h2
  clear hA0 hval0
  simp only [List.append_nil] at hW'
  refine (walk n0 s0 wn0 ws0 n1 s1 wn1 ws1 a2 w2 W (of_laid hL)).mono fun e W' ⟨he, hg⟩ => ?_
  subst he
  exact ⟨_, rfl, _, _, _, [], [], [], hW', (trodAll_cons_mk (shut_bool Tryd.underlying4 _) trodAll_mk0), (trodAll_cons_mk ((Joins.shut_agg2 (y0 := (.lit (.int .i64 n0), [])) (y1 := (.lit (.int .i64 s0), [])) Tryd.underlying23 (by kernel_rfl) (show Tryd.prog.cellsOf 23 = 2 by kernel_rfl) ⟨1, by simp [DataW.trod, Tryd.underlying2, wn0]⟩ ⟨1, by simp [DataW.trod, Tryd.underlying3, ws0]⟩)) (trodAll_cons_mk ((Joins.shut_agg2 (y0 := (.lit (.int .i64 n1), [])) (y1 := (.lit (.int .i64 s1), [])) Tryd.underlying23 (by kernel_rfl) (show Tryd.prog.cellsOf 23 = 2 by kernel_rfl) ⟨1, by simp [DataW.trod, Tryd.underlying2, wn1]⟩ ⟨1, by simp [DataW.trod, Tryd.underlying3, ws1]⟩)) (trodAll_cons_mk (shut_int Tryd.underlying3 w2) trodAll_mk0))), rfl, hg.frame _, fun h => by cases h⟩

theorem over : Rows.decOrderRow.holds Tryd.pinned (OpenSpec.ofChange Rows.decOrderSpec) :=
  OpenClaim.holds_of_wide 7 Tryd.f7 rfl rfl rfl rfl rfl rfl rfl ⟨rfl, rfl, rfl, rfl, rfl⟩ rfl rfl rfl rfl rfl (by kernel_rfl) Tryd.func7 (by kernel_rfl)
    (of_decide_eq_true (by kernel_rfl)) (by unfold Func.isWrapper; first | (rw [if_pos (by decide +kernel)]; kernel_rfl) | (rw [if_neg (by decide +kernel)]; exact ⟨rfl, rfl⟩))
    (fun os started H enc _ => lifted os started H enc)

theorem proved : Rows.DecOrderCardSaid :=
  Claim7.holds_tied_plain_at .later [] [.data, .data, .data] true (true, "3dc57d1e12b6c6e11f52f7d485e3f07c7d7f155988958e43c2cd4d4e34d8f154") false
    over (fun _ h => by cases h) (by kernel_rfl) (fun _ h => by cases h) decOrder_row_tie rfl ⟨rfl, rfl⟩ (by kernel_rfl) rfl
    (fun f fn hf hfn => by
      obtain rfl : f = 7 := Option.some.inj ((show Tryd.prog.funcNamed Rows.decOrderRow.func = some 7 by kernel_rfl).symm.trans hf) |>.symm
      obtain rfl : fn = Tryd.f7 := (Option.some.inj (Tryd.func7.symm.trans hfn)).symm
      exact ⟨by kernel_rfl, fun j t ht => by
        rw [Tryd.params7] at ht
        have hm : t ∈ [23, 3] := by simpa using Array.mem_of_getElem? ht
        have hall : ([23, 3].all fun u => !Tryd.prog.wantsStandIn u) = true := by kernel_rfl
        exact (show Tryd.prog.wantsStandIn t = false by simpa using List.all_eq_true.1 hall t hm)⟩)
    (by kernel_rfl)
end Go.Proofs.YtcflipkbncpababDoor.decOrder
