/- Contracts put together: the reference's until, era of any fields: they are the program's. -/
import Derived.Test.YtgnfkkcagbbhmaaGreatDoorQpEq
import Derived.Test.YtgnfkkcagbbhmaaGreatDoorQpMq
namespace Go.Proofs.YtgnfkkcagbbhmaaGreatDoor
open Go.RowKit Lin Sr
open Sr (gen_any gen_list)
set_option linter.unusedVariables false

theorem Few.mil {s : ByteArray} (h : Few s) : s.size ≤ 1048576 := by unfold Few at h; omega
theorem Few.big {s : ByteArray} (h : Few s) : s.size ≤ 140737488351232 := by unfold Few at h; omega
theorem few_get {F : List ByteArray} (hF : ∀ f ∈ F, Few f) {d : ByteArray} (hd : Few d) (i : Nat) : Few (F[i]?.getD d) := by
  cases h : F[i]? with
  | none => exact hd
  | some x => exact hF x (List.mem_of_getElem? h)
/-- a year as the reference reads it; 0: it is none. -/
def yrR (s : ByteArray) : Int := if (yrF s).2 = true then (yrF s).1 else 0
theorem yrR_pos (s : ByteArray) : decide (0 < yrR s) = (yrF s).2 := by
  unfold yrR
  by_cases h : (yrF s).2 = true
  · rw [if_pos h, h]
    have h2 := h
    unfold yrF yearB at h2
    simp only [Bool.and_eq_true, decide_eq_true_eq] at h2
    apply decide_eq_true
    show 0 < Wrd.numV s
    omega
  · rw [if_neg h]
    have : (yrF s).2 = false := by simpa using h
    rw [this]; rfl
theorem moF_pos (s : ByteArray) : decide (0 < (moF s).1) = (moF s).2 := by
  have := (Wrd.short_lo s Wrd.monthsL).1
  unfold moF
  by_cases h : Wrd.shortB s Wrd.monthsL + 1 = 0
  · rw [h]; rfl
  · have e : (Wrd.shortB s Wrd.monthsL + 1 != 0) = true := by simpa using h
    simp only [e]
    exact decide_eq_true (by omega)
theorem er_ok (b : Bool) : decide ((if b = true then (0 : Int) else 21) = 0) = b := by cases b <;> rfl
theorem on_R {s : ByteArray} (hs : Few s) : Hid (∀ w : World, Calls Tryz.prog 88 #[.string s] w fun e w' => e = .returned (.tuple #[.agg #[.int .i64 (onF s).1.1, .int .i64 (onF s).1.2.1, .int .i64 (onF s).1.2.2], .int .i64 (if (onF s).2 = true then 0 else 21)]) ∧ Below w.heap.size w w') := fun w => by
  have R := rreadOn_any s hs.mil w
  have e1 : rdV s.data.toList = .agg #[.int .i64 (onF s).1.1, .int .i64 (onF s).1.2.1, .int .i64 (onF s).1.2.2] := by
    unfold rdV onF
    cases rfO s.data.toList with
    | none => rfl
    | some t => obtain ⟨k, d, n⟩ := t; dsimp only; unfold roV; by_cases h : okOn k d n <;> simp [h, onV]
  have e2 : rdE s.data.toList = (if (onF s).2 = true then 0 else 21) := by
    unfold rdE onF
    cases rfO s.data.toList with
    | none => rfl
    | some t => obtain ⟨k, d, n⟩ := t; dsimp only; unfold roE; by_cases h : okOn k d n <;> simp [h]
  rw [e1, e2] at R
  exact R
theorem yr_R {s : ByteArray} (hs : Few s) : Hid (∀ w : World, Calls Tryz.prog 86 #[.string s] w fun e w' => e = .returned (.int .i64 (yrR s)) ∧ Below w.heap.size w w') := fun w => qyear_any s hs.max w
theorem mo_R {s : ByteArray} (hs : Few s) : Hid (∀ w : World, Calls Tryz.prog 87 #[.string s] w fun e w' => e = .returned (.int .i64 (moF s).1) ∧ Below w.heap.size w w') := fun w => Wrd.rmonth_any s hs.big w
theorem at_R {s : ByteArray} (hs : Few s) : Hid (∀ w : World, Calls Tryz.prog 89 #[.string s] w fun e w' => e = .returned (.tuple #[.agg #[.int .i64 (atF s.data.toList).1.1, .int .u8 (atF s.data.toList).1.2], .int .i64 (if (atF s.data.toList).2 = true then 0 else 21)]) ∧ Below w.heap.size w w') := fun w => rreadAt_any s hs.mil w
theorem sv_R {s : ByteArray} (hs : Few s) : Hid (∀ w : World, Calls Tryz.prog 90 #[.string s] w fun e w' => e = .returned (.tuple #[.int .i64 (svF s.data.toList).1, .int .i64 (if (svF s.data.toList).2 = true then 0 else 21)]) ∧ Below w.heap.size w w') := fun w => rreadSave_any s hs.mil w
theorem fewJan : Few janT ∧ Few oneT' ∧ Few zeroT := ⟨by unfold Few; decide, by unfold Few; decide, by unfold Few; decide⟩
theorem janM : (moF janT).1 = 1 := by decide +kernel
theorem oneO : onF oneT' = ((0, 0, 1), true) := by decide +kernel
theorem zeroA : atF zeroT.data.toList = ((0, 119), true) := by decide +kernel
theorem unt4_b (a b c d : ByteArray) (ok : Bool) (h : (decide (0 < yrR a) && true && decide (0 < (moF b).1) && decide ((if (onF c).2 = true then (0 : Int) else 21) = 0) && decide ((if (atF d.data.toList).2 = true then (0 : Int) else 21) = 0)) = ok) :
    unt4 a b c d = if ok = true then some ⟨yrR a, (moF b).1, (onF c).1.1, (onF c).1.2.1, (onF c).1.2.2, (atF d.data.toList).1.1, (atF d.data.toList).1.2⟩ else none := by
  rw [yrR_pos, moF_pos, er_ok, er_ok, Bool.and_true] at h
  unfold unt4 untOk
  rw [h]
  by_cases q : ok = true
  · rw [if_pos q, if_pos q]
    have hy : (yrF a).2 = true := by
      rw [q] at h
      simp only [Bool.and_eq_true] at h
      exact h.1.1.1
    unfold untOf yrR
    rw [if_pos hy]
  · rw [if_neg q, if_neg q]
set_option maxRecDepth 100000 in
set_option maxHeartbeats 4000000 in
theorem runtil_nil (c : Nat) (a : Option Addr) (w : World) :
    Calls Tryz.prog 115 #[.slice a 0 c] w fun e w' => e = .returned (.tuple #[.agg #[.int .i64 0, .int .i64 0, .int .i64 0, .int .i64 0, .int .i64 0, .int .i64 0, .int .u8 0], .bool true]) ∧ Below w.heap.size w w' := by
  have K0 : Hid (BS w [(w.heap.size, zUntil)] (w.alloc (.cells #[.int .i64 0, .int .i64 0, .int .i64 0, .int .i64 0, .int .i64 0, .int .i64 0, .int .u8 0] 76))) := (BS.start w).new zUntil _ rfl
  go_enter Tryz.func115, Tryz.ntmps115
  go_upto_region 2 with fail
  refine gen_to (BS w [(w.heap.size, zUntil)]) K0.out ?_
  intro W1 K1'
  have K1 : Hid (BS w [(w.heap.size, zUntil)] W1) := K1'
  clear K1' K0
  have hth := (K1.out.at w.heap.size zUntil (by simp)).there
  go_wp2_with (refine wpList_store_mid rfl 76 _ _ rfl w.heap.size 0 #[.int .i64 0, .int .i64 0, .int .i64 0, .int .i64 0, .int .i64 0, .int .i64 0, .int .u8 0] rfl rfl hth (by kernel_rfl) zUntil_one ?_; refine gen_list (fun V => Bx V w.heap.size zUntil ∧ Below w.heap.size w V) ⟨(K1.out.at w.heap.size zUntil (by simp)).setAll zUntil rfl, below_setCells (Nat.le_refl _) zUntil _ 0 K1.out.1⟩ ?_; rintro w4 ⟨X4, B4⟩)
  have y0 := X4.c 0 rfl
  have y1 := X4.c 1 rfl
  have y2 := X4.c 2 rfl
  have y3 := X4.c 3 rfl
  have y4 := X4.c 4 rfl
  have y5 := X4.c 5 rfl
  have y6 := X4.c 6 rfl
  have HB : Hid (Below w.heap.size w w4) := B4
  clear X4 B4
  exact bodyPost_ret (v := .tuple #[.agg #[.int .i64 0, .int .i64 0, .int .i64 0, .int .i64 0, .int .i64 0, .int .i64 0, .int .u8 0], .bool true]) (by simp [results, Tryz.results115, go_sem, y0, y1, y2, y3, y4, y5, y6]) rfl ⟨rfl, HB.out⟩

theorem runtil_any (F : List ByteArray) (hF : ∀ f ∈ F, Few f) : ∃ (u : UntT) (b : Bool), untF F = (if b = true then some u else none) ∧
    ∀ (a : Option Addr) (c : Nat) (w : World), F.length ≤ c → FdA w a F →
      Calls Tryz.prog 115 #[.slice a F.length c] w fun e w' => e = .returned (.tuple #[.agg #[.int .i64 u.y, .int .i64 u.mo, .int .i64 u.oa, .int .i64 u.ob, .int .i64 u.oc, .int .i64 u.ta, .int .u8 u.tz], .bool b]) ∧ Below w.heap.size w w' := by
  cases F with
  | nil => exact ⟨zUnt, true, rfl, fun a c w _ _ => runtil_nil c a w⟩
  | cons x0 R =>
    have g1 := few_get hF fewJan.1 1
    have g2 := few_get hF fewJan.2.1 2
    have g3 := few_get hF fewJan.2.2 3
    have g0 := hF x0 (by simp)
    generalize h1 : (x0 :: R)[1]?.getD janT = x1 at g1
    generalize h2 : (x0 :: R)[2]?.getD oneT' = x2 at g2
    generalize h3 : (x0 :: R)[3]?.getD zeroT = x3 at g3
    refine ⟨⟨yrR x0, (moF x1).1, (onF x2).1.1, (onF x2).1.2.1, (onF x2).1.2.2, (atF x3.data.toList).1.1, (atF x3.data.toList).1.2⟩, (decide (0 < yrR x0) && decide ((x0 :: R).length ≤ 4) && decide (0 < (moF x1).1) && decide ((if (onF x2).2 = true then (0 : Int) else 21) = 0) && decide ((if (atF x3.data.toList).2 = true then (0 : Int) else 21) = 0)), ?_, fun a c w hc HA => ?_⟩
    rotate_left
    · obtain ⟨g, o, rfl, hg, H⟩ := HA (by simp)
      have cell : ∀ (i : Nat) (d y : ByteArray), (x0 :: R)[i]?.getD d = y → i < (x0 :: R).length → w.cell? ⟨g, o + i, none⟩ = some (.string y) := fun i d y e hi => H i y (by rw [← e, List.getElem?_eq_getElem hi]; rfl)
      refine until_run (x0 :: R).length c (by simp) hc x0 x1 x2 x3 _ _ _ _ _ _ _ _ _ g o w hg (H 0 x0 rfl) (fun h => cell 1 janT x1 h1 h) (fun h => cell 2 oneT' x2 h2 h) (fun h => cell 3 zeroT x3 h3 h) (yr_R g0) (mo_R g1) (on_R g2) (at_R g3) ?_ ?_ ?_
      · intro h
        have : x1 = janT := by rw [← h1, List.getElem?_eq_none (by omega)]; rfl
        rw [this]; exact janM
      · intro h
        have : x2 = oneT' := by rw [← h2, List.getElem?_eq_none (by omega)]; rfl
        rw [this, oneO]; exact ⟨rfl, rfl, rfl, rfl⟩
      · intro h
        have : x3 = zeroT := by rw [← h3, List.getElem?_eq_none (by omega)]; rfl
        rw [this, zeroA]; exact ⟨rfl, rfl, rfl⟩
    · have key : ∀ ok : Bool, (R.length ≤ 3 → untF (x0 :: R) = unt4 x0 x1 x2 x3) := fun _ h => by
        subst h1 h2 h3
        match R, h with
        | [], _ => rfl
        | [a], _ => rfl
        | [a, b], _ => rfl
        | [a, b, c], _ => rfl
      by_cases hk : R.length ≤ 3
      · rw [key true hk]
        refine unt4_b x0 x1 x2 x3 _ ?_
        rw [show decide ((x0 :: R).length ≤ 4) = true from decide_eq_true (by simp; omega)]
      · have e : untF (x0 :: R) = none := by
          match R, hk with
          | [], h => simp at h
          | [a], h => simp at h
          | [a, b], h => simp at h
          | [a, b, c], h => simp at h
          | a :: b :: c :: d :: l, _ => rfl
        rw [e, show decide ((x0 :: R).length ≤ 4) = false from decide_eq_false (by simp; omega)]
        simp
theorem untF_y {F : List ByteArray} {u : UntT} (h : untF F = some u) : (u.y != 0) = decide (0 < u.y) := by
  have k4 : ∀ a b c d, unt4 a b c d = some u → (u.y != 0) = decide (0 < u.y) := fun a b c d e => by
    unfold unt4 at e
    split at e
    · rename_i q
      cases e
      have hy : (yrF a).2 = true := by unfold untOk at q; simp only [Bool.and_eq_true] at q; exact q.1.1.1
      have := yrR_pos a
      rw [hy] at this
      have hp : 0 < yrR a := of_decide_eq_true this
      unfold yrR at hp
      rw [if_pos hy] at hp
      show ((yrF a).1 != 0) = decide (0 < (yrF a).1)
      rw [decide_eq_true hp]
      simp; omega
    · cases e
  unfold untF at h
  split at h
  · cases h; rfl
  · exact k4 _ _ _ _ h
  · exact k4 _ _ _ _ h
  · exact k4 _ _ _ _ h
  · exact k4 _ _ _ _ h
  · cases h
theorem eraF_y {F : List ByteArray} {e : EraT} (h : eraF F = some e) : (e.u.y != 0) = decide (0 < e.u.y) := by
  unfold eraF at h
  split at h
  · split at h
    · cases h
    · rename_i u hu
      split at h
      · cases h; exact untF_y hu
      · cases h
  · cases h
theorem sv_dig {l : List UInt8} {c : UInt8} {r : List UInt8} (hl : l = c :: r) (h : isD (c.toNat : Int) = true) : 0 ≤ (svF l).1 := by
  have hc : c ≠ 45 := fun e => by subst e; revert h; decide
  have hp : Lib.hasPrefix l [45] = false := by
    subst hl
    unfold Lib.hasPrefix
    simp only [List.isPrefixOf, Bool.and_eq_false_iff]
    exact .inl (beq_eq_false_iff_ne.2 (fun e => hc e.symm))
  have h1 : l ≠ [45] := fun e => by rw [hl] at e; exact hc (List.cons.inj e).1
  rw [svF_pos h1 hp]
  split
  · rename_i q; exact q.1
  · exact Int.le_refl _
theorem fmtO_val {s : ByteArray} (h : (fmtO s).2 = true) : (fmtO s).1 = s := by
  unfold fmtO fmE at h ⊢
  split
  · rename_i q; rw [q] at h; cases h
  · rfl
theorem era_x (x1 : ByteArray) (h1 : Few x1) (ok0 : Bool) : EraX x1 (shF x1).1.1 (shF x1).1.2 ok0 (ok0 && (shF x1).2) := by
  unfold EraX
  by_cases h : x1.toList = [45]
  · left
    have e : x1 = ⟨#[45]⟩ := by rw [Lib.toList_data] at h; exact ByteArray.ext (by apply Array.toList_inj.1; exact h)
    have : shF x1 = ((⟨#[]⟩, 0), true) := by unfold shF; rw [if_pos h]
    rw [this]
    exact ⟨e, rfl, rfl, Bool.and_true _⟩
  · right
    have h45 : (x1.toList == [45]) = false := beq_eq_false_iff_ne.2 h
    by_cases h0 : 0 < x1.size
    · have hl : 0 < x1.data.toList.length := by simpa using h0
      have hh : (x1.data.toList.head?.map (·.toNat) |>.getD 0) = (x1[0]'h0).toNat := by
        rw [List.head?_eq_getElem?, List.getElem?_eq_getElem hl]; simp [ByteArray.getElem_eq_getElem_data]
      by_cases hd : isD ((x1[0]'h0).toNat : Int) = true
      · left
        have : shF x1 = ((⟨#[]⟩, (spF 0 7200 x1).1), (spF 0 7200 x1).2) := by unfold shF; rw [if_neg h, hh, if_pos hd]
        rw [this]
        refine ⟨h45, ⟨h0, hd⟩, rfl, _, sv_R h1, ?_⟩
        rw [er_ok]
        have hp : 0 ≤ (svF x1.data.toList).1 := by
          have e : x1.data.toList = (x1[0]'h0) :: x1.data.toList.drop 1 := by
            have := drop_at x1 0 h0
            simpa using this
          exact sv_dig e hd
        show (ok0 && ((svF x1.data.toList).2 && decide (0 ≤ (svF x1.data.toList).1) && decide ((svF x1.data.toList).1 ≤ 7200))) = (ok0 && (svF x1.data.toList).2 && decide ((svF x1.data.toList).1 ≤ 7200))
        rw [decide_eq_true hp, Bool.and_true, Bool.and_assoc]
      · right
        have : shF x1 = ((x1, 0), nameB x1) := by unfold shF; rw [if_neg h, hh, if_neg hd]
        rw [this]
        exact ⟨h45, .inr ⟨h0, by simpa using hd⟩, rfl, rfl, nameB x1, fun w => qname_any x1 h1.max w, rfl⟩
    · right
      have hz : x1.size = 0 := by omega
      have e : x1 = ⟨#[]⟩ := by
        apply ByteArray.ext
        apply Array.toList_inj.1
        have : x1.data.toList.length = 0 := by rw [Array.length_toList]; exact hz
        exact List.eq_nil_of_length_eq_zero this
      have : shF x1 = ((x1, 0), nameB x1) := by unfold shF; rw [if_neg h]; subst e; rfl
      rw [this]
      exact ⟨h45, .inl hz, rfl, rfl, nameB x1, fun w => qname_any x1 h1.max w, rfl⟩
theorem rera_any (F : List ByteArray) (hF : ∀ f ∈ F, Few f) : ∃ (r : EraT) (b : Bool), eraF F = (if b = true then some r else none) ∧
    ∀ (a : Option Addr) (c : Nat) (w : World), F.length ≤ c → FdA w a F →
      Calls Tryz.prog 84 #[.slice a F.length c] w fun e w' => e = .returned (.tuple #[.agg #[.int .i64 r.off, .string r.rl, .int .i64 r.sv, .string r.fm, .int .i64 r.u.y, .int .i64 r.u.mo, .int .i64 r.u.oa, .int .i64 r.u.ob, .int .i64 r.u.oc, .int .i64 r.u.ta, .int .u8 r.u.tz], .bool b]) ∧ Below w.heap.size w w' := by
  by_cases h3 : F.length < 3
  · refine ⟨zEraT, false, ?_, fun a c w hc HA => rera_few F.length c a h3 w⟩
    match F, h3 with
    | [], _ => rfl
    | [a], _ => rfl
    | [a, b], _ => rfl
  · obtain ⟨x0, x1, x2, R, rfl⟩ : ∃ x0 x1 x2 R, F = x0 :: x1 :: x2 :: R := by
      match F, h3 with
      | [], h => simp at h
      | [a], h => simp at h
      | [a, b], h => simp at h
      | a :: b :: c :: R, _ => exact ⟨a, b, c, R, rfl⟩
    simp only [List.forall_mem_cons] at hF
    obtain ⟨g0, g1, g2, gR⟩ := hF
    obtain ⟨u, bu, hu, U⟩ := runtil_any R gR
    refine ⟨⟨(svF x0.data.toList).1, (shF x1).1.1, (shF x1).1.2, x2, u⟩, ((spF (-50400) 50400 x0).2 && (fmtO x2).2 && (shF x1).2) && bu, ?_, fun a c w hc HA => ?_⟩
    · show (match untF R with | none => none | some u => if eraOk x0 x1 x2 = true then some (eraOf x0 x1 x2 u) else none) = _
      rw [hu]
      have e : eraOk x0 x1 x2 = ((spF (-50400) 50400 x0).2 && (fmtO x2).2 && (shF x1).2) := by unfold eraOk; cases (spF (-50400) 50400 x0).2 <;> cases (fmtO x2).2 <;> cases (shF x1).2 <;> rfl
      rw [← e]
      cases bu with
      | false => rw [Bool.and_false]; rfl
      | true =>
        rw [Bool.and_true]
        show (if eraOk x0 x1 x2 = true then some (eraOf x0 x1 x2 u) else none) = _
        by_cases q : eraOk x0 x1 x2 = true
        · rw [if_pos q, if_pos q]
          have hf : (fmtO x2).2 = true := by unfold eraOk at q; simp only [Bool.and_eq_true] at q; exact q.2
          unfold eraOf
          rw [fmtO_val hf]; rfl
        · rw [if_neg q, if_neg q]
    · obtain ⟨g, o, rfl, hg, H⟩ := HA (by simp)
      have HR : ∀ A : Option Addr, Hid ((if c = 3 then some (⟨g, o, none⟩ : Addr) else some ⟨g, o + 3, none⟩) = A) → FdA w A R := fun A hA => H.cut hg 3 c hc hA.out
      refine era_run R.length c hc x0 x1 x2 _ _ _ _ _ _ _ bu _ _ _ _ _ _ _ g o w hg (H 0 x0 rfl) (H 1 x1 rfl) (H 2 x2 rfl) _ rfl (sv_R g0) (fun w => qformat_any x2 g2.max w) ?_ (era_x x1 g1 _) (fun W hb => U _ (c - 3) W (by simp at hc; omega) ((HR _ rfl).below hb))
      show (decide (_ = (0 : Int)) && decide (-50400 ≤ (svF x0.data.toList).1) && decide ((svF x0.data.toList).1 ≤ 50400) && (fmtO x2).2) = _
      rw [er_ok]; rfl

end Go.Proofs.YtgnfkkcagbbhmaaGreatDoor
