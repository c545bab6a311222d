/- Contracts put together: readRule, readLink, readUntil, readEra of any fields. -/
import Derived.Test.YtgnfkkcagbbhmaaGreatDoorPmMq
import Derived.Test.YtgnfkkcagbbhmaaGreatDoorSrJq
import Derived.Test.YtgnfkkcagbbhmaaGreatDoorSrPq
namespace Go.Proofs.YtgnfkkcagbbhmaaGreatDoor
open Go.RowKit Sr
set_option linter.unusedVariables false

theorem rdL_none : ∀ (rs : List Rdr) (acc : List Value), rs.all (·.b) = false → rdL rs acc = none
  | [], acc, h => by simp at h
  | r :: l, acc, h => by
    unfold rdL
    by_cases hb : r.b = true
    · rw [if_pos hb]
      exact rdL_none l _ (by simpa [List.all_cons, hb] using h)
    · rw [if_neg hb]
/-- fields as they lie in memory, from an address on. -/
def FdAt (w : World) (g o : Nat) (F : List ByteArray) : Prop := ∀ j x, F[j]? = some x → w.cell? ⟨g, o + j, none⟩ = some (.string x)
theorem FdAt.below {w w1 : World} {g o : Nat} {F : List ByteArray} (h : FdAt w g o F) (hg : g < w.heap.size) (hb : Below w.heap.size w w1) : FdAt w1 g o F := fun j x hj => (hb.cell (p := ⟨g, o + j, none⟩) hg).trans (h j x hj)
theorem FdAt.tail {w : World} {g o : Nat} {f : ByteArray} {F : List ByteArray} (h : FdAt w g o (f :: F)) : FdAt w g (o + 1) F := fun j x hj => by
  have := h (j + 1) x (by simpa using hj)
  rwa [show o + (j + 1) = o + 1 + j by omega] at this
/-- the same, where there is a field at all. -/
def FdA (w : World) (a : Option Addr) (F : List ByteArray) : Prop := F ≠ [] → ∃ g o, a = some ⟨g, o, none⟩ ∧ g < w.heap.size ∧ FdAt w g o F
theorem FdA.below {w w1 : World} {a : Option Addr} {F : List ByteArray} (h : FdA w a F) (hb : Below w.heap.size w w1) : FdA w1 a F := fun hn => by
  obtain ⟨g, o, e, hg, H⟩ := h hn
  exact ⟨g, o, e, Nat.lt_of_lt_of_le hg hb.size, H.below hg hb⟩
theorem FdAt.drop {w : World} {g o : Nat} : ∀ (n : Nat) {F : List ByteArray}, FdAt w g o F → FdAt w g (o + n) (F.drop n) := fun n F h j x hj => by
  rw [List.getElem?_drop] at hj
  have := h (n + j) x hj
  rwa [show o + (n + j) = o + n + j by omega] at this
/-- the fields behind the first n. -/
theorem FdAt.cut {w : World} {g o : Nat} {F : List ByteArray} (h : FdAt w g o F) (hg : g < w.heap.size) (n c : Nat) (hc : F.length ≤ c) {A : Option Addr} (hA : (if c = n then some (⟨g, o, none⟩ : Addr) else some ⟨g, o + n, none⟩) = A) : FdA w A (F.drop n) := fun hn => by
  have hl : n < F.length := by
    by_cases q : n < F.length
    · exact q
    · exact absurd (List.drop_eq_nil_of_le (by omega)) hn
  rw [if_neg (by omega)] at hA
  exact ⟨g, o + n, hA.symm, hg, h.drop n⟩
theorem FdAt.rd {w : World} {g o : Nat} {F : List ByteArray} (h : FdAt w g o F) (rs : List Rdr) (hm : F = rs.map (·.f)) : ∀ j r, rs[j]? = some r → w.cell? ⟨g, o + j, none⟩ = some (.string r.f) := fun j r hj => h j r.f (by rw [hm, List.getElem?_map, hj]; rfl)

def zRuleT : RuleT := ⟨⟨#[]⟩, 0, 0, 0, 0, 0, 0, 0, 0, 0, ⟨#[]⟩⟩
theorem ruleF_len {F : List ByteArray} (h : F.length ≠ 9) : ruleF F = none := by
  unfold ruleF
  split
  · exact absurd rfl h
  · rfl
theorem nine {F : List ByteArray} (h : F.length = 9) : ∃ f0 f1 f2 f3 f4 f5 f6 f7 f8, F = [f0, f1, f2, f3, f4, f5, f6, f7, f8] := by
  match F, h with
  | [f0, f1, f2, f3, f4, f5, f6, f7, f8], _ => exact ⟨_, _, _, _, _, _, _, _, _, rfl⟩
theorem readRule_any (F : List ByteArray) (hF : ∀ f ∈ F, Few f) : ∃ (r : RuleT) (b : Bool), ruleF F = (if b = true then some r else none) ∧
    ∀ (a : Option Addr) (c : Nat) (w : World), F.length ≤ c → FdA w a F →
      Calls Tryz.prog 80 #[.slice a F.length c] w fun e w' => e = .returned (.tuple #[.agg #[.string r.nm, .int .i64 r.fr, .int .i64 r.tt, .int .i64 r.mo, .int .i64 r.oa, .int .i64 r.ob, .int .i64 r.oc, .int .i64 r.ta, .int .u8 r.tz, .int .i64 r.sv, .string r.lt], .bool b]) ∧ Below w.heap.size w w' := by
  by_cases h9 : F.length = 9
  · obtain ⟨f0, f1, f2, f3, f4, f5, f6, f7, f8, rfl⟩ := nine h9
    simp only [List.forall_mem_cons] at hF
    obtain ⟨h0, h1, h2, h3, h4, h5, h6, h7, h8, -⟩ := hF
    have HK : ∀ r ∈ [rdNm f0, rdYr f1, rdTo f2, rdNo f3, rdMo f4, rdOn f5, rdAt f6, rdSv f7, rdLt f8], r.ok := by
      simp only [List.forall_mem_cons]
      exact ⟨rdNm_ok h0, rdYr_ok h1, rdTo_ok h2, rdNo_ok f3, rdMo_ok h4, rdOn_ok h5, rdAt_ok h6, rdSv_ok h7, rdLt_ok f8, fun r hr => by cases hr⟩
    have hm : [f0, f1, f2, f3, f4, f5, f6, f7, f8] = [rdNm f0, rdYr f1, rdTo f2, rdNo f3, rdMo f4, rdOn f5, rdAt f6, rdSv f7, rdLt f8].map (·.f) := rfl
    by_cases hok : ruleOk f0 f1 f2 f3 f4 f5 f6 f7 f8 = true
    · refine ⟨ruleOf f0 f1 f2 f4 f5 f6 f7 f8, decide ((yrF f1).1 ≤ (if (toF f2).1 = 0 then (yrF f1).1 else (toF f2).1)), ?_, fun a c w hc HA => ?_⟩
      · simp only [ruleF, if_pos hok, decide_eq_true_eq]
      · obtain ⟨g, o, rfl, hg, H⟩ := HA (by simp)
        have hok2 := hok
        simp only [ruleOk, Bool.and_eq_true] at hok2
        obtain ⟨⟨⟨⟨⟨⟨⟨⟨b0, b1⟩, b2⟩, b3⟩, b4⟩, b5⟩, b6⟩, b7⟩, b8⟩ := hok2
        refine readRule_yes _ f0 f1 f2 f3 f4 f5 f6 f7 f8 (yrF f1).1 (toF f2).1 (moF f4).1 (onF f5).1.1 (onF f5).1.2.1 (onF f5).1.2.2 (atF f6.data.toList).1.1 (atF f6.data.toList).1.2 (spF 0 7200 f7).1 (ltrO f8).1 (?_ : Hid (_ = _)) HK g o c w hg hc (H.rd _ hm)
        show [rdNm f0, rdYr f1, rdTo f2, rdNo f3, rdMo f4, rdOn f5, rdAt f6, rdSv f7, rdLt f8] = _
        simp only [rdNm, rdYr, rdTo, rdNo, rdMo, rdOn, rdAt, rdSv, rdLt, b0, b1, b2, b3, b4, b5, b6, b7, b8]
    · refine ⟨zRuleT, false, ?_, fun a c w hc HA => ?_⟩
      · simp only [ruleF, if_neg hok]; rfl
      · obtain ⟨g, o, rfl, hg, H⟩ := HA (by simp)
        exact readRule_no _ f0 f1 f2 f3 f4 f5 f6 f7 f8 (yrF f1).1 (toF f2).1 (moF f4).1 (onF f5).1.1 (onF f5).1.2.1 (onF f5).1.2.2 (atF f6.data.toList).1.1 (atF f6.data.toList).1.2 (spF 0 7200 f7).1 (ltrO f8).1 (nameB f0) (yrF f1).2 (toF f2).2 (f3.toList == [45]) (moF f4).2 (onF f5).2 (atF f6.data.toList).2 (spF 0 7200 f7).2 (ltrO f8).2 rfl HK
          (rdL_none _ _ (by simp only [List.all_cons, List.all_nil, Bool.and_true]; rw [Bool.not_eq_true] at hok; rw [← hok]; simp only [ruleOk, Bool.and_assoc])) g o c w hg hc (H.rd _ hm)
  · refine ⟨zRuleT, false, by rw [ruleF_len h9]; rfl, fun a c w hc HA => ?_⟩
    exact readRule_len _ _ c h9 w

theorem linkF_len {F : List ByteArray} (h : F.length ≠ 2) : linkF F = none := by
  unfold linkF
  split
  · exact absurd rfl h
  · rfl
theorem readLink_any (F : List ByteArray) (hF : ∀ f ∈ F, Few f) : ∃ (r : ByteArray × ByteArray) (b : Bool), linkF F = (if b = true then some r else none) ∧
    ∀ (a : Option Addr) (c : Nat) (w : World), F.length ≤ c → FdA w a F →
      Calls Tryz.prog 83 #[.slice a F.length c] w fun e w' => e = .returned (.tuple #[.agg #[.string r.1, .string r.2], .bool b]) ∧ Below w.heap.size w w' := by
  by_cases h2 : F.length = 2
  · obtain ⟨f0, f1, rfl⟩ : ∃ f0 f1, F = [f0, f1] := by
      match F, h2 with
      | [f0, f1], _ => exact ⟨_, _, rfl⟩
    simp only [List.forall_mem_cons] at hF
    obtain ⟨h0, h1, -⟩ := hF
    have HK : ∀ r ∈ [rdNm f0, rdNm f1], r.ok := by
      simp only [List.forall_mem_cons]
      exact ⟨rdNm_ok h0, rdNm_ok h1, fun r hr => by cases hr⟩
    have hm : [f0, f1] = [rdNm f0, rdNm f1].map (·.f) := rfl
    by_cases hok : (nameB f0 && nameB f1) = true
    · refine ⟨(f0, f1), true, by simp only [linkF, if_pos hok]; rfl, fun a c w hc HA => ?_⟩
      obtain ⟨g, o, rfl, hg, H⟩ := HA (by simp)
      have hok2 := hok
      simp only [Bool.and_eq_true] at hok2
      refine readLink_yes _ f0 f1 (?_ : Hid (_ = _)) HK g o c w hg hc (H.rd _ hm)
      show [rdNm f0, rdNm f1] = _
      simp only [rdNm, hok2.1, hok2.2]
    · refine ⟨(⟨#[]⟩, ⟨#[]⟩), false, by simp only [linkF, if_neg hok]; rfl, fun a c w hc HA => ?_⟩
      obtain ⟨g, o, rfl, hg, H⟩ := HA (by simp)
      exact readLink_no _ f0 f1 (nameB f0) (nameB f1) rfl (rdL_none _ _ (by simp only [List.all_cons, List.all_nil, Bool.and_true]; rw [Bool.not_eq_true] at hok; exact hok)) HK g o c w hg hc (H.rd _ hm)
  · exact ⟨(⟨#[]⟩, ⟨#[]⟩), false, by rw [linkF_len h2]; rfl, fun a c w hc HA => readLink_len _ _ c h2 w⟩

theorem unt_four {F : List ByteArray} {a b c d : ByteArray} (h1 : 1 ≤ F.length) (h4 : F.length ≤ 4) (hfill : F ++ ([⟨#[]⟩, ⟨#[74, 97, 110]⟩, ⟨#[49]⟩, ⟨#[48]⟩] : List ByteArray).drop F.length = [a, b, c, d]) (ha : Few a) (hb : Few b) (hc : Few c) (hd : Few d) (hu : untF F = unt4 a b c d) :
    ∃ (u : UntT) (b : Bool), untF F = (if b = true then some u else none) ∧ (b = false → u = zUnt) ∧
    ∀ (a : Option Addr) (c : Nat) (w : World), F.length ≤ c → FdA w a F →
      Calls Tryz.prog 111 #[.slice a F.length c] w fun e w' => e = .returned (.tuple #[.agg #[.int .i64 u.y, .int .i64 u.mo, .int .i64 u.oa, .int .i64 u.ob, .int .i64 u.oc, .int .i64 u.ta, .int .u8 u.tz], .bool b]) ∧ Below w.heap.size w w' := by
  have HK : ∀ r ∈ [rdYr a, rdMo b, rdOn c, rdAt d], r.ok := by
    simp only [List.forall_mem_cons]
    exact ⟨rdYr_ok ha, rdMo_ok hb, rdOn_ok hc, rdAt_ok hd, fun r hr => by cases hr⟩
  by_cases hok : untOk a b c d = true
  · refine ⟨untOf a b c d, true, by rw [hu, unt4, if_pos hok]; rfl, (fun h => by cases h), fun a' cp w hcp HA => ?_⟩
    obtain ⟨g, o, rfl, hg, H⟩ := HA (fun e => by rw [e] at h1; simp at h1)
    have hok2 := hok
    simp only [untOk, Bool.and_eq_true] at hok2
    obtain ⟨⟨⟨b0, b1⟩, b2⟩, b3⟩ := hok2
    refine readUntil_yes F a b c d (yrF a).1 (moF b).1 (onF c).1.1 (onF c).1.2.1 (onF c).1.2.2 (atF d.data.toList).1.1 (atF d.data.toList).1.2 [rdYr a, rdMo b, rdOn c, rdAt d] (?_ : Hid (_ = _)) HK h1 h4 hfill g o cp w hg hcp H
    show [rdYr a, rdMo b, rdOn c, rdAt d] = _
    simp only [rdYr, rdMo, rdOn, rdAt, b0, b1, b2, b3]
  · refine ⟨zUnt, false, by rw [hu, unt4, if_neg hok]; rfl, fun _ => rfl, fun a' cp w hcp HA => ?_⟩
    obtain ⟨g, o, rfl, hg, H⟩ := HA (fun e => by rw [e] at h1; simp at h1)
    exact readUntil_no F a b c d (yrF a).1 (moF b).1 (onF c).1.1 (onF c).1.2.1 (onF c).1.2.2 (atF d.data.toList).1.1 (atF d.data.toList).1.2 (yrF a).2 (moF b).2 (onF c).2 (atF d.data.toList).2 _ rfl HK
      (rdL_none _ _ (by simp only [List.all_cons, List.all_nil, Bool.and_true]; rw [Bool.not_eq_true] at hok; rw [← hok]; simp only [untOk, Bool.and_assoc])) h1 h4 hfill g o cp w hg hcp H
theorem few_jan : Few janT := by unfold Few janT; decide
theorem few_one : Few oneT' := by unfold Few oneT'; decide
theorem few_zero : Few zeroT := by unfold Few zeroT; decide
theorem readUntil_any (F : List ByteArray) (hF : ∀ f ∈ F, Few f) : ∃ (u : UntT) (b : Bool), untF F = (if b = true then some u else none) ∧ (b = false → u = zUnt) ∧
    ∀ (a : Option Addr) (c : Nat) (w : World), F.length ≤ c → FdA w a F →
      Calls Tryz.prog 111 #[.slice a F.length c] w fun e w' => e = .returned (.tuple #[.agg #[.int .i64 u.y, .int .i64 u.mo, .int .i64 u.oa, .int .i64 u.ob, .int .i64 u.oc, .int .i64 u.ta, .int .u8 u.tz], .bool b]) ∧ Below w.heap.size w w' := by
  match F, hF with
  | [], _ => exact ⟨zUnt, true, rfl, (fun h => by cases h), fun a c w hc HA => readUntil_none _ c w⟩
  | [a], hF => exact unt_four (b := janT) (c := oneT') (d := zeroT) (by simp) (by simp) rfl (hF a (by simp)) few_jan few_one few_zero rfl
  | [a, b], hF => exact unt_four (c := oneT') (d := zeroT) (by simp) (by simp) rfl (hF a (by simp)) (hF b (by simp)) few_one few_zero rfl
  | [a, b, c], hF => exact unt_four (d := zeroT) (by simp) (by simp) rfl (hF a (by simp)) (hF b (by simp)) (hF c (by simp)) few_zero rfl
  | [a, b, c, d], hF => exact unt_four (by simp) (by simp) rfl (hF a (by simp)) (hF b (by simp)) (hF c (by simp)) (hF d (by simp)) rfl
  | a :: b :: c :: d :: x :: l, hF => exact ⟨zUnt, false, rfl, fun _ => rfl, fun a' cp w hc HA => readUntil_many _ _ cp (by simp) w⟩

def zEraT : EraT := ⟨0, ⟨#[]⟩, 0, ⟨#[]⟩, zUnt⟩
theorem readEra_any (F : List ByteArray) (hF : ∀ f ∈ F, Few f) : ∃ (r : EraT) (b : Bool), eraF F = (if b = true then some r else none) ∧ (b = false → r = zEraT) ∧
    ∀ (a : Option Addr) (c : Nat) (w : World), F.length ≤ c → FdA w a F →
      Calls Tryz.prog 77 #[.slice a F.length c] w fun e w' => e = .returned (.tuple #[.agg #[.int .i64 r.off, .string r.rl, .int .i64 r.sv, .string r.fm, .int .i64 r.u.y, .int .i64 r.u.mo, .int .i64 r.u.oa, .int .i64 r.u.ob, .int .i64 r.u.oc, .int .i64 r.u.ta, .int .u8 r.u.tz], .bool b]) ∧ Below w.heap.size w w' := by
  match F, hF with
  | [], _ => exact ⟨zEraT, false, rfl, fun _ => rfl, fun a c w hc HA => readEra_len _ _ c (by simp) w⟩
  | [a], hF => exact ⟨zEraT, false, rfl, fun _ => rfl, fun a c w hc HA => readEra_len _ _ c (by simp) w⟩
  | [a, b], hF => exact ⟨zEraT, false, rfl, fun _ => rfl, fun a c w hc HA => readEra_len _ _ c (by simp) w⟩
  | f0 :: f1 :: f2 :: R, hF =>
    simp only [List.forall_mem_cons] at hF
    obtain ⟨h0, h1, h2, hR⟩ := hF
    obtain ⟨u, bu, hu, hz, HU⟩ := readUntil_any R hR
    have HK : ∀ r ∈ [rdOf f0, rdSh f1, rdFm f2], r.ok := by
      simp only [List.forall_mem_cons]
      exact ⟨rdOf_ok h0, rdSh_ok h1, rdFm_ok h2, fun r hr => by cases hr⟩
    have UR : ∀ (A : Option Addr) (cp : Nat) (w : World), R.length + 3 ≤ cp → FdA w A R → ∀ W : World, Below w.heap.size w W → Calls Tryz.prog 111 #[.slice A R.length (cp - 3)] W fun e W' => e = .returned (.tuple #[.agg #[.int .i64 u.y, .int .i64 u.mo, .int .i64 u.oa, .int .i64 u.ob, .int .i64 u.oc, .int .i64 u.ta, .int .u8 u.tz], .bool bu]) ∧ Below W.heap.size W W' :=
      fun A cp w hc H W hb => HU A (cp - 3) W (by omega) (H.below hb)
    have HD : ∀ (g o : Nat) (w : World), FdAt w g o (f0 :: f1 :: f2 :: R) → ∀ j r, [rdOf f0, rdSh f1, rdFm f2][j]? = some r → w.cell? ⟨g, o + j, none⟩ = some (.string r.f) := fun g o w H j r hj => H j r.f (by
      match j, hj with
      | 0, hj => cases hj; rfl
      | 1, hj => cases hj; rfl
      | 2, hj => cases hj; rfl
      | j + 3, hj => simp at hj)
    by_cases hok : eraOk f0 f1 f2 = true
    · have hok2 := hok
      simp only [eraOk, Bool.and_eq_true] at hok2
      obtain ⟨⟨b0, b1⟩, b2⟩ := hok2
      have hrs : [rdOf f0, rdSh f1, rdFm f2] = [⟨212, .agg #[.int .i64 (-50400), .int .i64 50400], 205, f0, 2, .int .i64 (spF (-50400) 50400 f0).1, true⟩, ⟨178, .agg #[], 166, f1, 183, .agg #[.string (shF f1).1.1, .int .i64 (shF f1).1.2], true⟩, ⟨179, .agg #[], 167, f2, 9, .string (fmtO f2).1, true⟩] := by
        simp only [rdOf, rdSh, rdFm, b0, b1, b2]
      cases bu with
      | true =>
        refine ⟨eraOf f0 f1 f2 u, true, by simp only [eraF, hu, if_pos hok]; rfl, (fun h => by cases h), fun a cp w hc HA => ?_⟩
        obtain ⟨g, o, rfl, hg, H⟩ := HA (by simp)
        exact readEra_yes f0 f1 f2 (shF f1).1.1 (fmtO f2).1 (spF (-50400) 50400 f0).1 (shF f1).1.2 u.y u.mo u.oa u.ob u.oc u.ta u.tz _ hrs HK R.length g o cp w hg hc (HD g o w H) _ rfl (UR _ cp w hc (H.cut hg 3 cp hc rfl))
      | false =>
        refine ⟨zEraT, false, by simp only [eraF, hu]; rfl, fun _ => rfl, fun a cp w hc HA => ?_⟩
        obtain ⟨g, o, rfl, hg, H⟩ := HA (by simp)
        exact readEra_no2 f0 f1 f2 (shF f1).1.1 (fmtO f2).1 (spF (-50400) 50400 f0).1 (shF f1).1.2 u.y u.mo u.oa u.ob u.oc u.ta u.tz _ hrs HK R.length g o cp w hg hc (HD g o w H) _ rfl (UR _ cp w hc (H.cut hg 3 cp hc rfl))
    · refine ⟨zEraT, false, ?_, fun _ => rfl, fun a cp w hc HA => ?_⟩
      · cases bu <;> simp [eraF, hu, hok]
      · obtain ⟨g, o, rfl, hg, H⟩ := HA (by simp)
        exact readEra_no1 f0 f1 f2 (shF f1).1.1 (fmtO f2).1 (spF (-50400) 50400 f0).1 (shF f1).1.2 u.y u.mo u.oa u.ob u.oc u.ta u.tz (spF (-50400) 50400 f0).2 (shF f1).2 (fmtO f2).2 bu _ rfl HK
          (rdL_none _ _ (by simp only [List.all_cons, List.all_nil, Bool.and_true]; rw [Bool.not_eq_true] at hok; rw [← hok]; simp only [eraOk, Bool.and_assoc])) R.length g o cp w hg hc (HD g o w H) _ rfl (UR _ cp w hc (H.cut hg 3 cp hc rfl))

end Go.Proofs.YtgnfkkcagbbhmaaGreatDoor
