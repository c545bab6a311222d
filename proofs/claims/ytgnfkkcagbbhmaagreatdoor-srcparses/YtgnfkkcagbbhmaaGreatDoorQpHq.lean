/- Contracts put together: the reference's rule, link, zone, add over what the fields say; its limits. -/
import Derived.Test.YtgnfkkcagbbhmaaGreatDoorQpGq
import Derived.Test.YtgnfkkcagbbhmaaGreatDoorQpRq
import Derived.Test.YtgnfkkcagbbhmaaGreatDoorQpLq
import Derived.Test.YtgnfkkcagbbhmaaGreatDoorQpZq
namespace Go.Proofs.YtgnfkkcagbbhmaaGreatDoor
open Go.RowKit Lin Sr
set_option linter.unusedVariables false

/-- no more than the document allows. -/
structure CapS (S : PSt) : Prop where
  z16 : S.zones.length ≤ 16
  l16 : S.links.length ≤ 16
  e12 : ∀ z ∈ S.zones, z.2.length ≤ 12
theorem CapS.zero : CapS pst0 := ⟨Nat.zero_le _, Nat.zero_le _, fun z h => by cases h⟩
theorem CapS.tk {S S' : PSt} {N : Nat} {n : Int} {F : List ByteArray} (h : CapS S) (hO : OkS S N) (e : tkF S n F = .inr S') : CapS S' := by
  unfold tkF at e
  split at e
  · rename_i hop
    obtain ⟨l, z, hS⟩ := hO.op hop
    unfold tkOn at e
    split at e
    · cases e
    · rename_i r hr
      split at e
      · cases e
      · rename_i hz
        cases e
        have hl : (S.zones.getLast?.map (·.2.length)).getD 0 = z.2.length := by rw [hS]; simp
        rw [hl] at hz
        have hze := h.e12 z (by rw [hS]; simp)
        have ez : (addF S n r).zones = l ++ [(z.1, z.2 ++ [r])] := by
          show addE S.zones r = _
          rw [hS, addE_snoc]
        refine ⟨?_, h.l16, fun y hy => ?_⟩
        · have := h.z16; rw [hS, List.length_append] at this; rw [ez, List.length_append]; exact this
        · rw [ez] at hy
          rcases List.mem_append.1 hy with hy | hy
          · exact h.e12 y (by rw [hS]; exact List.mem_append_left _ hy)
          · rw [List.mem_singleton.1 hy]
            show (z.2 ++ [r]).length ≤ 12
            rw [List.length_append, List.length_singleton]; omega
  · split at e
    · cases e
    · split at e
      · unfold tkRule at e
        split at e
        · cases e
        · split at e
          · cases e
          · cases e; exact ⟨h.z16, h.l16, h.e12⟩
      · split at e
        · unfold tkZone at e
          split at e
          · cases e
          · rename_i nm r hr
            split at e
            · cases e
            · rename_i hz
              split at e
              · cases e
              · cases e
                have ez : (addF { S with zones := S.zones ++ [(nm, [])] } n r).zones = S.zones ++ [(nm, [r])] := by
                  show addE (S.zones ++ [(nm, [])]) r = _
                  rw [addE_snoc]; rfl
                refine ⟨?_, h.l16, fun y hy => ?_⟩
                · have := h.z16; rw [ez, List.length_append, List.length_singleton]; omega
                · rw [ez] at hy
                  rcases List.mem_append.1 hy with hy | hy
                  · exact h.e12 y hy
                  · rw [List.mem_singleton.1 hy]; show 1 ≤ 12; decide
        · split at e
          · unfold tkLink at e
            split at e
            · cases e
            · split at e
              · cases e
              · rename_i hz
                split at e
                · cases e
                · cases e
                  refine ⟨h.z16, ?_, h.e12⟩
                  have := h.l16
                  show (S.links ++ [_]).length ≤ 16
                  rw [List.length_append, List.length_singleton]; omega
          · cases e

/-- what a rule's line says to the reference. -/
def rT2 (x2 x3 : ByteArray) : Int := if Wrd.sameB x3 maxT = true then 1073741824 else if Wrd.sameB x3 onlyT = true then yrR x2 else yrR x3
def rLX (x9 : ByteArray) : ByteArray := if (x9.toList == [45]) = true then ⟨#[]⟩ else x9
def rLB (x9 : ByteArray) : Bool := decide (1 ≤ x9.size) && decide (x9.size ≤ 8) && allLD x9.data.toList
def erN (b : Bool) : Int := if b = true then 0 else 21
def rBad (x1 x2 x3 x4 x5 x6 x7 x8 : ByteArray) : Bool :=
  (!nameB x1 || (yrR x2 == 0) || decide (rT2 x2 x3 < yrR x2) || !(x4.toList == [45]) || ((moF x5).1 == 0) || (erN (onF x6).2 != 0) || (erN (atF x7.data.toList).2 != 0) || (erN (svF x8.data.toList).2 != 0) || decide ((svF x8.data.toList).1 < 0) || decide (7200 < (svF x8.data.toList).1))
def rRT (x1 x2 x3 x5 x6 x7 x8 x9 : ByteArray) : RuleT := ⟨x1, yrR x2, rT2 x2 x3, (moF x5).1, (onF x6).1.1, (onF x6).1.2.1, (onF x6).1.2.2, (atF x7.data.toList).1.1, (atF x7.data.toList).1.2, (svF x8.data.toList).1, rLX x9⟩
theorem low_eq (a b : ByteArray) (h : Wrd.sameB a b = true) : Wrd.lowB a = Wrd.lowB b := of_decide_eq_true h
theorem only_max {x : ByteArray} (h : Wrd.sameB x onlyT = true) : Wrd.sameB x maxT = false := by
  cases q : Wrd.sameB x maxT with
  | false => rfl
  | true =>
    have := (low_eq _ _ h).symm.trans (low_eq _ _ q)
    exact absurd this (by decide +kernel)
theorem yrR_of {s : ByteArray} (h : (yrF s).2 = true) : yrR s = (yrF s).1 ∧ 1800 ≤ yrR s ∧ yrR s ≤ 2100 := by
  have e : yrR s = (yrF s).1 := by unfold yrR; rw [if_pos h]
  have h2 := h
  unfold yrF yearB at h2
  simp only [Bool.and_eq_true, decide_eq_true_eq] at h2
  rw [e]
  refine ⟨rfl, ?_, ?_⟩
  · show 1800 ≤ Wrd.numV s; omega
  · show Wrd.numV s ≤ 2100; omega
theorem yrR_no {s : ByteArray} (h : (yrF s).2 = false) : yrR s = 0 := by unfold yrR; rw [h]; rfl
theorem ltr_eq (x9 : ByteArray) : (ltrO x9).2 = ((x9.toList == [45]) || rLB x9) := by
  unfold ltrO rLB
  by_cases h : x9.toList = [45]
  · rw [if_pos h]; simp [h]
  · rw [if_neg h, beq_eq_false_iff_ne.2 h, Bool.false_or]
    by_cases q : allLD x9.data.toList = true
    · rw [if_pos q, q, Bool.and_true]
      have : decide (x9.size ≠ 0) = decide (1 ≤ x9.size) := by by_cases q : x9.size = 0 <;> simp [q]; omega
      rw [this]
    · rw [if_neg q, show allLD x9.data.toList = false by simpa using q, Bool.and_false]
theorem ltr_val {x9 : ByteArray} (h : (ltrO x9).2 = true) : (ltrO x9).1 = rLX x9 := by
  unfold ltrO at h ⊢
  unfold rLX
  by_cases q : x9.toList = [45]
  · rw [if_pos q, if_pos (show (x9.toList == [45]) = true by simpa using q)]
  · rw [if_neg q] at h ⊢
    rw [if_neg (show ¬ ((x9.toList == [45]) = true) by simpa using q)]
    by_cases r : allLD x9.data.toList = true
    · rw [if_pos r]
    · rw [if_neg r] at h; cases h
theorem ruleF_eq (x1 x2 x3 x4 x5 x6 x7 x8 x9 : ByteArray) : ruleF [x1, x2, x3, x4, x5, x6, x7, x8, x9] = if (((x9.toList == [45]) || rLB x9) && !rBad x1 x2 x3 x4 x5 x6 x7 x8) = true then some (rRT x1 x2 x3 x5 x6 x7 x8 x9) else none := by
  have key : ∀ {ok : Bool} {P : Prop} [Decidable P] {r r' : RuleT} {good : Bool}, (good = true ↔ (ok = true ∧ P)) → (good = true → r = r') → (if ok = true then (if P then some r else none) else none) = if good = true then some r' else none := by
    intro ok P _ r r' good h1 h2
    by_cases g : good = true
    · obtain ⟨a, b⟩ := h1.1 g
      rw [if_pos a, if_pos b, if_pos g, h2 g]
    · rw [if_neg g]
      by_cases a : ok = true
      · rw [if_pos a, if_neg (fun b => g (h1.2 ⟨a, b⟩))]
      · rw [if_neg a]
  have sv : (spF 0 7200 x8).2 = true ↔ ((svF x8.data.toList).2 = true ∧ 0 ≤ (svF x8.data.toList).1 ∧ (svF x8.data.toList).1 ≤ 7200) := by
    unfold spF
    simp only [Bool.and_eq_true, decide_eq_true_eq, and_assoc]
  have er : ∀ b : Bool, (erN b != 0) = false ↔ b = true := fun b => by cases b <;> decide
  have mo : ((moF x5).1 == 0) = false ↔ (moF x5).2 = true := by
    show ((moF x5).1 == 0) = false ↔ ((moF x5).1 != 0) = true
    simp
  have y2 : (yrR x2 == 0) = false ↔ (yrF x2).2 = true := by
    cases h : (yrF x2).2 with
    | true => have := (yrR_of h).2; simp; omega
    | false => rw [yrR_no h]; decide
  have good : (((x9.toList == [45]) || rLB x9) && !rBad x1 x2 x3 x4 x5 x6 x7 x8) = true ↔ ((ltrO x9).2 = true ∧ nameB x1 = true ∧ (yrF x2).2 = true ∧ yrR x2 ≤ rT2 x2 x3 ∧ (x4.toList == [45]) = true ∧ (moF x5).2 = true ∧ (onF x6).2 = true ∧ (atF x7.data.toList).2 = true ∧ (spF 0 7200 x8).2 = true) := by
    rw [Bool.and_eq_true, ← ltr_eq, Bool.not_eq_true', sv, ← mo, ← y2]
    unfold rBad
    simp only [Bool.or_eq_false_iff, er, Bool.not_eq_false', decide_eq_false_iff_not, Int.not_lt]
    constructor
    · rintro ⟨a, ⟨⟨⟨⟨⟨⟨⟨⟨⟨b1, b2⟩, b3⟩, b4⟩, b5⟩, b6⟩, b7⟩, b8⟩, b9⟩, b10⟩⟩
      exact ⟨a, b1, b2, b3, b4, b5, b6, b7, b8, b9, b10⟩
    · rintro ⟨a, b1, b2, b3, b4, b5, b6, b7, b8, b9, b10⟩
      exact ⟨a, ⟨⟨⟨⟨⟨⟨⟨⟨⟨b1, b2⟩, b3⟩, b4⟩, b5⟩, b6⟩, b7⟩, b8⟩, b9⟩, b10⟩⟩
  have tt : (yrF x2).2 = true → (((toF x3).2 = true ∧ (yrF x2).1 ≤ (if (toF x3).1 = 0 then (yrF x2).1 else (toF x3).1)) ↔ yrR x2 ≤ rT2 x2 x3) ∧ ((toF x3).2 = true → (if (toF x3).1 = 0 then (yrF x2).1 else (toF x3).1) = rT2 x2 x3) := by
    intro h
    obtain ⟨e1, e2, e3⟩ := yrR_of h
    unfold rT2 toF
    by_cases o : Wrd.sameB x3 onlyT = true
    · rw [only_max o, if_pos o, if_pos o]
      show ((true = true ∧ (yrF x2).1 ≤ (yrF x2).1) ↔ yrR x2 ≤ yrR x2) ∧ (true = true → (yrF x2).1 = yrR x2)
      exact ⟨⟨fun _ => Int.le_refl _, fun _ => ⟨rfl, Int.le_refl _⟩⟩, fun _ => e1.symm⟩
    · rw [if_neg o, if_neg o]
      by_cases m : Wrd.sameB x3 maxT = true
      · rw [if_pos m, if_pos m]
        show ((true = true ∧ (yrF x2).1 ≤ 1073741824) ↔ yrR x2 ≤ 1073741824) ∧ (true = true → (1073741824 : Int) = 1073741824)
        exact ⟨⟨fun _ => by omega, fun _ => ⟨rfl, by omega⟩⟩, fun _ => rfl⟩
      · rw [if_neg m, if_neg m]
        cases q : (yrF x3).2 with
        | true =>
          obtain ⟨d1, d2, d3⟩ := yrR_of q
          have : (yrF x3).1 ≠ 0 := by omega
          rw [if_neg this, e1, d1]
          exact ⟨⟨fun z => z.2, fun z => ⟨rfl, z⟩⟩, fun _ => rfl⟩
        | false =>
          rw [yrR_no q]
          exact ⟨⟨fun z => absurd z.1 (by decide), fun z => by omega⟩, fun z => by cases z⟩
  show (if ruleOk x1 x2 x3 x4 x5 x6 x7 x8 x9 = true then (if (yrF x2).1 ≤ (if (toF x3).1 = 0 then (yrF x2).1 else (toF x3).1) then some (ruleOf x1 x2 x3 x5 x6 x7 x8 x9) else none) else none) = _
  refine key ?_ ?_
  · rw [good]
    unfold ruleOk
    simp only [Bool.and_eq_true]
    constructor
    · rintro ⟨a, b1, b2, b3, b4, b5, b6, b7, b8⟩
      obtain ⟨c1, c2⟩ := (tt b2).1.2 b3
      exact ⟨⟨⟨⟨⟨⟨⟨⟨⟨b1, b2⟩, c1⟩, b4⟩, b5⟩, b6⟩, b7⟩, b8⟩, a⟩, c2⟩
    · rintro ⟨⟨⟨⟨⟨⟨⟨⟨⟨b1, b2⟩, c1⟩, b4⟩, b5⟩, b6⟩, b7⟩, b8⟩, a⟩, c2⟩
      exact ⟨a, b1, b2, (tt b2).1.1 ⟨c1, c2⟩, b4, b5, b6, b7, b8⟩
  · intro g
    obtain ⟨a, b1, b2, b3, b4, b5, b6, b7, b8⟩ := good.1 g
    have c1 := (tt b2).1.2 b3
    unfold ruleOf rRT
    rw [(tt b2).2 c1.1, (yrR_of b2).1, ltr_val a]
    rfl

section
variable (U : World) (g B : Nat) (S : PSt) (xr xl xa xz : Value) (vs : List Value) (w : World) (h : PN U g B S xr xl xa xz vs w) (N : Nat) (hO : OkS S N) (hN : N ≤ 1000) (hR : RefS S) (hC : CapS S)
  (n : Int) (fb fo c : Nat) (f : ByteArray) (R : List ByteArray) (hF : ∀ x ∈ R, Few x) (hg : fb < U.heap.size) (hc : R.length + 1 ≤ c) (H : FdAt U fb fo (f :: R))
include h hO hN hR hC hF hg hc H

theorem rrule_all : Calls Tryz.prog 55 #[.pointer (some ⟨g, 0, none⟩), .slice (some ⟨fb, fo, none⟩) (R.length + 1) c] w fun e w' => TkN U g B w e w' (tkRule S R) := by
  have _u1 := hC
  have _u2 := hN
  by_cases h9 : R.length = 9
  · obtain ⟨x1, x2, x3, x4, x5, x6, x7, x8, x9, rfl⟩ := nine h9
    simp only [List.forall_mem_cons] at hF
    obtain ⟨g1, g2, g3, g4, g5, g6, g7, g8, g9, -⟩ := hF
    have hgw : fb < w.heap.size := Nat.lt_of_lt_of_le hg h.low.size
    have cell : ∀ (i : Nat) (x : ByteArray), (f :: [x1, x2, x3, x4, x5, x6, x7, x8, x9])[i]? = some x → w.cell? ⟨fb, fo + i, none⟩ = some (.string x) := fun i x e => (h.low.cell (p := ⟨fb, fo + i, none⟩) hg).trans (H i x e)
    have SO : Hid (∀ w : World, Calls Tryz.prog 54 #[.string x3, .string ⟨#[111, 110, 108, 121]⟩] w fun e w' => e = .returned (.bool (Wrd.sameB x3 onlyT)) ∧ Below w.heap.size w w') := fun w => Wrd.rsame_any x3 onlyT g3.big (by decide) w
    have SM : Hid (∀ w : World, Calls Tryz.prog 54 #[.string x3, .string ⟨#[109, 97, 120]⟩] w fun e w' => e = .returned (.bool (Wrd.sameB x3 maxT)) ∧ Below w.heap.size w w') := fun w => Wrd.rsame_any x3 maxT g3.big (by decide) w
    have LT : Hid (∀ w : World, Calls Tryz.prog 91 #[.string x9] w fun e w' => e = .returned (.bool (rLB x9)) ∧ Below w.heap.size w w') := fun w => qletters_any x9 g9.max w
    have hr := ruleF_eq x1 x2 x3 x4 x5 x6 x7 x8 x9
    by_cases good : (((x9.toList == [45]) || rLB x9) && !rBad x1 x2 x3 x4 x5 x6 x7 x8) = true
    · rw [if_pos good] at hr
      rw [tkRule_yes hr]
      rw [Bool.and_eq_true, Bool.not_eq_true', Bool.or_eq_true] at good
      obtain ⟨gl, gb⟩ := good
      unfold rBad at gb
      simp only [Bool.or_eq_false_iff, Bool.not_eq_false', decide_eq_false_iff_not, Int.not_lt] at gb
      obtain ⟨⟨⟨⟨⟨⟨⟨⟨⟨b1, b2⟩, b3⟩, b4⟩, b5⟩, b6⟩, b7⟩, b8⟩, b9⟩, b10⟩ := gb
      have NM : Hid (∀ w : World, Calls Tryz.prog 16 #[.string x1] w fun e w' => e = .returned (.bool true) ∧ Below w.heap.size w w') := fun w => by have := qname_any x1 g1.max w; rw [b1] at this; exact this
      exact rule_good U g B S xr xl xa xz vs w h (by have := hO.rules; omega) hR hO.cnt fb fo c hgw hc x1 x2 x3 x4 x5 x6 x7 x8 x9 (cell 1 x1 rfl) (cell 2 x2 rfl) (cell 3 x3 rfl) (cell 4 x4 rfl) (cell 5 x5 rfl) (cell 6 x6 rfl) (cell 7 x7 rfl) (cell 8 x8 rfl) (cell 9 x9 rfl)
        (yrR x2) (yrR x3) _ (rT2 x2 x3) (moF x5).1 _ _ _ _ _ _ _ _ _ (rLX x9) (Wrd.sameB x3 onlyT) (Wrd.sameB x3 maxT) (rLB x9) true _ (yr_R g2) (yr_R g3) (mo_R g5) SO SM (on_R g6) (at_R g7) (sv_R g8) LT NM rfl rfl rfl gl b2 b3 b4 b5 b6 b7 b8 b9 b10 rfl
    · rw [if_neg good] at hr
      rw [tkRule_no hr]
      have NM : Hid (∀ w : World, Calls Tryz.prog 16 #[.string x1] w fun e w' => e = .returned (.bool (nameB x1)) ∧ Below w.heap.size w w') := fun w => qname_any x1 g1.max w
      refine (rule_bad U g B S xr xl xa xz vs w h (by have := hO.rules; omega) hR hO.cnt fb fo c hgw hc x1 x2 x3 x4 x5 x6 x7 x8 x9 (cell 1 x1 rfl) (cell 2 x2 rfl) (cell 3 x3 rfl) (cell 4 x4 rfl) (cell 5 x5 rfl) (cell 6 x6 rfl) (cell 7 x7 rfl) (cell 8 x8 rfl) (cell 9 x9 rfl)
        (yrR x2) (yrR x3) _ (rT2 x2 x3) (moF x5).1 _ _ _ _ _ _ _ _ _ (rLX x9) (Wrd.sameB x3 onlyT) (Wrd.sameB x3 maxT) (rLB x9) (nameB x1) (yr_R g2) (yr_R g3) (mo_R g5) SO SM (on_R g6) (at_R g7) (sv_R g8) LT NM rfl rfl rfl ?_).mono fun e w' q => q
      show _ ∨ rBad x1 x2 x3 x4 x5 x6 x7 x8 = true
      cases p : (x9.toList == [45]) with
      | true =>
        rw [p] at good
        right
        cases q : rBad x1 x2 x3 x4 x5 x6 x7 x8 with
        | true => rfl
        | false => rw [q] at good; exact absurd rfl good
      | false =>
        cases r : rLB x9 with
        | false => exact .inl ⟨rfl, rfl⟩
        | true =>
          rw [p, r] at good
          right
          cases q : rBad x1 x2 x3 x4 x5 x6 x7 x8 with
          | true => rfl
          | false => rw [q] at good; exact absurd rfl good
  · rw [tkRule_no (ruleF_len h9)]
    exact (rule_len _ _ (R.length + 1) c (by omega) w).mono fun e w' q => q

theorem rlink_all : Calls Tryz.prog 57 #[.pointer (some ⟨g, 0, none⟩), .slice (some ⟨fb, fo, none⟩) (R.length + 1) c] w fun e w' => TkN U g B w e w' (tkLink S R) := by
  have _u1 := hO
  have _u2 := hN
  by_cases h2 : R.length = 2
  · obtain ⟨x1, x2, rfl⟩ : ∃ x1 x2, R = [x1, x2] := by
      match R, h2 with
      | [a, b], _ => exact ⟨a, b, rfl⟩
    simp only [List.forall_mem_cons] at hF
    obtain ⟨g1, g2, -⟩ := hF
    have hl : linkF [x1, x2] = if (nameB x1 && nameB x2) = true then some (x1, x2) else none := rfl
    refine rlink_run U g B S xr xl xa xz vs w h fb fo c hg hc x1 x2 (H 1 x1 rfl) (H 2 x2 rfl) (nameB x1) (nameB x2) _ (fun w => qname_any x1 g1.max w) (fun w => qname_any x2 g2.max w) hC.l16 g2 hR.zf hR.lf ?_
    show tkLink S [x1, x2] = _
    unfold tkLink
    rw [hl]
    unfold lkR
    cases nameB x1 <;> cases nameB x2 <;> rfl
  · have : tkLink S R = .inl 21 := by unfold tkLink; rw [linkF_len h2]
    rw [this]
    exact (rlink_len _ _ (R.length + 1) c (by omega) w).mono fun e w' q => q

theorem rzone_all : Calls Tryz.prog 56 #[.pointer (some ⟨g, 0, none⟩), .int .i64 n, .slice (some ⟨fb, fo, none⟩) (R.length + 1) c] w fun e w' => TkN U g B w e w' (tkZone S n R) := by
  cases R with
  | nil => exact (rzone_len _ n _ 1 c (by decide) w).mono fun e w' q => q
  | cons x1 R =>
    simp only [List.forall_mem_cons] at hF
    obtain ⟨g1, hF⟩ := hF
    obtain ⟨r, b, hr, E⟩ := rera_any R hF
    have n1 := qname_any x1 g1.max
    have ER : ∀ W : World, Below U.heap.size U W → _ := fun W hb => E _ (c - 2) W (by simp at hc; omega) ((H.cut hg 2 c hc rfl).below hb)
    refine rzone_run U g B S xr xl xa xz vs w h n fb fo R.length c hg hc x1 (H 1 x1 rfl) _ rfl r (nameB x1) b _ n1 ER hC.z16 (by have := hO.eras; omega) (fun hb => eraF_y (by rw [hr, if_pos hb])) g1 hR.zf hR.lf ?_
    show tkZone S n (x1 :: R) = _
    unfold tkZone
    show (match (match eraF R with | none => none | some e => if nameB x1 = true then some (x1, e) else none) with | none => .inl 21 | some (nm, e) => if S.zones.length = 16 then .inl 3 else if takenB S nm = true then .inl 23 else .inr (addF { S with zones := S.zones ++ [(nm, [])] } n e)) = _
    rw [hr]
    unfold znR
    cases nameB x1 <;> cases b <;> rfl

theorem radd_all (hf : Few f) (hop : S.op = true) : Calls Tryz.prog 53 #[.pointer (some ⟨g, 0, none⟩), .int .i64 n, .slice (some ⟨fb, fo, none⟩) (R.length + 1) c] w fun e w' => TkN U g B w e w' (tkOn S n (f :: R)) := by
  have _u1 := hR
  obtain ⟨r, b, hr, E⟩ := rera_any (f :: R) (by simp only [List.forall_mem_cons]; exact ⟨hf, hF⟩)
  have ER : ∀ W : World, Below w.heap.size w W → _ := fun W hb => E (some ⟨fb, fo, none⟩) c W hc (fun _ => ⟨fb, fo, rfl, Nat.lt_of_lt_of_le hg (Nat.le_trans h.low.size hb.size), H.below hg (h.low.trans (hb.mono h.low.size))⟩)
  obtain ⟨l, z, hS⟩ := hO.op hop
  unfold tkOn
  rw [hr]
  cases b with
  | false => exact (radd_no g n (some ⟨fb, fo, none⟩) (R.length + 1) c r w ER).mono fun e w' q => q
  | true =>
    simp only [if_pos]
    have hl : (S.zones.getLast?.map (·.2.length)).getD 0 = z.2.length := by rw [hS]; simp
    rw [hl]
    have e1 := hO.zones
    have e2 := hO.eras
    have e3 := hC.e12 z (by rw [hS]; simp)
    rw [hS, List.length_append, List.length_singleton] at e1
    exact radd_run U g B S xr xl xa xz vs w h n (some ⟨fb, fo, none⟩) (R.length + 1) c r l z hS (by omega) e3 _ rfl (by omega) (eraF_y hr) ER
end

end Go.Proofs.YtgnfkkcagbbhmaaGreatDoor
