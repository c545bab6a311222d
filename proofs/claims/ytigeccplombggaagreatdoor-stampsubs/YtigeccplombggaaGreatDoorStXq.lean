/- reference 17: Age whole. -/
import Derived.Test.YtigeccplombggaaGreatDoorStVq
import Derived.Test.YtigeccplombggaaGreatDoorStTq
import Derived.Test.YtigeccplombggaaGreatDoorStHq
namespace Go.Proofs.YtigeccplombggaaGreatDoor
open Go.RowKit
set_option linter.unusedVariables false

/-- where so many months on can be reckoned, the day is that of the month. -/
theorem s1_of {d y m q k : Int} (h : Cv.Is d y m q) (hs : s1k y m q k = true) : s1v d y m q k = Sm.dk (12 * y + m - 1) q k := by
  obtain ⟨e, q1, q2, e2⟩ := Sm.is_T h
  unfold s1k at hs
  unfold s1v
  by_cases hk : k = 0
  · subst hk
    rw [if_pos rfl, Sm.dk_zero q2]
    exact e
  · rw [if_neg hk] at hs ⊢
    have hE : Cvl.shE y m q k = 0 := by
      have := (Bool.and_eq_true _ _).mp hs
      exact of_decide_eq_true this.1
    unfold Cvl.shE Cvl.dayE at hE
    unfold Cvl.shV Cvl.dayV
    split at hE
    · rename_i hr
      rw [if_pos hr]
      rfl
    · exact absurd hE (by decide)
/-- so many months on, alone, whatever comes of it. -/
def aV (b y m q k : Int) : Int := if mdk (b / 86400000000) y m q k 0 = true then moV (mdv b y m q k 0) 0 else 0
def aE (b y m q k : Int) : Int := if mdk (b / 86400000000) y m q k 0 = true then moE (mdv b y m q k 0) 0 else 10
theorem a_is {b y m q k : Int} (hb : Cv.Is (b / 86400000000) y m q) (db : Dy.dok (b / 86400000000) = true) (b1 : -2147483647 ≤ k) (b2 : k ≤ 2147483647) : AddIs 0 b 0 k 0 0 0 (aV b y m q k) (aE b y m q k) :=
  .inr (.inr ⟨rfl, rfl, db, pR_of ⟨b1, b2, by omega, by omega, by omega, by omega⟩, y, m, q, hb, rfl, rfl, rfl⟩)
theorem a_yes {b y m q k : Int} (hb : Cv.Is (b / 86400000000) y m q) (h : mdk (b / 86400000000) y m q k 0 = true) : aE b y m q k = 0 ∧ aV b y m q k = gX b (12 * y + m - 1) q k ∧ Dy.dok (Sm.dk (12 * y + m - 1) q k) = true := by
  have h2 := (Bool.and_eq_true _ _).mp h
  have hs := s1_of hb h2.1
  have hd := h2.2
  rw [Int.add_zero, hs] at hd
  have ev : mdv b y m q k 0 = gX b (12 * y + m - 1) q k := by unfold mdv gX; rw [hs, Int.add_zero]
  have Z := mo_zero (v := gX b (12 * y + m - 1) q k) (by rw [dk_div]; exact hd)
  unfold aE aV
  rw [if_pos h, if_pos h, ev]
  exact ⟨Z.2, Z.1, hd⟩
theorem a_bd (b y m q k : Int) : -9223372036854775808 ≤ aV b y m q k ∧ aV b y m q k ≤ 9223372036854775807 := by
  unfold aV moV
  split
  · split
    · rename_i h; have := dok_bd h; omega
    · omega
  · omega

theorem rage_big (a b y m q y2 m2 q2 : Int) (ha : Cv.Is (a / 86400000000) y m q) (hb : Cv.Is (b / 86400000000) y2 m2 q2) (da : Dy.dok (a / 86400000000) = true) (db : Dy.dok (b / 86400000000) = true) (hab : b ≤ a) (k n : Int) (hk : k = gK a b (12 * y + m - 1) (12 * y2 + m2 - 1) q2) (hn : n = a - gX b (12 * y2 + m2 - 1) q2 k) (w : World) :
    Calls Tryz.prog 24 #[.agg #[.int .i64 0, .int .i64 a], .agg #[.int .i64 0, .int .i64 b]] w fun r w' => r = .returned (.tuple #[.agg #[.int .i64 0, .int .i64 k, .int .i64 (n / 86400000000), .int .i64 (n % 86400000000)], .int .i64 0]) ∧ Below w.heap.size w w' := by
  obtain ⟨k1, k2, n1, n2, s1, s2, s3, t0, t1, t2, t3⟩ := gone_math ha hb da db hab
  rw [← hk] at k1 k2 n1 n2 s1 s2 s3
  rw [← hn] at n1 n2
  obtain ⟨a1, a2⟩ := dok_bd da
  obtain ⟨b1, b2⟩ := dok_bd db
  have ya := Dy.dok_year ha
  have yb := Dy.dok_year hb
  rw [da] at ya
  rw [db] at yb
  have ya2 := of_decide_eq_true ya.symm
  have yb2 := of_decide_eq_true yb.symm
  have m1 := ha.1
  have m2' := ha.2.1
  have l1 := hb.1
  have l2 := hb.2.1
  have hkT : k = 12 * y + m - 1 - (12 * y2 + m2 - 1) ∨ (k = 12 * y + m - 1 - (12 * y2 + m2 - 1) - 1 ∧ ¬ gX b (12 * y2 + m2 - 1) q2 (12 * y + m - 1 - (12 * y2 + m2 - 1)) ≤ a) := by
    rw [hk]; unfold gK
    by_cases hX : gX b (12 * y2 + m2 - 1) q2 (12 * y + m - 1 - (12 * y2 + m2 - 1)) ≤ a
    · exact .inl (if_pos hX)
    · exact .inr ⟨if_neg hX, hX⟩
  have mk : mdk (b / 86400000000) y2 m2 q2 k 0 = true := by unfold mdk; rw [s1, s2, Int.add_zero, s3]; rfl
  obtain ⟨z1, z2, z3⟩ := a_yes hb mk
  have RA : ∀ w : World, Calls Tryz.prog 34 #[.agg #[.int .i64 0, .int .i64 a]] w fun r' w' => r' = .returned (.bool true) ∧ Below w.heap.size w w' := fun w => by rw [← show Dy.sR 0 a = true from da]; exact Dy.rrst_any 0 a a1 a2 w
  have RB : ∀ w : World, Calls Tryz.prog 34 #[.agg #[.int .i64 0, .int .i64 b]] w fun r' w' => r' = .returned (.bool true) ∧ Below w.heap.size w w' := fun w => by rw [← show Dy.sR 0 b = true from db]; exact Dy.rrst_any 0 b b1 b2 w
  have CC := fun w => Dy.rscmp_any 0 a 0 b a1 a2 b1 b2 w
  rw [cmp_right da db, if_neg (by omega)] at CC
  have OFF : ∀ u : Int, Dy.dok (u / 86400000000) = true → ∀ w : World, Calls Tryz.prog 58 #[.agg #[.int .i64 0, .int .i64 u]] w fun r' w' => r' = .returned (.tuple #[.agg #[.int .i64 0, .int .i64 (u / 86400000000)], .int .i64 (u % 86400000000), .int .i64 0]) ∧ Below w.heap.size w w' := fun u hu w => by
    obtain ⟨u1, u2⟩ := dok_bd hu
    have R := Dy.srof_any 0 u u1 u2 w
    obtain ⟨a, b, c, d⟩ := of_right hu
    rw [a, b, c, d] at R
    exact R
  have PA := fun w => Dy.rparts_any 0 (a / 86400000000) y m q 0 (.inr (.inr ⟨rfl, da, ha, rfl⟩)) w
  have PB := fun w => Dy.rparts_any 0 (b / 86400000000) y2 m2 q2 0 (.inr (.inr ⟨rfl, db, hb, rfl⟩)) w
  have hsm : smE (a - aV b y2 m2 q2 k) = 0 := by rw [z2, ← hn]; exact smE_in (by omega) (by omega)
  have hdiv : (a - aV b y2 m2 q2 k).tdiv 86400000000 = n / 86400000000 := by rw [z2, ← hn]; exact Int.tdiv_eq_ediv_of_nonneg n1
  have hmod : (a - aV b y2 m2 q2 k).tmod 86400000000 = n % 86400000000 := by rw [z2, ← hn]; exact Int.tmod_eq_emod_of_nonneg n1
  have dXk : Dy.dok (aV b y2 m2 q2 k / 86400000000) = true := by rw [z2, dk_div]; exact z3
  have SB := fun w => rsub17_any 0 a 0 (aV b y2 m2 q2 k) 0 _ _ 0 (.inr (.inr ⟨rfl, rfl, da, dXk, rfl, .inl ⟨hsm, hdiv.symm, hmod.symm, rfl⟩⟩)) a1 a2 (a_bd b y2 m2 q2 k).1 (a_bd b y2 m2 q2 k).2 w
  refine rage_ge a b _ _ _ _ _ y m q y2 m2 q2 k _ _ (aV b y2 m2 q2) (aE b y2 m2 q2) (fun x => Dy.spV 0 (aV b y2 m2 q2 x) 0 a) (by split <;> decide) (by omega) (by omega) (by omega) (by omega) (by omega) (by omega) (by omega) (by omega) k1 (by omega) RA RB CC (OFF a da) (OFF b db) PA PB
    (fun x h1 h2 w => radd17_any 0 b 0 x 0 0 0 _ _ (a_is hb db (by omega) (by omega)) b1 b2 (by decide) (by decide) w) (fun x h1 h2 w => Dy.rscmp_any 0 _ 0 a (a_bd b y2 m2 q2 x).1 (a_bd b y2 m2 q2 x).2 a1 a2 w) ?_ ?_ SB w
  · intro x h1 h2
    by_cases mx : mdk (b / 86400000000) y2 m2 q2 x 0 = true
    · obtain ⟨v1, v2, v3⟩ := a_yes hb mx
      refine .inr ⟨v1, ?_⟩
      show ¬ Dy.spV 0 (aV b y2 m2 q2 x) 0 a ≤ 0
      have hlt : a < gX b (12 * y2 + m2 - 1) q2 x := by
        rcases hkT with e | ⟨e, hX⟩
        · have hx : x = 12 * y + m - 1 - (12 * y2 + m2 - 1) + 1 := by omega
          obtain ⟨ea, qa1, qa2, -⟩ := Sm.is_T ha
          have hF := Sm.Fi_succ (12 * y + m - 1)
          have c := Sm.cut_bd (q := q2) (l := Sm.ln (12 * y + m - 1 + 1)) hb.2.2.1 (Sm.ln_bd _).1
          have hd : Sm.dk (12 * y2 + m2 - 1) q2 x = Sm.Fi (12 * y + m - 1 + 1) + Cvl.cut q2 (Sm.ln (12 * y + m - 1 + 1)) - 1 := by
            unfold Sm.dk
            rw [show 12 * y2 + m2 - 1 + x = 12 * y + m - 1 + 1 by omega]
          have ub := us_bd b
          unfold gX
          rw [hd]
          omega
        · by_cases hx : x = 12 * y + m - 1 - (12 * y2 + m2 - 1)
          · rw [hx]; omega
          · have hx : x = 12 * y + m - 1 - (12 * y2 + m2 - 1) + 1 := by omega
            obtain ⟨ea, qa1, qa2, -⟩ := Sm.is_T ha
            have hF := Sm.Fi_succ (12 * y + m - 1)
            have c := Sm.cut_bd (q := q2) (l := Sm.ln (12 * y + m - 1 + 1)) hb.2.2.1 (Sm.ln_bd _).1
            have hd : Sm.dk (12 * y2 + m2 - 1) q2 x = Sm.Fi (12 * y + m - 1 + 1) + Cvl.cut q2 (Sm.ln (12 * y + m - 1 + 1)) - 1 := by
              unfold Sm.dk
              rw [show 12 * y2 + m2 - 1 + x = 12 * y + m - 1 + 1 by omega]
            have ub := us_bd b
            unfold gX
            rw [hd]
            omega
      rw [v2, cmp_right (by rw [dk_div]; exact v3) da, if_neg (by omega), if_pos hlt]
      decide
    · refine .inl ?_
      show aE b y2 m2 q2 x ≠ 0
      unfold aE
      rw [if_neg mx]
      decide
  · intro _
    refine ⟨z1, ?_⟩
    show Dy.spV 0 (aV b y2 m2 q2 k) 0 a ≤ 0
    rw [z2, cmp_right (by rw [dk_div]; exact z3) da]
    split
    · decide
    · rw [if_neg (by omega)]; decide

theorem rage_any (i a j b I M D U E : Int) (h : AgeIs i a j b I M D U E) (a1 : -9223372036854775808 ≤ a) (a2 : a ≤ 9223372036854775807) (b1 : -9223372036854775808 ≤ b) (b2 : b ≤ 9223372036854775807) (w : World) :
    Calls Tryz.prog 24 #[.agg #[.int .i64 i, .int .i64 a], .agg #[.int .i64 j, .int .i64 b]] w fun r w' => r = .returned (.tuple #[.agg #[.int .i64 I, .int .i64 M, .int .i64 D, .int .i64 U], .int .i64 E]) ∧ Below w.heap.size w w' := by
  have RA : ∀ c, Dy.sR i a = c → ∀ w : World, Calls Tryz.prog 34 #[.agg #[.int .i64 i, .int .i64 a]] w fun r' w' => r' = .returned (.bool c) ∧ Below w.heap.size w w' := fun c hc w => by rw [← hc]; exact Dy.rrst_any i a a1 a2 w
  have RB : ∀ c, Dy.sR j b = c → ∀ w : World, Calls Tryz.prog 34 #[.agg #[.int .i64 j, .int .i64 b]] w fun r' w' => r' = .returned (.bool c) ∧ Below w.heap.size w w' := fun c hc w => by rw [← hc]; exact Dy.rrst_any j b b1 b2 w
  rcases h with ⟨h, rfl, hs⟩ | ⟨rfl, rfl, h1, h2, hab, rfl, rfl, y, m, q, y2, m2, q2, hq, hq2, hM, rfl, rfl⟩ | ⟨rfl, rfl, h1, h2, hab, rfl, rfl, y, m, q, y2, m2, q2, hq, hq2, hM, rfl, rfl⟩
  · have SB := fun w => rsub17_any i a j b I D U E hs a1 a2 b1 b2 w
    by_cases h1 : Dy.sR i a = true
    · by_cases h2 : Dy.sR j b = true
      · by_cases h3 : i = 0
        · subst h3
          exact rage_s4 a j b I 0 D U E (fun q => h ⟨h1, h2, rfl, q⟩) (RA _ h1) (RB _ h2) SB w
        · exact rage_s3 i a j b I 0 D U E h3 (RA _ h1) (RB _ h2) SB w
      · exact rage_s2 i a j b I 0 D U E (RA _ h1) (RB _ (by simpa using h2)) SB w
    · exact rage_s1 i a j b I 0 D U E (RA _ (by simpa using h1)) SB w
  · exact rage_big a b y m q y2 m2 q2 hq hq2 h1 h2 hab M _ hM rfl w
  · have CC := fun w => Dy.rscmp_any 0 a 0 b a1 a2 b1 b2 w
    rw [cmp_right h1 h2, if_pos hab] at CC
    obtain ⟨k, hk⟩ : ∃ k, k = -M := ⟨_, rfl⟩
    have hMk : M = -k := by omega
    subst hMk
    rw [Int.neg_neg]
    have hk2 : k = gK b a (12 * y2 + m2 - 1) (12 * y + m - 1) q := by omega
    obtain ⟨k1, k2, n1, n2, _⟩ := gone_math hq2 hq h2 h1 (by omega)
    rw [← hk2] at k1 k2 n1 n2
    have NG := fun w => Sp.rpneg_any 0 k ((b - gX a (12 * y + m - 1) q k) / 86400000000) ((b - gX a (12 * y + m - 1) q k) % 86400000000) (by omega) (by omega) (by omega) (by omega) (by omega) (by omega) w
    unfold Sp.neg5 at NG
    rw [if_pos (pR_of ⟨by omega, by omega, by omega, by omega, by omega, by omega⟩), Int.neg_zero] at NG
    exact rage_lt a b (-1) 0 k _ _ 0 _ _ _ 0 (by decide) (RA _ h1) (RB _ h2) CC (fun w => rage_big b a y2 m2 q2 y m q hq2 hq h2 h1 (by omega) k _ hk2 rfl w) NG w

end Go.Proofs.YtigeccplombggaaGreatDoor
