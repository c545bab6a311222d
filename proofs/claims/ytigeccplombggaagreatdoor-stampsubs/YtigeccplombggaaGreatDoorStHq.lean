/- stamp.Age whole. -/
import Derived.Test.YtigeccplombggaaGreatDoorStGq
namespace Go.Proofs.YtigeccplombggaaGreatDoor
open Go.RowKit
set_option linter.unusedVariables false

/-- what comes of Age. -/
def AgeIs (i a j b I M D U E : Int) : Prop :=
  (¬ (Dy.sR i a = true ∧ Dy.sR j b = true ∧ i = 0 ∧ j = 0) ∧ M = 0 ∧ SubIs i a j b I D U E) ∨
  (i = 0 ∧ j = 0 ∧ Dy.dok (a / 86400000000) = true ∧ Dy.dok (b / 86400000000) = true ∧ b ≤ a ∧ I = 0 ∧ E = 0 ∧ ∃ y m q y2 m2 q2, Cv.Is (a / 86400000000) y m q ∧ Cv.Is (b / 86400000000) y2 m2 q2 ∧ M = gK a b (12 * y + m - 1) (12 * y2 + m2 - 1) q2 ∧ D = (a - gX b (12 * y2 + m2 - 1) q2 M) / 86400000000 ∧ U = (a - gX b (12 * y2 + m2 - 1) q2 M) % 86400000000) ∨
  (i = 0 ∧ j = 0 ∧ Dy.dok (a / 86400000000) = true ∧ Dy.dok (b / 86400000000) = true ∧ a < b ∧ I = 0 ∧ E = 0 ∧ ∃ y m q y2 m2 q2, Cv.Is (a / 86400000000) y m q ∧ Cv.Is (b / 86400000000) y2 m2 q2 ∧ M = -gK b a (12 * y2 + m2 - 1) (12 * y + m - 1) q ∧ D = -((b - gX a (12 * y + m - 1) q (-M)) / 86400000000) ∧ U = -((b - gX a (12 * y + m - 1) q (-M)) % 86400000000))
theorem age_is (i a j b : Int) : ∃ I M D U E, AgeIs i a j b I M D U E := by
  by_cases h : Dy.sR i a = true ∧ Dy.sR j b = true ∧ i = 0 ∧ j = 0
  · obtain ⟨h1, h2, rfl, rfl⟩ := h
    obtain ⟨y, m, q, hq⟩ := Cv.is_date (a / 86400000000)
    obtain ⟨y2, m2, q2, hq2⟩ := Cv.is_date (b / 86400000000)
    by_cases hab : b ≤ a
    · exact ⟨_, _, _, _, _, .inr (.inl ⟨rfl, rfl, h1, h2, hab, rfl, rfl, y, m, q, y2, m2, q2, hq, hq2, rfl, rfl, rfl⟩)⟩
    · exact ⟨_, _, _, _, _, .inr (.inr ⟨rfl, rfl, h1, h2, by omega, rfl, rfl, y, m, q, y2, m2, q2, hq, hq2, rfl, rfl, rfl⟩)⟩
  · obtain ⟨I, D, U, E, hs⟩ := sub_is i a j b
    exact ⟨I, 0, D, U, E, .inl ⟨h, rfl, hs⟩⟩

theorem sage_any (i a j b I M D U E : Int) (h : AgeIs i a j b I M D U E) (a1 : -9223372036854775808 ≤ a) (a2 : a ≤ 9223372036854775807) (b1 : -9223372036854775808 ≤ b) (b2 : b ≤ 9223372036854775807) (w : World) (hL : Cvl.Lens w) :
    Calls Tryz.prog 23 #[.agg #[.int .i64 i, .int .i64 a], .agg #[.int .i64 j, .int .i64 b]] w fun r w' => r = .returned (.tuple #[.agg #[.int .i64 I, .int .i64 M, .int .i64 D, .int .i64 U], .int .i64 E]) ∧ Below w.heap.size w w' := by
  have RA : ∀ c, Dy.sR i a = c → ∀ w : World, Cvl.Lens w → Calls Tryz.prog 30 #[.agg #[.int .i64 i, .int .i64 a]] w fun r' w' => r' = .returned (.bool c) ∧ Below w.heap.size w w' := fun c hc w hw => by rw [← hc]; exact Dy.rst_any i a a1 a2 w hw
  have RB : ∀ c, Dy.sR j b = c → ∀ w : World, Cvl.Lens w → Calls Tryz.prog 30 #[.agg #[.int .i64 j, .int .i64 b]] w fun r' w' => r' = .returned (.bool c) ∧ Below w.heap.size w w' := fun c hc w hw => by rw [← hc]; exact Dy.rst_any j b b1 b2 w hw
  rcases h with ⟨h, rfl, hs⟩ | ⟨rfl, rfl, h1, h2, hab, rfl, rfl, y, m, q, y2, m2, q2, hq, hq2, hM, rfl, rfl⟩ | ⟨rfl, rfl, h1, h2, hab, rfl, rfl, y, m, q, y2, m2, q2, hq, hq2, hM, rfl, rfl⟩
  · have SB := fun w hw => ssub_any i a j b I D U E hs a1 a2 b1 b2 w hw
    by_cases h1 : Dy.sR i a = true
    · by_cases h2 : Dy.sR j b = true
      · by_cases h3 : i = 0
        · subst h3
          exact age_s4 a j b I 0 D U E (fun q => h ⟨h1, h2, rfl, q⟩) (RA _ h1) (RB _ h2) SB w (Dy.lens_of hL)
        · exact age_s3 i a j b I 0 D U E h3 (RA _ h1) (RB _ h2) SB w (Dy.lens_of hL)
      · exact age_s2 i a j b I 0 D U E (RA _ h1) (RB _ (by simpa using h2)) SB w (Dy.lens_of hL)
    · exact age_s1 i a j b I 0 D U E (RA _ (by simpa using h1)) SB w (Dy.lens_of hL)
  · have CC := fun w hw => Dy.scmp_any 0 a 0 b a1 a2 b1 b2 w hw
    rw [cmp_right h1 h2, if_neg (by omega)] at CC
    exact age_ge a b _ 0 _ _ _ 0 (by split <;> decide) (RA _ h1) (RB _ h2) CC (fun w hw => gone_any a b y m q y2 m2 q2 hq hq2 h1 h2 hab M _ hM rfl w hw) w (Dy.lens_of hL)
  · have CC := fun w hw => Dy.scmp_any 0 a 0 b a1 a2 b1 b2 w hw
    rw [cmp_right h1 h2, if_pos hab] at CC
    obtain ⟨k, hk⟩ : ∃ k, k = -M := ⟨_, rfl⟩
    have hMk : M = -k := by omega
    subst hMk
    rw [Int.neg_neg]
    have hk2 : k = gK b a (12 * y2 + m2 - 1) (12 * y + m - 1) q := by omega
    obtain ⟨k1, k2, n1, n2, _⟩ := gone_math hq2 hq h2 h1 (by omega)
    rw [← hk2] at k1 k2 n1 n2
    have NG := fun w => Sp.pneg_any 0 k ((b - gX a (12 * y + m - 1) q k) / 86400000000) ((b - gX a (12 * y + m - 1) q k) % 86400000000) (by omega) (by omega) (by omega) (by omega) (by omega) (by omega) w
    unfold Sp.neg5 at NG
    rw [if_pos (pR_of ⟨by omega, by omega, by omega, by omega, by omega, by omega⟩), Int.neg_zero] at NG
    exact age_lt a b (-1) 0 k _ _ 0 _ _ _ 0 (by decide) (RA _ h1) (RB _ h2) CC (fun w hw => gone_any b a y2 m2 q2 y m q hq2 hq h2 h1 (by omega) k _ hk2 rfl w hw) NG w (Dy.lens_of hL)

end Go.Proofs.YtigeccplombggaaGreatDoor
