/- reference 17: plus, date, Add, Sub whole. -/
import Derived.Test.YtigeccplombggaaGreatDoorStSq
import Derived.Test.YtigeccplombggaaGreatDoorStGq
namespace Go.Proofs.YtigeccplombggaaGreatDoor
open Go.RowKit
set_option linter.unusedVariables false

theorem rplus_any (i u n : Int) (u1 : -9223372036854775808 ≤ u) (u2 : u ≤ 9223372036854775807) (n1 : -9223372036854775808 ≤ n) (n2 : n ≤ 9223372036854775807) (w : World) :
    Calls Tryz.prog 48 #[.agg #[.int .i64 i, .int .i64 u], .int .i64 0, .int .i64 n] w fun r w' => r = .returned (.tuple #[.agg #[.int .i64 0, .int .i64 (moV u n)], .int .i64 (moE u n)]) ∧ Below w.heap.size w w' := by
  unfold moV moE
  by_cases h : -9223372036854775808 ≤ u + n ∧ u + n ≤ 9223372036854775807
  · have D : ∀ w : World, Calls Tryz.prog 91 #[.int .i64 u, .int .i64 n] w fun r w' => r = .returned (.tuple #[.int .i64 (u + n), .int .i64 0]) ∧ Below w.heap.size w w' := fun w => by
      have R := refadd_any u n u1 u2 n1 n2 w
      rw [smV_in h.1 h.2, smE_in h.1 h.2] at R
      exact R
    have RR : ∀ w : World, Calls Tryz.prog 34 #[.agg #[.int .i64 0, .int .i64 (u + n)]] w fun r w' => r = .returned (.bool (Dy.dok ((u + n) / 86400000000))) ∧ Below w.heap.size w w' := fun w => Dy.rrst_any 0 (u + n) h.1 h.2 w
    cases hd : Dy.dok ((u + n) / 86400000000)
    · rw [hd] at RR; rw [if_neg (by decide), if_neg (by decide)]; exact pl_r i u n (u + n) D RR w
    · rw [hd] at RR; rw [if_pos rfl, if_pos rfl]; exact pl_ok i u n (u + n) D RR w
  · have hd : ¬ Dy.dok ((u + n) / 86400000000) = true := fun q => h (dok_in q)
    rw [if_neg hd, if_neg hd]
    have R := fun w => refadd_any u n u1 u2 n1 n2 w
    have e10 : smE (u + n) ≠ 0 := by unfold smE; rw [if_neg h]; decide
    exact pl_f i u n _ _ e10 R w

theorem rdate_any (j u M D U y m q : Int) (hq : Cv.Is (u / 86400000000) y m q) (hu : Dy.dok (u / 86400000000) = true) (D1 : -9223372036854775808 ≤ D) (D2 : D ≤ 9223372036854775807) (w : World) :
    Calls Tryz.prog 47 #[.agg #[.int .i64 0, .int .i64 u], .agg #[.int .i64 j, .int .i64 M, .int .i64 D, .int .i64 U]] w fun r w' => r = .returned (.tuple #[.agg #[.int .i64 0, .int .i64 (if mdk (u / 86400000000) y m q M D = true then mdv u y m q M D else 0)], .int .i64 (if mdk (u / 86400000000) y m q M D = true then 0 else 10)]) ∧ Below w.heap.size w w' := by
  obtain ⟨u1, u2⟩ := dok_bd hu
  obtain ⟨s1, s2⟩ := us_bd u
  have OF : ∀ w : World, Calls Tryz.prog 58 #[.agg #[.int .i64 0, .int .i64 u]] w fun r' w' => r' = .returned (.tuple #[.agg #[.int .i64 0, .int .i64 (u / 86400000000)], .int .i64 (u % 86400000000), .int .i64 0]) ∧ Below w.heap.size w w' := fun w => by
    have R := Dy.srof_any 0 u u1 u2 w
    obtain ⟨a, b, c, d⟩ := of_right hu
    rw [a, b, c, d] at R
    exact R
  have AD : ∀ d, Dy.dok d = true → ∀ w : World, Calls Tryz.prog 90 #[.agg #[.int .i64 0, .int .i64 d], .int .i64 D] w fun r' w' => r' = .returned (.tuple #[.agg #[.int .i64 0, .int .i64 (if Dy.dok (d + D) = true then d + D else 0)], .int .i64 (if Dy.dok (d + D) = true then 0 else 10)]) ∧ Below w.heap.size w w' := fun d hd w => by
    have R := Dy.rdadd_any 0 d D D1 D2 w
    obtain ⟨a, b, c⟩ := add_right (n := D) hd
    rw [a, b, c] at R
    exact R
  have SM : ∀ d, Dy.dok d = true → ∀ w : World, Calls Tryz.prog 81 #[.agg #[.int .i64 0, .int .i64 d], .int .i64 (u % 86400000000)] w fun r' w' => r' = .returned (.tuple #[.agg #[.int .i64 0, .int .i64 (d * 86400000000 + u % 86400000000)], .int .i64 0]) ∧ Below w.heap.size w w' := fun d hd w => by
    have R := Dy.rstamp_any 0 d (u % 86400000000) w
    obtain ⟨a, b, c⟩ := st_right hd s1 s2
    rw [a, b, c] at R
    exact R
  unfold mdk mdv
  by_cases hM : M = 0
  · subst hM
    rw [show s1k y m q 0 = true from rfl, show s1v (u / 86400000000) y m q 0 = u / 86400000000 from rfl, Bool.true_and]
    have A := AD _ hu
    by_cases k : Dy.dok (u / 86400000000 + D) = true
    · rw [if_pos k, if_pos k] at A ⊢
      exact rd_zok j u D U _ _ 0 _ _ _ 0 OF A (SM _ k) w
    · rw [if_neg k, if_neg k] at A ⊢
      exact rd_zad j u D U _ _ 0 _ 0 0 10 (by decide) OF A w
  · have SH : ∀ w : World, Calls Tryz.prog 89 #[.agg #[.int .i64 0, .int .i64 (u / 86400000000)], .int .i64 M] w fun r' w' => r' = .returned (.tuple #[.agg #[.int .i64 0, .int .i64 (if s1k y m q M = true then Cvl.shV y m q M else 0)], .int .i64 (if s1k y m q M = true then 0 else 10)]) ∧ Below w.heap.size w w' := fun w => by
      have R := Dy.rshf_any 0 (u / 86400000000) M y m q hq w
      obtain ⟨a, b, c⟩ := shf_right (d := u / 86400000000) (y := y) (m := m) (q := q) hu hM
      rw [a, b, c] at R
      exact R
    by_cases k1 : s1k y m q M = true
    · have hd := s1_dok hu k1
      rw [if_pos k1, if_pos k1] at SH
      rw [show s1v (u / 86400000000) y m q M = Cvl.shV y m q M from if_neg hM] at hd ⊢
      rw [k1, Bool.true_and]
      have A := AD _ hd
      by_cases k : Dy.dok (Cvl.shV y m q M + D) = true
      · rw [if_pos k, if_pos k] at A ⊢
        exact rd_ok j u M D U _ _ _ _ _ _ 0 hM OF SH A (SM _ k) w
      · rw [if_neg k, if_neg k] at A ⊢
        exact rd_ad j u M D U _ _ _ _ 0 0 10 hM (by decide) OF SH A w
    · rw [if_neg k1, if_neg k1] at SH
      have k1' : s1k y m q M = false := by simpa using k1
      rw [k1', Bool.false_and, if_neg (by decide), if_neg (by decide)]
      exact rd_sh j u M D U _ _ _ 0 0 0 10 hM (by decide) OF SH w


theorem sR_inf {i u : Int} (h : Dy.sR i u = true) (hi : i ≠ 0) : u = 0 := by
  unfold Dy.sR at h
  rw [if_neg hi] at h
  exact (of_decide_eq_true h).2
theorem radd17_any (i u j m d n I V E : Int) (h : AddIs i u j m d n I V E) (u1 : -9223372036854775808 ≤ u) (u2 : u ≤ 9223372036854775807) (n1 : -9223372036854775808 ≤ n) (n2 : n ≤ 9223372036854775807) (w : World) :
    Calls Tryz.prog 18 #[.agg #[.int .i64 i, .int .i64 u], .agg #[.int .i64 j, .int .i64 m, .int .i64 d, .int .i64 n]] w fun r w' => r = .returned (.tuple #[.agg #[.int .i64 I, .int .i64 V], .int .i64 E]) ∧ Below w.heap.size w w' := by
  have RR : ∀ c, Dy.sR i u = c → ∀ w : World, Calls Tryz.prog 34 #[.agg #[.int .i64 i, .int .i64 u]] w fun r' w' => r' = .returned (.bool c) ∧ Below w.heap.size w w' := fun c hc w => by rw [← hc]; exact Dy.rrst_any i u u1 u2 w
  have PP : ∀ c, Sp.pR j m d n = c → ∀ w : World, Calls Tryz.prog 45 #[.agg #[.int .i64 j, .int .i64 m, .int .i64 d, .int .i64 n]] w fun r' w' => r' = .returned (.bool c) ∧ Below w.heap.size w w' := fun c hc w => by rw [← hc]; exact Sp.rpr_any j m d n n1 n2 w
  rcases h with ⟨h, rfl, rfl, rfl⟩ | ⟨h1, h2, h3, hI, rfl, hE⟩ | ⟨rfl, rfl, h1, h2, y, p, q, hq, rfl, rfl, rfl⟩
  · by_cases h1 : Dy.sR i u = true
    · have h2 : Sp.pR j m d n = false := by cases hp : Sp.pR j m d n; rfl; exact absurd ⟨h1, hp⟩ h
      exact radd_no2 i u j m d n (RR _ h1) (PP _ h2) w
    · exact radd_no1 i u j m d n (RR _ (by simpa using h1)) w
  · have i3 := inf3 h1
    have j3 := pinf3 h2
    have IN : ∀ w : World, Calls Tryz.prog 46 #[.agg #[.int .i64 i, .int .i64 u], .agg #[.int .i64 j, .int .i64 m, .int .i64 d, .int .i64 n]] w fun r' w' => r' = .returned (.tuple #[.agg #[.int .i64 I, .int .i64 0], .int .i64 E, .bool true]) ∧ Below w.heap.size w w' := fun w => by
      unfold tgI at hI
      unfold tgE at hE
      by_cases hi : i = 0
      · subst hi
        rw [if_pos rfl] at hI hE
        subst hI hE
        exact inf_s u _ m d n (fun e => h3 ⟨rfl, e⟩) w
      · have hu := sR_inf h1 hi
        subst hu
        rw [if_neg hi] at hI hE
        by_cases hj : j = 0
        · subst hj
          rw [if_neg (by omega)] at hI hE
          subst hI hE
          exact inf_t _ 0 m d n hi w
        · by_cases hij : i = j
          · subst hij
            rw [if_neg (by omega)] at hI hE
            subst hI hE
            exact inf_tt _ 0 m d n hi w
          · rw [if_pos (by omega)] at hI hE
            subst hI hE
            exact inf_bad i 0 j m d n hi hj hij w
    exact radd_inf i u j m d n I 0 E (RR _ h1) (PP _ h2) IN w
  · have b := pR_bd h2
    have MD := fun w => rdate_any 0 u m d n y p q hq h1 (by omega) (by omega) w
    have IN := fun w => inf_no u m d n w
    by_cases k : mdk (u / 86400000000) y p q m d = true
    · rw [if_pos k, if_pos k] at MD ⊢
      obtain ⟨v1, v2⟩ := dok_bd (mdv_dok k)
      exact radd_ok 0 u 0 m d n _ _ _ _ (RR _ h1) (PP _ h2) IN MD (fun w => rplus_any 0 _ n v1 v2 n1 n2 w) w
    · rw [if_neg k, if_neg k] at MD ⊢
      exact radd_ok 0 u 0 m d n 0 10 0 10 (RR _ h1) (PP _ h2) IN MD (fun w => pl_e 0 0 10 n _ _ (by decide) (fun w => refadd_any 0 n (by decide) (by decide) n1 n2 w) w) w

theorem rsub17_any (i a j b I D U E : Int) (h : SubIs i a j b I D U E) (a1 : -9223372036854775808 ≤ a) (a2 : a ≤ 9223372036854775807) (b1 : -9223372036854775808 ≤ b) (b2 : b ≤ 9223372036854775807) (w : World) :
    Calls Tryz.prog 22 #[.agg #[.int .i64 i, .int .i64 a], .agg #[.int .i64 j, .int .i64 b]] w fun r w' => r = .returned (.tuple #[.agg #[.int .i64 I, .int .i64 0, .int .i64 D, .int .i64 U], .int .i64 E]) ∧ Below w.heap.size w w' := by
  have RA : ∀ c, Dy.sR i a = c → ∀ w : World, Calls Tryz.prog 34 #[.agg #[.int .i64 i, .int .i64 a]] w fun r' w' => r' = .returned (.bool c) ∧ Below w.heap.size w w' := fun c hc w => by rw [← hc]; exact Dy.rrst_any i a a1 a2 w
  have RB : ∀ c, Dy.sR j b = c → ∀ w : World, Calls Tryz.prog 34 #[.agg #[.int .i64 j, .int .i64 b]] w fun r' w' => r' = .returned (.bool c) ∧ Below w.heap.size w w' := fun c hc w => by rw [← hc]; exact Dy.rrst_any j b b1 b2 w
  rcases h with ⟨h, rfl, rfl, rfl, rfl⟩ | ⟨h1, h2, h3, hI, rfl, rfl, hE⟩ | ⟨rfl, rfl, h1, h2, rfl, ⟨h4, rfl, rfl, rfl⟩ | ⟨h4, rfl, rfl, rfl⟩⟩
  · by_cases h1 : Dy.sR i a = true
    · have h2 : Dy.sR j b = false := by cases hp : Dy.sR j b; rfl; exact absurd ⟨h1, hp⟩ h
      exact rsb_no2 i a j b (RA _ h1) (RB _ h2) w
    · exact rsb_no1 i a j b (RA _ (by simpa using h1)) w
  · have i3 := inf3 h1
    have j3 := inf3 h2
    unfold tgI at hI
    unfold tgE at hE
    by_cases hi : i = 0
    · subst hi
      rw [if_pos rfl] at hI hE
      subst hI hE
      exact rsb_j a j b _ (fun e => h3 ⟨rfl, e⟩) (by unfold wrap64; omega) (RA _ h1) (RB _ h2) w
    · rw [if_neg hi] at hI hE
      by_cases hij : i = j
      · subst hij
        rw [if_pos rfl] at hI hE
        subst hI hE
        exact rsb_same i a b hi (RA _ h1) (RB _ h2) w
      · rw [if_neg (by omega)] at hI hE
        subst hI hE
        exact rsb_i _ a j b hi hij (RA _ h1) (RB _ h2) w
  · have NS := fun w => refsub_any a b a1 a2 b1 b2 w
    rcases smE_cases (a - b) with ⟨e, c1, c2, c3⟩ | ⟨e, -⟩
    · rw [e, c3] at NS
      obtain ⟨t1, t2, t3, t4⟩ := tdm_bd (a - b) c1 c2
      exact rsb_ok a b _ _ _ (by unfold wrap64; omega) rfl (RA _ h1) (RB _ h2) NS w
    · omega
  · have NS := fun w => refsub_any a b a1 a2 b1 b2 w
    rcases smE_cases (a - b) with ⟨e, -⟩ | ⟨e, -⟩
    · exact absurd e h4
    · rw [e] at NS
      exact rsb_e a b _ 10 (by decide) (RA _ h1) (RB _ h2) NS w

end Go.Proofs.YtigeccplombggaaGreatDoor
