/- stamp: Sub, monthOf, gone, Age whole. -/
import Derived.Test.YtigeccplombggaaGreatDoorStMq
import Derived.Test.YtigeccplombggaaGreatDoorSpYq
namespace Go.Proofs.YtigeccplombggaaGreatDoor
open Go.RowKit
set_option linter.unusedVariables false

/-- what comes of Sub (no months). -/
def SubIs (i a j b I D U E : Int) : Prop :=
  (¬ (Dy.sR i a = true ∧ Dy.sR j b = true) ∧ I = 0 ∧ D = 0 ∧ U = 0 ∧ E = 1) ∨
  (Dy.sR i a = true ∧ Dy.sR j b = true ∧ ¬ (i = 0 ∧ j = 0) ∧ I = tgI i (-j) ∧ D = 0 ∧ U = 0 ∧ E = tgE i (-j)) ∨
  (i = 0 ∧ j = 0 ∧ Dy.dok (a / 86400000000) = true ∧ Dy.dok (b / 86400000000) = true ∧ I = 0 ∧ ((smE (a - b) = 0 ∧ D = (a - b).tdiv 86400000000 ∧ U = (a - b).tmod 86400000000 ∧ E = 0) ∨ (smE (a - b) ≠ 0 ∧ D = 0 ∧ U = 0 ∧ E = 10)))
theorem sub_is (i a j b : Int) : ∃ I D U E, SubIs i a j b I D U E := by
  by_cases h : Dy.sR i a = true ∧ Dy.sR j b = true
  · by_cases h0 : i = 0 ∧ j = 0
    · obtain ⟨rfl, rfl⟩ := h0
      by_cases k : smE (a - b) = 0
      · exact ⟨_, _, _, _, .inr (.inr ⟨rfl, rfl, h.1, h.2, rfl, .inl ⟨k, rfl, rfl, rfl⟩⟩)⟩
      · exact ⟨_, _, _, _, .inr (.inr ⟨rfl, rfl, h.1, h.2, rfl, .inr ⟨k, rfl, rfl, rfl⟩⟩)⟩
    · exact ⟨_, _, _, _, .inr (.inl ⟨h.1, h.2, h0, rfl, rfl, rfl, rfl⟩)⟩
  · exact ⟨_, _, _, _, .inl ⟨h, rfl, rfl, rfl, rfl⟩⟩
theorem smE_cases (s : Int) : (smE s = 0 ∧ -9223372036854775808 ≤ s ∧ s ≤ 9223372036854775807 ∧ smV s = s) ∨ (smE s = 10 ∧ ¬ (-9223372036854775808 ≤ s ∧ s ≤ 9223372036854775807)) := by
  by_cases h : -9223372036854775808 ≤ s ∧ s ≤ 9223372036854775807
  · exact .inl ⟨smE_in h.1 h.2, h.1, h.2, smV_in h.1 h.2⟩
  · exact .inr ⟨by unfold smE; rw [if_neg h], h⟩
theorem tdm_bd (n : Int) (h1 : -9223372036854775808 ≤ n) (h2 : n ≤ 9223372036854775807) : -106751992 ≤ n.tdiv 86400000000 ∧ n.tdiv 86400000000 ≤ 106751992 ∧ -86400000000 < n.tmod 86400000000 ∧ n.tmod 86400000000 < 86400000000 := by
  have e := Int.mul_tdiv_add_tmod n 86400000000
  by_cases hn : 0 ≤ n
  · have := Int.tmod_nonneg (b := 86400000000) hn
    have := Int.tmod_lt_of_pos n (show (0:Int) < 86400000000 by decide)
    omega
  · have a1 : (-n).tmod 86400000000 = -(n.tmod 86400000000) := Int.neg_tmod ..
    have := Int.tmod_nonneg (a := -n) (b := 86400000000) (by omega)
    have := Int.tmod_lt_of_pos (-n) (show (0:Int) < 86400000000 by decide)
    omega
theorem kd_zero : kdV 0 = .iface 125 (.agg #[]) := rfl
theorem kd_ne {j : Int} (h : j ≠ 0) : kdV j = .iface 122 (.int .i64 j) := if_neg h

theorem ssub_any (i a j b I D U E : Int) (h : SubIs i a j b I D U E) (a1 : -9223372036854775808 ≤ a) (a2 : a ≤ 9223372036854775807) (b1 : -9223372036854775808 ≤ b) (b2 : b ≤ 9223372036854775807) (w : World) (hL : Cvl.Lens w) :
    Calls Tryz.prog 21 #[.agg #[.int .i64 i, .int .i64 a], .agg #[.int .i64 j, .int .i64 b]] w fun r w' => r = .returned (.tuple #[.agg #[.int .i64 I, .int .i64 0, .int .i64 D, .int .i64 U], .int .i64 E]) ∧ Below w.heap.size w w' := by
  have RA : ∀ c, Dy.sR i a = c → ∀ w : World, Cvl.Lens w → Calls Tryz.prog 30 #[.agg #[.int .i64 i, .int .i64 a]] w fun r' w' => r' = .returned (.bool c) ∧ Below w.heap.size w w' := fun c hc w hw => by rw [← hc]; exact Dy.rst_any i a a1 a2 w hw
  have RB : ∀ c, Dy.sR j b = c → ∀ w : World, Cvl.Lens w → Calls Tryz.prog 30 #[.agg #[.int .i64 j, .int .i64 b]] w fun r' w' => r' = .returned (.bool c) ∧ Below w.heap.size w w' := fun c hc w hw => by rw [← hc]; exact Dy.rst_any j b b1 b2 w hw
  rcases h with ⟨h, rfl, rfl, rfl, rfl⟩ | ⟨h1, h2, h3, rfl, rfl, rfl, rfl⟩ | ⟨rfl, rfl, h1, h2, rfl, h3⟩
  · by_cases h1 : Dy.sR i a = true
    · have h2 : Dy.sR j b = false := by cases hp : Dy.sR j b; rfl; exact absurd ⟨h1, hp⟩ h
      exact sub_no2 i a j b (RA _ h1) (RB _ h2) w (Dy.lens_of hL)
    · exact sub_no1 i a j b (RA _ (by simpa using h1)) w (Dy.lens_of hL)
  · have j3 := inf3 h2
    have nj3 : -j = -1 ∨ -j = 0 ∨ -j = 1 := by omega
    have TG := fun w => tog_any i (-j) (inf3 h1) nj3 w
    have hz := tg_zero (inf3 h1) nj3 (fun q => h3 ⟨q.1, by omega⟩)
    by_cases hj : j = 0
    · subst hj
      rw [Int.neg_zero] at TG hz ⊢
      rw [kd_zero] at TG
      have KB : ∀ w : World, Calls Tryz.prog 43 #[.int .i64 0] w fun r w' => r = .returned (.iface 125 (.agg #[])) ∧ Below w.heap.size w w' := fun w => kind_b 0 w
      rcases hz with k | k
      · exact sub_infiz i a b _ _ _ k (RA _ h1) (RB _ h2) (fun w => kind_b i w) KB (fun w => bturn_any w) TG w (Dy.lens_of hL)
      · by_cases k0 : tgI i 0 = 0
        · rw [k0] at TG ⊢
          exact sub_infez i a b _ _ k (RA _ h1) (RB _ h2) (fun w => kind_b i w) KB (fun w => bturn_any w) TG w (Dy.lens_of hL)
        · exact sub_infiz i a b _ _ _ k0 (RA _ h1) (RB _ h2) (fun w => kind_b i w) KB (fun w => bturn_any w) TG w (Dy.lens_of hL)
    · rw [kd_ne (show -j ≠ 0 by omega)] at TG
      have KB : ∀ w : World, Calls Tryz.prog 43 #[.int .i64 j] w fun r w' => r = .returned (.iface 122 (.int .i64 j)) ∧ Below w.heap.size w w' := fun w => by have := kind_b j w; rw [kd_ne hj] at this; exact this
      have TN : ∀ w : World, Calls Tryz.prog 82 #[.int .i64 j] w fun r w' => r = .returned (.iface 122 (.int .i64 (-j))) ∧ Below w.heap.size w w' := fun w => (eturn_any j (by omega) (by omega) w).mono (fun r w2 h => ⟨h.1, by rw [h.2]; exact Below.refl _ _⟩)
      rcases hz with k | k
      · exact sub_infin i a j b _ _ _ _ k (RA _ h1) (RB _ h2) (fun w => kind_b i w) KB TN TG w (Dy.lens_of hL)
      · by_cases k0 : tgI i (-j) = 0
        · rw [k0] at TG ⊢
          exact sub_infen i a j b _ _ _ k (RA _ h1) (RB _ h2) (fun w => kind_b i w) KB TN TG w (Dy.lens_of hL)
        · exact sub_infin i a j b _ _ _ _ k0 (RA _ h1) (RB _ h2) (fun w => kind_b i w) KB TN TG w (Dy.lens_of hL)
  · have TG := fun w => tog_any 0 0 (.inr (.inl rfl)) (.inr (.inl rfl)) w
    have KB : ∀ w : World, Calls Tryz.prog 43 #[.int .i64 0] w fun r w' => r = .returned (.iface 125 (.agg #[])) ∧ Below w.heap.size w w' := fun w => kind_b 0 w
    have NS := fun w => wsub_any a b a1 a2 b1 b2 w
    rcases h3 with ⟨e, rfl, rfl, rfl⟩ | ⟨e, rfl, rfl, rfl⟩
    · rcases smE_cases (a - b) with ⟨_, c1, c2, c3⟩ | ⟨c, _⟩
      · rw [e, c3] at NS
        obtain ⟨t1, t2, t3, t4⟩ := tdm_bd (a - b) c1 c2
        have hq : wrap64 ((a - b).tdiv 86400000000) = (a - b).tdiv 86400000000 := by unfold wrap64; omega
        have MK := fun w => Sp.pmake_any 0 ((a - b).tdiv 86400000000) ((a - b).tmod 86400000000) (by omega) (by omega) w
        obtain ⟨g1, g2, g3, g4⟩ := Sp.g_yes (m := 0) (d := (a - b).tdiv 86400000000) (u := (a - b).tmod 86400000000) (pR_of ⟨by omega, by omega, by omega, by omega, by omega, by omega⟩)
        rw [g1, g2, g3, g4] at MK
        exact sub_ok 0 a b (a - b) _ _ _ _ _ _ hq rfl _ (RA _ h1) (RB _ h2) (fun w => kind_b 0 w) KB (fun w => bturn_any w) TG NS MK w (Dy.lens_of hL)
      · omega
    · rcases smE_cases (a - b) with ⟨c, _⟩ | ⟨c, _⟩
      · exact absurd c e
      · rw [c] at NS
        exact sub_err 0 a b _ 10 _ (by decide) (RA _ h1) (RB _ h2) (fun w => kind_b 0 w) KB (fun w => bturn_any w) TG NS w (Dy.lens_of hL)

theorem mon_any (u y m q : Int) (hq : Cv.Is (u / 86400000000) y m q) (hu : Dy.dok (u / 86400000000) = true) (w : World) (hL : Cvl.Lens w) :
    Calls Tryz.prog 96 #[.agg #[.int .i64 0, .int .i64 u]] w fun r w' => r = .returned (.int .i64 (y * 12 + m)) ∧ Below w.heap.size w w' := by
  obtain ⟨u1, u2⟩ := dok_bd hu
  have OF : ∀ w : World, Cvl.Lens w → Calls Tryz.prog 84 #[.agg #[.int .i64 0, .int .i64 u]] w fun r' w' => r' = .returned (.tuple #[.agg #[.int .i64 0, .int .i64 (u / 86400000000)], .int .i64 (u % 86400000000), .int .i64 0]) ∧ Below w.heap.size w w' := fun w hw => by
    have R := Dy.sof_any 0 u u1 u2 w hw
    obtain ⟨a, b, c, d⟩ := of_right hu
    rw [a, b, c, d] at R
    exact R
  have hy := Dy.dok_year hq
  rw [hu] at hy
  have hy2 := of_decide_eq_true hy.symm
  exact mon_run 0 u _ _ 0 y m q 0 (by omega) (by omega) (by have := hq.1; omega) (by have := hq.2.1; omega) OF (fun w hw => Dy.parts_any 0 _ y m q 0 (.inr (.inr ⟨rfl, hu, hq, rfl⟩)) w hw) w (Dy.lens_of hL)

/-- how many months lie between; the stamp so many months on from b. -/
def gX (b T p k : Int) : Int := Sm.dk T p k * 86400000000 + b % 86400000000
def gK (a b T U p : Int) : Int := if gX b U p (T - U) ≤ a then T - U else T - U - 1
theorem gap_of {a b y m q y2 m2 q2 : Int} (ha : Cv.Is (a / 86400000000) y m q) (hb : Cv.Is (b / 86400000000) y2 m2 q2) : Sm.Gap (a / 86400000000) (b / 86400000000) (12 * y + m - 1) (12 * y2 + m2 - 1) q q2 := by
  obtain ⟨e1, e2, e3, _⟩ := Sm.is_T ha
  obtain ⟨f1, f2, f3, _⟩ := Sm.is_T hb
  exact ⟨e1, f1, e2, e3, f2, f3⟩
/-- all that is to be known of gone. -/
theorem gone_math {a b y m q y2 m2 q2 : Int} (ha : Cv.Is (a / 86400000000) y m q) (hb : Cv.Is (b / 86400000000) y2 m2 q2) (da : Dy.dok (a / 86400000000) = true) (db : Dy.dok (b / 86400000000) = true) (hab : b ≤ a) :
    let T := 12 * y + m - 1; let U := 12 * y2 + m2 - 1; let k := gK a b T U q2
    0 ≤ k ∧ k ≤ 4000000 ∧ 0 ≤ a - gX b U q2 k ∧ a - gX b U q2 k ≤ 64 * 86400000000 ∧ s1k y2 m2 q2 k = true ∧ s1v (b / 86400000000) y2 m2 q2 k = Sm.dk U q2 k ∧ Dy.dok (Sm.dk U q2 k) = true ∧
      0 ≤ T - U ∧ s1k y2 m2 q2 (T - U) = true ∧ s1v (b / 86400000000) y2 m2 q2 (T - U) = Sm.dk U q2 (T - U) ∧ Dy.dok (Sm.dk U q2 (T - U)) = true := by
  intro T U k
  have G := gap_of ha hb
  have hTU : U ≤ T := G.le (by omega)
  have ya := Dy.dok_year ha
  have yb := Dy.dok_year hb
  rw [da] at ya
  rw [db] at yb
  have ya2 := of_decide_eq_true ya.symm
  have yb2 := of_decide_eq_true yb.symm
  have m1 := ha.1
  have m2' := ha.2.1
  have n1 := hb.1
  have n2 := hb.2.1
  have usb := us_bd b
  have usa := us_bd a
  have S0 := Sm.s1_eq (k := T - U) hb (by omega) (by omega)
  have dk0 := s1_dok db S0.1
  rw [S0.2] at dk0
  by_cases hX : gX b U q2 (T - U) ≤ a
  · have hk : k = T - U := if_pos hX
    rw [hk]
    have g : -31 ≤ a / 86400000000 - Sm.dk U q2 (T - U) ∧ a / 86400000000 - Sm.dk U q2 (T - U) ≤ 31 := G.same
    refine ⟨by omega, by omega, by omega, ?_, S0.1, S0.2, dk0, by omega, S0.1, S0.2, dk0⟩
    unfold gX at hX ⊢
    omega
  · have hk : k = T - U - 1 := if_neg hX
    rw [hk]
    have g : 0 < a / 86400000000 - Sm.dk U q2 (T - U - 1) ∧ a / 86400000000 - Sm.dk U q2 (T - U - 1) ≤ 62 := G.prev
    have hne : T ≠ U := fun e => by
      have e2 : Sm.dk U q2 (T - U) = b / 86400000000 := by rw [e, Int.sub_self, Sm.dk_zero G.p2]; exact G.hb.symm
      unfold gX at hX
      rw [e2] at hX
      omega
    have S1 := Sm.s1_eq (k := T - U - 1) hb (by omega) (by omega)
    have dk1 := s1_dok db S1.1
    rw [S1.2] at dk1
    refine ⟨by omega, by omega, ?_, ?_, S1.1, S1.2, dk1, by omega, S0.1, S0.2, dk0⟩
    · unfold gX; omega
    · unfold gX; omega
theorem dk_div (T p k b : Int) : gX b T p k / 86400000000 = Sm.dk T p k := by unfold gX; have := us_bd b; omega
theorem mo_zero {v : Int} (h : Dy.dok (v / 86400000000) = true) : moV v 0 = v ∧ moE v 0 = 0 := by
  unfold moV moE; rw [Int.add_zero, if_pos h, if_pos h]; exact ⟨rfl, rfl⟩
/-- so many months on, alone. -/
theorem addM_is {b y2 m2 q2 k T : Int} (hb : Cv.Is (b / 86400000000) y2 m2 q2) (db : Dy.dok (b / 86400000000) = true) (k1 : s1k y2 m2 q2 k = true) (k2 : s1v (b / 86400000000) y2 m2 q2 k = Sm.dk T q2 k) (k3 : Dy.dok (Sm.dk T q2 k) = true) (b1 : -2147483647 ≤ k) (b2 : k ≤ 2147483647) :
    AddIs 0 b 0 k 0 0 0 (gX b T q2 k) 0 := by
  refine .inr (.inr ⟨rfl, rfl, db, pR_of ⟨b1, b2, by omega, by omega, by omega, by omega⟩, y2, m2, q2, hb, rfl, ?_, ?_⟩)
  · have e : mdk (b / 86400000000) y2 m2 q2 k 0 = true := by unfold mdk; rw [k1, k2, Int.add_zero, k3]; rfl
    rw [if_pos e]
    have ev : mdv b y2 m2 q2 k 0 = gX b T q2 k := by unfold mdv gX; rw [k2, Int.add_zero]
    rw [ev]
    exact ((mo_zero (by rw [dk_div]; exact k3)).1).symm
  · have e : mdk (b / 86400000000) y2 m2 q2 k 0 = true := by unfold mdk; rw [k1, k2, Int.add_zero, k3]; rfl
    rw [if_pos e]
    have ev : mdv b y2 m2 q2 k 0 = gX b T q2 k := by unfold mdv gX; rw [k2, Int.add_zero]
    rw [ev]
    exact ((mo_zero (by rw [dk_div]; exact k3)).2).symm
theorem cmp_right {x a : Int} (hx : Dy.dok (x / 86400000000) = true) (ha : Dy.dok (a / 86400000000) = true) : Dy.spV 0 x 0 a = (if x < a then -1 else if a < x then 1 else 0) := by
  unfold Dy.spV Dy.ordV
  rw [if_pos ⟨hx, ha⟩]
  simp

theorem gone_any (a b y m q y2 m2 q2 : Int) (ha : Cv.Is (a / 86400000000) y m q) (hb : Cv.Is (b / 86400000000) y2 m2 q2) (da : Dy.dok (a / 86400000000) = true) (db : Dy.dok (b / 86400000000) = true) (hab : b ≤ a) (k n : Int) (hk : k = gK a b (12 * y + m - 1) (12 * y2 + m2 - 1) q2) (hn : n = a - gX b (12 * y2 + m2 - 1) q2 k) (w : World) (hL : Cvl.Lens w) :
    Calls Tryz.prog 54 #[.agg #[.int .i64 0, .int .i64 a], .agg #[.int .i64 0, .int .i64 b]] w fun r w' => r = .returned (.tuple #[.agg #[.int .i64 0, .int .i64 k, .int .i64 (n / 86400000000), .int .i64 (n % 86400000000)], .int .i64 0]) ∧ Below w.heap.size w w' := by
  obtain ⟨k1, k2, n1, n2, s1, s2, s3, t0, t1, t2, t3⟩ := gone_math ha hb da db hab
  rw [← hk] at k1 k2 n1 n2 s1 s2 s3
  rw [← hn] at n1 n2
  obtain ⟨a1, a2⟩ := dok_bd da
  obtain ⟨b1, b2⟩ := dok_bd db
  have ya := Dy.dok_year ha
  have yb := Dy.dok_year hb
  rw [da] at ya
  rw [db] at yb
  have ya2 := of_decide_eq_true ya.symm
  have yb2 := of_decide_eq_true yb.symm
  have m1 := ha.1
  have m2' := ha.2.1
  have l1 := hb.1
  have l2 := hb.2.1
  have eT : y * 12 + m - (y2 * 12 + m2) = 12 * y + m - 1 - (12 * y2 + m2 - 1) := by omega
  have dX0 : Dy.dok (gX b (12 * y2 + m2 - 1) q2 (y * 12 + m - (y2 * 12 + m2)) / 86400000000) = true := by rw [dk_div, eT]; exact t3
  have dXk : Dy.dok (gX b (12 * y2 + m2 - 1) q2 k / 86400000000) = true := by rw [dk_div]; exact s3
  obtain ⟨x1, x2⟩ := dok_bd dX0
  obtain ⟨z1, z2⟩ := dok_bd dXk
  have MA := fun w hw => mon_any a y m q ha da w hw
  have MB := fun w hw => mon_any b y2 m2 q2 hb db w hw
  have AA : ∀ w : World, Cvl.Lens w → Calls Tryz.prog 17 #[.agg #[.int .i64 0, .int .i64 b], .agg #[.int .i64 0, .int .i64 (y * 12 + m - (y2 * 12 + m2)), .int .i64 0, .int .i64 0]] w fun r' w' => r' = .returned (.tuple #[.agg #[.int .i64 0, .int .i64 (gX b (12 * y2 + m2 - 1) q2 (y * 12 + m - (y2 * 12 + m2)))], .int .i64 0]) ∧ Below w.heap.size w w' := fun w hw => sadd_any 0 b 0 _ 0 0 0 _ 0 (addM_is hb db (by rw [eT]; exact t1) (by rw [eT]; exact t2) (by rw [eT]; exact t3) (by omega) (by omega)) b1 b2 (by decide) (by decide) w hw
  have CC := fun w hw => Dy.scmp_any 0 (gX b (12 * y2 + m2 - 1) q2 (y * 12 + m - (y2 * 12 + m2))) 0 a x1 x2 a1 a2 w hw
  rw [cmp_right dX0 da] at CC
  have hsm : smE (a - gX b (12 * y2 + m2 - 1) q2 k) = 0 := by rw [← hn]; exact smE_in (by omega) (by omega)
  have hdiv : (a - gX b (12 * y2 + m2 - 1) q2 k).tdiv 86400000000 = n / 86400000000 := by rw [← hn]; exact Int.tdiv_eq_ediv_of_nonneg n1
  have hmod : (a - gX b (12 * y2 + m2 - 1) q2 k).tmod 86400000000 = n % 86400000000 := by rw [← hn]; exact Int.tmod_eq_emod_of_nonneg n1
  have SB : ∀ w : World, Cvl.Lens w → Calls Tryz.prog 21 #[.agg #[.int .i64 0, .int .i64 a], .agg #[.int .i64 0, .int .i64 (gX b (12 * y2 + m2 - 1) q2 k)]] w fun r' w' => r' = .returned (.tuple #[.agg #[.int .i64 0, .int .i64 0, .int .i64 (n / 86400000000), .int .i64 (n % 86400000000)], .int .i64 0]) ∧ Below w.heap.size w w' := fun w hw => ssub_any 0 a 0 _ 0 _ _ 0 (.inr (.inr ⟨rfl, rfl, da, dXk, rfl, .inl ⟨hsm, hdiv.symm, hmod.symm, rfl⟩⟩)) a1 a2 z1 z2 w hw
  have MK := fun w => Sp.pmake_any k (n / 86400000000) (n % 86400000000) (by omega) (by omega) w
  obtain ⟨g1, g2, g3, g4⟩ := Sp.g_yes (m := k) (d := n / 86400000000) (u := n % 86400000000) (pR_of ⟨by omega, by omega, by omega, by omega, by omega, by omega⟩)
  rw [g1, g2, g3, g4] at MK
  by_cases hX : gX b (12 * y2 + m2 - 1) q2 (12 * y + m - 1 - (12 * y2 + m2 - 1)) ≤ a
  · have hk0 : k = y * 12 + m - (y2 * 12 + m2) := by rw [hk, eT]; exact if_pos hX
    subst hk0
    rw [if_neg (show ¬ a < gX b (12 * y2 + m2 - 1) q2 (y * 12 + m - (y2 * 12 + m2)) by rw [eT]; omega)] at CC
    exact gone_le a b _ _ _ _ 0 _ _ _ _ _ _ (by omega) (by omega) (by omega) (by omega) (by split <;> decide) MA MB AA CC SB MK w (Dy.lens_of hL)
  · have hk0 : k = y * 12 + m - (y2 * 12 + m2) - 1 := by rw [hk, eT]; exact if_neg hX
    subst hk0
    have hX2 : a < gX b (12 * y2 + m2 - 1) q2 (y * 12 + m - (y2 * 12 + m2)) := by rw [eT]; omega
    rw [if_neg (by omega), if_pos hX2] at CC
    have AB : ∀ w : World, Cvl.Lens w → Calls Tryz.prog 17 #[.agg #[.int .i64 0, .int .i64 b], .agg #[.int .i64 0, .int .i64 (y * 12 + m - (y2 * 12 + m2) - 1), .int .i64 0, .int .i64 0]] w fun r' w' => r' = .returned (.tuple #[.agg #[.int .i64 0, .int .i64 (gX b (12 * y2 + m2 - 1) q2 (y * 12 + m - (y2 * 12 + m2) - 1))], .int .i64 0]) ∧ Below w.heap.size w w' := fun w hw => sadd_any 0 b 0 _ 0 0 0 _ 0 (addM_is hb db s1 s2 s3 (by omega) (by omega)) b1 b2 (by decide) (by decide) w hw
    exact gone_gt a b _ _ _ _ _ _ _ _ _ _ _ (by omega) (by omega) (by omega) (by omega) (by decide) MA MB AA CC AB SB MK w (Dy.lens_of hL)

end Go.Proofs.YtigeccplombggaaGreatDoor
