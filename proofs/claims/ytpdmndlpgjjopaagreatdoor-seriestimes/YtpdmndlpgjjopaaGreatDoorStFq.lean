/- stamp: moveDays, monthOf, Add, Sub whole. -/
import Derived.Test.YtpdmndlpgjjopaaGreatDoorStCq
namespace Go.Proofs.YtpdmndlpgjjopaaGreatDoor
open Go.RowKit
set_option linter.unusedVariables false

/-- the day so many months on; whether it can be; so many days on besides. -/
def s1v (d y m q M : Int) : Int := if M = 0 then d else Cvl.shV y m q M
def s1k (y m q M : Int) : Bool := if M = 0 then true else (decide (Cvl.shE y m q M = 0) && Dy.dok (Cvl.shV y m q M))
def mdk (d y m q M D : Int) : Bool := s1k y m q M && Dy.dok (s1v d y m q M + D)
def mdv (u y m q M D : Int) : Int := (s1v (u / 86400000000) y m q M + D) * 86400000000 + u % 86400000000
theorem o_sum (s : Int) : Dy.oV (smV s) (smE s) = (if Dy.dok s = true then s else 0) ∧ Dy.oE (smV s) (smE s) = (if Dy.dok s = true then 0 else 10) := by
  by_cases h : -9223372036854775808 ≤ s ∧ s ≤ 9223372036854775807
  · rw [smV_in h.1 h.2, smE_in h.1 h.2]
    unfold Dy.oV Dy.oE
    by_cases k : Dy.dok s = true
    · exact ⟨(if_pos ⟨rfl, k⟩).trans (if_pos k).symm, (if_pos ⟨rfl, k⟩).trans (if_pos k).symm⟩
    · exact ⟨(if_neg (fun q => k q.2)).trans (if_neg k).symm, (if_neg (fun q => k q.2)).trans (if_neg k).symm⟩
  · have k : ¬ Dy.dok s = true := fun q => h (by have := Dy.dok_yes q; omega)
    have e : smE s ≠ 0 := by unfold smE; rw [if_neg h]; decide
    unfold Dy.oV Dy.oE
    exact ⟨(if_neg (fun q => e q.1)).trans (if_neg k).symm, (if_neg (fun q => e q.1)).trans (if_neg k).symm⟩
theorem of_right {u : Int} (h : Dy.dok (u / 86400000000) = true) : Dy.ofI 0 u = 0 ∧ Dy.ofD 0 u = u / 86400000000 ∧ Dy.ofU 0 u = u % 86400000000 ∧ Dy.ofE 0 u = 0 := by
  have k : Dy.sR 0 u = true := h
  exact ⟨if_pos k, if_pos ⟨k, rfl⟩, if_pos ⟨k, rfl⟩, if_pos k⟩
theorem st_right {d us : Int} (h : Dy.dok d = true) (h0 : 0 ≤ us) (h1 : us < 86400000000) : Dy.stI 0 d us = 0 ∧ Dy.stV 0 d us = d * 86400000000 + us ∧ Dy.stE 0 d us = 0 :=
  Dy.st_in ⟨h, h0, by omega⟩ (by rw [show (d * 86400000000 + us) / 86400000000 = d by omega]; exact h)
theorem add_right {d n : Int} (h : Dy.dok d = true) : Dy.mvI 0 d = 0 ∧ Dy.mvV 0 d (smV (d + n)) (smE (d + n)) = (if Dy.dok (d + n) = true then d + n else 0) ∧ Dy.mvE 0 d (smV (d + n)) (smE (d + n)) = (if Dy.dok (d + n) = true then 0 else 10) := by
  obtain ⟨a, b, c⟩ := Dy.mv_yes (show Dy.dR 0 d = true from h) (smV (d + n)) (smE (d + n))
  rw [a, b, c, (o_sum (d + n)).1, (o_sum (d + n)).2]
  exact ⟨rfl, rfl, rfl⟩
theorem shf_right {d y m q n : Int} (h : Dy.dok d = true) (hn : n ≠ 0) : Dy.mvI 0 d = 0 ∧ Dy.mvV 0 d (Cvl.shV y m q n) (Cvl.shE y m q n) = (if s1k y m q n = true then Cvl.shV y m q n else 0) ∧ Dy.mvE 0 d (Cvl.shV y m q n) (Cvl.shE y m q n) = (if s1k y m q n = true then 0 else 10) := by
  obtain ⟨a, b, c⟩ := Dy.mv_yes (show Dy.dR 0 d = true from h) (Cvl.shV y m q n) (Cvl.shE y m q n)
  have e : s1k y m q n = true ↔ (Cvl.shE y m q n = 0 ∧ Dy.dok (Cvl.shV y m q n) = true) := by unfold s1k; rw [if_neg hn]; simp
  rw [a, b, c]
  unfold Dy.oV Dy.oE
  by_cases k : s1k y m q n = true
  · exact ⟨rfl, (if_pos (e.1 k)).trans (if_pos k).symm, (if_pos (e.1 k)).trans (if_pos k).symm⟩
  · exact ⟨rfl, (if_neg (fun z => k (e.2 z))).trans (if_neg k).symm, (if_neg (fun z => k (e.2 z))).trans (if_neg k).symm⟩
theorem s1_dok {d y m q M : Int} (h : Dy.dok d = true) (k : s1k y m q M = true) : Dy.dok (s1v d y m q M) = true := by
  unfold s1k at k
  unfold s1v
  by_cases hM : M = 0
  · rw [if_pos hM]; exact h
  · rw [if_neg hM] at k ⊢
    simp at k
    exact k.2
theorem us_bd (u : Int) : 0 ≤ u % 86400000000 ∧ u % 86400000000 < 86400000000 := ⟨Int.emod_nonneg _ (by decide), Int.emod_lt_of_pos _ (by decide)⟩
theorem dok_bd {u : Int} (h : Dy.dok (u / 86400000000) = true) : -9223372036854775808 ≤ u ∧ u ≤ 9223372036854775807 := by have := Dy.dok_yes h; omega

theorem moved_any (j u M D U y m q : Int) (hq : Cv.Is (u / 86400000000) y m q) (hu : Dy.dok (u / 86400000000) = true) (D1 : -9223372036854775808 ≤ D) (D2 : D ≤ 9223372036854775807) (w : World) (hL : Cvl.Lens w) :
    Calls Tryz.prog 79 #[.agg #[.int .i64 0, .int .i64 u], .agg #[.int .i64 j, .int .i64 M, .int .i64 D, .int .i64 U]] w fun r w' => r = .returned (.tuple #[.agg #[.int .i64 0, .int .i64 (if mdk (u / 86400000000) y m q M D = true then mdv u y m q M D else 0)], .int .i64 (if mdk (u / 86400000000) y m q M D = true then 0 else 10)]) ∧ Below w.heap.size w w' := by
  obtain ⟨u1, u2⟩ := dok_bd hu
  obtain ⟨s1, s2⟩ := us_bd u
  have OF : ∀ w : World, Cvl.Lens w → Calls Tryz.prog 98 #[.agg #[.int .i64 0, .int .i64 u]] w fun r' w' => r' = .returned (.tuple #[.agg #[.int .i64 0, .int .i64 (u / 86400000000)], .int .i64 (u % 86400000000), .int .i64 0]) ∧ Below w.heap.size w w' := fun w hw => by
    have R := Dy.sof_any 0 u u1 u2 w hw
    obtain ⟨a, b, c, d⟩ := of_right hu
    rw [a, b, c, d] at R
    exact R
  have AD : ∀ d, Dy.dok d = true → ∀ w : World, Cvl.Lens w → Calls Tryz.prog 100 #[.agg #[.int .i64 0, .int .i64 d], .int .i64 D] w fun r' w' => r' = .returned (.tuple #[.agg #[.int .i64 0, .int .i64 (if Dy.dok (d + D) = true then d + D else 0)], .int .i64 (if Dy.dok (d + D) = true then 0 else 10)]) ∧ Below w.heap.size w w' := fun d hd w hw => by
    have R := Dy.dadd_any 0 d D D1 D2 w hw
    obtain ⟨a, b, c⟩ := add_right (n := D) hd
    rw [a, b, c] at R
    exact R
  have SM : ∀ d, Dy.dok d = true → ∀ w : World, Cvl.Lens w → Calls Tryz.prog 101 #[.agg #[.int .i64 0, .int .i64 d], .int .i64 (u % 86400000000)] w fun r' w' => r' = .returned (.tuple #[.agg #[.int .i64 0, .int .i64 (d * 86400000000 + u % 86400000000)], .int .i64 0]) ∧ Below w.heap.size w w' := fun d hd w hw => by
    have R := Dy.stamp_any 0 d (u % 86400000000) w hw
    obtain ⟨a, b, c⟩ := st_right hd s1 s2
    rw [a, b, c] at R
    exact R
  unfold mdk mdv
  by_cases hM : M = 0
  · subst hM
    rw [show s1k y m q 0 = true from rfl, show s1v (u / 86400000000) y m q 0 = u / 86400000000 from rfl, Bool.true_and]
    have A := AD _ hu
    by_cases k : Dy.dok (u / 86400000000 + D) = true
    · rw [if_pos k, if_pos k] at A ⊢
      exact md_zok j u D U _ _ 0 _ _ _ 0 OF A (SM _ k) w (Dy.lens_of hL)
    · rw [if_neg k, if_neg k] at A ⊢
      exact md_zad j u D U _ _ 0 _ 0 0 10 (by decide) OF A w (Dy.lens_of hL)
  · have SH : ∀ w : World, Cvl.Lens w → Calls Tryz.prog 99 #[.agg #[.int .i64 0, .int .i64 (u / 86400000000)], .int .i64 M] w fun r' w' => r' = .returned (.tuple #[.agg #[.int .i64 0, .int .i64 (if s1k y m q M = true then Cvl.shV y m q M else 0)], .int .i64 (if s1k y m q M = true then 0 else 10)]) ∧ Below w.heap.size w w' := fun w hw => by
      have R := Dy.dshift_any 0 (u / 86400000000) M y m q hq w hw
      obtain ⟨a, b, c⟩ := shf_right (d := u / 86400000000) (y := y) (m := m) (q := q) hu hM
      rw [a, b, c] at R
      exact R
    by_cases k1 : s1k y m q M = true
    · have hd := s1_dok hu k1
      rw [if_pos k1, if_pos k1] at SH
      rw [show s1v (u / 86400000000) y m q M = Cvl.shV y m q M from if_neg hM] at hd ⊢
      rw [k1, Bool.true_and]
      have A := AD _ hd
      by_cases k : Dy.dok (Cvl.shV y m q M + D) = true
      · rw [if_pos k, if_pos k] at A ⊢
        exact md_ok j u M D U _ _ _ _ _ _ 0 hM OF SH A (SM _ k) w (Dy.lens_of hL)
      · rw [if_neg k, if_neg k] at A ⊢
        exact md_ad j u M D U _ _ _ _ 0 0 10 hM (by decide) OF SH A w (Dy.lens_of hL)
    · rw [if_neg k1, if_neg k1] at SH
      have k1' : s1k y m q M = false := by simpa using k1
      rw [k1', Bool.false_and, if_neg (by decide), if_neg (by decide)]
      exact md_sh j u M D U _ _ _ 0 0 0 10 hM (by decide) OF SH w (Dy.lens_of hL)

/-- what comes of Add. -/
def AddIs (i u j m d n I V E : Int) : Prop :=
  (¬ (Dy.sR i u = true ∧ Sp.pR j m d n = true) ∧ I = 0 ∧ V = 0 ∧ E = 1) ∨
  (Dy.sR i u = true ∧ Sp.pR j m d n = true ∧ ¬ (i = 0 ∧ j = 0) ∧ I = tgI i j ∧ V = 0 ∧ E = tgE i j) ∨
  (i = 0 ∧ j = 0 ∧ Dy.dok (u / 86400000000) = true ∧ Sp.pR 0 m d n = true ∧ ∃ y p q, Cv.Is (u / 86400000000) y p q ∧ I = 0 ∧ V = (if mdk (u / 86400000000) y p q m d = true then moV (mdv u y p q m d) n else 0) ∧ E = (if mdk (u / 86400000000) y p q m d = true then moE (mdv u y p q m d) n else 10))
theorem inf3 {i u : Int} (h : Dy.sR i u = true) : i = -1 ∨ i = 0 ∨ i = 1 := by
  unfold Dy.sR at h
  split at h
  · exact .inr (.inl ‹_›)
  · have := of_decide_eq_true h
    rcases this.1 with e | e
    · exact .inl e
    · exact .inr (.inr e)
theorem pinf3 {j m d n : Int} (h : Sp.pR j m d n = true) : j = -1 ∨ j = 0 ∨ j = 1 := by
  unfold Sp.pR at h
  split at h
  · exact .inr (.inl ‹_›)
  · have := of_decide_eq_true h
    rcases this.1 with e | e
    · exact .inl e
    · exact .inr (.inr e)
theorem pR_bd {m d n : Int} (h : Sp.pR 0 m d n = true) : -2147483647 ≤ m ∧ m ≤ 2147483647 ∧ -2147483647 ≤ d ∧ d ≤ 2147483647 ∧ -9223372036854775807 ≤ n ∧ n ≤ 9223372036854775807 := by
  unfold Sp.pR at h
  rw [if_pos rfl] at h
  unfold Sp.cnt at h
  simp only [Bool.and_eq_true, decide_eq_true_eq] at h
  omega
theorem pR_of {m d n : Int} (h : -2147483647 ≤ m ∧ m ≤ 2147483647 ∧ -2147483647 ≤ d ∧ d ≤ 2147483647 ∧ -9223372036854775807 ≤ n ∧ n ≤ 9223372036854775807) : Sp.pR 0 m d n = true := by
  unfold Sp.pR
  rw [if_pos rfl]
  unfold Sp.cnt
  simp only [Bool.and_eq_true, decide_eq_true_eq]
  omega
theorem tg_zero {i j : Int} (hi : i = -1 ∨ i = 0 ∨ i = 1) (hj : j = -1 ∨ j = 0 ∨ j = 1) (h : ¬ (i = 0 ∧ j = 0)) : tgI i j ≠ 0 ∨ tgE i j ≠ 0 := by
  rcases hi with rfl | rfl | rfl <;> rcases hj with rfl | rfl | rfl <;> first | (exact .inl (by decide)) | (exact .inr (by decide)) | (exact absurd ⟨rfl, rfl⟩ h)
theorem kind_b (i : Int) (w : World) : Calls Tryz.prog 28 #[.int .i64 i] w fun r w' => r = .returned (kdV i) ∧ Below w.heap.size w w' := (kind_any i w).mono (fun r w2 h => ⟨h.1, by rw [h.2]; exact Below.refl _ _⟩)
theorem mdv_dok {u y p q m d : Int} (k : mdk (u / 86400000000) y p q m d = true) : Dy.dok (mdv u y p q m d / 86400000000) = true := by
  unfold mdk at k
  unfold mdv
  have := us_bd u
  rw [show ((s1v (u / 86400000000) y p q m + d) * 86400000000 + u % 86400000000) / 86400000000 = s1v (u / 86400000000) y p q m + d by omega]
  simp at k
  exact k.2

theorem sadd_any (i u j m d n I V E : Int) (h : AddIs i u j m d n I V E) (u1 : -9223372036854775808 ≤ u) (u2 : u ≤ 9223372036854775807) (n1 : -9223372036854775808 ≤ n) (n2 : n ≤ 9223372036854775807) (w : World) (hL : Cvl.Lens w) :
    Calls Tryz.prog 53 #[.agg #[.int .i64 i, .int .i64 u], .agg #[.int .i64 j, .int .i64 m, .int .i64 d, .int .i64 n]] w fun r w' => r = .returned (.tuple #[.agg #[.int .i64 I, .int .i64 V], .int .i64 E]) ∧ Below w.heap.size w w' := by
  have RR : ∀ c, Dy.sR i u = c → ∀ w : World, Cvl.Lens w → Calls Tryz.prog 17 #[.agg #[.int .i64 i, .int .i64 u]] w fun r' w' => r' = .returned (.bool c) ∧ Below w.heap.size w w' := fun c hc w hw => by rw [← hc]; exact Dy.rst_any i u u1 u2 w hw
  have PP : ∀ c, Sp.pR j m d n = c → ∀ w : World, Calls Tryz.prog 18 #[.agg #[.int .i64 j, .int .i64 m, .int .i64 d, .int .i64 n]] w fun r' w' => r' = .returned (.bool c) ∧ Below w.heap.size w w' := fun c hc w => by rw [← hc]; exact Sp.pr_any j m d n n1 n2 w
  rcases h with ⟨h, rfl, rfl, rfl⟩ | ⟨h1, h2, h3, rfl, rfl, rfl⟩ | ⟨rfl, rfl, h1, h2, y, p, q, hq, rfl, rfl, rfl⟩
  · by_cases h1 : Dy.sR i u = true
    · have h2 : Sp.pR j m d n = false := by cases hp : Sp.pR j m d n; rfl; exact absurd ⟨h1, hp⟩ h
      exact add_no2 i u j m d n (RR _ h1) (PP _ h2) w (Dy.lens_of hL)
    · exact add_no1 i u j m d n (RR _ (by simpa using h1)) w (Dy.lens_of hL)
  · have TG := fun w => tog_any i j (inf3 h1) (pinf3 h2) w
    rcases tg_zero (inf3 h1) (pinf3 h2) h3 with k | k
    · exact add_infi i u j m d n _ _ _ _ k (RR _ h1) (PP _ h2) (fun w => kind_b i w) (fun w => kind_b j w) TG w (Dy.lens_of hL)
    · by_cases k0 : tgI i j = 0
      · rw [k0] at TG ⊢
        exact add_infe i u j m d n _ _ _ k (RR _ h1) (PP _ h2) (fun w => kind_b i w) (fun w => kind_b j w) TG w (Dy.lens_of hL)
      · exact add_infi i u j m d n _ _ _ _ k0 (RR _ h1) (PP _ h2) (fun w => kind_b i w) (fun w => kind_b j w) TG w (Dy.lens_of hL)
  · have TG := fun w => tog_any 0 0 (.inr (.inl rfl)) (.inr (.inl rfl)) w
    have b := pR_bd h2
    have MD := fun w hw => moved_any 0 u m d n y p q hq h1 (by omega) (by omega) w hw
    by_cases k : mdk (u / 86400000000) y p q m d = true
    · rw [if_pos k, if_pos k] at MD ⊢
      obtain ⟨v1, v2⟩ := dok_bd (mdv_dok k)
      exact add_ok 0 u 0 m d n _ _ _ _ _ (RR _ h1) (PP _ h2) (fun w => kind_b 0 w) (fun w => kind_b 0 w) TG MD (fun w hw => more_any 0 _ n v1 v2 n1 n2 w hw) w (Dy.lens_of hL)
    · rw [if_neg k, if_neg k] at MD ⊢
      exact add_err 0 u 0 m d n 0 10 _ _ (by decide) (RR _ h1) (PP _ h2) (fun w => kind_b 0 w) (fun w => kind_b 0 w) TG MD w (Dy.lens_of hL)

end Go.Proofs.YtpdmndlpgjjopaaGreatDoor
