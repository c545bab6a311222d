/- Mathematics: where the shifts of a foot lie, in which order; each 400 years. -/
import Derived.Test.YthbcicjkmgoliaaDoorFtK
namespace Go.Proofs.YthbcicjkmgoliaaDoor
open Go.RowKit
set_option linter.unusedVariables false

theorem cum_lin (y m : Int) (h1 : 1 ≤ m) (h2 : m ≤ 12) : 152 * (m - 1) - 10 ≤ 5 * Cv.cum y m ∧ 5 * Cv.cum y m ≤ 152 * (m - 1) + 10 := by
  have l := Cv.lp_01 y
  rcases Cv.twelve h1 h2 with rfl | rfl | rfl | rfl | rfl | rfl | rfl | rfl | rfl | rfl | rfl | rfl <;> simp [Cv.cum] <;> omega

theorem day_bd {y m k d n : Int} (h : dyA m k d n) (hy : dyY y) : fst1 y m - 6 ≤ dyV y m k d n ∧ dyV y m k d n ≤ fst1 y m + 36 := by
  have l := Cv.len_01 y m h.2.1 h.2.2
  unfold dyV
  rw [if_pos h, if_pos hy]
  unfold dayN
  have b1 := bk_bd (fst1 y m + Cv.len y m - 1) d
  have b2 := bk_bd (fst1 y m + n - 1) d
  have b3 := bk_bd (fst1 y m + n - 1 + 7 - 1) d
  rcases h.1 with a | a | a
  · rw [if_pos a.1]; omega
  · rw [if_neg (by omega), if_pos a.1]; omega
  · rw [if_neg (by omega), if_neg (by omega)]; split <;> omega

theorem inst_bd {d s k o v : Int} (s1 : 0 ≤ s) (s2 : s ≤ 86400) (o1 : -50400 ≤ o) (o2 : o ≤ 50400) (v1 : 0 ≤ v) (v2 : v ≤ 7200) :
    (d + 10957) * 86400 - 57600 ≤ inst d s k o v ∧ inst d s k o v ≤ (d + 10957) * 86400 + 136800 := by
  unfold inst
  split
  · omega
  · split <;> omega

/-- the time of a shift, about. -/
theorem tr_bd {off : Int} {h g : Hf} {y : Int} (hh : okH h = true) (hg : okH g = true) (o1 : -50400 ≤ off) (o2 : off ≤ 50400) (hy : dyY y) :
    (Cv.S y + Cv.cum y h.m - 6 + 10957) * 86400 - 57600 ≤ (trOf off h g y).t ∧ (trOf off h g y).t ≤ (Cv.S y + Cv.cum y h.m + 36 + 10957) * 86400 + 136800 := by
  obtain ⟨a1, a2, a3, a4⟩ := okH_of hh
  obtain ⟨b1, b2, b3, b4⟩ := okH_of hg
  obtain ⟨s1, s2, _⟩ := a2
  have d := day_bd (y := y) a1 hy
  have i := inst_bd (d := dyV y h.m h.k h.d h.n) (k := h.z) s1 s2 o1 o2 b3 b4
  unfold fst1 at d
  show _ ≤ inst (dyV y h.m h.k h.d h.n) h.s h.z off g.v ∧ inst (dyV y h.m h.k h.d h.n) h.s h.z off g.v ≤ _
  omega

theorem far_of {m n : Int} (h : far m n = true) : (m + 2 ≤ n ∧ n ≤ m + 10) ∨ (n + 2 ≤ m ∧ m ≤ n + 10) := by
  have := of_decide_eq_true h
  split at this <;> omega

/-- both halves in the order of their months. -/
def lo (f : Ft) : Hf := if f.A.m < f.B.m then f.A else f.B
def hi (f : Ft) : Hf := if f.A.m < f.B.m then f.B else f.A
structure LH (f : Ft) : Prop where
  l : okH (lo f) = true
  h : okH (hi f) = true
  o1 : -50400 ≤ f.off
  o2 : f.off ≤ 50400
  a : (lo f).m + 2 ≤ (hi f).m
  b : (hi f).m ≤ (lo f).m + 10
  m1 : 1 ≤ (lo f).m
  m2 : (hi f).m ≤ 12
theorem lh_of {f : Ft} (hf : okF f = true) : LH f := by
  obtain ⟨o1, o2, hA, hB, hr, _⟩ := okF_of hf
  have a := (okH_of hA).1.2
  have b := (okH_of hB).1.2
  have r := far_of hr
  by_cases h : f.A.m < f.B.m
  · have e1 : lo f = f.A := if_pos h
    have e2 : hi f = f.B := if_pos h
    exact ⟨by rw [e1]; exact hA, by rw [e2]; exact hB, o1, o2, by rw [e1, e2]; omega, by rw [e1, e2]; omega, by rw [e1]; omega, by rw [e2]; omega⟩
  · have e1 : lo f = f.B := if_neg h
    have e2 : hi f = f.A := if_neg h
    exact ⟨by rw [e1]; exact hB, by rw [e2]; exact hA, o1, o2, by rw [e1, e2]; omega, by rw [e1, e2]; omega, by rw [e1]; omega, by rw [e2]; omega⟩

theorem lo_hi {f : Ft} (L : LH f) {y : Int} (hy : dyY y) : (trOf f.off (lo f) (hi f) y).t < (trOf f.off (hi f) (lo f) y).t ∧ (trOf f.off (hi f) (lo f) y).t < (trOf f.off (lo f) (hi f) y).t + 400 * 86400 := by
  have b1 := tr_bd (y := y) L.l L.h L.o1 L.o2 hy
  have b2 := tr_bd (y := y) L.h L.l L.o1 L.o2 hy
  have c1 := cum_lin y (lo f).m L.m1 (by have := L.a; have := L.m2; omega)
  have c2 := cum_lin y (hi f).m (by have := L.a; have := L.m1; omega) L.m2
  have := L.a
  have := L.b
  omega

theorem hi_lo {f : Ft} (L : LH f) {y : Int} (hy : dyY y) (hy' : dyY (y + 1)) : (trOf f.off (hi f) (lo f) y).t < (trOf f.off (lo f) (hi f) (y + 1)).t ∧ (trOf f.off (lo f) (hi f) (y + 1)).t < (trOf f.off (hi f) (lo f) y).t + 400 * 86400 := by
  have b1 := tr_bd (y := y + 1) L.l L.h L.o1 L.o2 hy'
  have b2 := tr_bd (y := y) L.h L.l L.o1 L.o2 hy
  have c1 := cum_lin (y + 1) (lo f).m L.m1 (by have := L.a; have := L.m2; omega)
  have c2 := cum_lin y (hi f).m (by have := L.a; have := L.m1; omega) L.m2
  have s := Cv.S_succ y
  have l := Cv.lp_01 y
  have := L.a
  have := L.b
  omega

theorem sh_is {f : Ft} (L : LH f) {y : Int} (hy : dyY y) : sh1 f y = trOf f.off (lo f) (hi f) y ∧ sh2 f y = trOf f.off (hi f) (lo f) y := by
  have h := (lo_hi L hy).1
  by_cases q : f.A.m < f.B.m
  · have e1 : lo f = f.A := if_pos q
    have e2 : hi f = f.B := if_pos q
    rw [e1, e2] at h ⊢
    unfold sh1 sh2
    rw [if_neg (by omega), if_neg (by omega)]
    exact ⟨rfl, rfl⟩
  · have e1 : lo f = f.B := if_neg q
    have e2 : hi f = f.A := if_neg q
    rw [e1, e2] at h ⊢
    unfold sh1 sh2
    rw [if_pos h, if_pos h]
    exact ⟨rfl, rfl⟩

/-- the shifts of all years, one behind the other. -/
def gs (f : Ft) (j : Int) : Tr := if j % 2 = 0 then sh1 f (j / 2) else sh2 f (j / 2)
theorem gs_0 (f : Ft) (y : Int) : gs f (2 * y) = sh1 f y := by unfold gs; rw [if_pos (by omega), show 2 * y / 2 = y by omega]
theorem gs_1 (f : Ft) (y : Int) : gs f (2 * y + 1) = sh2 f y := by unfold gs; rw [if_neg (by omega), show (2 * y + 1) / 2 = y by omega]
theorem shK_gs (f : Ft) (y0 : Int) (k : Nat) : shK f y0 k = gs f (2 * y0 + k) := by
  unfold shK gs
  by_cases h : k % 2 = 0
  · rw [if_pos h, if_pos (by omega), show (2 * y0 + (k : Int)) / 2 = y0 + ((k / 2 : Nat) : Int) by omega]
  · rw [if_neg h, if_neg (by omega), show (2 * y0 + (k : Int)) / 2 = y0 + ((k / 2 : Nat) : Int) by omega]

/-- places whose year, and the next one's, can be. -/
def inG (j : Int) : Prop := -9434 ≤ j ∧ j ≤ 588562
theorem gs_step {f : Ft} (L : LH f) {j : Int} (h : inG j) : (gs f j).t < (gs f (j + 1)).t ∧ (gs f (j + 1)).t < (gs f j).t + 400 * 86400 := by
  unfold inG at h
  obtain ⟨y, hy | hy⟩ : ∃ y, j = 2 * y ∨ j = 2 * y + 1 := ⟨j / 2, by omega⟩
  · subst hy
    rw [gs_0, gs_1]
    have q : dyY y := by unfold dyY; omega
    rw [(sh_is L q).1, (sh_is L q).2]
    exact lo_hi L q
  · subst hy
    rw [show 2 * y + 1 + 1 = 2 * (y + 1) by omega, gs_0, gs_1]
    have q : dyY y := by unfold dyY; omega
    have q' : dyY (y + 1) := by unfold dyY; omega
    rw [(sh_is L q).2, (sh_is L q').1]
    exact hi_lo L q q'
theorem gs_mono {f : Ft} (L : LH f) (i : Int) (h : -9434 ≤ i) : ∀ n : Nat, i + n ≤ 588562 → (gs f i).t < (gs f (i + n + 1)).t
  | 0, hn => by have := (gs_step L (j := i) ⟨h, by omega⟩).1; simpa using this
  | n + 1, hn => by
    have a := gs_mono L i h n (by omega)
    have b := (gs_step L (j := i + n + 1) ⟨by omega, by omega⟩).1
    rw [show i + ((n + 1 : Nat) : Int) + 1 = i + n + 1 + 1 by omega]
    omega
theorem gs_lt {f : Ft} (L : LH f) {i j : Int} (hi : -9434 ≤ i) (hij : i < j) (hj : j ≤ 588563) : (gs f i).t < (gs f j).t := by
  have := gs_mono L i hi (j - i - 1).toNat (by omega)
  rwa [show i + ((j - i - 1).toNat : Int) + 1 = j by omega] at this

/-- clocks stand by shift j at t. -/
def St (f : Ft) (t j : Int) : Prop := -9434 ≤ j ∧ j ≤ 588562 ∧ (gs f j).t ≤ t ∧ t < (gs f (j + 1)).t
theorem St.one {f : Ft} (L : LH f) {t i j : Int} (a : St f t i) (b : St f t j) : i = j := by
  obtain ⟨a1, a2, a3, a4⟩ := a
  obtain ⟨b1, b2, b3, b4⟩ := b
  rcases Int.lt_trichotomy i j with h | h | h
  · exfalso
    have : (gs f (i + 1)).t ≤ (gs f j).t := by
      by_cases e : i + 1 = j
      · rw [e]; exact Int.le_refl _
      · have := gs_lt L (i := i + 1) (j := j) (by omega) (by omega) (by omega); omega
    omega
  · exact h
  · exfalso
    have : (gs f (j + 1)).t ≤ (gs f i).t := by
      by_cases e : j + 1 = i
      · rw [e]; exact Int.le_refl _
      · have := gs_lt L (i := j + 1) (j := i) (by omega) (by omega) (by omega); omega
    omega

theorem ends {f : Ft} (L : LH f) {t y : Int} (hy : YAt t y) (y1 : -4714 ≤ y) (y2 : y ≤ 294278) : (gs f (2 * (y - 1))).t ≤ t ∧ t < (gs f (2 * (y - 1) + 5)).t := by
  obtain ⟨hc, a, b⟩ : Cvl.can (t / 86400 - 10957) = true ∧ Cv.S y ≤ t / 86400 - 10957 ∧ t / 86400 - 10957 < Cv.S (y + 1) := by
    rcases hy with h | ⟨_, _, h⟩ | ⟨_, _, h⟩
    · exact h
    · omega
    · omega
  have q0 : dyY (y - 1) := by unfold dyY; omega
  have q1 : dyY (y + 1) := by unfold dyY; omega
  have s := Cv.S_succ (y - 1)
  rw [show y - 1 + 1 = y by omega] at s
  have l := Cv.lp_01 (y - 1)
  have := L.a
  have := L.b
  have := L.m1
  have := L.m2
  constructor
  · rw [gs_0, (sh_is L q0).1]
    have b1 := tr_bd (y := y - 1) L.l L.h L.o1 L.o2 q0
    have c1 := cum_lin (y - 1) (lo f).m L.m1 (by omega)
    omega
  · rw [show 2 * (y - 1) + 5 = 2 * (y + 1) + 1 by omega, gs_1, (sh_is L q1).2]
    have b2 := tr_bd (y := y + 1) L.h L.l L.o1 L.o2 q1
    have c2 := cum_lin (y + 1) (hi f).m (by omega) L.m2
    omega

/-- the place of the first shift behind t, among six. -/
theorem findK {f : Ft} (L : LH f) {t y : Int} (hy : YAt t y) (y1 : -4714 ≤ y) (y2 : y ≤ 294278) :
    ∃ K : Nat, 1 ≤ K ∧ K < 6 ∧ t < (shK f (y - 1) K).t ∧ (∀ k, k < K → (shK f (y - 1) k).t ≤ t) ∧ St f t (2 * (y - 1) + K - 1) := by
  obtain ⟨e0, e5⟩ := ends L hy y1 y2
  have key : ∀ n : Nat, n ≤ 5 → (∃ K : Nat, 1 ≤ K ∧ K ≤ n ∧ t < (shK f (y - 1) K).t ∧ (∀ k, k < K → (shK f (y - 1) k).t ≤ t)) ∨ (∀ k, k ≤ n → (shK f (y - 1) k).t ≤ t) := by
    intro n
    induction n with
    | zero => exact fun _ => .inr (fun k hk => by obtain rfl : k = 0 := (by omega); rw [shK_gs]; simpa using e0)
    | succ n ih =>
      intro hn
      rcases ih (by omega) with ⟨K, a, b, c, d⟩ | h
      · exact .inl ⟨K, a, by omega, c, d⟩
      · by_cases q : t < (shK f (y - 1) (n + 1)).t
        · exact .inl ⟨n + 1, by omega, Nat.le_refl _, q, fun k hk => h k (by omega)⟩
        · exact .inr (fun k hk => by
            by_cases e : k = n + 1
            · rw [e]; omega
            · exact h k (by omega))
  rcases key 5 (Nat.le_refl _) with ⟨K, a, b, c, d⟩ | h
  · refine ⟨K, a, by omega, c, d, by omega, by omega, ?_, ?_⟩
    · have := d (K - 1) (by omega)
      rw [shK_gs, show 2 * (y - 1) + ((K - 1 : Nat) : Int) = 2 * (y - 1) + K - 1 by omega] at this
      exact this
    · rw [shK_gs] at c
      rw [show 2 * (y - 1) + (K : Int) - 1 + 1 = 2 * (y - 1) + K by omega]
      exact c
  · have := h 5 (Nat.le_refl _)
    rw [shK_gs] at this
    have e : 2 * (y - 1) + ((5 : Nat) : Int) = 2 * (y - 1) + 5 := rfl
    rw [e] at this
    omega

theorem lp_400 (y : Int) : Cv.lp (y + 400) = Cv.lp y := by
  rw [Cv.lp_eq, Cv.lp_eq, show (y + 400) % 4 = y % 4 by omega, show (y + 400) % 100 = y % 100 by omega, show (y + 400) % 400 = y % 400 by omega]
theorem leap_400 (y : Int) : Cv.leap (y + 400) = Cv.leap y := by
  unfold Cv.leap
  rw [show (y + 400) % 4 = y % 4 by omega, show (y + 400) % 100 = y % 100 by omega, show (y + 400) % 400 = y % 400 by omega]
theorem cum_400 (y m : Int) : Cv.cum (y + 400) m = Cv.cum y m := by unfold Cv.cum; rw [lp_400]
theorem len_400 (y m : Int) : Cv.len (y + 400) m = Cv.len y m := by unfold Cv.len; rw [lp_400]
theorem fst_400 (y m : Int) : fst1 (y + 400) m = fst1 y m + 146097 := by
  unfold fst1
  rw [cum_400]
  have := Cv.S_cycle y 1
  rw [show y + 400 * 1 = y + 400 by omega] at this
  omega
theorem bk_400 (n d : Int) : bk (n + 146097) d = bk n d + 146097 := by unfold bk; omega
theorem dayN_400 (F l k d n : Int) : dayN (F + 146097) l k d n = dayN F l k d n + 146097 := by
  unfold dayN
  split
  · omega
  · split
    · rw [show F + 146097 + l - 1 = F + l - 1 + 146097 by omega, bk_400]
    · split
      · rw [show F + 146097 + n - 1 = F + n - 1 + 146097 by omega, bk_400]
      · rw [show F + 146097 + n - 1 + 7 - 1 = F + n - 1 + 7 - 1 + 146097 by omega, bk_400]
theorem tr_400 {off : Int} {h g : Hf} {y : Int} (hh : okH h = true) (hy : dyY y) (hy' : dyY (y + 400)) :
    (trOf off h g (y + 400)).t = (trOf off h g y).t + 146097 * 86400 ∧ (trOf off h g (y + 400)).o = (trOf off h g y).o ∧ (trOf off h g (y + 400)).a = (trOf off h g y).a := by
  obtain ⟨a1, _⟩ := okH_of hh
  refine ⟨?_, rfl, rfl⟩
  show inst (dyV (y + 400) h.m h.k h.d h.n) h.s h.z off g.v = inst (dyV y h.m h.k h.d h.n) h.s h.z off g.v + 146097 * 86400
  have e : dyV (y + 400) h.m h.k h.d h.n = dyV y h.m h.k h.d h.n + 146097 := by
    unfold dyV
    rw [if_pos a1, if_pos a1, if_pos hy, if_pos hy', fst_400, len_400, dayN_400]
  rw [e]
  unfold inst
  split
  · omega
  · split <;> omega

end Go.Proofs.YthbcicjkmgoliaaDoor
