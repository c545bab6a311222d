import Derived.Test.YtklehbmghjcmaaaGreatDoorSz
import Derived.Test.YtklehbmghjcmaaaGreatDoorS18
import Derived.Deep.QuietTactic
import Derived.BigQuiet
import Derived.Test.YtklehbmghjcmaaaGreatDoorS7
open Go.Value renaming int → vi
open Go.IntKind renaming i64 → ki
open List renaming setIfInBounds_toArray → zb, set_cons_zero → zc, set_cons_succ → zd
open Go.Act renaming put → za
open Go.Ending renaming returned → zr
set_option maxRecDepth 100000
set_option maxHeartbeats 16000000
set_option linter.unusedVariables false
namespace Go.Proofs.YtklehbmghjcmaaaGreatDoor.Fn
open Go.RowKit
theorem cum_lin (y m : Int) (h1 : 1 ≤ m) (h2 : m ≤ 12) : 152 * (m - 1) - 10 ≤ 5 * Cv.cum y m ∧ 5 * Cv.cum y m ≤ 152 * (m - 1) + 10 := by
 have l := Cv.lp_01 y
 rcases Cv.twelve h1 h2 with rfl | rfl | rfl | rfl | rfl | rfl | rfl | rfl | rfl | rfl | rfl | rfl <;> simp [Cv.cum] <;> omega
theorem day_bd {y m k d n : Int} (h : dyA m k d n) (hy : dyY y) : fst1 y m - 6 ≤ dyV y m k d n ∧ dyV y m k d n ≤ fst1 y m + 36 := by
 have l := Cv.len_01 y m h.2.1 h.2.2
 unfold dyV
 rw [if_pos h, if_pos hy]
 unfold dayN
 have b1 := bk_bd (fst1 y m + Cv.len y m - 1) d
 have b2 := bk_bd (fst1 y m + n - 1) d
 have b3 := bk_bd (fst1 y m + n - 1 + 7 - 1) d
 rcases h.1 with a | a | a
 ·rw [if_pos a.1]; omega
 ·rw [if_neg (by omega), if_pos a.1]; omega
 ·rw [if_neg (by omega), if_neg (by omega)]; split <;> omega
theorem inst_bd {d s k o v : Int} (s1 : 0 ≤ s) (s2 : s ≤ 86400) (o1 : -50400 ≤ o) (o2 : o ≤ 50400) (v1 : 0 ≤ v) (v2 : v ≤ 7200) :
  (d + 10957) * 86400 - 57600 ≤ inst d s k o v ∧ inst d s k o v ≤ (d + 10957) * 86400 + 136800 := by
 unfold inst
 split
 ·omega
 ·split <;> omega
theorem tr_bd {off : Int} {h g : Hf} {y : Int} (hh : okH h = true) (hg : okH g = true) (o1 : -50400 ≤ off) (o2 : off ≤ 50400) (hy : dyY y) :
  (Cv.S y + Cv.cum y h.m - 6 + 10957) * 86400 - 57600 ≤ (trOf off h g y).t ∧ (trOf off h g y).t ≤ (Cv.S y + Cv.cum y h.m + 36 + 10957) * 86400 + 136800 := by
 obtain ⟨a1, a2, a3, a4⟩ := okH_of hh
 obtain ⟨b1, b2, b3, b4⟩ := okH_of hg
 obtain ⟨s1, s2, _⟩ := a2
 have d := day_bd (y := y) a1 hy
 have i := inst_bd (d := dyV y h.m h.k h.d h.n) (k := h.z) s1 s2 o1 o2 b3 b4
 unfold fst1 at d
 show _ ≤ inst (dyV y h.m h.k h.d h.n) h.s h.z off g.v ∧ inst (dyV y h.m h.k h.d h.n) h.s h.z off g.v ≤ _
 omega
theorem far_of {m n : Int} (h : far m n = true) : (m + 2 ≤ n ∧ n ≤ m + 10) ∨ (n + 2 ≤ m ∧ m ≤ n + 10) := by
 have := of_decide_eq_true h
 split at this <;> omega
def lo (f : Ft) : Hf := if f.A.m < f.B.m then f.A else f.B
def hi (f : Ft) : Hf := if f.A.m < f.B.m then f.B else f.A
structure LH (f : Ft) : Prop where
 l : okH (lo f) = true
 h : okH (hi f) = true
 o1 : -50400 ≤ f.off
 o2 : f.off ≤ 50400
 a : (lo f).m + 2 ≤ (hi f).m
 b : (hi f).m ≤ (lo f).m + 10
 m1 : 1 ≤ (lo f).m
 m2 : (hi f).m ≤ 12
theorem lh_of {f : Ft} (hf : okF f = true) : LH f := by
 obtain ⟨o1, o2, hA, hB, hr, _⟩ := okF_of hf
 have a := (okH_of hA).1.2
 have b := (okH_of hB).1.2
 have r := far_of hr
 by_cases h : f.A.m < f.B.m
 ·have e1 : lo f = f.A := if_pos h
  have e2 : hi f = f.B := if_pos h
  exact ⟨by rw [e1]; exact hA, by rw [e2]; exact hB, o1, o2, by rw [e1, e2]; omega, by rw [e1, e2]; omega, by rw [e1]; omega, by rw [e2]; omega⟩
 ·have e1 : lo f = f.B := if_neg h
  have e2 : hi f = f.A := if_neg h
  exact ⟨by rw [e1]; exact hB, by rw [e2]; exact hA, o1, o2, by rw [e1, e2]; omega, by rw [e1, e2]; omega, by rw [e1]; omega, by rw [e2]; omega⟩
theorem lo_hi {f : Ft} (L : LH f) {y : Int} (hy : dyY y) : (trOf f.off (lo f) (hi f) y).t < (trOf f.off (hi f) (lo f) y).t ∧ (trOf f.off (hi f) (lo f) y).t < (trOf f.off (lo f) (hi f) y).t + 400 * 86400 := by
 have b1 := tr_bd (y := y) L.l L.h L.o1 L.o2 hy
 have b2 := tr_bd (y := y) L.h L.l L.o1 L.o2 hy
 have c1 := cum_lin y (lo f).m L.m1 (by have := L.a; have := L.m2; omega)
 have c2 := cum_lin y (hi f).m (by have := L.a; have := L.m1; omega) L.m2
 have := L.a
 have := L.b
 omega
theorem hi_lo {f : Ft} (L : LH f) {y : Int} (hy : dyY y) (hy' : dyY (y + 1)) : (trOf f.off (hi f) (lo f) y).t < (trOf f.off (lo f) (hi f) (y + 1)).t ∧ (trOf f.off (lo f) (hi f) (y + 1)).t < (trOf f.off (hi f) (lo f) y).t + 400 * 86400 := by
 have b1 := tr_bd (y := y + 1) L.l L.h L.o1 L.o2 hy'
 have b2 := tr_bd (y := y) L.h L.l L.o1 L.o2 hy
 have c1 := cum_lin (y + 1) (lo f).m L.m1 (by have := L.a; have := L.m2; omega)
 have c2 := cum_lin y (hi f).m (by have := L.a; have := L.m1; omega) L.m2
 have s := Cv.S_succ y
 have l := Cv.lp_01 y
 have := L.a
 have := L.b
 omega
theorem sh_is {f : Ft} (L : LH f) {y : Int} (hy : dyY y) : sh1 f y = trOf f.off (lo f) (hi f) y ∧ sh2 f y = trOf f.off (hi f) (lo f) y := by
 have h := (lo_hi L hy).1
 by_cases q : f.A.m < f.B.m
 ·have e1 : lo f = f.A := if_pos q
  have e2 : hi f = f.B := if_pos q
  rw [e1, e2] at h ⊢
  unfold sh1 sh2
  rw [if_neg (by omega), if_neg (by omega)]
  exact ⟨rfl, rfl⟩
 ·have e1 : lo f = f.B := if_neg q
  have e2 : hi f = f.A := if_neg q
  rw [e1, e2] at h ⊢
  unfold sh1 sh2
  rw [if_pos h, if_pos h]
  exact ⟨rfl, rfl⟩
def gs (f : Ft) (j : Int) : Tr := if j % 2 = 0 then sh1 f (j / 2) else sh2 f (j / 2)
theorem gs_0 (f : Ft) (y : Int) : gs f (2 * y) = sh1 f y := by unfold gs; rw [if_pos (by omega), show 2 * y / 2 = y by omega]
theorem gs_1 (f : Ft) (y : Int) : gs f (2 * y + 1) = sh2 f y := by unfold gs; rw [if_neg (by omega), show (2 * y + 1) / 2 = y by omega]
theorem shK_gs (f : Ft) (y0 : Int) (k : Nat) : shK f y0 k = gs f (2 * y0 + k) := by
 unfold shK gs
 by_cases h : k % 2 = 0
 ·rw [if_pos h, if_pos (by omega), show (2 * y0 + (k : Int)) / 2 = y0 + ((k / 2 : Nat) : Int) by omega]
 ·rw [if_neg h, if_neg (by omega), show (2 * y0 + (k : Int)) / 2 = y0 + ((k / 2 : Nat) : Int) by omega]
def inG (j : Int) : Prop := -9434 ≤ j ∧ j ≤ 588562
theorem gs_step {f : Ft} (L : LH f) {j : Int} (h : inG j) : (gs f j).t < (gs f (j + 1)).t ∧ (gs f (j + 1)).t < (gs f j).t + 400 * 86400 := by
 unfold inG at h
 obtain ⟨y, hy | hy⟩ : ∃ y, j = 2 * y ∨ j = 2 * y + 1 := ⟨j / 2, by omega⟩
 ·subst hy
  rw [gs_0, gs_1]
  have q : dyY y := by unfold dyY; omega
  rw [(sh_is L q).1, (sh_is L q).2]
  exact lo_hi L q
 ·subst hy
  rw [show 2 * y + 1 + 1 = 2 * (y + 1) by omega, gs_0, gs_1]
  have q : dyY y := by unfold dyY; omega
  have q' : dyY (y + 1) := by unfold dyY; omega
  rw [(sh_is L q).2, (sh_is L q').1]
  exact hi_lo L q q'
theorem gs_mono {f : Ft} (L : LH f) (i : Int) (h : -9434 ≤ i) : ∀ n : Nat, i + n ≤ 588562 → (gs f i).t < (gs f (i + n + 1)).t
 | 0, hn => by have := (gs_step L (j := i) ⟨h, by omega⟩).1; simpa using this
 | n + 1, hn => by
  have a := gs_mono L i h n (by omega)
  have b := (gs_step L (j := i + n + 1) ⟨by omega, by omega⟩).1
  rw [show i + ((n + 1 : Nat) : Int) + 1 = i + n + 1 + 1 by omega]
  omega
theorem gs_lt {f : Ft} (L : LH f) {i j : Int} (hi : -9434 ≤ i) (hij : i < j) (hj : j ≤ 588563) : (gs f i).t < (gs f j).t := by
 have := gs_mono L i hi (j - i - 1).toNat (by omega)
 rwa [show i + ((j - i - 1).toNat : Int) + 1 = j by omega] at this
def St (f : Ft) (t j : Int) : Prop := -9434 ≤ j ∧ j ≤ 588562 ∧ (gs f j).t ≤ t ∧ t < (gs f (j + 1)).t
theorem St.one {f : Ft} (L : LH f) {t i j : Int} (a : St f t i) (b : St f t j) : i = j := by
 obtain ⟨a1, a2, a3, a4⟩ := a
 obtain ⟨b1, b2, b3, b4⟩ := b
 rcases Int.lt_trichotomy i j with h | h | h
 ·exfalso
  have : (gs f (i + 1)).t ≤ (gs f j).t := by
   by_cases e : i + 1 = j
   ·rw [e]; exact Int.le_refl _
   ·have := gs_lt L (i := i + 1) (j := j) (by omega) (by omega) (by omega); omega
  omega
 ·exact h
 ·exfalso
  have : (gs f (j + 1)).t ≤ (gs f i).t := by
   by_cases e : j + 1 = i
   ·rw [e]; exact Int.le_refl _
   ·have := gs_lt L (i := j + 1) (j := i) (by omega) (by omega) (by omega); omega
  omega
theorem ends {f : Ft} (L : LH f) {t y : Int} (hy : YAt t y) (y1 : -4714 ≤ y) (y2 : y ≤ 294278) : (gs f (2 * (y - 1))).t ≤ t ∧ t < (gs f (2 * (y - 1) + 5)).t := by
 obtain ⟨hc, a, b⟩ : Cvl.can (t / 86400 - 10957) = true ∧ Cv.S y ≤ t / 86400 - 10957 ∧ t / 86400 - 10957 < Cv.S (y + 1) := by
  rcases hy with h | ⟨_, _, h⟩ | ⟨_, _, h⟩
  ·exact h
  ·omega
  ·omega
 have q0 : dyY (y - 1) := by unfold dyY; omega
 have q1 : dyY (y + 1) := by unfold dyY; omega
 have s := Cv.S_succ (y - 1)
 rw [show y - 1 + 1 = y by omega] at s
 have l := Cv.lp_01 (y - 1)
 have := L.a
 have := L.b
 have := L.m1
 have := L.m2
 constructor
 ·rw [gs_0, (sh_is L q0).1]
  have b1 := tr_bd (y := y - 1) L.l L.h L.o1 L.o2 q0
  have c1 := cum_lin (y - 1) (lo f).m L.m1 (by omega)
  omega
 ·rw [show 2 * (y - 1) + 5 = 2 * (y + 1) + 1 by omega, gs_1, (sh_is L q1).2]
  have b2 := tr_bd (y := y + 1) L.h L.l L.o1 L.o2 q1
  have c2 := cum_lin (y + 1) (hi f).m (by omega) L.m2
  omega
theorem findK {f : Ft} (L : LH f) {t y : Int} (hy : YAt t y) (y1 : -4714 ≤ y) (y2 : y ≤ 294278) :
  ∃ K : Nat, 1 ≤ K ∧ K < 6 ∧ t < (shK f (y - 1) K).t ∧ (∀ k, k < K → (shK f (y - 1) k).t ≤ t) ∧ St f t (2 * (y - 1) + K - 1) := by
 obtain ⟨e0, e5⟩ := ends L hy y1 y2
 have key : ∀ n : Nat, n ≤ 5 → (∃ K : Nat, 1 ≤ K ∧ K ≤ n ∧ t < (shK f (y - 1) K).t ∧ (∀ k, k < K → (shK f (y - 1) k).t ≤ t)) ∨ (∀ k, k ≤ n → (shK f (y - 1) k).t ≤ t) := by
  intro n
  induction n with
  | zero => exact fun _ => .inr (fun k hk => by obtain rfl : k = 0 := (by omega); rw [shK_gs]; simpa using e0)
  | succ n ih =>
   intro hn
   rcases ih (by omega) with ⟨K, a, b, c, d⟩ | h
   ·exact .inl ⟨K, a, by omega, c, d⟩
   ·by_cases q : t < (shK f (y - 1) (n + 1)).t
    ·exact .inl ⟨n + 1, by omega, Nat.le_refl _, q, fun k hk => h k (by omega)⟩
    ·exact .inr (fun k hk => by
      by_cases e : k = n + 1
      ·rw [e]; omega
      ·exact h k (by omega))
 rcases key 5 (Nat.le_refl _) with ⟨K, a, b, c, d⟩ | h
 ·refine ⟨K, a, by omega, c, d, by omega, by omega, ?_, ?_⟩
  ·have := d (K - 1) (by omega)
   rw [shK_gs, show 2 * (y - 1) + ((K - 1 : Nat) : Int) = 2 * (y - 1) + K - 1 by omega] at this
   exact this
  ·rw [shK_gs] at c
   rw [show 2 * (y - 1) + (K : Int) - 1 + 1 = 2 * (y - 1) + K by omega]
   exact c
 ·have := h 5 (Nat.le_refl _)
  rw [shK_gs] at this
  have e : 2 * (y - 1) + ((5 : Nat) : Int) = 2 * (y - 1) + 5 := rfl
  rw [e] at this
  omega
theorem stand_ok (f : Ft) (t y : Int) (hf : okF f = true) (hy : YAt t y) (y1 : -4714 ≤ y) (y2 : y ≤ 294278) (t1 : -9223372036854775808 ≤ t) (t2 : t ≤ 9223372036854775807) :
  ∃ j, St f t j ∧ (∀ w : World, Cvl.Lens w → Clk.Tab w → Calls Tryz.prog 125 #[.agg #[.bool f.h, vi ki f.fr, vi ki f.off, vi ki f.A.m, vi ki f.A.k, vi ki f.A.d, vi ki f.A.n, vi ki f.A.s, .int .u8 f.A.z, vi ki f.A.v, .string f.A.t, vi ki f.B.m, vi ki f.B.k, vi ki f.B.d, vi ki f.B.n, vi ki f.B.s, .int .u8 f.B.z, vi ki f.B.v, .string f.B.t], vi ki t] w fun e w' => e = zr (.tuple #[.agg #[vi ki (gs f j).t, vi ki (gs f j).o, .bool (gs f j).d, .string (gs f j).a], vi ki 0]) ∧ Below w.heap.size w w') ∧
   (∀ w : World, Cvl.Lens w → Clk.Tab w → Calls Tryz.prog 206 #[.agg #[.bool f.h, vi ki f.fr, vi ki f.off, vi ki f.A.m, vi ki f.A.k, vi ki f.A.d, vi ki f.A.n, vi ki f.A.s, .int .u8 f.A.z, vi ki f.A.v, .string f.A.t, vi ki f.B.m, vi ki f.B.k, vi ki f.B.d, vi ki f.B.n, vi ki f.B.s, .int .u8 f.B.z, vi ki f.B.v, .string f.B.t], vi ki t] w fun e w' => e = zr (.tuple #[.agg #[vi ki (gs f (j + 1)).t, vi ki (gs f (j + 1)).o, .bool (gs f (j + 1)).d, .string (gs f (j + 1)).a], vi ki 0]) ∧ Below w.heap.size w w') := by
 obtain ⟨K, k1, k2, hK, hlo, hS⟩ := findK (lh_of hf) hy y1 y2
 refine ⟨_, hS, ?_⟩
 have A : ∀ w : World, Cvl.Lens w → Clk.Tab w → Calls Tryz.prog 168 #[.agg #[.bool f.h, vi ki f.fr, vi ki f.off, vi ki f.A.m, vi ki f.A.k, vi ki f.A.d, vi ki f.A.n, vi ki f.A.s, .int .u8 f.A.z, vi ki f.A.v, .string f.A.t, vi ki f.B.m, vi ki f.B.k, vi ki f.B.d, vi ki f.B.n, vi ki f.B.s, .int .u8 f.B.z, vi ki f.B.v, .string f.B.t], vi ki t] w fun e w' => e = zr (.tuple #[.agg (tL (gs f (2 * (y - 1) + K - 1))).toArray, .agg (tL (gs f (2 * (y - 1) + K - 1 + 1))).toArray, vi ki 0]) ∧ Below w.heap.size w w' := fun w hL hT => by
  have R := around_ok f t y K hf hy y1 y2 t1 t2 k1 k2 hK hlo w hL hT
  have e1 : shK f (y - 1) (K - 1) = gs f (2 * (y - 1) + K - 1) := by rw [shK_gs]; congr 1; omega
  have e2 : shK f (y - 1) K = gs f (2 * (y - 1) + K - 1 + 1) := by rw [shK_gs]; congr 1; omega
  rw [e1, e2] at R
  exact R
 exact ⟨fun w hL hT => at_run f t _ _ 0 A w hL hT, fun w hL hT => next_run f t _ _ 0 A w hL hT⟩
def fK : Ft := ⟨true, 0, 3600, ⟨3, 1, 0, 0, 3600, 117, 3600, ⟨#[67, 69, 83, 84]⟩⟩, ⟨10, 1, 0, 0, 3600, 117, 0, ⟨#[67, 69, 84]⟩⟩⟩
theorem sK1 : (sh1 fK 2024).t = 1711846800 ∧ (sh1 fK 2024).o = 7200 ∧ (sh1 fK 2024).d = true ∧ (sh1 fK 2024).a = ⟨#[67, 69, 83, 84]⟩ := by decide +kernel
theorem sK2 : (sh2 fK 2024).t = 1729990800 ∧ (sh2 fK 2024).o = 3600 ∧ (sh2 fK 2024).d = false ∧ (sh2 fK 2024).a = ⟨#[67, 69, 84]⟩ := by decide +kernel
def trP : Tr := ⟨1711846800, 7200, true, ⟨#[67, 69, 83, 84]⟩⟩
def trQ : Tr := ⟨1729990800, 3600, false, ⟨#[67, 69, 84]⟩⟩
theorem tr_ext {x y : Tr} (h : x.t = y.t ∧ x.o = y.o ∧ x.d = y.d ∧ x.a = y.a) : x = y := by
 obtain ⟨a, b, c, d⟩ := x
 obtain ⟨a', b', c', d'⟩ := y
 obtain ⟨h1, h2, h3, h4⟩ := h
 subst h1 h2 h3 h4
 rfl
theorem eK1 : sh1 fK 2024 = trP := tr_ext sK1
theorem eK2 : sh2 fK 2024 = trQ := tr_ext sK2
theorem stK : St fK 1711846800 4048 := by
 refine ⟨by omega, by omega, ?_, ?_⟩
 ·rw [show (4048 : Int) = 2 * 2024 by omega, gs_0, eK1]; decide
 ·rw [show (4048 : Int) + 1 = 2 * 2024 + 1 by omega, gs_1, eK2]; decide
theorem bx_of_own {W : World} {b : Nat} {e : TypeId} {sz n : Nat} {v : Value} {xs : List Value} (h : W.ownsRow b e sz v n xs) (hn : 0 < n) : ∃ g cap, v = .slice (some ⟨g, 0, none⟩) n cap ∧ b ≤ g ∧ Bx W g xs ∧ n ≤ cap := by
 rcases h.2 with ⟨_, h0⟩ | ⟨g, cap, cur, rfl, hb, hg, hc, _, _, ht⟩
 ·omega
 ·refine ⟨g, cap, rfl, hb, ⟨(Array.getElem?_eq_some_iff.1 hg).1, fun i u hu => ⟨?_, by simp [World.frozen?, hg]⟩⟩, hc⟩
  simp only [World.cell?, hg]
  rw [← ht] at hu
  have hi : i < n * sz := by
   have := (List.getElem?_eq_some_iff.1 hu).1
   simp at this
   omega
  rw [List.getElem?_take_of_lt hi] at hu
  simpa using hu
end Go.Proofs.YtklehbmghjcmaaaGreatDoor.Fn
namespace Go.Proofs.YtklehbmghjcmaaaGreatDoor
open Go.RowKit
open _root_.Go.Proofs.YtklehbmghjcmaaaGreatDoor.Fn
def z9 : Tr := ⟨0, 0, false, ⟨#[]⟩⟩
def FAt (f : Ft) (t : Int) (p : Tr) (er : Int) : Prop :=
 (er = 0 ∧ okF f = true ∧ ∃ y j, YAt t y ∧ -4714 ≤ y ∧ y ≤ 294278 ∧ St f t j ∧ p = gs f j) ∨ (er ≠ 0 ∧ p = z9 ∧ (okF f = false ∨ ∃ y, YAt t y ∧ (y < -4714 ∨ 294278 < y)))
theorem fat_any (f : Ft) (t : Int) (t1 : -9223372036854775808 ≤ t) (t2 : t ≤ 9223372036854775807) :
  ∃ p er, FAt f t p er ∧ ∀ w : World, Cvl.Lens w → Clk.Tab w → Calls Tryz.prog 125 #[.agg #[.bool f.h, vi ki f.fr, vi ki f.off, vi ki f.A.m, vi ki f.A.k, vi ki f.A.d, vi ki f.A.n, vi ki f.A.s, .int .u8 f.A.z, vi ki f.A.v, .string f.A.t, vi ki f.B.m, vi ki f.B.k, vi ki f.B.d, vi ki f.B.n, vi ki f.B.s, .int .u8 f.B.z, vi ki f.B.v, .string f.B.t], vi ki t] w fun e w' => e = zr (.tuple #[.agg #[vi ki p.t, vi ki p.o, .bool p.d, .string p.a], vi ki er]) ∧ Below w.heap.size w w' := by
 cases hf : okF f with
 | false => exact ⟨z9, 1, .inr ⟨by decide, rfl, .inl hf⟩, fun w hL hT => at_run f t z9 z9 1 (fun w hL hT => around_arg f t hf w hL hT) w hL hT⟩
 | true =>
  obtain ⟨y, hy⟩ := yat_is t
  by_cases hr : y < -4714 ∨ 294278 < y
  ·exact ⟨z9, 10, .inr ⟨by decide, rfl, .inr ⟨y, hy, hr⟩⟩, fun w hL hT => at_run f t z9 z9 10 (fun w hL hT => around_range f t y hf hy t1 t2 (by omega) w hL hT) w hL hT⟩
  ·have y1 : -4714 ≤ y := by omega
   have y2 : y ≤ 294278 := by omega
   obtain ⟨K, k1, k2, hK, hlo, hS⟩ := findK (lh_of hf) hy y1 y2
   refine ⟨_, 0, .inl ⟨rfl, hf, y, _, hy, y1, y2, hS, rfl⟩, fun w hL hT => at_run f t _ (gs f (2 * (y - 1) + K - 1 + 1)) 0 (fun w hL hT => ?_) w hL hT⟩
   have R := around_ok f t y K hf hy y1 y2 t1 t2 k1 k2 hK hlo w hL hT
   have e1 : shK f (y - 1) (K - 1) = gs f (2 * (y - 1) + K - 1) := by rw [shK_gs]; congr 1; omega
   have e2 : shK f (y - 1) K = gs f (2 * (y - 1) + K - 1 + 1) := by rw [shK_gs]; congr 1; omega
   rw [e1, e2] at R
   exact R
end Go.Proofs.YtklehbmghjcmaaaGreatDoor
