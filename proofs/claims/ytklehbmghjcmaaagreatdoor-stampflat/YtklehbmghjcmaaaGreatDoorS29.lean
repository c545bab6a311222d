import Derived.Test.YtklehbmghjcmaaaGreatDoorSz
import Derived.Test.YtklehbmghjcmaaaGreatDoorS28
import Derived.Test.YtklehbmghjcmaaaGreatDoorS23
import Derived.Test.YtklehbmghjcmaaaGreatDoorS25
import Derived.Test.YtklehbmghjcmaaaGreatDoorS26
import Derived.Test.YtklehbmghjcmaaaGreatDoorS27
import Derived.Test.YtklehbmghjcmaaaGreatDoorS11
open Go.Value renaming int → vi
open Go.IntKind renaming i64 → ki
open List renaming setIfInBounds_toArray → zb, set_cons_zero → zc, set_cons_succ → zd
open Go.Act renaming put → za
open Go.Ending renaming returned → zr
set_option maxRecDepth 100000
set_option maxHeartbeats 16000000
set_option linter.unusedVariables false
namespace Go.Proofs.YtklehbmghjcmaaaGreatDoor
open Go.RowKit
def s1v (d y m q M : Int) : Int := if M = 0 then d else Cvl.shV y m q M
def s1k (y m q M : Int) : Bool := if M = 0 then true else (decide (Cvl.shE y m q M = 0) && Dy.dok (Cvl.shV y m q M))
def mdk (d y m q M D : Int) : Bool := s1k y m q M && Dy.dok (s1v d y m q M + D)
def mdv (u y m q M D : Int) : Int := (s1v (u / 86400000000) y m q M + D) * 86400000000 + u % 86400000000
theorem o_sum (s : Int) : Dy.oV (smV s) (smE s) = (if Dy.dok s = true then s else 0) ∧ Dy.oE (smV s) (smE s) = (if Dy.dok s = true then 0 else 10) := by
 by_cases h : -9223372036854775808 ≤ s ∧ s ≤ 9223372036854775807
 ·rw [smV_in h.1 h.2, smE_in h.1 h.2]
  unfold Dy.oV Dy.oE
  by_cases k : Dy.dok s = true
  ·exact ⟨(if_pos ⟨rfl, k⟩).trans (if_pos k).symm, (if_pos ⟨rfl, k⟩).trans (if_pos k).symm⟩
  ·exact ⟨(if_neg (fun q => k q.2)).trans (if_neg k).symm, (if_neg (fun q => k q.2)).trans (if_neg k).symm⟩
 ·have k : ¬ Dy.dok s = true := fun q => h (by have := Dy.dok_yes q; omega)
  have e : smE s ≠ 0 := by unfold smE; rw [if_neg h]; decide
  unfold Dy.oV Dy.oE
  exact ⟨(if_neg (fun q => e q.1)).trans (if_neg k).symm, (if_neg (fun q => e q.1)).trans (if_neg k).symm⟩
theorem of_right {u : Int} (h : Dy.dok (u / 86400000000) = true) : Dy.ofI 0 u = 0 ∧ Dy.ofD 0 u = u / 86400000000 ∧ Dy.ofU 0 u = u % 86400000000 ∧ Dy.ofE 0 u = 0 := by
 have k : Dy.sR 0 u = true := h
 exact ⟨if_pos k, if_pos ⟨k, rfl⟩, if_pos ⟨k, rfl⟩, if_pos k⟩
theorem st_right {d us : Int} (h : Dy.dok d = true) (h0 : 0 ≤ us) (h1 : us < 86400000000) : Dy.stI 0 d us = 0 ∧ Dy.stV 0 d us = d * 86400000000 + us ∧ Dy.stE 0 d us = 0 :=
 Dy.st_in ⟨h, h0, by omega⟩ (by rw [show (d * 86400000000 + us) / 86400000000 = d by omega]; exact h)
theorem add_right {d n : Int} (h : Dy.dok d = true) : Dy.mvI 0 d = 0 ∧ Dy.mvV 0 d (smV (d + n)) (smE (d + n)) = (if Dy.dok (d + n) = true then d + n else 0) ∧ Dy.mvE 0 d (smV (d + n)) (smE (d + n)) = (if Dy.dok (d + n) = true then 0 else 10) := by
 obtain ⟨a, b, c⟩ := Dy.mv_yes (show Dy.dR 0 d = true from h) (smV (d + n)) (smE (d + n))
 rw [a, b, c, (o_sum (d + n)).1, (o_sum (d + n)).2]
 exact ⟨rfl, rfl, rfl⟩
theorem shf_right {d y m q n : Int} (h : Dy.dok d = true) (hn : n ≠ 0) : Dy.mvI 0 d = 0 ∧ Dy.mvV 0 d (Cvl.shV y m q n) (Cvl.shE y m q n) = (if s1k y m q n = true then Cvl.shV y m q n else 0) ∧ Dy.mvE 0 d (Cvl.shV y m q n) (Cvl.shE y m q n) = (if s1k y m q n = true then 0 else 10) := by
 obtain ⟨a, b, c⟩ := Dy.mv_yes (show Dy.dR 0 d = true from h) (Cvl.shV y m q n) (Cvl.shE y m q n)
 have e : s1k y m q n = true ↔ (Cvl.shE y m q n = 0 ∧ Dy.dok (Cvl.shV y m q n) = true) := by unfold s1k; rw [if_neg hn]; simp
 rw [a, b, c]
 unfold Dy.oV Dy.oE
 by_cases k : s1k y m q n = true
 ·exact ⟨rfl, (if_pos (e.1 k)).trans (if_pos k).symm, (if_pos (e.1 k)).trans (if_pos k).symm⟩
 ·exact ⟨rfl, (if_neg (fun z => k (e.2 z))).trans (if_neg k).symm, (if_neg (fun z => k (e.2 z))).trans (if_neg k).symm⟩
theorem s1_dok {d y m q M : Int} (h : Dy.dok d = true) (k : s1k y m q M = true) : Dy.dok (s1v d y m q M) = true := by
 unfold s1k at k
 unfold s1v
 by_cases hM : M = 0
 ·rw [if_pos hM]; exact h
 ·rw [if_neg hM] at k ⊢
  simp at k
  exact k.2
theorem us_bd (u : Int) : 0 ≤ u % 86400000000 ∧ u % 86400000000 < 86400000000 := ⟨Int.emod_nonneg _ (by decide), Int.emod_lt_of_pos _ (by decide)⟩
theorem dok_bd {u : Int} (h : Dy.dok (u / 86400000000) = true) : -9223372036854775808 ≤ u ∧ u ≤ 9223372036854775807 := by have := Dy.dok_yes h; omega
theorem moved_any (j u M D U y m q : Int) (hq : Cv.Is (u / 86400000000) y m q) (hu : Dy.dok (u / 86400000000) = true) (D1 : -9223372036854775808 ≤ D) (D2 : D ≤ 9223372036854775807) (w : World) (hL : Cvl.Lens w) :
  Calls Tryz.prog 47 #[.agg #[vi ki 0, vi ki u], .agg #[vi ki j, vi ki M, vi ki D, vi ki U]] w fun r w' => r = zr (.tuple #[.agg #[vi ki 0, vi ki (if mdk (u / 86400000000) y m q M D = true then mdv u y m q M D else 0)], vi ki (if mdk (u / 86400000000) y m q M D = true then 0 else 10)]) ∧ Below w.heap.size w w' := by
 obtain ⟨u1, u2⟩ := dok_bd hu
 obtain ⟨s1, s2⟩ := us_bd u
 have OF : ∀ w : World, Cvl.Lens w → Calls Tryz.prog 97 #[.agg #[vi ki 0, vi ki u]] w fun r' w' => r' = zr (.tuple #[.agg #[vi ki 0, vi ki (u / 86400000000)], vi ki (u % 86400000000), vi ki 0]) ∧ Below w.heap.size w w' := fun w hw => by
  have R := Dy.sof_any 0 u u1 u2 w hw
  obtain ⟨a, b, c, d⟩ := of_right hu
  rw [a, b, c, d] at R
  exact R
 have AD : ∀ d, Dy.dok d = true → ∀ w : World, Cvl.Lens w → Calls Tryz.prog 99 #[.agg #[vi ki 0, vi ki d], vi ki D] w fun r' w' => r' = zr (.tuple #[.agg #[vi ki 0, vi ki (if Dy.dok (d + D) = true then d + D else 0)], vi ki (if Dy.dok (d + D) = true then 0 else 10)]) ∧ Below w.heap.size w w' := fun d hd w hw => by
  have R := Dy.dadd_any 0 d D D1 D2 w hw
  obtain ⟨a, b, c⟩ := add_right (n := D) hd
  rw [a, b, c] at R
  exact R
 have SM : ∀ d, Dy.dok d = true → ∀ w : World, Cvl.Lens w → Calls Tryz.prog 100 #[.agg #[vi ki 0, vi ki d], vi ki (u % 86400000000)] w fun r' w' => r' = zr (.tuple #[.agg #[vi ki 0, vi ki (d * 86400000000 + u % 86400000000)], vi ki 0]) ∧ Below w.heap.size w w' := fun d hd w hw => by
  have R := Dy.stamp_any 0 d (u % 86400000000) w hw
  obtain ⟨a, b, c⟩ := st_right hd s1 s2
  rw [a, b, c] at R
  exact R
 unfold mdk mdv
 by_cases hM : M = 0
 ·subst hM
  rw [show s1k y m q 0 = true from rfl, show s1v (u / 86400000000) y m q 0 = u / 86400000000 from rfl, Bool.true_and]
  have A := AD _ hu
  by_cases k : Dy.dok (u / 86400000000 + D) = true
  ·rw [if_pos k, if_pos k] at A ⊢
   exact md_zok j u D U _ _ 0 _ _ _ 0 OF A (SM _ k) w (Dy.lens_of hL)
  ·rw [if_neg k, if_neg k] at A ⊢
   exact md_zad j u D U _ _ 0 _ 0 0 10 (by decide) OF A w (Dy.lens_of hL)
 ·have SH : ∀ w : World, Cvl.Lens w → Calls Tryz.prog 98 #[.agg #[vi ki 0, vi ki (u / 86400000000)], vi ki M] w fun r' w' => r' = zr (.tuple #[.agg #[vi ki 0, vi ki (if s1k y m q M = true then Cvl.shV y m q M else 0)], vi ki (if s1k y m q M = true then 0 else 10)]) ∧ Below w.heap.size w w' := fun w hw => by
   have R := Dy.dshift_any 0 (u / 86400000000) M y m q hq w hw
   obtain ⟨a, b, c⟩ := shf_right (d := u / 86400000000) (y := y) (m := m) (q := q) hu hM
   rw [a, b, c] at R
   exact R
  by_cases k1 : s1k y m q M = true
  ·have hd := s1_dok hu k1
   rw [if_pos k1, if_pos k1] at SH
   rw [show s1v (u / 86400000000) y m q M = Cvl.shV y m q M from if_neg hM] at hd ⊢
   rw [k1, Bool.true_and]
   have A := AD _ hd
   by_cases k : Dy.dok (Cvl.shV y m q M + D) = true
   ·rw [if_pos k, if_pos k] at A ⊢
    exact md_ok j u M D U _ _ _ _ _ _ 0 hM OF SH A (SM _ k) w (Dy.lens_of hL)
   ·rw [if_neg k, if_neg k] at A ⊢
    exact md_ad j u M D U _ _ _ _ 0 0 10 hM (by decide) OF SH A w (Dy.lens_of hL)
  ·rw [if_neg k1, if_neg k1] at SH
   have k1' : s1k y m q M = false := by simpa using k1
   rw [k1', Bool.false_and, if_neg (by decide), if_neg (by decide)]
   exact md_sh j u M D U _ _ _ 0 0 0 10 hM (by decide) OF SH w (Dy.lens_of hL)
def AddIs (i u j m d n I V E : Int) : Prop :=
 (¬ (Dy.sR i u = true ∧ Sp.pR j m d n = true) ∧ I = 0 ∧ V = 0 ∧ E = 1) ∨
 (Dy.sR i u = true ∧ Sp.pR j m d n = true ∧ ¬ (i = 0 ∧ j = 0) ∧ I = tgI i j ∧ V = 0 ∧ E = tgE i j) ∨
 (i = 0 ∧ j = 0 ∧ Dy.dok (u / 86400000000) = true ∧ Sp.pR 0 m d n = true ∧ ∃ y p q, Cv.Is (u / 86400000000) y p q ∧ I = 0 ∧ V = (if mdk (u / 86400000000) y p q m d = true then moV (mdv u y p q m d) n else 0) ∧ E = (if mdk (u / 86400000000) y p q m d = true then moE (mdv u y p q m d) n else 10))
theorem add_is (i u j m d n : Int) : ∃ I V E, AddIs i u j m d n I V E := by
 by_cases h : Dy.sR i u = true ∧ Sp.pR j m d n = true
 ·by_cases h0 : i = 0 ∧ j = 0
  ·obtain ⟨rfl, rfl⟩ := h0
   obtain ⟨y, p, q, hq⟩ := Cv.is_date (u / 86400000000)
   exact ⟨_, _, _, .inr (.inr ⟨rfl, rfl, h.1, h.2, y, p, q, hq, rfl, rfl, rfl⟩)⟩
  ·exact ⟨_, _, _, .inr (.inl ⟨h.1, h.2, h0, rfl, rfl, rfl⟩)⟩
 ·exact ⟨_, _, _, .inl ⟨h, rfl, rfl, rfl⟩⟩
theorem inf3 {i u : Int} (h : Dy.sR i u = true) : i = -1 ∨ i = 0 ∨ i = 1 := by
 unfold Dy.sR at h
 split at h
 ·exact .inr (.inl ‹_›)
 ·have := of_decide_eq_true h
  rcases this.1 with e | e
  ·exact .inl e
  ·exact .inr (.inr e)
theorem pinf3 {j m d n : Int} (h : Sp.pR j m d n = true) : j = -1 ∨ j = 0 ∨ j = 1 := by
 unfold Sp.pR at h
 split at h
 ·exact .inr (.inl ‹_›)
 ·have := of_decide_eq_true h
  rcases this.1 with e | e
  ·exact .inl e
  ·exact .inr (.inr e)
theorem pR_bd {m d n : Int} (h : Sp.pR 0 m d n = true) : -2147483647 ≤ m ∧ m ≤ 2147483647 ∧ -2147483647 ≤ d ∧ d ≤ 2147483647 ∧ -9223372036854775807 ≤ n ∧ n ≤ 9223372036854775807 := by
 unfold Sp.pR at h
 rw [if_pos rfl] at h
 unfold Sp.cnt at h
 simp only [Bool.and_eq_true, decide_eq_true_eq] at h
 omega
theorem pR_of {m d n : Int} (h : -2147483647 ≤ m ∧ m ≤ 2147483647 ∧ -2147483647 ≤ d ∧ d ≤ 2147483647 ∧ -9223372036854775807 ≤ n ∧ n ≤ 9223372036854775807) : Sp.pR 0 m d n = true := by
 unfold Sp.pR
 rw [if_pos rfl]
 unfold Sp.cnt
 simp only [Bool.and_eq_true, decide_eq_true_eq]
 omega
theorem tg_zero {i j : Int} (hi : i = -1 ∨ i = 0 ∨ i = 1) (hj : j = -1 ∨ j = 0 ∨ j = 1) (h : ¬ (i = 0 ∧ j = 0)) : tgI i j ≠ 0 ∨ tgE i j ≠ 0 := by
 rcases hi with rfl | rfl | rfl <;> rcases hj with rfl | rfl | rfl <;> first | (exact .inl (by decide)) | (exact .inr (by decide)) | (exact absurd ⟨rfl, rfl⟩ h)
theorem kind_b (i : Int) (w : World) : Calls Tryz.prog 46 #[vi ki i] w fun r w' => r = zr (kdV i) ∧ Below w.heap.size w w' := (kind_any i w).mono (fun r w2 h => ⟨h.1, by rw [h.2]; exact Below.refl _ _⟩)
theorem mdv_dok {u y p q m d : Int} (k : mdk (u / 86400000000) y p q m d = true) : Dy.dok (mdv u y p q m d / 86400000000) = true := by
 unfold mdk at k
 unfold mdv
 have := us_bd u
 rw [show ((s1v (u / 86400000000) y p q m + d) * 86400000000 + u % 86400000000) / 86400000000 = s1v (u / 86400000000) y p q m + d by omega]
 simp at k
 exact k.2
theorem sadd_any (i u j m d n I V E : Int) (h : AddIs i u j m d n I V E) (u1 : -9223372036854775808 ≤ u) (u2 : u ≤ 9223372036854775807) (n1 : -9223372036854775808 ≤ n) (n2 : n ≤ 9223372036854775807) (w : World) (hL : Cvl.Lens w) :
  Calls Tryz.prog 17 #[.agg #[vi ki i, vi ki u], .agg #[vi ki j, vi ki m, vi ki d, vi ki n]] w fun r w' => r = zr (.tuple #[.agg #[vi ki I, vi ki V], vi ki E]) ∧ Below w.heap.size w w' := by
 have RR : ∀ c, Dy.sR i u = c → ∀ w : World, Cvl.Lens w → Calls Tryz.prog 32 #[.agg #[vi ki i, vi ki u]] w fun r' w' => r' = zr (.bool c) ∧ Below w.heap.size w w' := fun c hc w hw => by rw [← hc]; exact Dy.rst_any i u u1 u2 w hw
 have PP : ∀ c, Sp.pR j m d n = c → ∀ w : World, Calls Tryz.prog 23 #[.agg #[vi ki j, vi ki m, vi ki d, vi ki n]] w fun r' w' => r' = zr (.bool c) ∧ Below w.heap.size w w' := fun c hc w => by rw [← hc]; exact Sp.pr_any j m d n n1 n2 w
 rcases h with ⟨h, rfl, rfl, rfl⟩ | ⟨h1, h2, h3, rfl, rfl, rfl⟩ | ⟨rfl, rfl, h1, h2, y, p, q, hq, rfl, rfl, rfl⟩
 ·by_cases h1 : Dy.sR i u = true
  ·have h2 : Sp.pR j m d n = false := by cases hp : Sp.pR j m d n; rfl; exact absurd ⟨h1, hp⟩ h
   exact add_no2 i u j m d n (RR _ h1) (PP _ h2) w (Dy.lens_of hL)
  ·exact add_no1 i u j m d n (RR _ (by simpa using h1)) w (Dy.lens_of hL)
 ·have TG := fun w => tog_any i j (inf3 h1) (pinf3 h2) w
  rcases tg_zero (inf3 h1) (pinf3 h2) h3 with k | k
  ·exact add_infi i u j m d n _ _ _ _ k (RR _ h1) (PP _ h2) (fun w => kind_b i w) (fun w => kind_b j w) TG w (Dy.lens_of hL)
  ·by_cases k0 : tgI i j = 0
   ·rw [k0] at TG ⊢
    exact add_infe i u j m d n _ _ _ k (RR _ h1) (PP _ h2) (fun w => kind_b i w) (fun w => kind_b j w) TG w (Dy.lens_of hL)
   ·exact add_infi i u j m d n _ _ _ _ k0 (RR _ h1) (PP _ h2) (fun w => kind_b i w) (fun w => kind_b j w) TG w (Dy.lens_of hL)
 ·have TG := fun w => tog_any 0 0 (.inr (.inl rfl)) (.inr (.inl rfl)) w
  have b := pR_bd h2
  have MD := fun w hw => moved_any 0 u m d n y p q hq h1 (by omega) (by omega) w hw
  by_cases k : mdk (u / 86400000000) y p q m d = true
  ·rw [if_pos k, if_pos k] at MD ⊢
   obtain ⟨v1, v2⟩ := dok_bd (mdv_dok k)
   exact add_ok 0 u 0 m d n _ _ _ _ _ (RR _ h1) (PP _ h2) (fun w => kind_b 0 w) (fun w => kind_b 0 w) TG MD (fun w hw => more_any 0 _ n v1 v2 n1 n2 w hw) w (Dy.lens_of hL)
  ·rw [if_neg k, if_neg k] at MD ⊢
   exact add_err 0 u 0 m d n 0 10 _ _ (by decide) (RR _ h1) (PP _ h2) (fun w => kind_b 0 w) (fun w => kind_b 0 w) TG MD w (Dy.lens_of hL)
end Go.Proofs.YtklehbmghjcmaaaGreatDoor
namespace Go.Proofs.YtklehbmghjcmaaaGreatDoor
namespace Sm
def ln (T : Int) : Int := Cv.len (T / 12) (T % 12 + 1)
def Fi (T : Int) : Int := Cv.S (T / 12) + Cv.cum (T / 12) (T % 12 + 1)
theorem ln_bd (T : Int) : 28 ≤ ln T ∧ ln T ≤ 31 := Cv.len_01 _ _ (by omega) (by omega)
theorem Fi_succ (T : Int) : Fi (T + 1) = Fi T + ln T := by
 unfold Fi ln
 by_cases h : T % 12 = 11
 ·rw [show (T + 1) / 12 = T / 12 + 1 by omega, show (T + 1) % 12 + 1 = 1 by omega, Cv.cum_one, Cv.S_succ, h]
  have h1 := Cv.cum_succ (T / 12) 12 (by decide) (by decide)
  have h2 := Cv.cum_all (T / 12)
  have e : (12 : Int) + 1 = 13 := rfl
  rw [e] at h1
  have e2 : (11 : Int) + 1 = 12 := rfl
  rw [e2]
  omega
 ·rw [show (T + 1) / 12 = T / 12 by omega, show (T + 1) % 12 + 1 = (T % 12 + 1) + 1 by omega, Cv.cum_succ _ _ (by omega) (by omega)]
  omega
theorem Fi_add (T : Int) : ∀ n : Nat, Fi T ≤ Fi (T + n)
 | 0 => by simp
 | n + 1 => by
  have := Fi_add T n
  have h := Fi_succ (T + n)
  have b := ln_bd (T + n)
  rw [show T + ((n + 1 : Nat) : Int) = T + n + 1 by omega, h]
  omega
theorem Fi_mono {T U : Int} (h : T ≤ U) : Fi T ≤ Fi U := by
 have := Fi_add T (U - T).toNat
 rwa [show T + ((U - T).toNat : Int) = U by omega] at this
theorem is_T {n y m q : Int} (h : Cv.Is n y m q) : n = Fi (12 * y + m - 1) + q - 1 ∧ 1 ≤ q ∧ q ≤ ln (12 * y + m - 1) ∧ (12 * y + m - 1) / 12 = y := by
 obtain ⟨h1, h2, h3, h4, h5⟩ := h
 unfold Fi ln
 rw [show (12 * y + m - 1) / 12 = y by omega, show (12 * y + m - 1) % 12 + 1 = m by omega]
 exact ⟨h5, h3, h4, rfl⟩
theorem T_is {T q : Int} (h1 : 1 ≤ q) (h2 : q ≤ ln T) : Cv.Is (Fi T + q - 1) (T / 12) (T % 12 + 1) q := by
 unfold Fi ln at *
 exact ⟨by omega, by omega, h1, h2, by omega⟩
theorem day_lt {T U n q p : Int} (h : T < U) (hq : q ≤ ln T) (hp : 1 ≤ p) : Fi T + q - 1 < Fi U + p - 1 := by
 have := Fi_mono (show T + 1 ≤ U by omega)
 rw [Fi_succ] at this
 omega
def dk (T q k : Int) : Int := Fi (T + k) + Cvl.cut q (ln (T + k)) - 1
theorem cut_bd {q l : Int} (h1 : 1 ≤ q) (h2 : 28 ≤ l) : 1 ≤ Cvl.cut q l ∧ Cvl.cut q l ≤ l := by unfold Cvl.cut; split <;> omega
theorem dk_zero {T q : Int} (h : q ≤ ln T) : dk T q 0 = Fi T + q - 1 := by
 unfold dk
 rw [Int.add_zero, show Cvl.cut q (ln T) = q from if_pos h]
theorem s1_eq {d y m q k : Int} (h : Cv.Is d y m q) (y1 : -4712 ≤ (12 * y + m - 1 + k) / 12) (y2 : (12 * y + m - 1 + k) / 12 ≤ 294276) : s1k y m q k = true ∧ s1v d y m q k = dk (12 * y + m - 1) q k := by
 obtain ⟨e, q1, q2, e2⟩ := is_T h
 unfold s1k s1v
 by_cases hk : k = 0
 ·subst hk
  rw [if_pos rfl, if_pos rfl, dk_zero q2]
  exact ⟨rfl, e⟩
 ·rw [if_neg hk, if_neg hk]
  have b := ln_bd (12 * y + m - 1 + k)
  have c := cut_bd q1 b.1
  have hv : Cvl.shV y m q k = dk (12 * y + m - 1) q k ∧ Cvl.shE y m q k = 0 := by
   unfold Cvl.shV Cvl.shE Cvl.dayV Cvl.dayE
   have hr : Cvl.right ((12 * y + m - 1 + k) / 12) ((12 * y + m - 1 + k) % 12 + 1) (Cvl.cut q (Cv.len ((12 * y + m - 1 + k) / 12) ((12 * y + m - 1 + k) % 12 + 1))) = true := Cvl.right_yes ⟨by omega, by omega, c.1, c.2⟩
   rw [if_pos hr, if_pos hr]
   exact ⟨rfl, rfl⟩
  have hd : Dy.dok (dk (12 * y + m - 1) q k) = true := by
   unfold dk
   rw [Dy.dok_year (T_is (T := 12 * y + m - 1 + k) c.1 c.2)]
   exact decide_eq_true ⟨y1, y2⟩
  rw [hv.1, hv.2, hd]
  exact ⟨by simp, rfl⟩
structure Gap (a b T U q p : Int) : Prop where
 ha : a = Fi T + q - 1
 hb : b = Fi U + p - 1
 q1 : 1 ≤ q
 q2 : q ≤ ln T
 p1 : 1 ≤ p
 p2 : p ≤ ln U
theorem Gap.le {a b T U q p : Int} (h : Gap a b T U q p) (hab : b ≤ a) : U ≤ T := by
 refine Int.not_lt.1 fun k => ?_
 have := day_lt (n := 0) k h.q2 h.p1
 have := h.ha
 have := h.hb
 omega
theorem Gap.same {a b T U q p : Int} (h : Gap a b T U q p) : -31 ≤ a - dk U p (T - U) ∧ a - dk U p (T - U) ≤ 31 := by
 unfold dk
 rw [show U + (T - U) = T by omega]
 have b := ln_bd T
 have c := cut_bd h.p1 b.1
 have := h.ha
 have := h.q1
 have := h.q2
 omega
theorem Gap.prev {a b T U q p : Int} (h : Gap a b T U q p) : 0 < a - dk U p (T - U - 1) ∧ a - dk U p (T - U - 1) ≤ 62 := by
 unfold dk
 rw [show U + (T - U - 1) = T - 1 by omega]
 have b := ln_bd (T - 1)
 have b2 := ln_bd T
 have c := cut_bd h.p1 b.1
 have e := Fi_succ (T - 1)
 rw [show T - 1 + 1 = T by omega] at e
 have := h.ha
 have := h.q1
 have := h.q2
 omega
end Sm
end Go.Proofs.YtklehbmghjcmaaaGreatDoor
namespace Go.Proofs.YtklehbmghjcmaaaGreatDoor
open Go.RowKit
def SubIs (i a j b I D U E : Int) : Prop :=
 (¬ (Dy.sR i a = true ∧ Dy.sR j b = true) ∧ I = 0 ∧ D = 0 ∧ U = 0 ∧ E = 1) ∨
 (Dy.sR i a = true ∧ Dy.sR j b = true ∧ ¬ (i = 0 ∧ j = 0) ∧ I = tgI i (-j) ∧ D = 0 ∧ U = 0 ∧ E = tgE i (-j)) ∨
 (i = 0 ∧ j = 0 ∧ Dy.dok (a / 86400000000) = true ∧ Dy.dok (b / 86400000000) = true ∧ I = 0 ∧ ((smE (a - b) = 0 ∧ D = (a - b).tdiv 86400000000 ∧ U = (a - b).tmod 86400000000 ∧ E = 0) ∨ (smE (a - b) ≠ 0 ∧ D = 0 ∧ U = 0 ∧ E = 10)))
theorem smE_cases (s : Int) : (smE s = 0 ∧ -9223372036854775808 ≤ s ∧ s ≤ 9223372036854775807 ∧ smV s = s) ∨ (smE s = 10 ∧ ¬ (-9223372036854775808 ≤ s ∧ s ≤ 9223372036854775807)) := by
 by_cases h : -9223372036854775808 ≤ s ∧ s ≤ 9223372036854775807
 ·exact .inl ⟨smE_in h.1 h.2, h.1, h.2, smV_in h.1 h.2⟩
 ·exact .inr ⟨by unfold smE; rw [if_neg h], h⟩
theorem tdm_bd (n : Int) (h1 : -9223372036854775808 ≤ n) (h2 : n ≤ 9223372036854775807) : -106751992 ≤ n.tdiv 86400000000 ∧ n.tdiv 86400000000 ≤ 106751992 ∧ -86400000000 < n.tmod 86400000000 ∧ n.tmod 86400000000 < 86400000000 := by
 have e := Int.mul_tdiv_add_tmod n 86400000000
 by_cases hn : 0 ≤ n
 ·have := Int.tmod_nonneg (b := 86400000000) hn
  have := Int.tmod_lt_of_pos n (show (0:Int) < 86400000000 by decide)
  omega
 ·have a1 : (-n).tmod 86400000000 = -(n.tmod 86400000000) := Int.neg_tmod ..
  have := Int.tmod_nonneg (a := -n) (b := 86400000000) (by omega)
  have := Int.tmod_lt_of_pos (-n) (show (0:Int) < 86400000000 by decide)
  omega
theorem ssub_in (i a j b I D U E : Int) (h0 : i = 0 ∧ j = 0 ∧ Dy.sR i a = true ∧ Dy.sR j b = true) (h : SubIs i a j b I D U E) (a1 : -9223372036854775808 ≤ a) (a2 : a ≤ 9223372036854775807) (b1 : -9223372036854775808 ≤ b) (b2 : b ≤ 9223372036854775807) (w : World) (hL : Cvl.Lens w) :
  Calls Tryz.prog 91 #[.agg #[vi ki i, vi ki a], .agg #[vi ki j, vi ki b]] w fun r w' => r = zr (.tuple #[.agg #[vi ki I, vi ki 0, vi ki D, vi ki U], vi ki E]) ∧ Below w.heap.size w w' := by
 have RA : ∀ c, Dy.sR i a = c → ∀ w : World, Cvl.Lens w → Calls Tryz.prog 32 #[.agg #[vi ki i, vi ki a]] w fun r' w' => r' = zr (.bool c) ∧ Below w.heap.size w w' := fun c hc w hw => by rw [← hc]; exact Dy.rst_any i a a1 a2 w hw
 have RB : ∀ c, Dy.sR j b = c → ∀ w : World, Cvl.Lens w → Calls Tryz.prog 32 #[.agg #[vi ki j, vi ki b]] w fun r' w' => r' = zr (.bool c) ∧ Below w.heap.size w w' := fun c hc w hw => by rw [← hc]; exact Dy.rst_any j b b1 b2 w hw
 rcases h with ⟨h, rfl, rfl, rfl, rfl⟩ | ⟨h1, h2, h3, rfl, rfl, rfl, rfl⟩ | ⟨rfl, rfl, h1, h2, rfl, h3⟩
 ·exact absurd ⟨h0.2.2.1, h0.2.2.2⟩ h
 ·exact absurd ⟨h0.1, h0.2.1⟩ h3
 ·have TG := fun w => tog_any 0 0 (.inr (.inl rfl)) (.inr (.inl rfl)) w
  have KB : ∀ w : World, Calls Tryz.prog 46 #[vi ki 0] w fun r w' => r = zr (.iface 145 (.agg #[])) ∧ Below w.heap.size w w' := fun w => kind_b 0 w
  have NS := fun w => wsub_any a b a1 a2 b1 b2 w
  rcases h3 with ⟨e, rfl, rfl, rfl⟩ | ⟨e, rfl, rfl, rfl⟩
  ·rcases smE_cases (a - b) with ⟨_, c1, c2, c3⟩ | ⟨c, _⟩
   ·rw [e, c3] at NS
    obtain ⟨t1, t2, t3, t4⟩ := tdm_bd (a - b) c1 c2
    have hq : wrap64 ((a - b).tdiv 86400000000) = (a - b).tdiv 86400000000 := by unfold wrap64; omega
    have MK := fun w => Sp.pmake_any 0 ((a - b).tdiv 86400000000) ((a - b).tmod 86400000000) (by omega) (by omega) w
    obtain ⟨g1, g2, g3, g4⟩ := Sp.g_yes (m := 0) (d := (a - b).tdiv 86400000000) (u := (a - b).tmod 86400000000) (pR_of ⟨by omega, by omega, by omega, by omega, by omega, by omega⟩)
    rw [g1, g2, g3, g4] at MK
    exact sub_ok 0 a b (a - b) _ _ _ _ _ _ hq rfl _ (RA _ h1) (RB _ h2) (fun w => kind_b 0 w) KB (fun w => bturn_any w) TG NS MK w (Dy.lens_of hL)
   ·omega
  ·rcases smE_cases (a - b) with ⟨c, _⟩ | ⟨c, _⟩
   ·exact absurd c e
   ·rw [c] at NS
    exact sub_err 0 a b _ 10 _ (by decide) (RA _ h1) (RB _ h2) (fun w => kind_b 0 w) KB (fun w => bturn_any w) TG NS w (Dy.lens_of hL)
theorem mon_any (u y m q : Int) (hq : Cv.Is (u / 86400000000) y m q) (hu : Dy.dok (u / 86400000000) = true) (w : World) (hL : Cvl.Lens w) :
  Calls Tryz.prog 138 #[.agg #[vi ki 0, vi ki u]] w fun r w' => r = zr (vi ki (y * 12 + m)) ∧ Below w.heap.size w w' := by
 obtain ⟨u1, u2⟩ := dok_bd hu
 have OF : ∀ w : World, Cvl.Lens w → Calls Tryz.prog 97 #[.agg #[vi ki 0, vi ki u]] w fun r' w' => r' = zr (.tuple #[.agg #[vi ki 0, vi ki (u / 86400000000)], vi ki (u % 86400000000), vi ki 0]) ∧ Below w.heap.size w w' := fun w hw => by
  have R := Dy.sof_any 0 u u1 u2 w hw
  obtain ⟨a, b, c, d⟩ := of_right hu
  rw [a, b, c, d] at R
  exact R
 have hy := Dy.dok_year hq
 rw [hu] at hy
 have hy2 := of_decide_eq_true hy.symm
 exact mon_run 0 u _ _ 0 y m q 0 (by omega) (by omega) (by have := hq.1; omega) (by have := hq.2.1; omega) OF (fun w hw => Dy.parts_any 0 _ y m q 0 (.inr (.inr ⟨rfl, hu, hq, rfl⟩)) w hw) w (Dy.lens_of hL)
def gX (b T p k : Int) : Int := Sm.dk T p k * 86400000000 + b % 86400000000
def gK (a b T U p : Int) : Int := if gX b U p (T - U) ≤ a then T - U else T - U - 1
theorem gap_of {a b y m q y2 m2 q2 : Int} (ha : Cv.Is (a / 86400000000) y m q) (hb : Cv.Is (b / 86400000000) y2 m2 q2) : Sm.Gap (a / 86400000000) (b / 86400000000) (12 * y + m - 1) (12 * y2 + m2 - 1) q q2 := by
 obtain ⟨e1, e2, e3, _⟩ := Sm.is_T ha
 obtain ⟨f1, f2, f3, _⟩ := Sm.is_T hb
 exact ⟨e1, f1, e2, e3, f2, f3⟩
theorem gone_math {a b y m q y2 m2 q2 : Int} (ha : Cv.Is (a / 86400000000) y m q) (hb : Cv.Is (b / 86400000000) y2 m2 q2) (da : Dy.dok (a / 86400000000) = true) (db : Dy.dok (b / 86400000000) = true) (hab : b ≤ a) :
  let T := 12 * y + m - 1; let U := 12 * y2 + m2 - 1; let k := gK a b T U q2
  0 ≤ k ∧ k ≤ 4000000 ∧ 0 ≤ a - gX b U q2 k ∧ a - gX b U q2 k ≤ 64 * 86400000000 ∧ s1k y2 m2 q2 k = true ∧ s1v (b / 86400000000) y2 m2 q2 k = Sm.dk U q2 k ∧ Dy.dok (Sm.dk U q2 k) = true ∧
   0 ≤ T - U ∧ s1k y2 m2 q2 (T - U) = true ∧ s1v (b / 86400000000) y2 m2 q2 (T - U) = Sm.dk U q2 (T - U) ∧ Dy.dok (Sm.dk U q2 (T - U)) = true := by
 intro T U k
 have G := gap_of ha hb
 have hTU : U ≤ T := G.le (by omega)
 have ya := Dy.dok_year ha
 have yb := Dy.dok_year hb
 rw [da] at ya
 rw [db] at yb
 have ya2 := of_decide_eq_true ya.symm
 have yb2 := of_decide_eq_true yb.symm
 have m1 := ha.1
 have m2' := ha.2.1
 have n1 := hb.1
 have n2 := hb.2.1
 have usb := us_bd b
 have usa := us_bd a
 have S0 := Sm.s1_eq (k := T - U) hb (by omega) (by omega)
 have dk0 := s1_dok db S0.1
 rw [S0.2] at dk0
 by_cases hX : gX b U q2 (T - U) ≤ a
 ·have hk : k = T - U := if_pos hX
  rw [hk]
  have g : -31 ≤ a / 86400000000 - Sm.dk U q2 (T - U) ∧ a / 86400000000 - Sm.dk U q2 (T - U) ≤ 31 := G.same
  refine ⟨by omega, by omega, by omega, ?_, S0.1, S0.2, dk0, by omega, S0.1, S0.2, dk0⟩
  unfold gX at hX ⊢
  omega
 ·have hk : k = T - U - 1 := if_neg hX
  rw [hk]
  have g : 0 < a / 86400000000 - Sm.dk U q2 (T - U - 1) ∧ a / 86400000000 - Sm.dk U q2 (T - U - 1) ≤ 62 := G.prev
  have hne : T ≠ U := fun e => by
   have e2 : Sm.dk U q2 (T - U) = b / 86400000000 := by rw [e, Int.sub_self, Sm.dk_zero G.p2]; exact G.hb.symm
   unfold gX at hX
   rw [e2] at hX
   omega
  have S1 := Sm.s1_eq (k := T - U - 1) hb (by omega) (by omega)
  have dk1 := s1_dok db S1.1
  rw [S1.2] at dk1
  refine ⟨by omega, by omega, ?_, ?_, S1.1, S1.2, dk1, by omega, S0.1, S0.2, dk0⟩
  ·unfold gX; omega
  ·unfold gX; omega
theorem dk_div (T p k b : Int) : gX b T p k / 86400000000 = Sm.dk T p k := by unfold gX; have := us_bd b; omega
theorem mo_zero {v : Int} (h : Dy.dok (v / 86400000000) = true) : moV v 0 = v ∧ moE v 0 = 0 := by
 unfold moV moE; rw [Int.add_zero, if_pos h, if_pos h]; exact ⟨rfl, rfl⟩
theorem addM_is {b y2 m2 q2 k T : Int} (hb : Cv.Is (b / 86400000000) y2 m2 q2) (db : Dy.dok (b / 86400000000) = true) (k1 : s1k y2 m2 q2 k = true) (k2 : s1v (b / 86400000000) y2 m2 q2 k = Sm.dk T q2 k) (k3 : Dy.dok (Sm.dk T q2 k) = true) (b1 : -2147483647 ≤ k) (b2 : k ≤ 2147483647) :
  AddIs 0 b 0 k 0 0 0 (gX b T q2 k) 0 := by
 refine .inr (.inr ⟨rfl, rfl, db, pR_of ⟨b1, b2, by omega, by omega, by omega, by omega⟩, y2, m2, q2, hb, rfl, ?_, ?_⟩)
 ·have e : mdk (b / 86400000000) y2 m2 q2 k 0 = true := by unfold mdk; rw [k1, k2, Int.add_zero, k3]; rfl
  rw [if_pos e]
  have ev : mdv b y2 m2 q2 k 0 = gX b T q2 k := by unfold mdv gX; rw [k2, Int.add_zero]
  rw [ev]
  exact ((mo_zero (by rw [dk_div]; exact k3)).1).symm
 ·have e : mdk (b / 86400000000) y2 m2 q2 k 0 = true := by unfold mdk; rw [k1, k2, Int.add_zero, k3]; rfl
  rw [if_pos e]
  have ev : mdv b y2 m2 q2 k 0 = gX b T q2 k := by unfold mdv gX; rw [k2, Int.add_zero]
  rw [ev]
  exact ((mo_zero (by rw [dk_div]; exact k3)).2).symm
theorem cmp_right {x a : Int} (hx : Dy.dok (x / 86400000000) = true) (ha : Dy.dok (a / 86400000000) = true) : Dy.spV 0 x 0 a = (if x < a then -1 else if a < x then 1 else 0) := by
 unfold Dy.spV Dy.ordV
 rw [if_pos ⟨hx, ha⟩]
 simp
theorem gone_any (a b y m q y2 m2 q2 : Int) (ha : Cv.Is (a / 86400000000) y m q) (hb : Cv.Is (b / 86400000000) y2 m2 q2) (da : Dy.dok (a / 86400000000) = true) (db : Dy.dok (b / 86400000000) = true) (hab : b ≤ a) (k n : Int) (hk : k = gK a b (12 * y + m - 1) (12 * y2 + m2 - 1) q2) (hn : n = a - gX b (12 * y2 + m2 - 1) q2 k) (w : World) (hL : Cvl.Lens w) :
  Calls Tryz.prog 93 #[.agg #[vi ki 0, vi ki a], .agg #[vi ki 0, vi ki b]] w fun r w' => r = zr (.tuple #[.agg #[vi ki 0, vi ki k, vi ki (n / 86400000000), vi ki (n % 86400000000)], vi ki 0]) ∧ Below w.heap.size w w' := by
 obtain ⟨k1, k2, n1, n2, s1, s2, s3, t0, t1, t2, t3⟩ := gone_math ha hb da db hab
 rw [← hk] at k1 k2 n1 n2 s1 s2 s3
 rw [← hn] at n1 n2
 obtain ⟨a1, a2⟩ := dok_bd da
 obtain ⟨b1, b2⟩ := dok_bd db
 have ya := Dy.dok_year ha
 have yb := Dy.dok_year hb
 rw [da] at ya
 rw [db] at yb
 have ya2 := of_decide_eq_true ya.symm
 have yb2 := of_decide_eq_true yb.symm
 have m1 := ha.1
 have m2' := ha.2.1
 have l1 := hb.1
 have l2 := hb.2.1
 have eT : y * 12 + m - (y2 * 12 + m2) = 12 * y + m - 1 - (12 * y2 + m2 - 1) := by omega
 have dX0 : Dy.dok (gX b (12 * y2 + m2 - 1) q2 (y * 12 + m - (y2 * 12 + m2)) / 86400000000) = true := by rw [dk_div, eT]; exact t3
 have dXk : Dy.dok (gX b (12 * y2 + m2 - 1) q2 k / 86400000000) = true := by rw [dk_div]; exact s3
 obtain ⟨x1, x2⟩ := dok_bd dX0
 obtain ⟨z1, z2⟩ := dok_bd dXk
 have MA := fun w hw => mon_any a y m q ha da w hw
 have MB := fun w hw => mon_any b y2 m2 q2 hb db w hw
 have AA : ∀ w : World, Cvl.Lens w → Calls Tryz.prog 17 #[.agg #[vi ki 0, vi ki b], .agg #[vi ki 0, vi ki (y * 12 + m - (y2 * 12 + m2)), vi ki 0, vi ki 0]] w fun r' w' => r' = zr (.tuple #[.agg #[vi ki 0, vi ki (gX b (12 * y2 + m2 - 1) q2 (y * 12 + m - (y2 * 12 + m2)))], vi ki 0]) ∧ Below w.heap.size w w' := fun w hw => sadd_any 0 b 0 _ 0 0 0 _ 0 (addM_is hb db (by rw [eT]; exact t1) (by rw [eT]; exact t2) (by rw [eT]; exact t3) (by omega) (by omega)) b1 b2 (by decide) (by decide) w hw
 have CC := fun w hw => Dy.scmp_any 0 (gX b (12 * y2 + m2 - 1) q2 (y * 12 + m - (y2 * 12 + m2))) 0 a x1 x2 a1 a2 w hw
 rw [cmp_right dX0 da] at CC
 have hsm : smE (a - gX b (12 * y2 + m2 - 1) q2 k) = 0 := by rw [← hn]; exact smE_in (by omega) (by omega)
 have hdiv : (a - gX b (12 * y2 + m2 - 1) q2 k).tdiv 86400000000 = n / 86400000000 := by rw [← hn]; exact Int.tdiv_eq_ediv_of_nonneg n1
 have hmod : (a - gX b (12 * y2 + m2 - 1) q2 k).tmod 86400000000 = n % 86400000000 := by rw [← hn]; exact Int.tmod_eq_emod_of_nonneg n1
 have SB : ∀ w : World, Cvl.Lens w → Calls Tryz.prog 91 #[.agg #[vi ki 0, vi ki a], .agg #[vi ki 0, vi ki (gX b (12 * y2 + m2 - 1) q2 k)]] w fun r' w' => r' = zr (.tuple #[.agg #[vi ki 0, vi ki 0, vi ki (n / 86400000000), vi ki (n % 86400000000)], vi ki 0]) ∧ Below w.heap.size w w' := fun w hw => ssub_in 0 a 0 _ 0 _ _ 0 ⟨rfl, rfl, da, dXk⟩ (.inr (.inr ⟨rfl, rfl, da, dXk, rfl, .inl ⟨hsm, hdiv.symm, hmod.symm, rfl⟩⟩)) a1 a2 z1 z2 w hw
 have MK := fun w => Sp.pmake_any k (n / 86400000000) (n % 86400000000) (by omega) (by omega) w
 obtain ⟨g1, g2, g3, g4⟩ := Sp.g_yes (m := k) (d := n / 86400000000) (u := n % 86400000000) (pR_of ⟨by omega, by omega, by omega, by omega, by omega, by omega⟩)
 rw [g1, g2, g3, g4] at MK
 by_cases hX : gX b (12 * y2 + m2 - 1) q2 (12 * y + m - 1 - (12 * y2 + m2 - 1)) ≤ a
 ·have hk0 : k = y * 12 + m - (y2 * 12 + m2) := by rw [hk, eT]; exact if_pos hX
  subst hk0
  rw [if_neg (show ¬ a < gX b (12 * y2 + m2 - 1) q2 (y * 12 + m - (y2 * 12 + m2)) by rw [eT]; omega)] at CC
  exact gone_le a b _ _ _ _ 0 _ _ _ _ _ _ (by omega) (by omega) (by omega) (by omega) (by split <;> decide) MA MB AA CC SB MK w (Dy.lens_of hL)
 ·have hk0 : k = y * 12 + m - (y2 * 12 + m2) - 1 := by rw [hk, eT]; exact if_neg hX
  subst hk0
  have hX2 : a < gX b (12 * y2 + m2 - 1) q2 (y * 12 + m - (y2 * 12 + m2)) := by rw [eT]; omega
  rw [if_neg (by omega), if_pos hX2] at CC
  have AB : ∀ w : World, Cvl.Lens w → Calls Tryz.prog 17 #[.agg #[vi ki 0, vi ki b], .agg #[vi ki 0, vi ki (y * 12 + m - (y2 * 12 + m2) - 1), vi ki 0, vi ki 0]] w fun r' w' => r' = zr (.tuple #[.agg #[vi ki 0, vi ki (gX b (12 * y2 + m2 - 1) q2 (y * 12 + m - (y2 * 12 + m2) - 1))], vi ki 0]) ∧ Below w.heap.size w w' := fun w hw => sadd_any 0 b 0 _ 0 0 0 _ 0 (addM_is hb db s1 s2 s3 (by omega) (by omega)) b1 b2 (by decide) (by decide) w hw
  exact gone_gt a b _ _ _ _ _ _ _ _ _ _ _ (by omega) (by omega) (by omega) (by omega) (by decide) MA MB AA CC AB SB MK w (Dy.lens_of hL)
def AgeIs (i a j b I M D U E : Int) : Prop :=
 (¬ (Dy.sR i a = true ∧ Dy.sR j b = true ∧ i = 0 ∧ j = 0) ∧ M = 0 ∧ SubIs i a j b I D U E) ∨
 (i = 0 ∧ j = 0 ∧ Dy.dok (a / 86400000000) = true ∧ Dy.dok (b / 86400000000) = true ∧ b ≤ a ∧ I = 0 ∧ E = 0 ∧ ∃ y m q y2 m2 q2, Cv.Is (a / 86400000000) y m q ∧ Cv.Is (b / 86400000000) y2 m2 q2 ∧ M = gK a b (12 * y + m - 1) (12 * y2 + m2 - 1) q2 ∧ D = (a - gX b (12 * y2 + m2 - 1) q2 M) / 86400000000 ∧ U = (a - gX b (12 * y2 + m2 - 1) q2 M) % 86400000000) ∨
 (i = 0 ∧ j = 0 ∧ Dy.dok (a / 86400000000) = true ∧ Dy.dok (b / 86400000000) = true ∧ a < b ∧ I = 0 ∧ E = 0 ∧ ∃ y m q y2 m2 q2, Cv.Is (a / 86400000000) y m q ∧ Cv.Is (b / 86400000000) y2 m2 q2 ∧ M = -gK b a (12 * y2 + m2 - 1) (12 * y + m - 1) q ∧ D = -((b - gX a (12 * y + m - 1) q (-M)) / 86400000000) ∧ U = -((b - gX a (12 * y + m - 1) q (-M)) % 86400000000))
theorem sage_ge (i a j b I M D U E : Int) (h0 : i = 0 ∧ j = 0 ∧ Dy.sR i a = true ∧ Dy.sR j b = true ∧ b ≤ a) (h : AgeIs i a j b I M D U E) (a1 : -9223372036854775808 ≤ a) (a2 : a ≤ 9223372036854775807) (b1 : -9223372036854775808 ≤ b) (b2 : b ≤ 9223372036854775807) (w : World) (hL : Cvl.Lens w) :
  Calls Tryz.prog 44 #[.agg #[vi ki i, vi ki a], .agg #[vi ki j, vi ki b]] w fun r w' => r = zr (.tuple #[.agg #[vi ki I, vi ki M, vi ki D, vi ki U], vi ki E]) ∧ Below w.heap.size w w' := by
 have RA : ∀ c, Dy.sR i a = c → ∀ w : World, Cvl.Lens w → Calls Tryz.prog 32 #[.agg #[vi ki i, vi ki a]] w fun r' w' => r' = zr (.bool c) ∧ Below w.heap.size w w' := fun c hc w hw => by rw [← hc]; exact Dy.rst_any i a a1 a2 w hw
 have RB : ∀ c, Dy.sR j b = c → ∀ w : World, Cvl.Lens w → Calls Tryz.prog 32 #[.agg #[vi ki j, vi ki b]] w fun r' w' => r' = zr (.bool c) ∧ Below w.heap.size w w' := fun c hc w hw => by rw [← hc]; exact Dy.rst_any j b b1 b2 w hw
 rcases h with ⟨h, rfl, hs⟩ | ⟨rfl, rfl, h1, h2, hab, rfl, rfl, y, m, q, y2, m2, q2, hq, hq2, hM, rfl, rfl⟩ | ⟨rfl, rfl, h1, h2, hab, rfl, rfl, y, m, q, y2, m2, q2, hq, hq2, hM, rfl, rfl⟩
 ·exact absurd ⟨h0.2.2.1, h0.2.2.2.1, h0.1, h0.2.1⟩ h
 ·have CC := fun w hw => Dy.scmp_any 0 a 0 b a1 a2 b1 b2 w hw
  rw [cmp_right h1 h2, if_neg (by omega)] at CC
  exact age_ge a b _ 0 _ _ _ 0 (by split <;> decide) (RA _ h1) (RB _ h2) CC (fun w hw => gone_any a b y m q y2 m2 q2 hq hq2 h1 h2 hab M _ hM rfl w hw) w (Dy.lens_of hL)
 ·exact absurd h0.2.2.2.2 (by omega)
theorem rst_yes {u : Int} (h : Dy.dok (u / 86400000000) = true) (w : World) (hw : Cvl.Lens w) : Calls Tryz.prog 32 #[.agg #[vi ki 0, vi ki u]] w fun r' w' => r' = zr (.bool true) ∧ Below w.heap.size w w' := by
 obtain ⟨u1, u2⟩ := dok_bd h
 have R := Dy.rst_any 0 u u1 u2 w hw
 rw [show Dy.sR 0 u = true from h] at R
 exact R
theorem pr_yes {m d n : Int} (h : Sp.pR 0 m d n = true) (w : World) : Calls Tryz.prog 23 #[.agg #[vi ki 0, vi ki m, vi ki d, vi ki n]] w fun r' w' => r' = zr (.bool true) ∧ Below w.heap.size w w' := by
 have b := pR_bd h
 have R := Sp.pr_any 0 m d n (by omega) (by omega) w
 rw [h] at R
 exact R
theorem nlocal (nm : ByteArray) (f : TrR) (ao : Option Addr) (n c : Nat) (L : List TrR) (h : NoF f L) (u s o6 : Int) (hu : Dy.dok (u / 86400000000) = true) (hs : s = u / 1000000 + 946684800) (ha : ask s) (ho : o6 = (curT f L (Zm.cntLe s (L.map (·.at_)))).off * 1000000) (w : World) (HO : OkN (.slice ao n c) L w) :
  Calls Tryz.prog 10 #[.agg (tbF nm f (.slice ao n c) zeF).toArray, .agg #[vi ki 0, vi ki u]] w fun r w' => r = zr (.tuple #[.agg #[vi ki 0, vi ki (moV u o6)], vi ki (moE u o6)]) ∧ Below w.heap.size w w' := by
 obtain ⟨u1, u2⟩ := dok_bd hu
 have b := h.cur (Zm.cntLe s (L.map (·.at_)))
 have SE := fun w => sec_any 0 u u1 u2 w
 rw [← hs] at SE
 have AT := fun w hw => nat_ nm f (.slice ao n c) L h s ha w hw
 generalize curT f L (Zm.cntLe s (L.map (·.at_))) = x at *
 exact lo_ok (OkN (.slice ao n c) L) _ (tbF_len rfl) u s _ x.off o6 _ _ x.dst x.ab (by rw [ho, IntKind.wrap_i64]; omega) (fun w hw => nright nm f _ L h w hw.1) (fun w hw => rst_yes hu w hw.2) SE AT (fun w hw => more_any 0 u o6 u1 u2 (by omega) (by omega) w hw.2) w (fun W hb => HO.below hb)
theorem ninst (nm : ByteArray) (f : TrR) (ao : Option Addr) (n c : Nat) (hnc : n ≤ c) (L : List TrR) (hn : L.length = n) (h : NoF f L) (u s a9 how d9 V : Int) (hu : Dy.dok (u / 86400000000) = true) (hs : s = u / 1000000 + 946684800) (h0 : ask s) (h1 : ask (s - 57600)) (h2 : ask (s + 57600))
  (hi : a9 = inV (Zm.pGo s (stsN f L s) (⟨0, 0, 0⟩, ⟨0, 0, 0⟩))) (hh : how = inH (Zm.pGo s (stsN f L s) (⟨0, 0, 0⟩, ⟨0, 0, 0⟩))) (hd : d9 = a9 - s) (d1 : -57600 ≤ d9) (d2 : d9 ≤ 57600) (hV : Dy.dok ((u + d9 * 1000000) / 86400000000) = true) (hV2 : V = u + d9 * 1000000) (w : World) (HO : OkN (.slice ao n c) L w) :
  Calls Tryz.prog 12 #[.agg (tbF nm f (.slice ao n c) zeF).toArray, .agg #[vi ki 0, vi ki u]] w fun r w' => r = zr (.tuple #[.agg #[vi ki 0, vi ki V], vi ki how, vi ki 0]) ∧ Below w.heap.size w w' := by
 obtain ⟨u1, u2⟩ := dok_bd hu
 have SE := fun w => sec_any 0 u u1 u2 w
 rw [← hs] at SE
 have IN := fun w hw => nin_ nm f ao n c hnc L hn h s h0 h1 h2 (by omega) (by omega) w hw
 rw [← hi, ← hh] at IN
 have MO := fun w (hw : OkN (.slice ao n c) L w) => more_any 0 u (d9 * 1000000) u1 u2 (by omega) (by omega) w hw.2
 unfold moV moE at MO
 rw [if_pos hV, if_pos hV, ← hV2] at MO
 exact in_ok (OkN (.slice ao n c) L) _ (tbF_len rfl) u s a9 how d9 (d9 * 1000000) V 0 (by rw [hd, IntKind.wrap_i64]; omega) (by rw [IntKind.wrap_i64]; omega) (fun w hw => nright nm f _ L h w hw.1) (fun w hw => rst_yes hu w hw.2) SE IN MO w (fun W hb => HO.below hb)
theorem noB : NoF fB LB := by
 refine ⟨rfl, by decide, by decide, fun j hj => ?_⟩
 have hj2 : j < 2 := hj
 rcases (show j = 0 ∨ j = 1 by omega) with rfl | rfl
 ·exact ⟨_, rfl, by decide, by decide, by decide, .inl rfl⟩
 ·exact ⟨_, rfl, by decide, by decide, by decide, .inr ⟨_, rfl, by decide⟩⟩
theorem ask24 {t : Int} (h1 : 1704067200 ≤ t) (h2 : t < 1735689600) : ask t := by
 refine ⟨by omega, by omega, 2024, .inl ⟨?_, ?_, ?_⟩, by decide⟩
 ·unfold Cvl.can; exact decide_eq_true (by omega)
 ·rw [show Cv.S 2024 = 8766 by decide +kernel]; omega
 ·rw [show Cv.S (2024 + 1) = 9132 by decide +kernel]; omega
theorem known_any (w : World) (hL : Cvl.Lens w) : Calls Tryz.prog 16 #[] w fun r w' => r = zr (.bool true) ∧ Below w.heap.size w w' := by
 have LO : ∀ (u s o6 V : Int) (ao : Option Addr) (c : Nat), 2 ≤ c → Dy.dok (u / 86400000000) = true → s = u / 1000000 + 946684800 → 1704067200 ≤ s ∧ s < 1735689600 → o6 = (curT fB LB (Zm.cntLe s (LB.map (·.at_)))).off * 1000000 → moV u o6 = V → moE u o6 = 0 → ∀ w : World, OkN (.slice ao 2 c) LB w → Calls Tryz.prog 10 #[.agg (tbF nmB fB (.slice ao 2 c) zeF).toArray, .agg #[vi ki 0, vi ki u]] w fun r w' => r = zr (.tuple #[.agg #[vi ki 0, vi ki V], vi ki 0]) ∧ Below w.heap.size w w' := fun u s o6 V ao c hc hu hs hss ho h1 h2 w hw => by
  have R := nlocal nmB fB ao 2 c LB noB u s o6 hu hs (ask24 hss.1 hss.2) ho w hw
  rw [h1, h2] at R
  exact R
 have IN : ∀ (u s a9 how V : Int) (ao : Option Addr) (c : Nat), 2 ≤ c → Dy.dok (u / 86400000000) = true → s = u / 1000000 + 946684800 → 1704167200 ≤ s ∧ s < 1735589600 → a9 = inV (Zm.pGo s (stsN fB LB s) (⟨0, 0, 0⟩, ⟨0, 0, 0⟩)) → how = inH (Zm.pGo s (stsN fB LB s) (⟨0, 0, 0⟩, ⟨0, 0, 0⟩)) → -57600 ≤ a9 - s ∧ a9 - s ≤ 57600 → Dy.dok ((u + (a9 - s) * 1000000) / 86400000000) = true → V = u + (a9 - s) * 1000000 → ∀ w : World, OkN (.slice ao 2 c) LB w → Calls Tryz.prog 12 #[.agg (tbF nmB fB (.slice ao 2 c) zeF).toArray, .agg #[vi ki 0, vi ki u]] w fun r w' => r = zr (.tuple #[.agg #[vi ki 0, vi ki V], vi ki how, vi ki 0]) ∧ Below w.heap.size w w' := fun u s a9 how V ao c hc hu hs hss hi hh hd hV hV2 w hw =>
  ninst nmB fB ao 2 c hc LB rfl noB u s a9 how (a9 - s) V hu hs (ask24 (by omega) (by omega)) (ask24 (by omega) (by omega)) (ask24 (by omega) (by omega)) hi hh rfl hd.1 hd.2 hV hV2 w hw
 refine known_run ?_ ?_ ?_ ?_ ?_ w hL
 ·exact fun ao c hc w hw => LO 783304200000000 1729989000 7200000000 783311400000000 ao c hc (by decide) (by decide) (by decide) (by decide +kernel) (by decide +kernel) (by decide +kernel) w hw
 ·exact fun ao c hc w hw => IN 783311400000000 1729996200 1729989000 1 783304200000000 ao c hc (by decide) (by decide) (by decide) (by decide +kernel) (by decide +kernel) (by decide) (by decide) (by decide) w hw
 ·intro ao c hc w hw
  have ADI : AddIs 0 765115200000000 0 0 1 0 0 765201600000000 0 := .inr (.inr ⟨rfl, rfl, by decide, by decide, 2024, 3, 30, ⟨by decide, by decide, by decide, by decide, by decide +kernel⟩, rfl, by decide +kernel, by decide +kernel⟩)
  have AD := fun w (hw : OkN (.slice ao 2 c) LB w) => sadd_any 0 765115200000000 0 0 1 0 0 765201600000000 0 ADI (by decide) (by decide) (by decide) (by decide) w hw.2
  have L1 := fun w hw => LO 765111600000000 1711796400 3600000000 765115200000000 ao c hc (by decide) (by decide) (by decide) (by decide +kernel) (by decide +kernel) (by decide +kernel) w hw
  have I1 := fun w hw => IN 765201600000000 1711886400 1711879200 0 765194400000000 ao c hc (by decide) (by decide) (by decide) (by decide +kernel) (by decide +kernel) (by decide) (by decide) (by decide) w hw
  have MB := fun w (hw : OkN (.slice ao 2 c) LB w) => mb_ok (OkN (.slice ao 2 c) LB) _ (tbF_len rfl) 765111600000000 0 0 1 0 765115200000000 765201600000000 765194400000000 0 0 L1 AD I1 w (fun W hb => hw.below hb)
  have MO := fun w (hw : OkN (.slice ao 2 c) LB w) => more_any 0 765194400000000 0 (by decide) (by decide) (by decide) (by decide) w hw.2
  rw [show moV 765194400000000 0 = 765194400000000 by decide +kernel, show moE 765194400000000 0 = 0 by decide +kernel] at MO
  exact az_okd (OkN (.slice ao 2 c) LB) _ (tbF_len rfl) 0 765111600000000 0 1 0 765194400000000 _ 0 (kdV 0) (kdV 0) (by decide) (fun w hw => nright nmB fB _ LB noB w hw.1) (fun w hw => rst_yes (by decide) w hw.2) (fun w => pr_yes (by decide) w) (fun w => kind_b 0 w) (fun w => kind_b 0 w) (fun w => tog_any 0 0 (.inr (.inl rfl)) (.inr (.inl rfl)) w) MB MO w (fun W hb => hw.below hb)
 ·intro ao c hc w hw
  have MO := fun w (hw : OkN (.slice ao 2 c) LB w) => more_any 0 765111600000000 86400000000 (by decide) (by decide) (by decide) (by decide) w hw.2
  rw [show moV 765111600000000 86400000000 = 765198000000000 by decide +kernel, show moE 765111600000000 86400000000 = 0 by decide +kernel] at MO
  exact az_none (OkN (.slice ao 2 c) LB) _ (tbF_len rfl) 0 765111600000000 0 86400000000 _ 0 (kdV 0) (kdV 0) (fun w hw => nright nmB fB _ LB noB w hw.1) (fun w hw => rst_yes (by decide) w hw.2) (fun w => pr_yes (by decide) w) (fun w => kind_b 0 w) (fun w => kind_b 0 w) (fun w => tog_any 0 0 (.inr (.inl rfl)) (.inr (.inl rfl)) w) MO w (fun W hb => hw.below hb)
 ·intro ao c hc w hw
  refine sage_ge 0 762566400000000 0 759974400000000 0 1 1 0 0 ⟨rfl, rfl, by decide, by decide, by decide⟩ (.inr (.inl ⟨rfl, rfl, by decide, by decide, by decide, rfl, rfl, 2024, 3, 1, 2024, 1, 31, ⟨by decide, by decide, by decide, by decide, by decide +kernel⟩, ⟨by decide, by decide, by decide, by decide, by decide +kernel⟩, ?_, ?_, ?_⟩)) (by decide) (by decide) (by decide) (by decide) w hw.2 <;> decide +kernel
end Go.Proofs.YtklehbmghjcmaaaGreatDoor
namespace Go.Proofs.YtklehbmghjcmaaaGreatDoor
open Go.RowKit Sr
def nmU : ByteArray := ⟨#[85, 84, 67]⟩
def fU : TrR := ⟨0, 0, false, ⟨#[85, 84, 67]⟩⟩
def utL : List Value := tbF nmU fU (.slice none 0 0) zeF
theorem one_u : utL.toArray.all (·.oneCell') = true := by kernel_rfl
theorem utc17_any (w : World) : Calls Tryz.prog 22 #[] w fun e w' => e = zr (.agg utL.toArray) ∧ Below w.heap.size w w' := by
 have X1 : Hid (Bx (w.alloc (.cells zeT.toArray 44)) w.heap.size zeT) := Bx.new w zeT 44
 have B1 : Hid (Below w.heap.size w (w.alloc (.cells zeT.toArray 44))) := (Below.refl _ _).alloc (Nat.le_refl _) _
 go_enter Tryz.func22, Tryz.ntmps22
 go_wp2_with (refine wpList_store_mid rfl 44 _ _ rfl w.heap.size 0 utL.toArray rfl rfl X1.out.there (by kernel_rfl) one_u ?_; refine gen_list (fun V => Bx V w.heap.size utL ∧ Below w.heap.size w V) ⟨X1.out.setAll utL rfl, below_setCells (Nat.le_refl _) _ _ _ B1.out⟩ ?_; clear X1 B1; rintro V ⟨XV, BV⟩)
 exact bodyPost_ret (v := .agg utL.toArray) (results_c1 rfl _ _ _ _ rfl (run_loadVar_mid _ _ _ _ utL _ XV.all Tryz.underlying44 rfl (by kernel_rfl))) rfl ⟨rfl, BV⟩
theorem noU : NoF fU [] := by
 refine ⟨rfl, by decide, by decide, fun j hj => ?_⟩
 exact absurd hj (by simp)
end Go.Proofs.YtklehbmghjcmaaaGreatDoor
