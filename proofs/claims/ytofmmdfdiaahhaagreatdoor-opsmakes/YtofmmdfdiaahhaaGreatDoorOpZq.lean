/- ops: firstDay, begin, Trunc, Bin, whole. -/
import Derived.Test.YtofmmdfdiaahhaaGreatDoorOpBq
import Derived.Test.YtofmmdfdiaahhaaGreatDoorOpTq
import Derived.Test.YtofmmdfdiaahhaaGreatDoorOpYq
import Derived.Test.YtofmmdfdiaahhaaGreatDoorDyYq
import Derived.Test.YtofmmdfdiaahhaaGreatDoorSpYq
import Derived.Test.YtofmmdfdiaahhaaGreatDoorWiZq
namespace Go.Proofs.YtofmmdfdiaahhaaGreatDoor
open Go.RowKit
set_option linter.unusedVariables false

theorem rsR {i u : Int} {c : Bool} (h : Dy.sR i u = c) (u1 : -9223372036854775808 ≤ u) (u2 : u ≤ 9223372036854775807) (w : World) (hw : Cvl.Lens w) :
    Calls Tryz.prog 20 #[.agg #[.int .i64 i, .int .i64 u]] w fun r' w' => r' = .returned (.bool c) ∧ Below w.heap.size w w' := by
  have R := Dy.rst_any i u u1 u2 w hw
  rw [h] at R
  exact R
theorem is_first (y m : Int) (h1 : 1 ≤ m) (h2 : m ≤ 12) : Cv.Is (Cv.S y + Cv.cum y m) y m 1 := by
  have := Cv.len_01 y m h1 h2
  exact ⟨h1, h2, by decide, by omega, by omega⟩
theorem make_first {y m n : Int} (h : Cv.Is n y m 1) : Dy.mkV y m 1 = (if Dy.dok n = true then n else 0) ∧ Dy.mkE y m 1 = (if Dy.dok n = true then 0 else 10) := by
  have hk := Dy.dok_year h
  obtain ⟨h1, h2, h3, h4, h5⟩ := h
  unfold Dy.mkV Dy.mkE Dy.oV Dy.oE Cvl.dayV Cvl.dayE
  by_cases hr : Cvl.right y m 1 = true
  · rw [if_pos hr, if_pos hr]
    have e : Cv.S y + Cv.cum y m + 1 - 1 = n := by omega
    rw [e]
    simp
  · have hn : ¬ (Dy.dok n = true) := by
      rw [hk]
      intro q
      have q' := of_decide_eq_true q
      exact hr (Cvl.right_yes ⟨by omega, by omega, h3, h4⟩)
    rw [if_neg hr, if_neg hr, if_neg hn, if_neg hn, if_neg (fun q => absurd q.1 (by decide)), if_neg (fun q => absurd q.1 (by decide))]
    exact ⟨rfl, rfl⟩
/-- the first year, month, day of what a date is of. -/
def fyN (f y : Int) : Int := if f = 10 then y - y % 10 else if f = 11 then y - (y - 1) % 100 else if f = 12 then y - (y - 1) % 1000 else y
def fmN (f m : Int) : Int := if f = 7 then m else if f = 8 then 3 * ((m + 2) / 3 - 1) + 1 else 1
def fdN (f d y m : Int) : Int := if f = 6 then d - (d + 5) % 7 else Cv.S (fyN f y) + Cv.cum (fyN f y) (fmN f m)
theorem fm_bd (f m : Int) (m1 : 1 ≤ m) (m2 : m ≤ 12) : 1 ≤ fmN f m ∧ fmN f m ≤ 12 ∧ fmN f m ≤ m := by
  unfold fmN; split
  · omega
  · split <;> omega
def fdV (n : Int) : Int := if Dy.dok n = true then n else 0
def fdE (n : Int) : Int := if Dy.dok n = true then 0 else 10
theorem year_bd {d y m q : Int} (h : Cv.Is d y m q) (hd : Dy.dok d = true) : -4712 ≤ y ∧ y ≤ 294276 := by
  have := Dy.dok_year h
  rw [hd] at this
  exact of_decide_eq_true this.symm
theorem wkd_any (d n : Int) (h : n = (d + 5) % 7 + 1) (w : World) : Calls Tryz.prog 74 #[.agg #[.int .i64 0, .int .i64 d]] w fun r' w' => r' = .returned (.int .i64 n) ∧ Below w.heap.size w w' := by
  have WD := fun w => Cvl.weekday_any d w
  by_cases h0 : (d + 6) % 7 = 0
  · have e : n = 7 := by omega
    subst e
    exact wk_0 0 d _ h0 WD w
  · have e : n = (d + 6) % 7 := by omega
    rw [e]
    exact wk_1 0 d _ h0 WD w
theorem fyc_any (y wi ma x : Int) (y1 : -1000000 ≤ y) (y2 : y ≤ 1000000) (w1 : 0 ≤ wi) (w2 : wi ≤ 1) (m1 : 2 ≤ ma) (m2 : ma ≤ 1000) (h : x = y - (y - wi) % ma) (w : World) :
    Calls Tryz.prog 77 #[.int .i64 y, .int .i64 wi, .int .i64 ma] w fun r' w' => r' = .returned (.int .i64 x) ∧ Below w.heap.size w w' := by
  have g1 := Int.emod_nonneg (y - wi) (show ma ≠ 0 by omega)
  have g2 := Int.emod_lt_of_pos (y - wi) (show 0 < ma by omega)
  have MO := fun w => mod_in (y - wi) ma (by omega) (by omega) (by omega) w
  rw [Int.fmod_eq_emod_of_nonneg _ (show 0 ≤ ma by omega)] at MO
  rw [h]
  exact fy_any y wi ma _ y1 y2 w1 w2 g1 (by omega) MO w

theorem fd_any (f d y m q : Int) (f1 : 6 ≤ f) (f2 : f ≤ 12) (hq : Cv.Is d y m q) (hd : Dy.dok d = true) (w : World) (hL : Cvl.Lens w) :
    Calls Tryz.prog 49 #[.int .i64 f, .agg #[.int .i64 0, .int .i64 d]] w fun r' w' => r' = .returned (.tuple #[.agg #[.int .i64 0, .int .i64 (fdV (fdN f d y m))], .int .i64 (fdE (fdN f d y m))]) ∧ Below w.heap.size w w' := by
  have PA : ∀ w : World, Cvl.Lens w → _ := fun w hw => Dy.parts_any 0 d y m q 0 (.inr (.inr ⟨rfl, hd, hq, rfl⟩)) w hw
  have kd := Dy.dok_yes hd
  obtain ⟨y1, y2⟩ := year_bd hq hd
  obtain ⟨m1, m2, q1, q2, _⟩ := hq
  have hLL := Dy.lens_of hL
  by_cases h6 : f = 6
  · subst h6
    have DA := fun w hw => Dy.dadd_any 0 d (1 - ((d + 5) % 7 + 1)) (by omega) (by omega) w hw
    have eN : d + (1 - ((d + 5) % 7 + 1)) = fdN 6 d y m := by unfold fdN; rw [if_pos rfl]; omega
    have b := Dy.mv_yes (d := d) hd (smV (d + (1 - ((d + 5) % 7 + 1)))) (smE (d + (1 - ((d + 5) % 7 + 1))))
    rw [b.1, b.2.1, b.2.2, smV_in (by omega) (by omega), smE_in (by omega) (by omega), eN] at DA
    have eV : Dy.oV (fdN 6 d y m) 0 = fdV (fdN 6 d y m) := by unfold Dy.oV fdV; simp
    have eE : Dy.oE (fdN 6 d y m) 0 = fdE (fdN 6 d y m) := by unfold Dy.oE fdE; simp
    rw [eV, eE] at DA
    exact fd_6 d y m q _ _ _ (by omega) (by omega) PA (fun w => wkd_any d _ rfl w) DA w hLL
  · obtain ⟨c1, c2, _⟩ := fm_bd f m m1 m2
    have hF := is_first (fyN f y) (fmN f m) c1 c2
    have eN : Cv.S (fyN f y) + Cv.cum (fyN f y) (fmN f m) = fdN f d y m := by unfold fdN; rw [if_neg h6]
    rw [eN] at hF
    obtain ⟨eV, eE⟩ := make_first hF
    have MK : ∀ w : World, Cvl.Lens w → Calls Tryz.prog 75 #[.int .i64 (fyN f y), .int .i64 (fmN f m), .int .i64 1] w fun r' w' => r' = .returned (.tuple #[.agg #[.int .i64 0, .int .i64 (fdV (fdN f d y m))], .int .i64 (fdE (fdN f d y m))]) ∧ Below w.heap.size w w' := fun w hw => by
      have R := Dy.make_any (fyN f y) (fmN f m) 1 w hw
      rw [eV, eE] at R
      exact R
    obtain ⟨v, hv⟩ : ∃ v, fdV (fdN f d y m) = v := ⟨_, rfl⟩
    obtain ⟨e, he⟩ : ∃ e, fdE (fdN f d y m) = e := ⟨_, rfl⟩
    rw [hv, he] at MK ⊢
    clear hF eN eV eE hv he
    obtain rfl | rfl | rfl | rfl | rfl | rfl : f = 7 ∨ f = 8 ∨ f = 9 ∨ f = 10 ∨ f = 11 ∨ f = 12 := by omega
    · exact fd_7 d y m q v e PA MK w hLL
    · exact fd_8 d y m q ((m + 2) / 3) v e (by omega) (by omega) PA (fun w => quarter_any m m1 m2 w) MK w hLL
    · exact fd_9 d y m q v e PA MK w hLL
    · exact fd_10 d y m q (fyN 10 y) v e PA (fun w => fyc_any y 0 10 _ (by omega) (by omega) (by decide) (by decide) (by decide) (by decide) (by unfold fyN; simp) w) MK w hLL
    · exact fd_11 d y m q (fyN 11 y) v e PA (fun w => fyc_any y 1 100 _ (by omega) (by omega) (by decide) (by decide) (by decide) (by decide) (by unfold fyN; simp) w) MK w hLL
    · exact fd_12 d y m q (fyN 12 y) v e PA (fun w => fyc_any y 1 1000 _ (by omega) (by omega) (by decide) (by decide) (by decide) (by decide) (by unfold fyN; simp) w) MK w hLL

/-- where a length of time begins. -/
def bgV (f u y m : Int) : Int := if f ≤ 5 then u - u % (opTab.getD f.toNat 1) else if Dy.dok (fdN f (u / 86400000000) y m) = true then fdN f (u / 86400000000) y m * 86400000000 else 0
def bgE (f u y m : Int) : Int := if f ≤ 5 then 0 else if Dy.dok (fdN f (u / 86400000000) y m) = true then 0 else 10

theorem of_in {u : Int} (hd : Dy.dok (u / 86400000000) = true) (w : World) (hw : Cvl.Lens w) :
    Calls Tryz.prog 47 #[.agg #[.int .i64 0, .int .i64 u]] w fun r' w' => r' = .returned (.tuple #[.agg #[.int .i64 0, .int .i64 (u / 86400000000)], .int .i64 (u % 86400000000), .int .i64 0]) ∧ Below w.heap.size w w' := by
  have kd := Dy.dok_yes hd
  have hs : Dy.sR 0 u = true := hd
  have R := Dy.sof_any 0 u (by omega) (by omega) w hw
  rw [show Dy.ofI 0 u = 0 by unfold Dy.ofI; rw [if_pos hs], show Dy.ofD 0 u = u / 86400000000 by unfold Dy.ofD; rw [if_pos ⟨hs, rfl⟩], show Dy.ofU 0 u = u % 86400000000 by unfold Dy.ofU; rw [if_pos ⟨hs, rfl⟩], show Dy.ofE 0 u = 0 by unfold Dy.ofE; rw [if_pos hs]] at R
  exact R
theorem stm_in {d x v : Int} (hd : Dy.dok d = true) (x1 : 0 ≤ x) (x2 : x < 86400000000) (hv : v = d * 86400000000 + x) (w : World) (hw : Cvl.Lens w) :
    Calls Tryz.prog 48 #[.agg #[.int .i64 0, .int .i64 d], .int .i64 x] w fun r' w' => r' = .returned (.tuple #[.agg #[.int .i64 0, .int .i64 v], .int .i64 0]) ∧ Below w.heap.size w w' := by
  have R := Dy.stamp_any 0 d x w hw
  have k := Dy.st_in (d := d) (u := x) ⟨hd, x1, by omega⟩ (by rw [show (d * 86400000000 + x) / 86400000000 = d by omega]; exact hd)
  rw [k.1, k.2.1, k.2.2, ← hv] at R
  exact R
theorem sta_in {d : Int} (hd : Dy.dok d = true) (w : World) (hw : Cvl.Lens w) :
    Calls Tryz.prog 42 #[.agg #[.int .i64 0, .int .i64 d]] w fun r' w' => r' = .returned (.tuple #[.agg #[.int .i64 0, .int .i64 (d * 86400000000)], .int .i64 0]) ∧ Below w.heap.size w w' := by
  have R := Dy.start_any 0 d w hw
  have k := Dy.st_in (d := d) (u := 0) ⟨hd, by decide, by decide⟩ (by rw [show (d * 86400000000 + 0) / 86400000000 = d by omega]; exact hd)
  rw [k.1, k.2.1, k.2.2, Int.add_zero] at R
  exact R

theorem bg_any (f u y m q : Int) (f1 : 0 ≤ f) (f2 : f ≤ 12) (hq : Cv.Is (u / 86400000000) y m q) (hd : Dy.dok (u / 86400000000) = true) (w : World) (hL : Cvl.Lens w) (hO : OLens w) :
    Calls Tryz.prog 25 #[.int .i64 f, .agg #[.int .i64 0, .int .i64 u]] w fun r' w' => r' = .returned (.tuple #[.agg #[.int .i64 0, .int .i64 (bgV f u y m)], .int .i64 (bgE f u y m)]) ∧ Below w.heap.size w w' := by
  have OF : ∀ w : World, Cvl.Lens w → _ := fun w hw => of_in hd w hw
  have hLL := Dy.lens_of hL
  by_cases h5 : f ≤ 5
  · unfold bgV bgE
    rw [if_pos h5, if_pos h5]
    have u1 : 0 ≤ u % 86400000000 := by omega
    have u2 : u % 86400000000 < 86400000000 := by omega
    obtain rfl | rfl | rfl | rfl | rfl | rfl : f = 0 ∨ f = 1 ∨ f = 2 ∨ f = 3 ∨ f = 4 ∨ f = 5 := by omega
    · exact bg_0 u _ _ _ _ u1 u2 OF (fun w hw => stm_in hd (by omega) (by omega) (by simp [opTab]; omega) w hw) w hO hLL
    · exact bg_1 u _ _ _ _ u1 u2 OF (fun w hw => stm_in hd (by omega) (by omega) (by simp [opTab]; omega) w hw) w hO hLL
    · exact bg_2 u _ _ _ _ u1 u2 OF (fun w hw => stm_in hd (by omega) (by omega) (by simp [opTab]; omega) w hw) w hO hLL
    · exact bg_3 u _ _ _ _ u1 u2 OF (fun w hw => stm_in hd (by omega) (by omega) (by simp [opTab]; omega) w hw) w hO hLL
    · exact bg_4 u _ _ _ _ u1 u2 OF (fun w hw => stm_in hd (by omega) (by omega) (by simp [opTab]; omega) w hw) w hO hLL
    · exact bg_5 u _ _ _ _ u1 u2 OF (fun w hw => stm_in hd (by omega) (by omega) (by simp [opTab]; omega) w hw) w hO hLL
  · have FD := fun w hw => fd_any f (u / 86400000000) y m q (by omega) f2 hq hd w hw
    unfold bgV bgE
    rw [if_neg h5, if_neg h5]
    unfold fdV fdE at FD
    generalize fdN f (u / 86400000000) y m = n at *
    by_cases hn : Dy.dok n = true
    · rw [if_pos hn, if_pos hn] at FD ⊢
      have SA := fun w hw => sta_in (d := n) hn w hw
      obtain rfl | rfl | rfl | rfl | rfl | rfl | rfl : f = 6 ∨ f = 7 ∨ f = 8 ∨ f = 9 ∨ f = 10 ∨ f = 11 ∨ f = 12 := by omega
      · exact bg_6 u _ _ n _ _ OF FD SA w hLL
      · exact bg_7 u _ _ n _ _ OF FD SA w hLL
      · exact bg_8 u _ _ n _ _ OF FD SA w hLL
      · exact bg_9 u _ _ n _ _ OF FD SA w hLL
      · exact bg_10 u _ _ n _ _ OF FD SA w hLL
      · exact bg_11 u _ _ n _ _ OF FD SA w hLL
      · exact bg_12 u _ _ n _ _ OF FD SA w hLL
    · rw [if_neg hn, if_neg hn] at FD ⊢
      obtain rfl | rfl | rfl | rfl | rfl | rfl | rfl : f = 6 ∨ f = 7 ∨ f = 8 ∨ f = 9 ∨ f = 10 ∨ f = 11 ∨ f = 12 := by omega
      · exact bg_6e u _ _ _ 10 (by decide) OF FD w hLL
      · exact bg_7e u _ _ _ 10 (by decide) OF FD w hLL
      · exact bg_8e u _ _ _ 10 (by decide) OF FD w hLL
      · exact bg_9e u _ _ _ 10 (by decide) OF FD w hLL
      · exact bg_10e u _ _ _ 10 (by decide) OF FD w hLL
      · exact bg_11e u _ _ _ 10 (by decide) OF FD w hLL
      · exact bg_12e u _ _ _ 10 (by decide) OF FD w hLL

/-- what comes of cutting a stamp at a field (k: its number, below 0: none). -/
def TruncIs (k i u a v e : Int) : Prop :=
  (Dy.sR i u = false ∧ a = 0 ∧ v = 0 ∧ e = 1) ∨ (Dy.sR i u = true ∧ k < 0 ∧ a = 0 ∧ v = 0 ∧ e = 23) ∨ (Dy.sR i u = true ∧ 0 ≤ k ∧ i ≠ 0 ∧ a = i ∧ v = u ∧ e = 0) ∨
  (Dy.sR i u = true ∧ 0 ≤ k ∧ k ≤ 12 ∧ i = 0 ∧ a = 0 ∧ ∃ y m q, Cv.Is (u / 86400000000) y m q ∧ v = bgV k u y m ∧ e = bgE k u y m)
theorem trunc_any (s : ByteArray) (hs : s.size ≤ maxLen) (i u a v e : Int) (h : TruncIs (fldN s 13) i u a v e) (u1 : -9223372036854775808 ≤ u) (u2 : u ≤ 9223372036854775807) (w : World) (hL : Cvl.Lens w) (hO : OLens w) :
    Calls Tryz.prog 10 #[.string s, .agg #[.int .i64 i, .int .i64 u]] w fun r' w' => r' = .returned (.tuple #[.agg #[.int .i64 a, .int .i64 v], .int .i64 e]) ∧ Below w.heap.size w w' := by
  have hLL := Dy.lens_of hL
  rcases h with ⟨hr, rfl, rfl, rfl⟩ | ⟨hr, hk, rfl, rfl, rfl⟩ | ⟨hr, hk, hi, rfl, rfl, rfl⟩ | ⟨hr, hk, hk2, rfl, rfl, y, m, q, hq, rfl, rfl⟩
  · exact tr_no s i u (fun w hw => rsR hr u1 u2 w hw) w hLL
  · exact tr_name s i u _ (fun w hw => rsR hr u1 u2 w hw) (fun w => named_13 s hs _ rfl _ false rfl (by simp; omega) w) w hLL
  · exact tr_ok s _ _ _ _ _ _ (fun w hw => rsR hr u1 u2 w hw) (fun w => named_13 s hs _ rfl _ true rfl (by simp; omega) w) w (fun W hb => bg_inf _ _ _ hi W) hLL
  · have e : max (fldN s 13) 0 = fldN s 13 := by omega
    exact tr_ok s _ _ (fldN s 13) _ _ _ (fun w hw => rsR hr u1 u2 w hw) (fun w => named_13 s hs _ rfl _ true e.symm (by simp; omega) w) w (fun W hb => bg_any _ u y m q hk hk2 hq hr W (hLL.out _ hb) (hO.below hb)) hLL

theorem pr_yes {m d n : Int} (h : Sp.pR 0 m d n = true) (w : World) : Calls Tryz.prog 27 #[.agg #[.int .i64 0, .int .i64 m, .int .i64 d, .int .i64 n]] w fun r' w' => r' = .returned (.bool true) ∧ Below w.heap.size w w' := by
  have R := Sp.pr_any 0 m d n (by rcases Sp.pR_yes h with k | k <;> omega) (by rcases Sp.pR_yes h with k | k <;> omega) w
  rw [h] at R
  exact R
theorem back_any (i t r : Int) (t1 : -9223372036854775808 ≤ t) (t2 : t ≤ 9223372036854775807) (r1 : -9223372036854775808 ≤ r) (r2 : r ≤ 9223372036854775807) (w : World) (hL : Cvl.Lens w) :
    Calls Tryz.prog 31 #[.agg #[.int .i64 i, .int .i64 t], .int .i64 r] w fun r' w' => r' = .returned (.tuple #[.agg #[.int .i64 0, .int .i64 (if Dy.dok ((t - r) / 86400000000) = true then t - r else 0)], .int .i64 (fdE ((t - r) / 86400000000))]) ∧ Below w.heap.size w w' := by
  have hLL := Dy.lens_of hL
  have SU := fun w => wsub_any t r t1 t2 r1 r2 w
  unfold fdE
  by_cases hs : -9223372036854775808 ≤ t - r ∧ t - r ≤ 9223372036854775807
  · rw [smV_in hs.1 hs.2, smE_in hs.1 hs.2] at SU
    cases hd : Dy.dok ((t - r) / 86400000000)
    · rw [if_neg (by decide), if_neg (by decide)]
      exact back_false i t r _ SU (fun w hw => rsR (i := 0) (u := t - r) hd hs.1 hs.2 w hw) w hLL
    · rw [if_pos rfl, if_pos rfl]
      exact back_true i t r _ SU (fun w hw => rsR (i := 0) (u := t - r) hd hs.1 hs.2 w hw) w hLL
  · have hn : ¬ Dy.dok ((t - r) / 86400000000) = true := fun q => by have := Dy.dok_yes q; omega
    rw [if_neg hn, if_neg hn]
    exact back_e i t r _ _ (by unfold smE; rw [if_neg hs]; decide) SU w
theorem lng_any {D U n : Int} (d1 : 0 ≤ D) (d2 : D ≤ 1000) (b1 : 0 ≤ U) (b2 : U ≤ 86400000000000) (hn : n = D * 86400000000 + U) (w : World) :
    Calls Tryz.prog 28 #[.agg #[.int .i64 0, .int .i64 0, .int .i64 D, .int .i64 U]] w fun r' w' => r' = .returned (.tuple #[.int .i64 n, .int .i64 (if n = 0 then 11 else 0)]) ∧ Below w.heap.size w w' := by
  have SL := fun w => split_any U (by omega) (by omega) w
  have MU := fun w => mul_any (D + U / 86400000000) 86400000000 (by omega) (by omega) (by decide) (by decide) w
  rw [smV_in (by omega) (by omega), smE_in (by omega) (by omega)] at MU
  have AD := fun w => add_any ((D + U / 86400000000) * 86400000000) (U % 86400000000) (by omega) (by omega) (by omega) (by omega) w
  have e : (D + U / 86400000000) * 86400000000 + U % 86400000000 = n := by omega
  rw [smV_in (by omega) (by omega), smE_in (by omega) (by omega), e] at AD
  by_cases h0 : n = 0
  · rw [if_pos h0]
    subst h0
    exact len_0 0 0 D U _ _ _ _ (by omega) (by omega) rfl SL MU AD w
  · rw [if_neg h0]
    exact len_ok 0 0 D U _ _ _ _ (by omega) (by omega) (by omega) SL MU AD w
/-- the last of times that come again and again. -/
theorem bin_yes {D U t q n : Int} (d1 : 0 ≤ D) (d2 : D ≤ 1000) (b1 : 0 ≤ U) (b2 : U ≤ 86400000000000) (hn : n = D * 86400000000 + U) (h0 : 0 < n) (ht : Dy.dok (t / 86400000000) = true) (hq : Dy.dok (q / 86400000000) = true)
    (s1 : -9223372036854775808 ≤ t - q) (s2 : t - q ≤ 9223372036854775807) (w : World) (hL : Cvl.Lens w) :
    Calls Tryz.prog 12 #[.agg #[.int .i64 0, .int .i64 0, .int .i64 D, .int .i64 U], .agg #[.int .i64 0, .int .i64 t], .agg #[.int .i64 0, .int .i64 q]] w fun r' w' => r' = .returned (.tuple #[.agg #[.int .i64 0, .int .i64 (if Dy.dok ((t - (t - q) % n) / 86400000000) = true then t - (t - q) % n else 0)], .int .i64 (fdE ((t - (t - q) % n) / 86400000000))]) ∧ Below w.heap.size w w' := by
  have kt := Dy.dok_yes ht
  have kq := Dy.dok_yes hq
  have PR := fun w => pr_yes (m := 0) (d := D) (n := U) (by rw [Sp.pR_0]; simp [Sp.cnt]; omega) w
  have LE := fun w => lng_any d1 d2 b1 b2 hn w
  rw [if_neg (by omega)] at LE
  have SB := fun w => wsub_any t q (by omega) (by omega) (by omega) (by omega) w
  rw [smV_in s1 s2, smE_in s1 s2] at SB
  have MO := fun w => mod_in (t - q) n (by omega) (by omega) (by omega) w
  rw [Int.fmod_eq_emod_of_nonneg _ (by omega)] at MO
  have g1 := Int.emod_nonneg (t - q) (show n ≠ 0 by omega)
  have g2 := Int.emod_lt_of_pos (t - q) h0
  have BK := fun w hw => back_any 0 t ((t - q) % n) (by omega) (by omega) (by omega) (by omega) w hw
  exact bin_ok D U t q n _ _ _ _ PR (fun w hw => rsR (i := 0) ht (by omega) (by omega) w hw) (fun w hw => rsR (i := 0) hq (by omega) (by omega) w hw) LE SB MO BK w (Dy.lens_of hL)
end Go.Proofs.YtofmmdfdiaahhaaGreatDoor
