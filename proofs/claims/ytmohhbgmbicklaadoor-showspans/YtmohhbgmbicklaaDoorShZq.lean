/- An interval in any style: the program's text is the reference's. -/
import Derived.Test.YtmohhbgmbicklaaDoorShSq
import Derived.Test.YtmohhbgmbicklaaDoorShGq
import Derived.Test.YtmohhbgmbicklaaDoorSpYq
namespace Go.Proofs.YtmohhbgmbicklaaDoor
open Go.RowKit
set_option linter.unusedVariables false

theorem iok {c : Prop} [Decidable c] (r : Bool) (w : World) : (if c then Result.ok r w else Result.ok false w) = Result.ok (decide c && r) w := by split <;> simp [*]
theorem iok' {c : Prop} [Decidable c] (r : Bool) (w : World) : (if c then Result.ok false w else Result.ok r w) = Result.ok (decide (¬ c) && r) w := by split <;> simp [*]
set_option maxRecDepth 100000 in
set_option maxHeartbeats 4000000 in
theorem eqS_any (M D U : Int) (h : ¬ (M = 0 ∧ D = 0 ∧ U = 0)) (W : World) : (Op.equalIn 10000 23 (.agg #[.int .i64 0, .int .i64 M, .int .i64 D, .int .i64 U]) (.agg #[.int .i64 0, .int .i64 0, .int .i64 0, .int .i64 0])).run Tryd.prog W = .ok false W := by
  rw [run_equalIn_struct W 9999 23 _ _ (by kernel_rfl) (by kernel_rfl)]
  go_simp
  try simp only [iok, iok']
  try congr 1
  by_cases h1 : M = 0 <;> by_cases h2 : D = 0 <;> by_cases h3 : U = 0 <;> simp_all

theorem rsize_any (n m : Int) (h0 : -9223372036854775807 ≤ n) (h1 : n ≤ 9223372036854775807) (hm : m = n.natAbs) (w : World) : Calls Tryd.prog 34 #[.int .i64 n] w fun r' w' => r' = .returned (.tuple #[.int .i64 m, .string (sg n)]) ∧ Below w.heap.size w w' := by
  unfold sg
  by_cases h : n < 0
  · rw [if_pos h, show m = -n by omega]; exact rsz_n n h0 h1 h w
  · rw [if_neg h, show m = n by omega]; exact rsz_p n h0 h1 h w
theorem dg_100 {n : Int} (h0 : -9223372036854775808 ≤ n) (h1 : n ≤ 9223372036854775807) : (dg n).size ≤ 100 := Nat.le_trans (dg_size n h0 h1) (by decide)
theorem tw_100 {n : Int} (h0 : -9223372036854775808 ≤ n) (h1 : n ≤ 9223372036854775807) : (Clk.twoB n).size ≤ 100 := Nat.le_trans (Clk.twoB_size h0 h1) (by decide)
theorem fr_100 (n : Int) : (Clk.fracB n).size ≤ 100 := Nat.le_trans (Clk.fracB_size n) (by decide)
theorem sg_100 (n : Int) : (sg n).size ≤ 100 := Nat.le_trans (sg_size n) (by decide)
theorem edg_any (n : Int) (h0 : -9223372036854775808 ≤ n) (h1 : n ≤ 9223372036854775807) (w : World) : Calls Tryd.prog 35 #[.int .i64 n] w fun r' w' => r' = .returned (.string (dg n)) ∧ Below w.heap.size w w' := Clk.digits_any n h0 h1 w

set_option maxHeartbeats 8000000 in
theorem both_sql (M D U : Int) (M1 : -2147483647 ≤ M) (M2 : M ≤ 2147483647) (D1 : -2147483647 ≤ D) (D2 : D ≤ 2147483647) (U1 : -9223372036854775807 ≤ U) (U2 : U ≤ 9223372036854775807) :
    ∃ X : ByteArray, (∀ w : World, Clk.Tab w → Calls Tryd.prog 10 #[.agg #[.int .i64 0, .int .i64 M, .int .i64 D, .int .i64 U]] w fun r' w' => r' = .returned (.string X) ∧ Below w.heap.size w w') ∧
      (∀ w : World, Calls Tryd.prog 16 #[.agg #[.int .i64 0, .int .i64 M, .int .i64 D, .int .i64 U]] w fun r' w' => r' = .returned (.string X) ∧ Below w.heap.size w w') := by
  obtain ⟨m, hm⟩ : ∃ m : Int, m = M.natAbs := ⟨_, rfl⟩
  obtain ⟨d, hd⟩ : ∃ d : Int, d = D.natAbs := ⟨_, rfl⟩
  obtain ⟨u, hu⟩ : ∃ u : Int, u = U.natAbs := ⟨_, rfl⟩
  have zA1 := dg_100 (n := u / 3600000000) (by omega) (by omega)
  have zA2 := tw_100 (n := u / 60000000 % 60) (by omega) (by omega)
  have zA3 := tw_100 (n := u / 1000000 % 60) (by omega) (by omega)
  have zE1 := dg_100 (n := m / 12) (by omega) (by omega)
  have zE2 := dg_100 (n := m % 12) (by omega) (by omega)
  have zE3 := dg_100 (n := d) (by omega) (by omega)
  have zF := fr_100 (u % 1000000)
  have zS1 := sg_100 M
  have zS2 := sg_100 D
  have zS3 := sg_100 U
  have e58 : (⟨#[58]⟩ : ByteArray).size = 1 := rfl
  have e45 : (⟨#[45]⟩ : ByteArray).size = 1 := rfl
  refine ⟨_, fun w hT => sql_run M D U m d u (dg (u / 3600000000)) (Clk.twoB (u / 60000000 % 60)) (Clk.twoB (u / 1000000 % 60)) (sg M) (sg D) (sg U) (dg (m / 12)) (dg (m % 12)) (dg d) (Clk.fracB (u % 1000000)) (by omega) (by omega) (by omega) (by omega)
    (fun w => size_any M m (by omega) (by omega) hm w) (fun w => size_any D d (by omega) (by omega) hd w) (fun w => size_any U u (by omega) (by omega) hu w)
    (fun w hw => digits_any _ (by omega) (by omega) w hw) (fun w hw => Clk.two_any _ (by omega) (by omega) w hw) (fun w hw => Clk.two_any _ (by omega) (by omega) w hw)
    (fun b w h => jm3 ⟨#[58]⟩ (by decide) _ _ _ (by omega) (by omega) (by omega) b w h)
    (fun w => sign_any M w) (fun w hw => digits_any _ (by omega) (by omega) w hw) (fun w hw => digits_any _ (by omega) (by omega) w hw)
    (fun b w h => je4 _ _ _ _ (by omega) (by omega) (by decide) (by omega) b w h)
    (fun w => sign_any D w) (fun w hw => digits_any _ (by omega) (by omega) w hw) (fun b w h => je2 _ _ (by omega) (by omega) b w h)
    (fun w => sign_any U w) (fun w hw => Clk.frac_any _ w hw)
    (fun b w h => je3 _ _ _ (by omega) (by rw [ba_size, ba_size, ba_size, ba_size]; omega) (by omega) b w h)
    (fun b w h => jm3 ⟨#[32]⟩ (by decide) _ _ _ (by rw [ba_size, ba_size, ba_size]; omega) (by rw [ba_size]; omega) (by rw [ba_size, ba_size, ba_size, ba_size, ba_size, ba_size]; omega) b w h) w (tab_of hT), fun w => ?_⟩
  have R := rsql_run M D U m d u (dg (u / 3600000000)) (Clk.twoB (u / 60000000 % 60)) (Clk.twoB (u / 1000000 % 60)) (sg M) (sg D) (sg U) (dg (m / 12)) (dg (m % 12)) (dg d) (Clk.fracB (u % 1000000)) (by omega) (by omega) (by omega) (by omega) zA1 zA2 zA3 zS1 zS2 zS3 zE1 zE2 zE3 zF
    (fun w => rsize_any M m (by omega) (by omega) hm w) (fun w => rsize_any D d (by omega) (by omega) hd w) (fun w => rsize_any U u (by omega) (by omega) hu w)
    (fun w => edg_any _ (by omega) (by omega) w) (fun w => edg_any _ (by omega) (by omega) w) (fun w => edg_any _ (by omega) (by omega) w)
    (fun w => by have R := edg_any (u / 1000000 / 3600) (by omega) (by omega) w; rw [show dg (u / 1000000 / 3600) = dg (u / 3600000000) by congr 1; omega] at R; exact R)
    (fun w => by have R := Clk.etwo_any (u / 1000000 / 60 % 60) (by omega) (by omega) w; rw [show Clk.twoB (u / 1000000 / 60 % 60) = Clk.twoB (u / 60000000 % 60) by congr 1; omega] at R; exact R)
    (fun w => Clk.etwo_any _ (by omega) (by omega) w) (fun w => Clk.efrac_any _ w) w
  refine R.mono fun e w' h => ⟨h.1.trans ?_, h.2⟩
  congr 2
  apply ByteArray.ext
  simp

/-- a number with a letter. -/
def mkB (n : Int) (l : ByteArray) : ByteArray := if n = 0 then ⟨#[]⟩ else dg n ++ l
theorem mkB_size {n : Int} {l : ByteArray} (hl : l.size ≤ 1) (h0 : -9223372036854775808 ≤ n) (h1 : n ≤ 9223372036854775807) : (mkB n l).size ≤ 30 := by
  unfold mkB
  split
  · decide
  · rw [ba_size]; have := dg_size n h0 h1; omega
theorem marked_any (n : Int) (l : ByteArray) (hl : l.size ≤ 1) (h0 : -9223372036854775808 ≤ n) (h1 : n ≤ 9223372036854775807) (w : World) (hT : Clk.Tab w) : Calls Tryd.prog 28 #[.int .i64 n, .string l] w fun r' w' => r' = .returned (.string (mkB n l)) ∧ Below w.heap.size w w' := by
  unfold mkB
  by_cases h : n = 0
  · subst h; rw [if_pos rfl]; exact mk_0 l w
  · rw [if_neg h]
    have := dg_size n h0 h1
    exact mk_n n l (dg n) h (fun w hw => digits_any n h0 h1 w hw) (fun b w h => je2 _ _ (by omega) (by omega) b w h) w (tab_of hT)
theorem part_any (n : Int) (l : ByteArray) (hl : l.size ≤ 1) (h0 : -9223372036854775808 ≤ n) (h1 : n ≤ 9223372036854775807) (w : World) : Calls Tryd.prog 38 #[.int .i64 n, .string l] w fun r' w' => r' = .returned (.string (mkB n l)) ∧ Below w.heap.size w w' := by
  unfold mkB
  by_cases h : n = 0
  · subst h; rw [if_pos rfl]; exact pt_0 l w
  · rw [if_neg h]
    exact pt_n n l (dg n) h (by omega) (dg_100 h0 h1) (fun w => edg_any n h0 h1 w) w
def msB (us : Int) : ByteArray := if us = 0 then ⟨#[]⟩ else (if us < 0 then ⟨#[45]⟩ else ⟨#[]⟩) ++ dg (us.natAbs / 1000000) ++ Clk.fracB (us.natAbs % 1000000) ++ ⟨#[83]⟩
theorem msB_size (us : Int) (h0 : -9223372036854775807 ≤ us) (h1 : us ≤ 9223372036854775807) : (msB us).size ≤ 60 := by
  unfold msB
  have := dg_size (us.natAbs / 1000000) (by omega) (by omega)
  have := Clk.fracB_size (us.natAbs % 1000000)
  have e1 : (⟨#[45]⟩ : ByteArray).size = 1 := rfl
  have e2 : (⟨#[83]⟩ : ByteArray).size = 1 := rfl
  have e3 : (⟨#[]⟩ : ByteArray).size = 0 := rfl
  split
  · decide
  · rw [ba_size, ba_size, ba_size]; split <;> omega
theorem marks_any (us : Int) (h0 : -9223372036854775807 ≤ us) (h1 : us ≤ 9223372036854775807) (w : World) (hT : Clk.Tab w) : Calls Tryd.prog 29 #[.int .i64 us] w fun r' w' => r' = .returned (.string (msB us)) ∧ Below w.heap.size w w' := by
  unfold msB
  obtain ⟨u, hu⟩ : ∃ u : Int, u = us.natAbs := ⟨_, rfl⟩
  rw [← hu]
  have z1 := dg_size (u / 1000000) (by omega) (by omega)
  have z2 := Clk.fracB_size (u % 1000000)
  by_cases h : us = 0
  · subst h; rw [if_pos rfl]; exact ms_0 w
  · rw [if_neg h]
    by_cases hn : us < 0
    · rw [if_pos hn]
      exact ms_n us u _ _ hn (by omega) (by omega) (fun w => size_any us u (by omega) (by omega) hu w) (fun w hw => digits_any _ (by omega) (by omega) w hw) (fun w hw => Clk.frac_any _ w hw) (fun b w h => je4 _ _ _ _ (by decide) (by omega) (by omega) (by decide) b w h) w (tab_of hT)
    · rw [if_neg hn]
      exact ms_p us u _ _ (by omega) (by omega) (by omega) (fun w => size_any us u (by omega) (by omega) hu w) (fun w hw => digits_any _ (by omega) (by omega) w hw) (fun w hw => Clk.frac_any _ w hw) (fun b w h => je4 _ _ _ _ (by decide) (by omega) (by omega) (by decide) b w h) w (tab_of hT)
theorem dg_pos (n : Int) : 0 < (dg n).size := by
  show 0 < (Lib.itoa n).toArray.size
  rw [List.size_toArray]
  unfold Lib.itoa
  split
  · simp
  · rw [Lib.decDigits_length]; exact Lib.nDigits_pos _
theorem tdd (U : Int) (a b : Nat) : (U.tdiv (a : Int)).tdiv (b : Int) = U.tdiv ((a * b : Nat) : Int) := by
  cases U with
  | ofNat n =>
    show Int.ofNat (n / a / b) = Int.ofNat (n / (a * b))
    rw [Nat.div_div_eq_div_mul]
  | negSucc n =>
    show (-(Int.ofNat ((n + 1) / a))).tdiv (b : Int) = -(Int.ofNat ((n + 1) / (a * b)))
    rw [Int.neg_tdiv]
    show -(Int.ofNat ((n + 1) / a / b)) = _
    rw [Nat.div_div_eq_div_mul]
theorem mkB_zero {n : Int} {l : ByteArray} : (mkB n l).size = 0 ↔ n = 0 := by
  unfold mkB
  split
  · simp [*]; rfl
  · rename_i h; rw [ba_size]; have := dg_pos n; constructor
    · intro e; omega
    · intro e; exact absurd e h
theorem not_P {x : ByteArray} (h : x.size ≠ 1) : (x.toList == [80]) = false := by
  rw [Lib.toList_data]
  apply beq_eq_false_iff_ne.2
  intro e
  have := congrArg List.length e
  rw [Array.length_toList] at this
  exact h this

set_option maxHeartbeats 8000000 in
theorem both_iso (M D U : Int) (M1 : -2147483647 ≤ M) (M2 : M ≤ 2147483647) (D1 : -2147483647 ≤ D) (D2 : D ≤ 2147483647) (U1 : -9223372036854775807 ≤ U) (U2 : U ≤ 9223372036854775807) :
    ∃ X : ByteArray, (∀ w : World, Clk.Tab w → Calls Tryd.prog 11 #[.agg #[.int .i64 0, .int .i64 M, .int .i64 D, .int .i64 U]] w fun r' w' => r' = .returned (.string X) ∧ Below w.heap.size w w') ∧
      (∀ w : World, Calls Tryd.prog 17 #[.agg #[.int .i64 0, .int .i64 M, .int .i64 D, .int .i64 U]] w fun r' w' => r' = .returned (.string X) ∧ Below w.heap.size w w') := by
  obtain ⟨y, hy⟩ : ∃ y, M.tdiv 12 = y := ⟨_, rfl⟩
  obtain ⟨m, hm⟩ : ∃ m, M.tmod 12 = m := ⟨_, rfl⟩
  have ey : y.natAbs = M.natAbs / 12 := by rw [← hy, Int.natAbs_tdiv]; rfl
  have em : m.natAbs = M.natAbs % 12 := by rw [← hm, Int.natAbs_tmod]; rfl
  have zT1 := mkB_size (n := y) (l := ⟨#[89]⟩) (by decide) (by omega) (by omega)
  have zT2 := mkB_size (n := m) (l := ⟨#[77]⟩) (by decide) (by omega) (by omega)
  have zT3 := mkB_size (n := D) (l := ⟨#[68]⟩) (by decide) (by omega) (by omega)
  have k1 := mkB_zero (n := y) (l := ⟨#[89]⟩)
  have k2 := mkB_zero (n := m) (l := ⟨#[77]⟩)
  have k3 := mkB_zero (n := D) (l := ⟨#[68]⟩)
  have eP : (⟨#[80]⟩ : ByteArray).size = 1 := rfl
  obtain ⟨X, hX⟩ : ∃ X, (⟨#[80]⟩ : ByteArray) ++ mkB y ⟨#[89]⟩ ++ mkB m ⟨#[77]⟩ ++ mkB D ⟨#[68]⟩ = X := ⟨_, rfl⟩
  have sX : X.size = 1 + (mkB y ⟨#[89]⟩).size + (mkB m ⟨#[77]⟩).size + (mkB D ⟨#[68]⟩).size := by rw [← hX, ba_size, ba_size, ba_size, eP]
  have MA := fun (n : Int) (l : ByteArray) (hl : l.size ≤ 1) (a : -9223372036854775808 ≤ n) (b : n ≤ 9223372036854775807) (w : World) hw => marked_any n l hl a b w hw
  have J1 : ∀ (b : Nat) (w : World), Bx w b [.string ⟨#[80]⟩, .string (mkB y ⟨#[89]⟩), .string (mkB m ⟨#[77]⟩), .string (mkB D ⟨#[68]⟩)] → Calls Tryd.prog 23 #[.string ⟨#[]⟩, .slice (some ⟨b, 0, none⟩) 4 4] w fun r' w' => r' = .returned (.string X) ∧ Below w.heap.size w w' := fun b w h => by
    have R := je4 ⟨#[80]⟩ (mkB y ⟨#[89]⟩) (mkB m ⟨#[77]⟩) (mkB D ⟨#[68]⟩) (by decide) (by omega) (by omega) (by omega) b w h
    rw [hX] at R
    exact R
  by_cases hU : U = 0
  · subst hU
    by_cases h0 : M = 0 ∧ D = 0
    · obtain ⟨rfl, rfl⟩ := h0
      have y0 : y = 0 := by omega
      have m0 : m = 0 := by omega
      refine ⟨_, fun w hT => iso_z w, fun w => ?_⟩
      refine riso_z 0 0 y m _ _ _ X hy hm (by omega) (by omega) (by omega) (by omega) hX (by omega) (by omega) (by omega) (by omega) ?_ (fun w => part_any y _ (by decide) (by omega) (by omega) w) (fun w => part_any m _ (by decide) (by omega) (by omega) w) (fun w => part_any 0 _ (by decide) (by omega) (by omega) w) w
      rw [← hX, y0, m0]
      simp only [mkB, ↓reduceIte, app_nil]
      rw [Lib.toList_data]
      rfl
    · refine ⟨X, fun w hT => iso_d M D y m _ _ _ X hy hm (by omega) (by omega) (by omega) (by omega) (fun W => eqS_any M D 0 (fun q => h0 ⟨q.1, q.2.1⟩) W) (MA y _ (by decide) (by omega) (by omega)) (MA m _ (by decide) (by omega) (by omega)) (MA D _ (by decide) (by omega) (by omega)) J1 w (tab_of hT), fun w => ?_⟩
      refine riso_d M D y m _ _ _ X hy hm (by omega) (by omega) (by omega) (by omega) hX (by omega) (by omega) (by omega) (by omega) (not_P ?_) (fun w => part_any y _ (by decide) (by omega) (by omega) w) (fun w => part_any m _ (by decide) (by omega) (by omega) w) (fun w => part_any D _ (by decide) (by omega) (by omega) w) w
      omega
  · obtain ⟨h, hh⟩ : ∃ h, U.tdiv 3600000000 = h := ⟨_, rfl⟩
    obtain ⟨q, hq⟩ : ∃ q, U.tdiv 60000000 = q := ⟨_, rfl⟩
    obtain ⟨mi, hi⟩ : ∃ mi, q.tmod 60 = mi := ⟨_, rfl⟩
    obtain ⟨us, hu⟩ : ∃ us, U.tmod 60000000 = us := ⟨_, rfl⟩
    obtain ⟨Q, hQ⟩ : ∃ Q, U.tdiv 1000000 = Q := ⟨_, rfl⟩
    have e1 : h.natAbs = U.natAbs / 3600000000 := by rw [← hh, Int.natAbs_tdiv]; rfl
    have e2 : q.natAbs = U.natAbs / 60000000 := by rw [← hq, Int.natAbs_tdiv]; rfl
    have e3 : mi.natAbs = q.natAbs % 60 := by rw [← hi, Int.natAbs_tmod]; rfl
    have e4 : us.natAbs = U.natAbs % 60000000 := by rw [← hu, Int.natAbs_tmod]; rfl
    have e5 : Q.natAbs = U.natAbs / 1000000 := by rw [← hQ, Int.natAbs_tdiv]; rfl
    have hQh : Q.tdiv 3600 = h := by rw [← hQ, ← hh]; exact tdd U 1000000 3600
    have hQq : Q.tdiv 60 = q := by rw [← hQ, ← hq]; exact tdd U 1000000 60
    have b1 : -9223372036854775808 ≤ h ∧ h ≤ 9223372036854775807 := by omega
    have b2 : -9223372036854775808 ≤ q ∧ q ≤ 9223372036854775807 := by omega
    have b3 : -9223372036854775808 ≤ mi ∧ mi ≤ 9223372036854775807 := by omega
    have b4 : -9223372036854775807 ≤ us ∧ us ≤ 9223372036854775807 := by omega
    have b5 : -9223372036854775808 ≤ Q ∧ Q ≤ 9223372036854775807 := by omega
    have b6 : -9223372036854775808 ≤ y ∧ y ≤ 9223372036854775807 := by omega
    have b7 : -9223372036854775808 ≤ m ∧ m ≤ 9223372036854775807 := by omega
    have zX : X.size ≤ 100 ∧ 1 ≤ X.size := by omega
    clear e1 e2 e3 e4 e5 ey em k1 k2 k3 sX
    have zT4 := mkB_size (n := h) (l := ⟨#[72]⟩) (by decide) (by omega) (by omega)
    have zT5 := mkB_size (n := mi) (l := ⟨#[77]⟩) (by decide) (by omega) (by omega)
    have zT6 := msB_size us (by omega) (by omega)
    obtain ⟨Y, hY⟩ : ∃ Y, X ++ ⟨#[84]⟩ ++ mkB h ⟨#[72]⟩ ++ mkB mi ⟨#[77]⟩ = Y := ⟨_, rfl⟩
    have eT : (⟨#[84]⟩ : ByteArray).size = 1 := rfl
    have sY : Y.size = X.size + 1 + (mkB h ⟨#[72]⟩).size + (mkB mi ⟨#[77]⟩).size := by rw [← hY, ba_size, ba_size, ba_size, eT]
    have zY : Y.size ≤ 300 ∧ 2 ≤ Y.size := by omega
    clear sY
    refine ⟨Y ++ msB us, fun w hT => iso_t M D U y m h q mi us _ _ _ _ _ _ X (Y ++ msB us) hU hy hm (by omega) (by omega) (by omega) (by omega) hh hq hi hu (by omega) (by omega) (by omega) (by omega) (by omega) (by omega) (by omega) (by omega) (fun W => eqS_any M D U (fun q => hU q.2.2) W) (MA y _ (by decide) (by omega) (by omega)) (MA m _ (by decide) (by omega) (by omega)) (MA D _ (by decide) (by omega) (by omega)) J1 (MA h _ (by decide) (by omega) (by omega)) (MA mi _ (by decide) (by omega) (by omega)) (fun w hw => marks_any us (by omega) (by omega) w hw) (fun b w hx => ?_) w (tab_of hT), fun w => ?_⟩
    · have R := je5 X ⟨#[84]⟩ (mkB h ⟨#[72]⟩) (mkB mi ⟨#[77]⟩) (msB us) (by omega) (by decide) (by omega) (by omega) (by omega) b w hx
      rw [hY] at R
      exact R
    · obtain ⟨u, hu2⟩ : ∃ u : Int, u = us.natAbs := ⟨_, rfl⟩
      have PT := fun (n : Int) (l : ByteArray) (hl : l.size ≤ 1) (a : -9223372036854775808 ≤ n) (b : n ≤ 9223372036854775807) (w : World) => part_any n l hl a b w
      have SZ := fun w => rsize_any us u (by omega) (by omega) hu2 w
      unfold msB
      rw [← hu2]
      by_cases hz : us = 0
      · rw [if_pos hz, app_nil]
        have u0 : u = 0 := by omega
        rw [u0, show sg us = ⟨#[43]⟩ by unfold sg; rw [if_neg (by omega)]] at SZ
        exact riso_t0 M D U y m Q h q mi us _ _ _ X _ _ Y ⟨#[]⟩ ⟨#[]⟩ hy hm (by omega) (by omega) (by omega) (by omega) hX (by omega) (by omega) (by omega) (by omega) hU hQ hQh hQq hi hu (by omega) (by omega) (by omega) (by omega) (by omega) (by omega) (by omega) (by omega) (by omega) (by omega) hY (by omega) (by omega) (by omega) (by decide) (by decide) (not_P (by omega)) (PT y _ (by decide) (by omega) (by omega)) (PT m _ (by decide) (by omega) (by omega)) (PT D _ (by decide) (by omega) (by omega)) (PT h _ (by decide) (by omega) (by omega)) (PT mi _ (by decide) (by omega) (by omega)) SZ w
      · rw [if_neg hz]
        have zA := dg_size (u / 1000000) (by omega) (by omega)
        have zF := Clk.fracB_size (u % 1000000)
        have e45 : (⟨#[45]⟩ : ByteArray).size = 1 := rfl
        have e83 : (⟨#[83]⟩ : ByteArray).size = 1 := rfl
        by_cases hn : us < 0
        · rw [if_pos hn]
          rw [show sg us = ⟨#[45]⟩ by unfold sg; rw [if_pos hn]] at SZ
          have R := riso_tn M D U y m Q h q mi us u _ _ _ X _ _ Y (dg (u / 1000000)) (Clk.fracB (u % 1000000)) hy hm (by omega) (by omega) (by omega) (by omega) hX (by omega) (by omega) (by omega) (by omega) hU hQ hQh hQq hi hu (by omega) (by omega) (by omega) (by omega) (by omega) (by omega) (by omega) (by omega) (by omega) (by omega) hY (by omega) (by omega) (by omega) (by omega) (by omega) (by omega) (by omega) (by omega) (not_P (by rw [ba_size, ba_size, ba_size, ba_size]; omega)) (PT y _ (by decide) (by omega) (by omega)) (PT m _ (by decide) (by omega) (by omega)) (PT D _ (by decide) (by omega) (by omega)) (PT h _ (by decide) (by omega) (by omega)) (PT mi _ (by decide) (by omega) (by omega)) SZ (fun w => edg_any _ (by omega) (by omega) w) (fun w => Clk.efrac_any _ w) w
          refine R.mono fun e w' h => ⟨h.1.trans ?_, h.2⟩
          congr 2
          apply ByteArray.ext
          simp
        · rw [if_neg hn]
          rw [show sg us = ⟨#[43]⟩ by unfold sg; rw [if_neg hn]] at SZ
          have R := riso_tp M D U y m Q h q mi us u _ _ _ X _ _ Y (dg (u / 1000000)) (Clk.fracB (u % 1000000)) hy hm (by omega) (by omega) (by omega) (by omega) hX (by omega) (by omega) (by omega) (by omega) hU hQ hQh hQq hi hu (by omega) (by omega) (by omega) (by omega) (by omega) (by omega) (by omega) (by omega) (by omega) (by omega) hY (by omega) (by omega) (by omega) (by omega) (by omega) (by omega) (by omega) (by omega) (not_P (by rw [ba_size, ba_size, ba_size]; omega)) (PT y _ (by decide) (by omega) (by omega)) (PT m _ (by decide) (by omega) (by omega)) (PT D _ (by decide) (by omega) (by omega)) (PT h _ (by decide) (by omega) (by omega)) (PT mi _ (by decide) (by omega) (by omega)) SZ (fun w => edg_any _ (by omega) (by omega) w) (fun w => Clk.efrac_any _ w) w
          refine R.mono fun e w' h => ⟨h.1.trans ?_, h.2⟩
          congr 2
          apply ByteArray.ext
          simp

set_option maxHeartbeats 8000000 in
theorem both_pg (M D U : Int) (M1 : -2147483647 ≤ M) (M2 : M ≤ 2147483647) (D1 : -2147483647 ≤ D) (D2 : D ≤ 2147483647) (U1 : -9223372036854775807 ≤ U) (U2 : U ≤ 9223372036854775807) :
    ∃ X : ByteArray, (∀ w : World, Clk.Tab w → Calls Tryd.prog 12 #[.agg #[.int .i64 0, .int .i64 M, .int .i64 D, .int .i64 U]] w fun r' w' => r' = .returned (.string X) ∧ Below w.heap.size w w') ∧
      (∀ w : World, Calls Tryd.prog 18 #[.agg #[.int .i64 0, .int .i64 M, .int .i64 D, .int .i64 U]] w fun r' w' => r' = .returned (.string X) ∧ Below w.heap.size w w') := by
  obtain ⟨y, hy⟩ : ∃ y, M.tdiv 12 = y := ⟨_, rfl⟩
  obtain ⟨m, hm⟩ : ∃ m, M.tmod 12 = m := ⟨_, rfl⟩
  have ey : y.natAbs = M.natAbs / 12 := by rw [← hy, Int.natAbs_tdiv]; rfl
  have em : m.natAbs = M.natAbs % 12 := by rw [← hm, Int.natAbs_tmod]; rfl
  by_cases hU : U = 0
  · have n1 : (U != 0) = false := by simp [hU]
    have n2 : (U == 0) = true := by simp [hU]
    by_cases hW : (stN y m D 3).1.length = 0
    · exact ⟨_, fun w hT => iw_e M D U y m hy hm (by omega) (by omega) (by omega) (by omega) (by omega) (by omega) (by omega) (by omega) n1 hW w (tab_of hT), fun w => pg_e M D U y m hy hm (by omega) (by omega) (by omega) (by omega) (by omega) (by omega) (by omega) (by omega) n2 hW w⟩
    · have hW' : Hid (0 < (stN y m D 3).1.length) := by show _ < _; omega
      exact ⟨_, fun w hT => iw_z M D U y m hy hm (by omega) (by omega) (by omega) (by omega) (by omega) (by omega) n1 hW' w (tab_of hT), fun w => pg_z M D U y m hy hm (by omega) (by omega) (by omega) (by omega) (by omega) (by omega) (by omega) (by omega) n2 hW' w⟩
  · have n1 : (U != 0) = true := bne_iff_ne.2 hU
    have n2 : (U == 0) = false := by simpa using hU
    exact ⟨_, fun w hT => iw_t M D U y m hy hm (by omega) (by omega) (by omega) (by omega) (by omega) (by omega) (by omega) (by omega) n1 w (tab_of hT), fun w => pg_t M D U y m hy hm (by omega) (by omega) (by omega) (by omega) (by omega) (by omega) (by omega) (by omega) n2 w⟩

end Go.Proofs.YtmohhbgmbicklaaDoor
