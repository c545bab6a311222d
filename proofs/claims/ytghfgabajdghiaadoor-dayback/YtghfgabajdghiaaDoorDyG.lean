/- Dates and stamps, whole: what each function answers, the program's and the reference's alike. -/
import Derived.Test.YtghfgabajdghiaaDoorDyF
namespace Go.Proofs.YtghfgabajdghiaaDoor
open Go.RowKit
set_option linter.unusedVariables false

def mkV (y m d : Int) : Int := oV (Cvl.dayV y m d) (Cvl.dayE y m d)
def mkE (y m d : Int) : Int := oE (Cvl.dayV y m d) (Cvl.dayE y m d)
theorem make_any (y m d : Int) (w : World) (hL : Cvl.Lens w) :
    Calls Tryd.prog 9 #[.int .i64 y, .int .i64 m, .int .i64 d] w fun r w' => r = .returned (.tuple #[.agg #[.int .i64 0, .int .i64 (mkV y m d)], .int .i64 (mkE y m d)]) ∧ Below w.heap.size w w' :=
  make_run y m d _ _ _ _ (fun w h => Cvl.days_any y m d w h) (fun w h => of_any _ _ w h) w (lens_of hL)

theorem rmake_any (y m d : Int) (w : World) :
    Calls Tryd.prog 10 #[.int .i64 y, .int .i64 m, .int .i64 d] w fun r w' => r = .returned (.tuple #[.agg #[.int .i64 0, .int .i64 (mkV y m d)], .int .i64 (mkE y m d)]) ∧ Below w.heap.size w w' := by
  have D := Cvl.rdays_any y m d
  unfold mkV mkE
  generalize Cvl.dayV y m d = v at *
  generalize Cvl.dayE y m d = e at *
  by_cases he : e = 0
  · subst he
    cases h : dok v
    · rw [(o_no (.inr h)).1, (o_no (.inr h)).2]; exact rmake_false y m d v D (fun w => by rw [← h]; exact inside_any v w) w
    · rw [(o_yes h).1, (o_yes h).2]; exact rmake_true y m d v D (fun w => by rw [← h]; exact inside_any v w) w
  · rw [(o_no (.inl he)).1, (o_no (.inl he)).2]; exact rmake_bad y m d v e he D w

/-- the parts of a date, and what is wrong. -/
def PartsIs (i d y m q e : Int) : Prop := (dR i d = false ∧ y = 0 ∧ m = 0 ∧ q = 0 ∧ e = 1) ∨ (dR i d = true ∧ i ≠ 0 ∧ y = 0 ∧ m = 0 ∧ q = 0 ∧ e = 10) ∨ (i = 0 ∧ dok d = true ∧ Cv.Is d y m q ∧ e = 0)
theorem parts_is (i d : Int) : ∃ y m q e, PartsIs i d y m q e := by
  cases h : dR i d
  · exact ⟨0, 0, 0, 1, .inl ⟨h, rfl, rfl, rfl, rfl⟩⟩
  · by_cases h0 : i = 0
    · obtain ⟨y, m, q, hq⟩ := Cv.is_date d
      subst h0
      exact ⟨y, m, q, 0, .inr (.inr ⟨rfl, h, hq, rfl⟩)⟩
    · exact ⟨0, 0, 0, 10, .inr (.inl ⟨h, h0, rfl, rfl, rfl, rfl⟩)⟩
theorem parts_any (i d y m q e : Int) (h : PartsIs i d y m q e) (w : World) (hL : Cvl.Lens w) :
    Calls Tryd.prog 11 #[.agg #[.int .i64 i, .int .i64 d]] w fun r w' => r = .returned (.tuple #[.int .i64 y, .int .i64 m, .int .i64 q, .int .i64 e]) ∧ Below w.heap.size w w' := by
  rcases h with ⟨h, rfl, rfl, rfl, rfl⟩ | ⟨h, h0, rfl, rfl, rfl, rfl⟩ | ⟨rfl, h, hd, rfl⟩
  · exact parts_no i d (fun w hh => by rw [← h]; exact right_any i d w hh) w (lens_of hL)
  · exact parts_inf i d h0 (fun w hh => by rw [← h]; exact right_any i d w hh) w (lens_of hL)
  · exact parts_yes d y m q 0 (fun w hh => by rw [← h]; exact right_any 0 d w hh) (fun w hh => Cvl.date_yes d y m q (can_dok h) hd w hh) w (lens_of hL)
theorem rparts_any (i d y m q e : Int) (h : PartsIs i d y m q e) (w : World) :
    Calls Tryd.prog 12 #[.agg #[.int .i64 i, .int .i64 d]] w fun r w' => r = .returned (.tuple #[.int .i64 y, .int .i64 m, .int .i64 q, .int .i64 e]) ∧ Below w.heap.size w w' := by
  rcases h with ⟨h, rfl, rfl, rfl, rfl⟩ | ⟨h, h0, rfl, rfl, rfl, rfl⟩ | ⟨rfl, h, hd, rfl⟩
  · exact rparts_no i d (fun w => by rw [← h]; exact rright_any i d w) w
  · exact rparts_inf i d h0 (fun w => by rw [← h]; exact rright_any i d w) w
  · exact rparts_yes d y m q 0 (fun w => by rw [← h]; exact rright_any 0 d w) (fun w => Cvl.rdate_yes d y m q (can_dok h) hd w) w

/-- a date that was moved: v, e are what its day becomes. -/
def mvI (i d : Int) : Int := if dR i d = true then i else 0
def mvV (i d v e : Int) : Int := if dR i d = true then (if i = 0 then oV v e else d) else 0
def mvE (i d v e : Int) : Int := if dR i d = true then (if i = 0 then oE v e else 0) else 1
theorem mv_no {i d : Int} (h : dR i d = false) (v e : Int) : mvI i d = 0 ∧ mvV i d v e = 0 ∧ mvE i d v e = 1 := by
  have k : ¬ dR i d = true := by rw [h]; decide
  exact ⟨if_neg k, if_neg k, if_neg k⟩
theorem mv_inf {i d : Int} (h : dR i d = true) (h0 : i ≠ 0) (v e : Int) : mvI i d = i ∧ mvV i d v e = d ∧ mvE i d v e = 0 :=
  ⟨if_pos h, by unfold mvV; rw [if_pos h, if_neg h0], by unfold mvE; rw [if_pos h, if_neg h0]⟩
theorem mv_yes {d : Int} (h : dR 0 d = true) (v e : Int) : mvI 0 d = 0 ∧ mvV 0 d v e = oV v e ∧ mvE 0 d v e = oE v e :=
  ⟨if_pos h, by unfold mvV; rw [if_pos h, if_pos rfl], by unfold mvE; rw [if_pos h, if_pos rfl]⟩

theorem day_i64 {d : Int} (h : dok d = true) : -9223372036854775808 ≤ d ∧ d ≤ 9223372036854775807 := by have := dok_yes h; omega
theorem dadd_any (i d n : Int) (h1 : -9223372036854775808 ≤ n) (h2 : n ≤ 9223372036854775807) (w : World) (hL : Cvl.Lens w) :
    Calls Tryd.prog 16 #[.agg #[.int .i64 i, .int .i64 d], .int .i64 n] w fun r w' => r = .returned (.tuple #[.agg #[.int .i64 (mvI i d), .int .i64 (mvV i d (smV (d + n)) (smE (d + n)))], .int .i64 (mvE i d (smV (d + n)) (smE (d + n)))]) ∧ Below w.heap.size w w' := by
  refine dadd_run i d n _ _ _ (fun w hL => ?_) w (lens_of hL)
  cases h : dR i d
  · obtain ⟨a, b, c⟩ := mv_no h (smV (d + n)) (smE (d + n))
    rw [a, b, c]; exact mvd_no i d n (fun w hh => by rw [← h]; exact right_any i d w hh) w (lens_of hL)
  · by_cases h0 : i = 0
    · subst h0
      obtain ⟨a, b, c⟩ := mv_yes h (smV (d + n)) (smE (d + n))
      rw [a, b, c]
      obtain ⟨g1, g2⟩ := day_i64 h
      exact mvd_yes d n _ _ _ _ (fun w hh => by rw [← h]; exact right_any 0 d w hh) (fun w => days_meth n d _ _ (fun w => add_any d n g1 g2 h1 h2 w) w) (fun w hh => of_any _ _ w hh) w (lens_of hL)
    · obtain ⟨a, b, c⟩ := mv_inf h h0 (smV (d + n)) (smE (d + n))
      rw [a, b, c]; exact mvd_inf i d n h0 (fun w hh => by rw [← h]; exact right_any i d w hh) w (lens_of hL)
theorem rdadd_any (i d n : Int) (h1 : -9223372036854775808 ≤ n) (h2 : n ≤ 9223372036854775807) (w : World) :
    Calls Tryd.prog 17 #[.agg #[.int .i64 i, .int .i64 d], .int .i64 n] w fun r w' => r = .returned (.tuple #[.agg #[.int .i64 (mvI i d), .int .i64 (mvV i d (smV (d + n)) (smE (d + n)))], .int .i64 (mvE i d (smV (d + n)) (smE (d + n)))]) ∧ Below w.heap.size w w' := by
  cases h : dR i d
  · obtain ⟨a, b, c⟩ := mv_no h (smV (d + n)) (smE (d + n))
    rw [a, b, c]; exact radd_no i d n (fun w => by rw [← h]; exact rright_any i d w) w
  · by_cases h0 : i = 0
    · subst h0
      obtain ⟨a, b, c⟩ := mv_yes h (smV (d + n)) (smE (d + n))
      rw [a, b, c]
      obtain ⟨g1, g2⟩ := day_i64 h
      exact radd_yes d n _ _ _ _ (fun w => by rw [← h]; exact rright_any 0 d w) (fun w => refadd_any d n g1 g2 h1 h2 w) (fun w => made_any _ _ w) w
    · obtain ⟨a, b, c⟩ := mv_inf h h0 (smV (d + n)) (smE (d + n))
      rw [a, b, c]; exact radd_inf i d n h0 (fun w => by rw [← h]; exact rright_any i d w) w
theorem dshift_any (i d n y m q : Int) (hq : Cv.Is d y m q) (w : World) (hL : Cvl.Lens w) :
    Calls Tryd.prog 20 #[.agg #[.int .i64 i, .int .i64 d], .int .i64 n] w fun r w' => r = .returned (.tuple #[.agg #[.int .i64 (mvI i d), .int .i64 (mvV i d (Cvl.shV y m q n) (Cvl.shE y m q n))], .int .i64 (mvE i d (Cvl.shV y m q n) (Cvl.shE y m q n))]) ∧ Below w.heap.size w w' := by
  refine dshift_run i d n _ _ _ (fun w hL => ?_) w (lens_of hL)
  cases h : dR i d
  · obtain ⟨a, b, c⟩ := mv_no h (Cvl.shV y m q n) (Cvl.shE y m q n)
    rw [a, b, c]; exact mvm_no i d n (fun w hh => by rw [← h]; exact right_any i d w hh) w (lens_of hL)
  · by_cases h0 : i = 0
    · subst h0
      obtain ⟨a, b, c⟩ := mv_yes h (Cvl.shV y m q n) (Cvl.shE y m q n)
      rw [a, b, c]
      exact mvm_yes d n _ _ _ _ (fun w hh => by rw [← h]; exact right_any 0 d w hh) (fun w hh => months_meth n d _ _ (fun w hh => Cvl.shift_any d y m q n (can_dok h) hq w hh) w (lens_of hh)) (fun w hh => of_any _ _ w hh) w (lens_of hL)
    · obtain ⟨a, b, c⟩ := mv_inf h h0 (Cvl.shV y m q n) (Cvl.shE y m q n)
      rw [a, b, c]; exact mvm_inf i d n h0 (fun w hh => by rw [← h]; exact right_any i d w hh) w (lens_of hL)
theorem rshf_any (i d n y m q : Int) (hq : Cv.Is d y m q) (w : World) :
    Calls Tryd.prog 21 #[.agg #[.int .i64 i, .int .i64 d], .int .i64 n] w fun r w' => r = .returned (.tuple #[.agg #[.int .i64 (mvI i d), .int .i64 (mvV i d (Cvl.shV y m q n) (Cvl.shE y m q n))], .int .i64 (mvE i d (Cvl.shV y m q n) (Cvl.shE y m q n))]) ∧ Below w.heap.size w w' := by
  cases h : dR i d
  · obtain ⟨a, b, c⟩ := mv_no h (Cvl.shV y m q n) (Cvl.shE y m q n)
    rw [a, b, c]; exact rshf_no i d n (fun w => by rw [← h]; exact rright_any i d w) w
  · by_cases h0 : i = 0
    · subst h0
      obtain ⟨a, b, c⟩ := mv_yes h (Cvl.shV y m q n) (Cvl.shE y m q n)
      rw [a, b, c]
      exact rshf_yes d n _ _ _ _ (fun w => by rw [← h]; exact rright_any 0 d w) (fun w => Cvl.rshift_any d y m q n (can_dok h) hq w) (fun w => made_any _ _ w) w
    · obtain ⟨a, b, c⟩ := mv_inf h h0 (Cvl.shV y m q n) (Cvl.shE y m q n)
      rw [a, b, c]; exact rshf_inf i d n h0 (fun w => by rw [← h]; exact rright_any i d w) w

/-- how far two dates are apart. -/
def sbV (i a j b : Int) : Int := if dR i a = true ∧ dR j b = true ∧ i = 0 ∧ j = 0 then a - b else 0
def sbE (i a j b : Int) : Int := if dR i a = true ∧ dR j b = true then (if i = 0 ∧ j = 0 then 0 else 10) else 1
theorem dsub_any (i a j b : Int) (w : World) (hL : Cvl.Lens w) :
    Calls Tryd.prog 18 #[.agg #[.int .i64 i, .int .i64 a], .agg #[.int .i64 j, .int .i64 b]] w fun r w' => r = .returned (.tuple #[.int .i64 (sbV i a j b), .int .i64 (sbE i a j b)]) ∧ Below w.heap.size w w' := by
  unfold sbV sbE
  cases h : dR i a
  · rw [if_neg (fun q => absurd q.1 (by decide)), if_neg (fun q => absurd q.1 (by decide))]; exact dsub_no1 i a j b (fun w hh => by rw [← h]; exact right_any i a w hh) w (lens_of hL)
  · cases k : dR j b
    · rw [if_neg (fun q => absurd q.2.1 (by decide)), if_neg (fun q => absurd q.2 (by decide))]; exact dsub_no2 i a j b (fun w hh => by rw [← h]; exact right_any i a w hh) (fun w hh => by rw [← k]; exact right_any j b w hh) w (lens_of hL)
    · rw [if_pos (show true = true ∧ true = true from ⟨rfl, rfl⟩)]
      by_cases h0 : i = 0
      · by_cases k0 : j = 0
        · subst h0
          subst k0
          rw [if_pos ⟨rfl, rfl, rfl, rfl⟩, if_pos ⟨rfl, rfl⟩]
          obtain ⟨g1, g2⟩ := dok_yes h
          obtain ⟨g3, g4⟩ := dok_yes k
          have S : Hid (∀ w : World, Calls Tryd.prog 45 #[.int .i64 a, .int .i64 b] w fun r w' => r = .returned (.tuple #[.int .i64 (a - b), .int .i64 0]) ∧ w' = w) := fun w => wsub_in a b (by omega) (by omega) (by omega) (by omega) (by omega) (by omega) w
          exact dsub_yes a b _ _ (fun w hh => by rw [← h]; exact right_any 0 a w hh) (fun w hh => by rw [← k]; exact right_any 0 b w hh) S w (lens_of hL)
        · rw [if_neg (fun q => k0 q.2.2.2), if_neg (fun q => k0 q.2)]
          subst h0
          exact dsub_inf2 a j b k0 (fun w hh => by rw [← h]; exact right_any 0 a w hh) (fun w hh => by rw [← k]; exact right_any j b w hh) w (lens_of hL)
      · rw [if_neg (fun q => h0 q.2.2.1), if_neg (fun q => h0 q.1)]
        exact dsub_inf1 i a j b h0 (fun w hh => by rw [← h]; exact right_any i a w hh) (fun w hh => by rw [← k]; exact right_any j b w hh) w (lens_of hL)

theorem rsub_any (i a j b : Int) (w : World) :
    Calls Tryd.prog 19 #[.agg #[.int .i64 i, .int .i64 a], .agg #[.int .i64 j, .int .i64 b]] w fun r w' => r = .returned (.tuple #[.int .i64 (sbV i a j b), .int .i64 (sbE i a j b)]) ∧ Below w.heap.size w w' := by
  unfold sbV sbE
  cases h : dR i a
  · rw [if_neg (fun q => absurd q.1 (by decide)), if_neg (fun q => absurd q.1 (by decide))]; exact rsub_no1 i a j b (fun w => by rw [← h]; exact rright_any i a w) w
  · cases k : dR j b
    · rw [if_neg (fun q => absurd q.2.1 (by decide)), if_neg (fun q => absurd q.2 (by decide))]; exact rsub_no2 i a j b (fun w => by rw [← h]; exact rright_any i a w) (fun w => by rw [← k]; exact rright_any j b w) w
    · rw [if_pos (show true = true ∧ true = true from ⟨rfl, rfl⟩)]
      by_cases h0 : i = 0
      · by_cases k0 : j = 0
        · subst h0
          subst k0
          rw [if_pos ⟨rfl, rfl, rfl, rfl⟩, if_pos ⟨rfl, rfl⟩]
          obtain ⟨g1, g2⟩ := dok_yes h
          obtain ⟨g3, g4⟩ := dok_yes k
          exact rsub_yes a b g1 g2 g3 g4 (fun w => by rw [← h]; exact rright_any 0 a w) (fun w => by rw [← k]; exact rright_any 0 b w) w
        · rw [if_neg (fun q => k0 q.2.2.2), if_neg (fun q => k0 q.2)]
          subst h0
          exact rsub_inf2 a j b k0 (fun w => by rw [← h]; exact rright_any 0 a w) (fun w => by rw [← k]; exact rright_any j b w) w
      · rw [if_neg (fun q => h0 q.2.2.1), if_neg (fun q => h0 q.1)]
        exact rsub_inf1 i a j b h0 (fun w => by rw [← h]; exact rright_any i a w) (fun w => by rw [← k]; exact rright_any j b w) w


def cpV (i a j b : Int) : Int := if dR i a = true ∧ dR j b = true then ordV i j a b else 0
def spV (i a j b : Int) : Int := if sR i a = true ∧ sR j b = true then ordV i j a b else 0
theorem ord_1 {i j : Int} (h : i < j) (a b : Int) : ordV i j a b = -1 := if_pos (.inl h)
theorem ord_2 {a b : Int} (h : a < b) (i : Int) : ordV i i a b = -1 := if_pos (.inr ⟨rfl, h⟩)
theorem ord_3 {i j : Int} (h : j < i) (a b : Int) : ordV i j a b = 1 := by unfold ordV; rw [if_neg (by omega), if_pos (.inl h)]
theorem ord_4 {a b : Int} (h : b < a) (i : Int) : ordV i i a b = 1 := by unfold ordV; rw [if_neg (by omega), if_pos (.inr h)]
theorem ord_5 (a i : Int) : ordV i i a a = 0 := by unfold ordV; rw [if_neg (by omega), if_neg (by omega)]
theorem dcmp_any (i a j b : Int) (w : World) (hL : Cvl.Lens w) :
    Calls Tryd.prog 22 #[.agg #[.int .i64 i, .int .i64 a], .agg #[.int .i64 j, .int .i64 b]] w fun r w' => r = .returned (.int .i64 (cpV i a j b)) ∧ Below w.heap.size w w' := by
  unfold cpV
  cases h : dR i a
  · rw [if_neg (fun q => absurd q.1 (by decide))]; exact dcmp_no1 i a j b (fun w hh => by rw [← h]; exact right_any i a w hh) w (lens_of hL)
  · cases k : dR j b
    · rw [if_neg (fun q => absurd q.2 (by decide))]; exact dcmp_no2 i a j b (fun w hh => by rw [← h]; exact right_any i a w hh) (fun w hh => by rw [← k]; exact right_any j b w hh) w (lens_of hL)
    · rw [if_pos ⟨rfl, rfl⟩]
      rcases Int.lt_trichotomy i j with q | q | q
      · rw [ord_1 q]; exact dcmp_1 i a j b q (fun w hh => by rw [← h]; exact right_any i a w hh) (fun w hh => by rw [← k]; exact right_any j b w hh) w (lens_of hL)
      · subst q
        rcases Int.lt_trichotomy a b with q | q | q
        · rw [ord_2 q]; exact dcmp_2 i a b q (fun w hh => by rw [← h]; exact right_any i a w hh) (fun w hh => by rw [← k]; exact right_any i b w hh) w (lens_of hL)
        · subst q
          rw [ord_5]; exact dcmp_5 i a (fun w hh => by rw [← h]; exact right_any i a w hh) (fun w hh => by rw [← h]; exact right_any i a w hh) w (lens_of hL)
        · rw [ord_4 q]; exact dcmp_4 i a b q (fun w hh => by rw [← h]; exact right_any i a w hh) (fun w hh => by rw [← k]; exact right_any i b w hh) w (lens_of hL)
      · rw [ord_3 q]; exact dcmp_3 i a j b q (fun w hh => by rw [← h]; exact right_any i a w hh) (fun w hh => by rw [← k]; exact right_any j b w hh) w (lens_of hL)

theorem rdcmp_any (i a j b : Int) (w : World) :
    Calls Tryd.prog 23 #[.agg #[.int .i64 i, .int .i64 a], .agg #[.int .i64 j, .int .i64 b]] w fun r w' => r = .returned (.int .i64 (cpV i a j b)) ∧ Below w.heap.size w w' := by
  unfold cpV
  cases h : dR i a
  · rw [if_neg (fun q => absurd q.1 (by decide))]; exact rcmp_no1 i a j b (fun w => by rw [← h]; exact rright_any i a w) w
  · cases k : dR j b
    · rw [if_neg (fun q => absurd q.2 (by decide))]; exact rcmp_no2 i a j b (fun w => by rw [← h]; exact rright_any i a w) (fun w => by rw [← k]; exact rright_any j b w) w
    · rw [if_pos ⟨rfl, rfl⟩]
      exact rcmp_yes i a j b _ (fun w => by rw [← h]; exact rright_any i a w) (fun w => by rw [← k]; exact rright_any j b w) (fun w => order_any i j a b w) w

theorem scmp_any (i a j b : Int) (a1 : -9223372036854775808 ≤ a) (a2 : a ≤ 9223372036854775807) (b1 : -9223372036854775808 ≤ b) (b2 : b ≤ 9223372036854775807) (w : World) (hL : Cvl.Lens w) :
    Calls Tryd.prog 32 #[.agg #[.int .i64 i, .int .i64 a], .agg #[.int .i64 j, .int .i64 b]] w fun r w' => r = .returned (.int .i64 (spV i a j b)) ∧ Below w.heap.size w w' := by
  unfold spV
  cases h : sR i a
  · rw [if_neg (fun q => absurd q.1 (by decide))]; exact scmp_no1 i a j b (fun w hh => by rw [← h]; exact rst_any i a a1 a2 w hh) w (lens_of hL)
  · cases k : sR j b
    · rw [if_neg (fun q => absurd q.2 (by decide))]; exact scmp_no2 i a j b (fun w hh => by rw [← h]; exact rst_any i a a1 a2 w hh) (fun w hh => by rw [← k]; exact rst_any j b b1 b2 w hh) w (lens_of hL)
    · rw [if_pos ⟨rfl, rfl⟩]
      rcases Int.lt_trichotomy i j with q | q | q
      · rw [ord_1 q]; exact scmp_1 i a j b q (fun w hh => by rw [← h]; exact rst_any i a a1 a2 w hh) (fun w hh => by rw [← k]; exact rst_any j b b1 b2 w hh) w (lens_of hL)
      · subst q
        rcases Int.lt_trichotomy a b with q | q | q
        · rw [ord_2 q]; exact scmp_2 i a b q (fun w hh => by rw [← h]; exact rst_any i a a1 a2 w hh) (fun w hh => by rw [← k]; exact rst_any i b b1 b2 w hh) w (lens_of hL)
        · subst q
          rw [ord_5]; exact scmp_5 i a (fun w hh => by rw [← h]; exact rst_any i a a1 a2 w hh) (fun w hh => by rw [← h]; exact rst_any i a a1 a2 w hh) w (lens_of hL)
        · rw [ord_4 q]; exact scmp_4 i a b q (fun w hh => by rw [← h]; exact rst_any i a a1 a2 w hh) (fun w hh => by rw [← k]; exact rst_any i b b1 b2 w hh) w (lens_of hL)
      · rw [ord_3 q]; exact scmp_3 i a j b q (fun w hh => by rw [← h]; exact rst_any i a a1 a2 w hh) (fun w hh => by rw [← k]; exact rst_any j b b1 b2 w hh) w (lens_of hL)

theorem rscmp_any (i a j b : Int) (a1 : -9223372036854775808 ≤ a) (a2 : a ≤ 9223372036854775807) (b1 : -9223372036854775808 ≤ b) (b2 : b ≤ 9223372036854775807) (w : World) :
    Calls Tryd.prog 33 #[.agg #[.int .i64 i, .int .i64 a], .agg #[.int .i64 j, .int .i64 b]] w fun r w' => r = .returned (.int .i64 (spV i a j b)) ∧ Below w.heap.size w w' := by
  unfold spV
  cases h : sR i a
  · rw [if_neg (fun q => absurd q.1 (by decide))]; exact rscmp_no1 i a j b (fun w => by rw [← h]; exact rrst_any i a a1 a2 w) w
  · cases k : sR j b
    · rw [if_neg (fun q => absurd q.2 (by decide))]; exact rscmp_no2 i a j b (fun w => by rw [← h]; exact rrst_any i a a1 a2 w) (fun w => by rw [← k]; exact rrst_any j b b1 b2 w) w
    · rw [if_pos ⟨rfl, rfl⟩]
      exact rscmp_yes i a j b _ (fun w => by rw [← h]; exact rrst_any i a a1 a2 w) (fun w => by rw [← k]; exact rrst_any j b b1 b2 w) (fun w => order_any i j a b w) w


/-- the date of a stamp. -/
def ofI (i u : Int) : Int := if sR i u = true then i else 0
def ofD (i u : Int) : Int := if sR i u = true ∧ i = 0 then u / 86400000000 else 0
def ofU (i u : Int) : Int := if sR i u = true ∧ i = 0 then u % 86400000000 else 0
def ofE (i u : Int) : Int := if sR i u = true then 0 else 1
theorem sof_any (i u : Int) (u1 : -9223372036854775808 ≤ u) (u2 : u ≤ 9223372036854775807) (w : World) (hL : Cvl.Lens w) :
    Calls Tryd.prog 28 #[.agg #[.int .i64 i, .int .i64 u]] w fun r w' => r = .returned (.tuple #[.agg #[.int .i64 (ofI i u), .int .i64 (ofD i u)], .int .i64 (ofU i u), .int .i64 (ofE i u)]) ∧ Below w.heap.size w w' := by
  unfold ofI ofD ofU ofE
  cases h : sR i u
  · rw [if_neg (by decide), if_neg (fun q => absurd q.1 (by decide)), if_neg (fun q => absurd q.1 (by decide)), if_neg (by decide)]; exact sof_no i u (fun w hh => by rw [← h]; exact rst_any i u u1 u2 w hh) w (lens_of hL)
  · by_cases h0 : i = 0
    · subst h0
      rw [if_pos rfl, if_pos ⟨rfl, rfl⟩, if_pos ⟨rfl, rfl⟩, if_pos rfl]; exact sof_yes u _ _ (fun w hh => by rw [← h]; exact rst_any 0 u u1 u2 w hh) (fun w => split_any u u1 u2 w) w (lens_of hL)
    · rw [if_pos rfl, if_neg (fun q => h0 q.2), if_neg (fun q => h0 q.2), if_pos rfl]; exact sof_inf i u h0 (fun w hh => by rw [← h]; exact rst_any i u u1 u2 w hh) w (lens_of hL)

theorem srof_any (i u : Int) (u1 : -9223372036854775808 ≤ u) (u2 : u ≤ 9223372036854775807) (w : World) :
    Calls Tryd.prog 29 #[.agg #[.int .i64 i, .int .i64 u]] w fun r w' => r = .returned (.tuple #[.agg #[.int .i64 (ofI i u), .int .i64 (ofD i u)], .int .i64 (ofU i u), .int .i64 (ofE i u)]) ∧ Below w.heap.size w w' := by
  unfold ofI ofD ofU ofE
  cases h : sR i u
  · rw [if_neg (by decide), if_neg (fun q => absurd q.1 (by decide)), if_neg (fun q => absurd q.1 (by decide)), if_neg (by decide)]; exact srof_no i u (fun w => by rw [← h]; exact rrst_any i u u1 u2 w) w
  · by_cases h0 : i = 0
    · subst h0
      rw [if_pos rfl, if_pos ⟨rfl, rfl⟩, if_pos ⟨rfl, rfl⟩, if_pos rfl]; exact srof_yes u _ _ (fun w => by rw [← h]; exact rrst_any 0 u u1 u2 w) (fun w => rsplit_any u u1 u2 w) w
    · rw [if_pos rfl, if_neg (fun q => h0 q.2), if_neg (fun q => h0 q.2), if_pos rfl]; exact srof_inf i u h0 (fun w => by rw [← h]; exact rrst_any i u u1 u2 w) w


/-- the stamp of a time of a date. -/
def stR (i d u : Int) : Prop := dR i d = true ∧ 0 ≤ u ∧ u ≤ 86400000000
instance (i d u : Int) : Decidable (stR i d u) := by unfold stR; infer_instance
def stI (i d u : Int) : Int := if stR i d u then i else 0
def stV (i d u : Int) : Int := if stR i d u ∧ i = 0 ∧ dok ((d * 86400000000 + u) / 86400000000) = true then d * 86400000000 + u else 0
def stE (i d u : Int) : Int := if stR i d u then (if i = 0 ∧ dok ((d * 86400000000 + u) / 86400000000) = false then 10 else 0) else 1
theorem st_bd {d u : Int} (h : dok d = true) (h0 : 0 ≤ u) (h1 : u ≤ 86400000000) : -9223372036854775808 ≤ d * 86400000000 + u ∧ d * 86400000000 + u ≤ 9223372036854775807 := by have := dok_yes h; omega
theorem st_not {i d u : Int} (h : ¬ stR i d u) : stI i d u = 0 ∧ stV i d u = 0 ∧ stE i d u = 1 := ⟨if_neg h, if_neg (fun k => h k.1), if_neg h⟩
theorem st_infs {i d u : Int} (h : stR i d u) (h0 : i ≠ 0) : stI i d u = i ∧ stV i d u = 0 ∧ stE i d u = 0 :=
  ⟨if_pos h, if_neg (fun k => h0 k.2.1), by unfold stE; rw [if_pos h, if_neg (fun k => h0 k.1)]⟩
theorem st_in {d u : Int} (h : stR 0 d u) (hk : dok ((d * 86400000000 + u) / 86400000000) = true) : stI 0 d u = 0 ∧ stV 0 d u = d * 86400000000 + u ∧ stE 0 d u = 0 :=
  ⟨if_pos h, if_pos ⟨h, rfl, hk⟩, by unfold stE; rw [if_pos h, if_neg (fun k => by rw [hk] at k; exact absurd k.2 (by decide))]⟩
theorem st_out {d u : Int} (h : stR 0 d u) (hk : dok ((d * 86400000000 + u) / 86400000000) = false) : stI 0 d u = 0 ∧ stV 0 d u = 0 ∧ stE 0 d u = 10 :=
  ⟨if_pos h, if_neg (fun k => by rw [hk] at k; exact absurd k.2.2 (by decide)), by unfold stE; rw [if_pos h, if_pos ⟨rfl, hk⟩]⟩
theorem stamp_any (i d u : Int) (w : World) (hL : Cvl.Lens w) :
    Calls Tryd.prog 24 #[.agg #[.int .i64 i, .int .i64 d], .int .i64 u] w fun r w' => r = .returned (.tuple #[.agg #[.int .i64 (stI i d u), .int .i64 (stV i d u)], .int .i64 (stE i d u)]) ∧ Below w.heap.size w w' := by
  have RR : ∀ c, dR i d = c → Hid (∀ w : World, Cvl.Lens w → Calls Tryd.prog 13 #[.agg #[.int .i64 i, .int .i64 d]] w fun r w' => r = .returned (.bool c) ∧ Below w.heap.size w w') := fun c hc w hh => by rw [← hc]; exact right_any i d w hh
  by_cases hs : stR i d u
  · by_cases h0 : i = 0
    · subst h0
      have hd : dok d = true := hs.1
      obtain ⟨g1, g2⟩ := dok_yes hd
      obtain ⟨b1, b2⟩ := st_bd hd hs.2.1 hs.2.2
      cases hk : dok ((d * 86400000000 + u) / 86400000000)
      · obtain ⟨a, b, c⟩ := st_out hs hk
        rw [a, b, c]; exact st_false d u g1 g2 (by have := hs.2.1; omega) (by have := hs.2.2; omega) (RR true hs.1) (fun w hh => by have R := rst_any 0 (d * 86400000000 + u) b1 b2 w hh; rw [sR_0, hk] at R; exact R) w (lens_of hL)
      · obtain ⟨a, b, c⟩ := st_in hs hk
        rw [a, b, c]; exact st_true d u g1 g2 (by have := hs.2.1; omega) (by have := hs.2.2; omega) (RR true hs.1) (fun w hh => by have R := rst_any 0 (d * 86400000000 + u) b1 b2 w hh; rw [sR_0, hk] at R; exact R) w (lens_of hL)
    · obtain ⟨a, b, c⟩ := st_infs hs h0
      rw [a, b, c]; exact st_inf i d u h0 (by have := hs.2.1; omega) (by have := hs.2.2; omega) (RR true hs.1) w (lens_of hL)
  · obtain ⟨a, b, c⟩ := st_not hs
    rw [a, b, c]
    cases h : dR i d
    · exact st_no i d u (RR false h) w (lens_of hL)
    · by_cases h1 : u < 0
      · exact st_neg i d u h1 (RR true h) w (lens_of hL)
      · exact st_big i d u (by unfold stR at hs; have : ¬ (0 ≤ u ∧ u ≤ 86400000000) := fun k => hs ⟨h, k⟩; omega) (RR true h) w (lens_of hL)
theorem rstamp_any (i d u : Int) (w : World) :
    Calls Tryd.prog 25 #[.agg #[.int .i64 i, .int .i64 d], .int .i64 u] w fun r w' => r = .returned (.tuple #[.agg #[.int .i64 (stI i d u), .int .i64 (stV i d u)], .int .i64 (stE i d u)]) ∧ Below w.heap.size w w' := by
  have RR : ∀ c, dR i d = c → Hid (∀ w : World, Calls Tryd.prog 14 #[.agg #[.int .i64 i, .int .i64 d]] w fun r w' => r = .returned (.bool c) ∧ Below w.heap.size w w') := fun c hc w => by rw [← hc]; exact rright_any i d w
  by_cases hs : stR i d u
  · by_cases h0 : i = 0
    · subst h0
      have hd : dok d = true := hs.1
      obtain ⟨g1, g2⟩ := dok_yes hd
      by_cases hu : u = 86400000000
      · subst hu
        have e1 : (d * 86400000000 + 86400000000) / 86400000000 = d + 1 := by omega
        have e2 : d * 86400000000 + 86400000000 = (d + 1) * 86400000000 := by omega
        cases hk : dok (d + 1)
        · obtain ⟨a, b, c⟩ := st_out hs (by rw [e1]; exact hk)
          rw [a, b, c]; exact rt_end_false d g1 g2 (RR true hs.1) (fun w => by rw [← hk]; exact inside_any (d + 1) w) w
        · obtain ⟨a, b, c⟩ := st_in hs (by rw [e1]; exact hk)
          rw [a, b, c, e2]; exact rt_end_true d g1 g2 (RR true hs.1) (fun w => by rw [← hk]; exact inside_any (d + 1) w) w
      · have e1 : (d * 86400000000 + u) / 86400000000 = d := by have := hs.2; omega
        obtain ⟨a, b, c⟩ := st_in hs (by rw [e1]; exact hd)
        rw [a, b, c]; exact rt_true d u g1 g2 (by have := hs.2.1; omega) (by have := hs.2.2; omega) (RR true hs.1) (fun w => by rw [← hd]; exact inside_any d w) w
    · obtain ⟨a, b, c⟩ := st_infs hs h0
      rw [a, b, c]; exact rt_inf i d u h0 (by have := hs.2.1; omega) (by have := hs.2.2; omega) (RR true hs.1) w
  · obtain ⟨a, b, c⟩ := st_not hs
    rw [a, b, c]
    cases h : dR i d
    · exact rt_no i d u (RR false h) w
    · by_cases h1 : u < 0
      · exact rt_neg i d u h1 (RR true h) w
      · exact rt_big i d u (by unfold stR at hs; have : ¬ (0 ≤ u ∧ u ≤ 86400000000) := fun k => hs ⟨h, k⟩; omega) (RR true h) w
theorem start_any (i d : Int) (w : World) (hL : Cvl.Lens w) :
    Calls Tryd.prog 26 #[.agg #[.int .i64 i, .int .i64 d]] w fun r w' => r = .returned (.tuple #[.agg #[.int .i64 (stI i d 0), .int .i64 (stV i d 0)], .int .i64 (stE i d 0)]) ∧ Below w.heap.size w w' :=
  st0_run i d _ _ _ (fun w hh => stamp_any i d 0 w hh) w (lens_of hL)
theorem rstart_any (i d : Int) (w : World) :
    Calls Tryd.prog 27 #[.agg #[.int .i64 i, .int .i64 d]] w fun r w' => r = .returned (.tuple #[.agg #[.int .i64 (stI i d 0), .int .i64 (stV i d 0)], .int .i64 (stE i d 0)]) ∧ Below w.heap.size w w' :=
  rt0_run i d _ _ _ (fun w => rstamp_any i d 0 w) w

end Go.Proofs.YtghfgabajdghiaaDoor
