/- The reference's ReadOn of any text of up to a million bytes: it tells what the program's tells. -/
import Derived.Test.YtgnfkkcagbbhmaaGreatDoorQrUq
import Derived.Test.YtgnfkkcagbbhmaaGreatDoorWhnUq
import Derived.Test.YtgnfkkcagbbhmaaGreatDoorWdPq
namespace Go.Proofs.YtgnfkkcagbbhmaaGreatDoor
open Go.RowKit Lin Sr
set_option linter.unusedVariables false

/-- the first sign of a weekday's side, if there is one. -/
theorem first_e : ∀ l : List UInt8, (∀ j, noE l j) ∨ ∃ I, I + 1 < l.length ∧ (∀ j, j < I → noE l j) ∧ l[I + 1]? = some 61 ∧ (l[I]? = some 62 ∨ l[I]? = some 60)
  | [] => .inl (fun j => .inl (by simp))
  | a :: l => by
    by_cases h : l[0]? = some 61 ∧ (a = 62 ∨ a = 60)
    · right
      refine ⟨0, ?_, fun j hj => absurd hj (Nat.not_lt_zero _), by simpa using h.1, by simpa using h.2⟩
      cases l with
      | nil => simp at h
      | cons b l => simp
    · have h0 : noE (a :: l) 0 := by
        unfold noE
        by_cases k : l[0]? = some 61
        · right
          refine ⟨fun e => h ⟨k, .inl (by simpa using e)⟩, fun e => h ⟨k, .inr (by simpa using e)⟩⟩
        · left; simpa using k
      have hs : ∀ j, noE l j → noE (a :: l) (j + 1) := fun j hj => by unfold noE at hj ⊢; simpa using hj
      rcases first_e l with k | ⟨I, k1, k2, k3, k4⟩
      · left
        intro j
        cases j with
        | zero => exact h0
        | succ j => exact hs j (k j)
      · right
        refine ⟨I + 1, by simp; omega, fun j hj => ?_, by simpa using k3, by simpa using k4⟩
        cases j with
        | zero => exact h0
        | succ j => exact hs j (k2 j (by omega))
theorem findF_some (P : ByteArray → Bool) : ∀ (l : List ByteArray) (i : Nat), Wrd.findF P i l ≠ -1 → ∃ t ∈ l, P t = true
  | [], i, h => absurd rfl h
  | t :: l, i, h => by
    rw [Wrd.findF] at h
    by_cases q : P t = true
    · exact ⟨t, by simp, q⟩
    · rw [if_neg q] at h
      obtain ⟨u, hu, hp⟩ := findF_some P l (i + 1) h
      exact ⟨u, by simp [hu], hp⟩
def wdN (p : List UInt8) : Int := Wrd.shortB ⟨p.toArray⟩ Wrd.daysL
theorem wdN_few {p : List UInt8} (h : p.length < 3) : wdN p = -1 := Wrd.short_few _ _ (by rw [sizeL]; exact h)
theorem wdN_of {p : List UInt8} (h : wdN p ≠ -1) : 3 ≤ p.length ∧ ∃ t ∈ Wrd.daysL, (p.map Wrd.lowC) <+: (t.data.toList.map Wrd.lowC) := by
  by_cases h3 : p.length < 3
  · exact absurd (wdN_few h3) h
  · refine ⟨by omega, ?_⟩
    unfold wdN at h
    rw [Wrd.short_many _ _ (by rw [sizeL]; exact h3)] at h
    obtain ⟨t, ht, hb⟩ := findF_some _ _ _ h
    refine ⟨t, ht, ?_⟩
    unfold Wrd.beginsB at hb
    rw [List.isPrefixOf_iff_prefix] at hb
    have e : ∀ u : ByteArray, (Wrd.lowB u).data.toList = u.data.toList.map Wrd.lowC := fun u => by simp [Wrd.lowB]
    rw [e, e] at hb
    exact hb
theorem days_low : ∀ t ∈ Wrd.daysL, ∀ x ∈ t.data.toList.map Wrd.lowC, 97 ≤ x.toNat ∧ x.toNat ≤ 122 := by decide +kernel
theorem days_head : ∀ t ∈ Wrd.daysL, (t.data.toList.map Wrd.lowC).head? ≠ some 108 := by decide +kernel
theorem let_low {c : UInt8} (h : 97 ≤ (Wrd.lowC c).toNat ∧ (Wrd.lowC c).toNat ≤ 122) : letC c = true := by
  unfold Wrd.lowC at h
  by_cases q : 65 ≤ c.toNat ∧ c.toNat ≤ 90
  · exact decide_eq_true (.inr (by omega))
  · rw [if_neg q] at h
    exact decide_eq_true (.inl (by omega))
theorem day_no {p : List UInt8} {c : UInt8} (hc : c ∈ p) (hl : letC c = false) : wdN p = -1 := by
  by_cases h : wdN p = -1
  · exact h
  · obtain ⟨_, t, ht, hp⟩ := wdN_of h
    have hm : Wrd.lowC c ∈ t.data.toList.map Wrd.lowC := hp.subset (List.mem_map_of_mem hc)
    have := let_low (days_low t ht _ hm)
    rw [hl] at this; cases this
theorem day_l {c : UInt8} {r : List UInt8} (h : Wrd.lowC c = 108) : wdN (c :: r) = -1 := by
  by_cases k : wdN (c :: r) = -1
  · exact k
  · obtain ⟨_, t, ht, hp⟩ := wdN_of k
    obtain ⟨q, hq⟩ := hp
    exfalso
    apply days_head t ht
    rw [← hq, List.map_cons, List.cons_append, h]; rfl
theorem ro_no {k d n : Int} (h : ¬ okOn k d n) : roV k d n = onV 0 0 0 ∧ roE k d n = 21 := by
  unfold roV roE; rw [if_neg h, if_neg h]; exact ⟨rfl, rfl⟩
theorem no_day {k n : Int} (hk : k = 1 ∨ k = 2 ∨ k = 3) : ¬ okOn k (-1) n := by
  unfold okOn
  omega
/-- what a text says, by its letters and what is behind them. -/
theorem nm_split (l : List UInt8) : l = nmL l ++ rsL l ∧ (∀ c ∈ nmL l, letC c = true) ∧ (rsL l = [] ∨ ∃ x q, rsL l = x :: q ∧ letC x = false) := by
  refine ⟨(List.takeWhile_append_dropWhile).symm, fun c hc => (List.all_eq_true.1 (List.all_takeWhile (p := letC) (l := l))) c hc, ?_⟩
  cases h : rsL l with
  | nil => exact .inl rfl
  | cons x q =>
    refine .inr ⟨x, q, rfl, ?_⟩
    have := List.head?_dropWhile_not letC l
    unfold rsL at h
    rw [h] at this
    simpa using this
theorem num_no {p : List UInt8} (h : shL p < 0) : numN ⟨p.toArray⟩ = 0 := by
  unfold numN
  split
  · rename_i h2
    unfold shL shN at h
    by_cases q : 1 ≤ (⟨p.toArray⟩ : ByteArray).size ∧ (⟨p.toArray⟩ : ByteArray).size ≤ 2 ∧ Wrd.numE ⟨p.toArray⟩ = 0
    · rw [if_pos q] at h
      have : 0 ≤ Wrd.numV ⟨p.toArray⟩ := by
        unfold Wrd.numV
        split
        · rename_i k; exact Wrd.valTo_nonneg k.1 _ (Nat.le_refl _)
        · exact Int.le_refl _
      omega
    · unfold Wrd.numV
      rw [if_neg]
      rintro ⟨a, b, c⟩
      apply q
      refine ⟨by omega, h2, ?_⟩
      unfold Wrd.numE
      rw [if_pos ⟨a, b⟩, if_pos c]
  · rfl
theorem num_yes {p : List UInt8} (h : 0 ≤ shL p) : numN ⟨p.toArray⟩ = shL p := by
  unfold shL shN at h ⊢
  by_cases q : 1 ≤ (⟨p.toArray⟩ : ByteArray).size ∧ (⟨p.toArray⟩ : ByteArray).size ≤ 2 ∧ Wrd.numE ⟨p.toArray⟩ = 0
  · rw [if_pos q]; unfold numN; rw [if_pos q.2.1]
  · rw [if_neg q] at h; omega
theorem dg_let {c : UInt8} (h : Clk.isDg c = true) : letC c = false := by
  have := (Clk.isDg_iff c).1 h
  exact decide_eq_false (by omega)
/-- the forms of both say the same. -/
def Says (l : List UInt8) (k d n : Int) : Prop := rdV l = roV k d n ∧ rdE l = roE k d n
theorem says_of {l : List UInt8} {k d n : Int} (h : rfO l = some (k, d, n)) : Says l k d n := by unfold Says rdV rdE; rw [h]; exact ⟨rfl, rfl⟩
theorem says_no {l : List UInt8} {k d n k' d' n' : Int} (h : rfO l = some (k, d, n)) (h1 : ¬ okOn k d n) (h2 : ¬ okOn k' d' n') : Says l k' d' n' := by
  obtain ⟨a, b⟩ := ro_no h1
  obtain ⟨c, d⟩ := ro_no h2
  unfold Says rdV rdE; rw [h, c, d]; exact ⟨a, b⟩
theorem says_none {l : List UInt8} {k' d' n' : Int} (h : rfO l = none) (h2 : ¬ okOn k' d' n') : Says l k' d' n' := by
  obtain ⟨c, d⟩ := ro_no h2
  unfold Says rdV rdE; rw [h, c, d]; exact ⟨rfl, rfl⟩
theorem rf_noname {l : List UInt8} (h : nmL l = []) : rfO l = some (0, 0, numN ⟨(rsL l).toArray⟩) := by unfold rfO; rw [if_pos h]
theorem rs_noname {l : List UInt8} (h : nmL l = []) : rsL l = l := by have := (nm_split l).1; rw [h, List.nil_append] at this; exact this.symm
theorem pre_two {B : List UInt8} {a b : UInt8} : Lib.hasPrefix B [a, b] = true ↔ ∃ q, B = a :: b :: q := by
  constructor
  · intro h
    match B, h with
    | [], h => simp [Lib.hasPrefix, List.isPrefixOf] at h
    | [x], h => simp [Lib.hasPrefix, List.isPrefixOf] at h
    | x :: y :: r, h =>
      simp [Lib.hasPrefix, List.isPrefixOf] at h
      exact ⟨r, by rw [h.1, h.2]⟩
  · rintro ⟨q, rfl⟩
    simp [Lib.hasPrefix, List.isPrefixOf]
theorem m_num {l : List UInt8} (h : 0 ≤ shL l) : Says l 0 0 (shL l) := by
  have hd := sh_of h
  have hn : nmL l = [] := by
    cases l with
    | nil => rfl
    | cons c r => unfold nmL; rw [List.takeWhile_cons, if_neg (by rw [dg_let (hd.1 c (by simp))]; decide)]
  have := rf_noname hn
  rw [rs_noname hn, num_yes h] at this
  exact says_of this
def isLast (l : List UInt8) : Prop := 4 < l.length ∧ Wrd.sameB ⟨(l.take 4).toArray⟩ lastB = true
instance (l : List UInt8) : Decidable (isLast l) := by unfold isLast; infer_instance
theorem last_let {l : List UInt8} (h : isLast l) : ∃ a b c d r, l = a :: b :: c :: d :: r ∧ r ≠ [] ∧ letC a = true ∧ letC b = true ∧ letC c = true ∧ letC d = true ∧ Wrd.lowC a = 108 := by
  obtain ⟨h4, hs⟩ := h
  match l, h4, hs with
  | a :: b :: c :: d :: x :: r, _, hs =>
    unfold Wrd.sameB at hs
    rw [decide_eq_true_iff] at hs
    have e := congrArg (fun u => u.data.toList) hs
    simp [Wrd.lowB, lastB] at e
    obtain ⟨e1, e2, e3, e4⟩ := e
    have k1 : Wrd.lowC 108 = 108 := by decide
    have k2 : Wrd.lowC 97 = 97 := by decide
    have k3 : Wrd.lowC 115 = 115 := by decide
    have k4 : Wrd.lowC 116 = 116 := by decide
    rw [k1] at e1
    rw [k2] at e2
    rw [k3] at e3
    rw [k4] at e4
    exact ⟨a, b, c, d, x :: r, rfl, by simp, let_low (by rw [e1]; decide), let_low (by rw [e2]; decide), let_low (by rw [e3]; decide), let_low (by rw [e4]; decide), e1⟩
theorem m_fin {l : List UInt8} (h : isLast l) : Says l 1 (wdN (l.drop 4)) 0 := by
  obtain ⟨a, b, c, d, r, e, hr, la, lb, lc, ld, hl⟩ := last_let h
  have en : nmL l = a :: b :: c :: d :: nmL r := by
    rw [e]; unfold nmL
    rw [List.takeWhile_cons_of_pos la, List.takeWhile_cons_of_pos lb, List.takeWhile_cons_of_pos lc, List.takeWhile_cons_of_pos ld]
  have er : rsL l = rsL r := by
    rw [e]; unfold rsL
    rw [List.dropWhile_cons_of_pos la, List.dropWhile_cons_of_pos lb, List.dropWhile_cons_of_pos lc, List.dropWhile_cons_of_pos ld]
  have ed : l.drop 4 = r := by rw [e]; rfl
  have ds : wdN (nmL l) = -1 := by rw [en]; exact day_l hl
  rw [ed]
  obtain ⟨s1, s2, s3⟩ := nm_split r
  unfold wdN at ds
  rcases s3 with q | ⟨x, q, hq, hx⟩
  · have e2 : nmL l = l := by
      have := (nm_split l).1
      rw [er, q, List.append_nil] at this
      exact this.symm
    refine says_of (l := l) ?_
    unfold rfO
    rw [if_neg (by rw [en]; simp), er, q, if_neg (by decide), if_neg (by decide), e2, if_pos ⟨rfl, h.1, h.2⟩, ed]
    rfl
  · have dn : wdN r = -1 := day_no (c := x) (by rw [s1, hq]; simp) hx
    rw [dn]
    have no := no_day (k := 1) (n := 0) (.inl rfl)
    cases hf : rfO l with
    | none => exact says_none hf no
    | some t =>
      obtain ⟨k', d', n'⟩ := t
      unfold rfO at hf
      rw [if_neg (by rw [en]; simp), er, hq, ds] at hf
      split at hf
      · simp only [Option.some.injEq, Prod.mk.injEq] at hf
        refine says_no (l := l) (k := k') (d := d') (n := n') (by unfold rfO; rw [if_neg (by rw [en]; simp), er, hq, ds, if_pos (by assumption), hf.1, hf.2.1, hf.2.2]) ?_ no
        rw [← hf.1, ← hf.2.1]; exact no_day (.inr (.inl rfl))
      · split at hf
        · rename_i p1 p2
          simp only [Option.some.injEq, Prod.mk.injEq] at hf
          refine says_no (l := l) (k := k') (d := d') (n := n') (by unfold rfO; rw [if_neg (by rw [en]; simp), er, hq, ds, if_neg p1, if_pos p2, hf.1, hf.2.1, hf.2.2]) ?_ no
          rw [← hf.1, ← hf.2.1]; exact no_day (.inr (.inr rfl))
        · rw [if_neg (fun k => nomatch k.1)] at hf; cases hf
theorem m_noname {l : List UInt8} {k d n : Int} (h : shL l < 0) (hn : nmL l = []) (h2 : ¬ okOn k d n) : Says l k d n := by
  have := rf_noname hn
  rw [rs_noname hn, num_no h] at this
  exact says_no this (by unfold okOn; omega) h2
theorem idx_app {A B : List UInt8} {j : Nat} : (A ++ B)[A.length + j]? = B[j]? := by
  rw [List.getElem?_append_right (by omega)]; congr 1; omega
theorem m_none {l : List UInt8} (h : shL l < 0) (hl : ¬ isLast l) (hno : ∀ j, noE l j) : Says l (-1) 0 0 := by
  have no : ¬ okOn (-1) 0 0 := by unfold okOn; omega
  by_cases hn : nmL l = []
  · exact m_noname h hn no
  · obtain ⟨s1, s2, s3⟩ := nm_split l
    refine says_none ?_ no
    unfold rfO
    have hj := hno (nmL l).length
    unfold noE at hj
    rw [if_neg hn, if_neg, if_neg, if_neg]
    · rintro ⟨q1, q2, q3⟩
      rw [q1, List.append_nil] at s1
      rw [← s1] at q2 q3
      exact hl ⟨q2, q3⟩
    · intro q
      obtain ⟨r, hr⟩ := pre_two.1 q
      rw [hr] at s1
      have a1 : l[(nmL l).length]? = some 60 := by have := idx_app (A := nmL l) (B := 60 :: 61 :: r) (j := 0); rw [← s1] at this; exact this
      have a2 : l[(nmL l).length + 1]? = some 61 := by have := idx_app (A := nmL l) (B := 60 :: 61 :: r) (j := 1); rw [← s1] at this; exact this
      rcases hj with k | k
      · exact k a2
      · exact k.2 a1
    · intro q
      obtain ⟨r, hr⟩ := pre_two.1 q
      rw [hr] at s1
      have a1 : l[(nmL l).length]? = some 62 := by have := idx_app (A := nmL l) (B := 62 :: 61 :: r) (j := 0); rw [← s1] at this; exact this
      have a2 : l[(nmL l).length + 1]? = some 61 := by have := idx_app (A := nmL l) (B := 62 :: 61 :: r) (j := 1); rw [← s1] at this; exact this
      rcases hj with k | k
      · exact k a2
      · exact k.1 a1
theorem m_side {l : List UInt8} (h : shL l < 0) (hl : ¬ isLast l) (I : Nat) (c : UInt8) (kk : Int) (hc : (c = 62 ∧ kk = 2) ∨ (c = 60 ∧ kk = 3)) (hI : I + 1 < l.length) (hno : ∀ j, j < I → noE l j) (hA : l[I]? = some c) (hC : l[I + 1]? = some 61) :
    Says l kk (wdN (l.take I)) (shL (l.drop (I + 2))) := by
  have hlc : letC c = false := by rcases hc with ⟨rfl, _⟩ | ⟨rfl, _⟩ <;> decide
  have hk3 : kk = 1 ∨ kk = 2 ∨ kk = 3 := by omega
  obtain ⟨s1, s2, s3⟩ := nm_split l
  by_cases hn : nmL l = []
  · refine m_noname h hn ?_
    have : wdN (l.take I) = -1 := by
      cases I with
      | zero => exact wdN_few (by simp)
      | succ I =>
        rw [hn, List.nil_append] at s1
        rcases s3 with q | ⟨x, q, hq, hx⟩
        · rw [q] at s1; rw [s1] at hI; simp at hI
        · rw [hq] at s1
          exact day_no (c := x) (by rw [s1, List.take_succ_cons]; simp) hx
    rw [this]; exact no_day hk3
  · have hJ : (nmL l).length ≤ I := by
      by_cases q : (nmL l).length ≤ I
      · exact q
      · exfalso
        have : (nmL l)[I]? = some c := by
          rw [s1, List.getElem?_append_left (by omega)] at hA; exact hA
        have := s2 c (List.mem_of_getElem? this)
        rw [hlc] at this; cases this
    by_cases hE : (nmL l).length = I
    · have e1 : nmL l = l.take I := by
        conv => rhs; rw [s1]
        rw [← hE]; simp
      have e2 : rsL l = c :: 61 :: l.drop (I + 2) := by
        have : rsL l = l.drop I := by
          conv => rhs; rw [s1]
          rw [← hE]; simp
        rw [this, List.drop_eq_getElem_cons (by omega), List.drop_eq_getElem_cons (by omega), (List.getElem?_eq_some_iff.1 hA).2, (List.getElem?_eq_some_iff.1 hC).2]
      have hf : rfO l = some (kk, wdN (l.take I), numN ⟨(l.drop (I + 2)).toArray⟩) := by
        unfold rfO
        rw [if_neg hn, e2]
        rcases hc with ⟨rfl, rfl⟩ | ⟨rfl, rfl⟩
        · rw [if_pos (pre_two.2 ⟨_, rfl⟩), e1]; rfl
        · rw [if_neg (fun q => by obtain ⟨r, hr⟩ := pre_two.1 q; cases hr), if_pos (pre_two.2 ⟨_, rfl⟩), e1]; rfl
      by_cases k0 : 0 ≤ shL (l.drop (I + 2))
      · rw [num_yes k0] at hf; exact says_of hf
      · rw [num_no (by omega)] at hf
        refine says_no hf ?_ ?_
        · unfold okOn; omega
        · unfold okOn; omega
    · have hlt : (nmL l).length < I := by omega
      rcases s3 with q | ⟨x, q, hq, hx⟩
      · rw [q, List.append_nil] at s1
        rw [← s1] at hlt; omega
      · have hx2 : l[(nmL l).length]? = some x := by have := idx_app (A := nmL l) (B := x :: q) (j := 0); rw [← hq, ← s1] at this; rw [Nat.add_zero] at this; rw [this, hq]; rfl
        have dn : wdN (l.take I) = -1 := day_no (c := x) (List.mem_of_getElem? (i := (nmL l).length) (by rw [List.getElem?_take, if_pos hlt]; exact hx2)) hx
        rw [dn]
        refine says_none ?_ (no_day hk3)
        have hj := hno _ hlt
        unfold noE at hj
        unfold rfO
        rw [if_neg hn, if_neg, if_neg, if_neg]
        · rintro ⟨q1, _⟩; rw [hq] at q1; cases q1
        · intro z
          obtain ⟨r, hr⟩ := pre_two.1 z
          have a2 : l[(nmL l).length + 1]? = some 61 := by have := idx_app (A := nmL l) (B := rsL l) (j := 1); rw [← s1] at this; rw [this, hr]; rfl
          rw [hq] at hr
          rcases hj with k | k
          · exact k a2
          · apply k.2; rw [hx2]; cases hr; rfl
        · intro z
          obtain ⟨r, hr⟩ := pre_two.1 z
          have a2 : l[(nmL l).length + 1]? = some 61 := by have := idx_app (A := nmL l) (B := rsL l) (j := 1); rw [← s1] at this; rw [this, hr]; rfl
          rw [hq] at hr
          rcases hj with k | k
          · exact k a2
          · apply k.1; rw [hx2]; cases hr; rfl

theorem ro_on {k d n : Int} (h : okOn k d n) : roV k d n = .agg #[.int .i64 k, .int .i64 d, .int .i64 n] ∧ roE k d n = 0 := by
  unfold roV roE; rw [if_pos h, if_pos h]; exact ⟨rfl, rfl⟩
theorem rreadOn_any (s : ByteArray) (hs : s.size ≤ 1048576) (w : World) :
    Calls Tryz.prog 88 #[.string s] w fun e w' => e = .returned (.tuple #[rdV s.data.toList, .int .i64 (rdE s.data.toList)]) ∧ Below w.heap.size w w' := by
  obtain ⟨l, hl⟩ : ∃ l, s.data.toList = l := ⟨_, rfl⟩
  have hz : s.size = l.length := by rw [← hl]; simp
  have hsl : s = ⟨l.toArray⟩ := by rw [← hl, arr_of]
  have hz2 : s.size ≤ 140737488351232 := by omega
  rw [hl]
  have SH : Hid (∀ w : World, Calls Tryz.prog 118 #[.string s] w fun e w' => e = .returned (.int .i64 (shL l)) ∧ Below w.heap.size w w') := fun w => by
    rw [hsl]; exact short_any _ (by rw [← hsl]; unfold maxLen; omega) w
  have RY : ∀ k d n : Int, okOn k d n → Hid (∀ w : World, Calls Tryz.prog 65 #[.agg #[.int .i64 k, .int .i64 d, .int .i64 n]] w fun e w' => e = .returned (.bool true) ∧ Below w.heap.size w w') := fun k d n h w => rightOn_yes k d n h w
  have RN : ∀ k d n : Int, ¬ okOn k d n → Hid (∀ w : World, Calls Tryz.prog 65 #[.agg #[.int .i64 k, .int .i64 d, .int .i64 n]] w fun e w' => e = .returned (.bool false) ∧ Below w.heap.size w w') := fun k d n h w => rightOn_no k d n h w
  have DY : ∀ (t : ByteArray) (p : List UInt8), t = ⟨p.toArray⟩ → p.length ≤ l.length → Hid (∀ w : World, Calls Tryz.prog 119 #[.string t] w fun e w' => e = .returned (.int .i64 (wdN p)) ∧ Below w.heap.size w w') := fun t p ht hp w => by
    subst ht; exact Wrd.rday_any _ (by rw [sizeL]; omega) w
  by_cases h0 : 0 ≤ shL l
  · obtain ⟨a, b⟩ := m_num h0
    rw [a, b]
    by_cases ok : okOn 0 0 (shL l)
    · rw [(ro_on ok).1, (ro_on ok).2]; exact ern_num_true s _ h0 SH (RY _ _ _ ok) w
    · rw [(ro_no ok).1, (ro_no ok).2]; exact ern_num_false s _ h0 SH (RN _ _ _ ok) w
  · have h0' : shL l < 0 := by omega
    by_cases hla : isLast l
    · obtain ⟨a, b⟩ := m_fin hla
      rw [a, b]
      have h4 : 4 < s.size := by rw [hz]; exact hla.1
      have SA : Hid (∀ w : World, Calls Tryz.prog 54 #[.string (s.extract 0 4), .string ⟨#[108, 97, 115, 116]⟩] w fun e w' => e = .returned (.bool true) ∧ Below w.heap.size w w') := fun w => by
        have R := Wrd.rsame_any ⟨(l.take 4).toArray⟩ lastB (by rw [sizeL, List.length_take]; omega) (by decide +kernel) w
        rw [hla.2] at R
        rw [hsl, ext_pre l 4 _ rfl]; exact R
      have D4 := DY (s.extract 4 s.size) (l.drop 4) (by rw [hsl]; exact ext_suf l 4 _ rfl) (by simp)
      by_cases ok : okOn 1 (wdN (l.drop 4)) 0
      · rw [(ro_on ok).1, (ro_on ok).2]; exact ern_fin_true s _ _ h0' h4 hz2 SH SA D4 (RY _ _ _ ok) w
      · rw [(ro_no ok).1, (ro_no ok).2]; exact ern_fin_false s _ _ h0' h4 hz2 SH SA D4 (RN _ _ _ ok) w
    · have SA : 4 < s.size → Hid (∀ w : World, Calls Tryz.prog 54 #[.string (s.extract 0 4), .string ⟨#[108, 97, 115, 116]⟩] w fun e w' => e = .returned (.bool false) ∧ Below w.heap.size w w') := fun h4 w => by
        have R := Wrd.rsame_any ⟨(l.take 4).toArray⟩ lastB (by rw [sizeL, List.length_take]; omega) (by decide +kernel) w
        rw [show Wrd.sameB ⟨(l.take 4).toArray⟩ lastB = false by
          cases q : Wrd.sameB ⟨(l.take 4).toArray⟩ lastB with
          | false => rfl
          | true => exact absurd ⟨by omega, q⟩ hla] at R
        rw [hsl, ext_pre l 4 _ rfl]; exact R
      rcases first_e l with hno | ⟨I, hI, hno, hC, hA⟩
      · obtain ⟨a, b⟩ := m_none h0' hla hno
        have no : ¬ okOn (-1) 0 0 := by unfold okOn; omega
        rw [a, b, (ro_no no).1, (ro_no no).2]
        by_cases h4 : 4 < s.size
        · exact ern_none_not s _ h0' h4 hz2 l hsl hz hno SH (SA h4) (RN _ _ _ no) w
        · exact ern_none_few s _ h0' h4 hz2 l hsl hz hno SH (RN _ _ _ no) w
      · have DI := DY (s.extract 0 I) (l.take I) (by rw [hsl]; exact ext_pre l I _ rfl) (by simp; omega)
        have S2 : Hid (∀ w : World, Calls Tryz.prog 118 #[.string (s.extract (I + 2) l.length)] w fun e w' => e = .returned (.int .i64 (shL (l.drop (I + 2)))) ∧ Below w.heap.size w w') := fun w => by
          rw [show s.extract (I + 2) l.length = ⟨(l.drop (I + 2)).toArray⟩ by rw [← hz, hsl]; exact ext_suf l (I + 2) _ rfl]
          exact short_any _ (by rw [sizeL, List.length_drop]; unfold maxLen; omega) w
        rcases hA with hA | hA
        · obtain ⟨a, b⟩ := m_side h0' hla I 62 2 (.inl ⟨rfl, rfl⟩) hI hno hA hC
          rw [a, b]
          by_cases ok : okOn 2 (wdN (l.take I)) (shL (l.drop (I + 2)))
          · rw [(ro_on ok).1, (ro_on ok).2]
            by_cases h4 : 4 < s.size
            · exact ern_2_not s _ h0' h4 hz2 l hsl hz I _ _ hI hno hA hC SH (SA h4) DI S2 (RY _ _ _ ok) w
            · exact ern_2_few s _ h0' h4 hz2 l hsl hz I _ _ hI hno hA hC SH DI S2 (RY _ _ _ ok) w
          · rw [(ro_no ok).1, (ro_no ok).2]
            by_cases h4 : 4 < s.size
            · exact ern_2_not s _ h0' h4 hz2 l hsl hz I _ _ hI hno hA hC SH (SA h4) DI S2 (RN _ _ _ ok) w
            · exact ern_2_few s _ h0' h4 hz2 l hsl hz I _ _ hI hno hA hC SH DI S2 (RN _ _ _ ok) w
        · obtain ⟨a, b⟩ := m_side h0' hla I 60 3 (.inr ⟨rfl, rfl⟩) hI hno hA hC
          rw [a, b]
          by_cases ok : okOn 3 (wdN (l.take I)) (shL (l.drop (I + 2)))
          · rw [(ro_on ok).1, (ro_on ok).2]
            by_cases h4 : 4 < s.size
            · exact ern_3_not s _ h0' h4 hz2 l hsl hz I _ _ hI hno hA hC SH (SA h4) DI S2 (RY _ _ _ ok) w
            · exact ern_3_few s _ h0' h4 hz2 l hsl hz I _ _ hI hno hA hC SH DI S2 (RY _ _ _ ok) w
          · rw [(ro_no ok).1, (ro_no ok).2]
            by_cases h4 : 4 < s.size
            · exact ern_3_not s _ h0' h4 hz2 l hsl hz I _ _ hI hno hA hC SH (SA h4) DI S2 (RN _ _ _ ok) w
            · exact ern_3_few s _ h0' h4 hz2 l hsl hz I _ _ hI hno hA hC SH DI S2 (RN _ _ _ ok) w

end Go.Proofs.YtgnfkkcagbbhmaaGreatDoor
