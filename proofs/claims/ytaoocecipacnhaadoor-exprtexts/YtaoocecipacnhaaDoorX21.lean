import Derived.Test.YtaoocecipacnhaaDoorX20
open Go.Value renaming int → vi, string → vS, slice → vL
open Go.IntKind renaming i64 → ki
open List renaming setIfInBounds_toArray → zb, set_cons_zero → zc, set_cons_succ → zd, length_cons → zl
open Go.Act renaming put → za
open Go.Ending renaming returned → zr
set_option maxRecDepth 100000
set_option maxHeartbeats 16000000
set_option linter.all false
namespace Go.Proofs.YtaoocecipacnhaaDoor
open Go.RowKit
theorem vd_asc : ∀ (l : List UInt8), (∀ c ∈ l, c.toNat < 128 ∧ gdB c = true) → Vd l
 | [], h => .nil
 | c :: l, h => .lo c l (h c (by simp)).1 (h c (by simp)).2 (vd_asc l fun x hx => h x (by simp [hx]))
theorem dig_asc {c : UInt8} (h : bk c.toNat = 1) : c.toNat < 128 ∧ gdB c = true := by
 have := (bk_digit _).2 h
 unfold digitN at this
 rw [Bool.and_eq_true, decide_eq_true_eq, decide_eq_true_eq] at this
 refine ⟨by omega, ?_⟩
 unfold gdB
 rw [decide_eq_false (by omega), show (c.toNat == 127) = false by simp; omega]; rfl
theorem mem_bt (s : ByteArray) {P : Nat → Prop} (h : ∀ c ∈ s.data.toList, P c.toNat) (j : Nat) (hj : j < s.size) : P (bt s j) := by
 have := bt_get s j hj
 rw [← this.2]
 exact h _ (List.mem_of_getElem? this.1)
theorem run_to {s : ByteArray} {k : Int} {i z : Nat} (hi : i ≤ z) (h : ∀ j, i ≤ j → j < z → bk (bt s j) = k) (hz : z ≤ s.size) (he : ¬ (z < s.size ∧ bk (bt s z) = k)) : runEnd s k i = z := by
 have := runEnd_many (s := s) (k := k) (i := i) (z - i) (fun j hj => ⟨by omega, h _ (by omega) (by omega)⟩)
 rw [this, show i + (z - i) = z by omega, runEnd_stop he]
theorem ext_all (s : ByteArray) : s.extract 0 s.size = s := by apply ByteArray.ext; simp
theorem qt_not {s : ByteArray} {k : Int} {a : Int} (h : s ≠ qB) : qt (k, s, a) = false := decide_eq_false h
theorem no_q {s : ByteArray} (h : ∀ c ∈ s.data.toList, bk c.toNat ≠ 3) : s ≠ qB := by
 intro e
 rw [e] at h
 exact h 39 (by simp [qB]) (by decide)
theorem last_of {l : List UInt8} (h : ∀ c ∈ l, bk c.toNat ≠ 3) : l.getLast? ≠ some 58 := by
 intro e
 exact h 58 (List.mem_of_getLast? e) (by decide)
theorem lf_num {t : ByteArray} (h0 : 0 < t.size) (h : ∀ c ∈ t.data.toList, bk c.toNat = 1) : Lf 1 t := by
 intro _
 show LX (One 1 t) t ∧ t.data.toList.getLast? ≠ some 58
 have h3 : ∀ c ∈ t.data.toList, bk c.toNat ≠ 3 := fun c hc => by rw [h c hc]; decide
 refine ⟨⟨[(1, t, 0)], ?_, _, rfl, rfl, rfl⟩, last_of h3⟩
 have hv := split_vd (vd_asc _ fun c hc => dig_asc (h c hc))
 have hb : ∀ j, j < t.size → bk (bt t j) = 1 := fun j hj => mem_bt t (P := fun n => bk n = 1) h j hj
 have hr : rparts t t.size 0 [] = [(1, 0, t.size)] := by
  obtain ⟨f, hf⟩ : ∃ f, t.size = f + 1 := ⟨t.size - 1, by omega⟩
  have e : rparts t (f + 1) 0 [] = [(1, 0, t.size)] := by
   rw [rparts, if_pos (by omega), hb 0 h0, if_neg (by decide), if_neg (by decide), run_to (z := t.size) (by omega) (fun j _ hj => hb j hj) (Nat.le_refl _) (fun q => absurd q.1 (by omega)), rparts_end _ _ _ _ (by omega)]
   rfl
  rw [← hf] at e; exact e
 rw [hr] at hv
 refine toksB_of hv ?_
 have e1 : texts t [(1, 0, t.size)] = [(1, t, 0)] := by unfold texts; simp only [List.map_cons, List.map_nil, ext_all]; rfl
 rw [e1]
 have e2 : fstT (1, t, 0) [] = (1, 1) := by
  unfold fstT
  rw [qt_not (no_q h3), if_neg (by simp), if_neg (by simp), if_neg (by simp)]; rfl
 show toksF t 1 [(1, t, 0)] [] = _
 rw [toksF, e2, if_neg (by decide)]
 have e3 : tokT t (1, t, 0) [] = (1, t, 0) := by
  unfold tokT
  rw [e2]
  show (1, saidT 1 (t.extract 0 (endN [(1, t, 0)] 0)), 0) = _
  have : endN [((1, t, 0) : Tk)] 0 = t.size := by unfold endN; simp
  rw [this, ext_all, low_said (x := 0) 1 (by decide) (by decide)]
 rw [e3]; rfl
theorem lf_dec {t : ByteArray} {i : Nat} (h0 : 0 < i) (hi : i + 1 < t.size) (hb : ∀ j, j < t.size → j ≠ i → bk (bt t j) = 1) (h46 : bt t i = 46) : Lf 2 t := by
 intro _
 show LX (One 2 t) t ∧ t.data.toList.getLast? ≠ some 58
 have hm : ∀ c ∈ t.data.toList, bk c.toNat = 1 ∨ c.toNat = 46 := by
  intro c hc
  obtain ⟨j, hj, e⟩ := List.mem_iff_getElem.1 hc
  rw [sz] at hj
  have e2 := bt_get t j hj
  have : c = t[j]'hj := by
   have := e2.1
   rw [List.getElem?_eq_getElem (by rw [sz]; exact hj), e] at this
   simpa using this
  rw [this, e2.2]
  by_cases hji : j = i
  ·rw [hji]; exact .inr h46
  ·exact .inl (hb j hj hji)
 refine ⟨⟨[(2, t, 0)], ?_, _, rfl, rfl, rfl⟩, ?_⟩
 ·have hv := split_vd (vd_asc _ fun c hc => by
   rcases hm c hc with z | z
   ·exact dig_asc z
   ·refine ⟨by omega, ?_⟩
    unfold gdB; rw [z]; decide)
  have k3 : bk (bt t i) = 3 := by rw [h46]; decide
  have hr : rparts t t.size 0 [] = [(1, 0, i), (3, i, i + 1), (1, i + 1, t.size)] := by
   obtain ⟨f, hf⟩ : ∃ f, t.size = f + 1 + 1 + 1 := ⟨t.size - 3, by omega⟩
   have e : rparts t (f + 1 + 1 + 1) 0 [] = [(1, 0, i), (3, i, i + 1), (1, i + 1, t.size)] := by
    rw [rparts, if_pos (by omega), hb 0 (by omega) (by omega), if_neg (by decide), if_neg (by decide), run_to (z := i) (by omega) (fun j _ hj => hb j (by omega) (by omega)) (by omega) (fun q => by rw [k3] at q; exact absurd q.2 (by decide))]
    rw [rparts, if_pos (by omega), k3, if_neg (by decide), if_pos rfl]
    rw [rparts, if_pos hi, hb (i + 1) hi (by omega), if_neg (by decide), if_neg (by decide), run_to (z := t.size) (by omega) (fun j h1 h2 => hb j h2 (by omega)) (Nat.le_refl _) (fun q => absurd q.1 (by omega)), rparts_end _ _ _ _ (by omega)]
    rfl
   rw [← hf] at e; exact e
  rw [hr] at hv
  refine toksB_of hv ?_
  obtain ⟨x, hx⟩ : ∃ x, x = t.extract 0 i := ⟨_, rfl⟩
  obtain ⟨y, hy⟩ : ∃ y, y = t.extract (i + 1) t.size := ⟨_, rfl⟩
  have hxs : x.size = i := by rw [hx, ByteArray.size_extract]; omega
  have hys : y.size = t.size - (i + 1) := by rw [hy, ByteArray.size_extract]; omega
  have e1 : texts t [(1, 0, i), (3, i, i + 1), (1, i + 1, t.size)] = [(1, x, 0), (3, ⟨#[46]⟩, (i : Int)), (1, y, ((i + 1 : Nat) : Int))] := by
   unfold texts
   simp only [List.map_cons, List.map_nil]
   rw [one_byte t i (by omega), ← hx, ← hy]
   have := bt_at t i (by omega)
   have : t[i]'(by omega) = 46 := by
    apply UInt8.toNat_inj.1; rw [← this, h46]; rfl
   rw [this]; rfl
  rw [e1]
  have hxq : x ≠ qB := by
   apply no_q
   intro c hc
   rw [hx] at hc
   obtain ⟨k, k1, k2, k3⟩ := mem_ext (by omega) hc
   rw [k3, hb k (by omega) (by omega)]; decide
  have e2 : fstT (1, x, 0) [(3, ⟨#[46]⟩, (i : Int)), (1, y, ((i + 1 : Nat) : Int))] = (2, 3) := by
   unfold fstT
   rw [qt_not hxq, if_neg (by simp), if_neg (by simp), if_neg (by simp)]
   have : dcT (1, x, 0) [(3, ⟨#[46]⟩, (i : Int)), (1, y, ((i + 1 : Nat) : Int))] = true := by
    rw [dcT]
    unfold besT
    simp only [hxs]
    simp [show (⟨#[46]⟩ : ByteArray).size = 1 from rfl]
   rw [this]; rfl
  show toksF t 3 [(1, x, 0), (3, ⟨#[46]⟩, (i : Int)), (1, y, ((i + 1 : Nat) : Int))] [] = _
  rw [toksF, e2, if_neg (by decide)]
  have e3 : tokT t (1, x, 0) [(3, ⟨#[46]⟩, (i : Int)), (1, y, ((i + 1 : Nat) : Int))] = (2, t, 0) := by
   unfold tokT
   rw [e2]
   show (2, saidT 2 (t.extract 0 (endN [(1, x, 0), (3, ⟨#[46]⟩, (i : Int)), (1, y, ((i + 1 : Nat) : Int))] 2)), 0) = _
   have : endN [(1, x, 0), (3, ⟨#[46]⟩, (i : Int)), ((1, y, ((i + 1 : Nat) : Int)) : Tk)] 2 = t.size := by
    unfold endN; simp; omega
   rw [this, ext_all, low_said (x := 0) 2 (by decide) (by decide)]
  rw [e3]; rfl
 ·intro e
  rcases hm 58 (List.mem_of_getLast? e) with z | z
  ·exact absurd z (by decide)
  ·exact absurd z (by decide)
theorem toS_all (s : ByteArray) (hb : ∀ j, j < s.size → bk (bt s j) = 1 ∨ bk (bt s j) = 2) : ∀ (L : List Prt) (p : Prt) (m : Nat), p.2.1 < p.2.2 → p.2.2 ≤ s.size → Pk s p.2.2 L s.size →
  toS m (tx s p) (texts s L) = m + L.length ∧ endN (texts s (p :: L)) L.length = s.size
 | [], p, m, h1, h2, h => by
  obtain ⟨k1, k2, k3⟩ := h
  have : p.2.2 = s.size := by
   rcases Nat.lt_or_ge p.2.2 s.size with c | c
   ·have z := (bk_blank _).1 (k3 p.2.2 (Nat.le_refl _) c)
    rcases hb p.2.2 c with q | q <;> omega
   ·omega
  refine ⟨rfl, ?_⟩
  have := end_part (s := s) (L := [p]) (j := 0) (q := p) rfl h1 h2
  rw [List.length_nil, this]; assumption
 | q :: L, p, m, h1, h2, h => by
  obtain ⟨k1, k2, k3, k4, k5, k6⟩ := h
  have hpq : q.2.1 = p.2.2 := by
   rcases Nat.lt_or_ge p.2.2 q.2.1 with c | c
   ·have z := (bk_blank _).1 (k4 p.2.2 (Nat.le_refl _) c)
    rcases hb p.2.2 (by omega) with q | q <;> omega
   ·omega
  have hq3 : q.1 ≠ 3 := by
   have z := k5.1 q.2.1 (Nat.le_refl _) k2
   rcases hb q.2.1 (by omega) with q | q <;> omega
  obtain ⟨r1, r2⟩ := toS_all s hb L q (m + 1) k2 k3 k6
  refine ⟨?_, ?_⟩
  ·rw [texts_cons, toS, besT_tx s h1 h2, if_pos (by rw [decide_eq_true hpq, decide_eq_true (show (tx s q).1 ≠ 3 from hq3)]; rfl), r1, zl]; omega
  ·rw [zl]
   have : endN (texts s (p :: q :: L)) (L.length + 1) = endN (texts s (q :: L)) L.length := by unfold endN texts; simp
   rw [this, r2]
theorem lf_name {t : ByteArray} (hv : Vd t.data.toList) (h0 : 0 < t.size) (h2 : bk (bt t 0) = 2) (h : ∀ c ∈ t.data.toList, bk c.toNat = 1 ∨ bk c.toNat = 2) (hl : lowB t = t) : Lf 4 t := by
 intro _
 show LX (One 4 t) t ∧ t.data.toList.getLast? ≠ some 58
 have h3 : ∀ c ∈ t.data.toList, bk c.toNat ≠ 3 := fun c hc => by rcases h c hc with q | q <;> omega
 refine ⟨⟨[(4, t, 0)], ?_, _, rfl, rfl, rfl⟩, last_of h3⟩
 have hb : ∀ j, j < t.size → bk (bt t j) = 1 ∨ bk (bt t j) = 2 := fun j hj => mem_bt t (P := fun n => bk n = 1 ∨ bk n = 2) h j hj
 have hsp := split_vd hv
 have hpk := rparts_all t
 generalize rparts t t.size 0 [] = P at hsp hpk
 cases P with
 | nil =>
  have z := (bk_blank _).1 (hpk.2.2 0 (by omega) h0)
  omega
 | cons p L =>
  obtain ⟨k1, k2, k3, k4, k5, k6⟩ := hpk
  have hp0 : p.2.1 = 0 := by
   by_cases c : p.2.1 = 0
   ·exact c
   ·have z := (bk_blank _).1 (k4 0 (by omega) (by omega))
    omega
  have hk : p.1 = 2 := by
   have := k5.1 0 (by omega) (by omega)
   rw [← this]; exact h2
  obtain ⟨r1, r2⟩ := toS_all t hb L p 1 k2 k3 k6
  have hq : qt (tx t p) = false := by
   cases hq : qt (tx t p) with
   | false => rfl
   | true =>
    have := ((qt_tx t k2 k3 k5).1 hq).2
    rw [hp0] at this
    rw [this] at h2
    exact absurd h2 (by decide)
  have hf : fstT (tx t p) (texts t L) = (4, L.length + 1) := by
   unfold fstT
   rw [if_neg (by rw [hq]; decide), if_pos (show (tx t p).1 = 2 from hk), r1, Nat.add_comm]
  have htok : tokT t (tx t p) (texts t L) = (4, t, 0) := by
   unfold tokT
   rw [hf]
   show (4, saidT 4 (t.extract ((p.2.1 : Int)).toNat (endN (tx t p :: texts t L) (L.length + 1 - 1))), (p.2.1 : Int)) = _
   rw [← texts_cons, show L.length + 1 - 1 = L.length by omega, r2, hp0]
   show (4, saidT 4 (t.extract 0 t.size), ((0 : Nat) : Int)) = _
   rw [ext_all]
   unfold saidT; rw [if_pos rfl, hl]; rfl
  refine toksB_of hsp ?_
  rw [texts_cons, zl, toksF, hf, if_neg (by simp), htok]
  have hd : (tx t p :: texts t L).drop (L.length + 1) = [] := by
   rw [List.drop_eq_nil_iff]; simp [texts]
  dsimp only
  rw [hd]
  cases L.length <;> rfl
theorem again_any {n : Nd} (h : Wf Lf n) : (∃ n', parseB (bsT (wrN n)) = .inr n' ∧ AlP false n' n) ∨ ∃ a, parseB (bsT (wrN n)) = .inl (a, 31) := by
 obtain ⟨⟨L, e, hL⟩, -⟩ := wf_toks h
 obtain ⟨⟨p, l, rfl, k1, k2, k3⟩, hr⟩ := nt_read _ n L (Nat.le_refl _) hL
 have hend : ∀ z : Int, ∀ j, j ≤ 9 → SOk j p ((0, ⟨#[]⟩, z) : Tk) := by
  intro z j _
  refine ⟨fun h => ?_, fun _ => k1, fun _ => k2, fun _ => by simp [isT], fun _ => by simp [isT]⟩
  cases ht : isT ((0, ⟨#[]⟩, z) : Tk) (sgs j) with
  | false => rfl
  | true => exact absurd rfl (isT_kind ht (sgs_kind j))
 unfold parseB
 rw [e]
 dsimp only
 generalize hz : (((bsT (wrN n)).size : Nat) : Int) = z
 have h0 := rb_ups 9 0 (by omega) (fun j _ _ => hend z j (by omega)) (hr (0, ⟨#[]⟩, z) [] 0 (by omega))
 rcases h0 (10 * ((p :: l) ++ [((0, ⟨#[]⟩, z) : Tk)]).length + 10) (by simp only [List.length_append, zl, List.length_nil]; omega) with ⟨n', e1, ha⟩ | ⟨a, e1⟩
 ·rw [e1]; exact .inl ⟨n', rfl, ha⟩
 ·rw [e1]; exact .inr ⟨a, rfl⟩
theorem parse_wf {s : ByteArray} {n : Nd} (hs : s.size ≤ 2048) (h : parseB s = .inr n) (hT : ∀ T, toksB s = .inr T → ∀ t ∈ T, Lf t.1 t.2.1) : Wf Lf n := by
 obtain ⟨A, e, ht, hA, he, hr⟩ := parse_toks hs h
 exact ((par_wf Lf _).lv (hT _ ht) hr).1
theorem vd_skip (s : ByteArray) : ∀ (n a b : Nat), b ≤ a + n → a ≤ b → b ≤ s.size → (∀ j, a ≤ j → j < b → bt s j < 128) → Vd (sb s a) → Vd (sb s b)
  | 0, a, b, h1, h2, h3, h, hv => by obtain rfl : a = b := by omega
                                     exact hv
  | n + 1, a, b, h1, h2, h3, h, hv => by
    by_cases c : a = b
    · rw [← c]; exact hv
    · have e := sb_one s a (by omega)
      have := bt_at s a (by omega)
      have h128 := h a (Nat.le_refl _) (by omega)
      rw [e] at hv
      exact vd_skip s n (a + 1) b (by omega) (by omega) h3 (fun j x y => h j (by omega) y) (vd_cut hv [s[a]'(by omega)] _ rfl (.inr (.inr (.inl ⟨s[a]'(by omega), rfl, by omega⟩)))).2
theorem low_of {c : Nat} (h : bk c ≠ 2) : c < 128 := by
 rcases Nat.lt_or_ge c 128 with z | z
 ·exact z
 ·exact absurd (bk_hi c z) h
theorem vd_qd : ∀ (n : Nat) (l : List UInt8), l.length ≤ n → Vd l → ∀ x k, qdL l = some (x, k) → Vd x ∧ Vd (l.drop k) := by
  intro n
  induction n with
  | zero => intro l hn h x k e; have : l = [] := List.eq_nil_of_length_eq_zero (by omega)
            subst this; cases e
  | succ n ih =>
    intro l hn h x k e
    cases h with
    | nil => cases e
    | lo c l h hg hv =>
      simp only [List.length_cons] at hn
      by_cases c39 : c = 39
      · subst c39
        cases l with
        | nil => rw [qdL, if_pos rfl] at e; cases e; exact ⟨.nil, .nil⟩
        | cons d l =>
          rw [qdL, if_pos rfl] at e
          by_cases d39 : d = 39
          · subst d39
            rw [if_pos rfl] at e
            have h2 := (vd_cut hv [39] l rfl (.inr (.inr (.inl ⟨39, rfl, by decide⟩)))).2
            cases hq : qdL l with
            | none => rw [hq] at e; cases e
            | some y =>
              rw [hq] at e
              obtain ⟨y, m⟩ := y
              cases e
              have := ih l (by simp only [List.length_cons] at hn; omega) h2 y m hq
              exact ⟨vd_q this.1, this.2⟩
          · rw [if_neg d39] at e; cases e; exact ⟨.nil, hv⟩
      · rw [qdL_cons c39] at e
        cases hq : qdL l with
        | none => rw [hq] at e; cases e
        | some y =>
          rw [hq] at e
          obtain ⟨y, m⟩ := y
          cases e
          have := ih l (by omega) hv y m hq
          exact ⟨.lo c _ h hg this.1, this.2⟩
    | hi r l h hv =>
      rw [List.length_append] at hn
      rw [qdL_skip l r (no39_hi h)] at e
      cases hq : qdL l with
      | none => rw [hq] at e; cases e
      | some y =>
        rw [hq] at e
        obtain ⟨y, m⟩ := y
        cases e
        have := ih l (by have := h.1; omega) hv y m hq
        refine ⟨.hi r _ h this.1, ?_⟩
        rw [show m + r.length = r.length + m by omega, ← List.drop_drop, List.drop_left']
        · exact this.2
        · rfl
theorem toS_some (s : ByteArray) : ∀ (L : List Prt) (p : Prt) (m : Nat), p.2.1 < p.2.2 → p.2.2 ≤ s.size → OneP s p → p.1 ≠ 3 → Pk s p.2.2 L s.size →
  ∃ j q, toS m (tx s p) (texts s L) = m + j ∧ (p :: L)[j]? = some q ∧ p.2.2 ≤ q.2.2 ∧ q.2.2 ≤ s.size ∧ (∀ i, p.2.1 ≤ i → i < q.2.2 → bk (bt s i) = 1 ∨ bk (bt s i) = 2) ∧ (q.2.2 = s.size ∨ bt s q.2.2 < 128)
 | [], p, m, h1, h2, ho, h3, h => by
  obtain ⟨k1, k2, k3⟩ := h
  refine ⟨0, p, rfl, rfl, Nat.le_refl _, h2, fun i a b => ?_, ?_⟩
  ·have z := ho.1 i a b
   have := ho.2.1; omega
  ·rcases Nat.lt_or_ge p.2.2 s.size with c | c
   ·exact .inr (low_of (by rw [(bk_blank _).1 (k3 _ (Nat.le_refl _) c)]; decide))
   ·exact .inl (by omega)
 | q :: L, p, m, h1, h2, ho, h3, h => by
  obtain ⟨k1, k2, k3, k4, k5, k6⟩ := h
  have hp : ∀ i, p.2.1 ≤ i → i < p.2.2 → bk (bt s i) = 1 ∨ bk (bt s i) = 2 := fun i a b => by
   have z := ho.1 i a b
   have := ho.2.1; omega
  by_cases hpq : q.2.1 = p.2.2
  ·by_cases hq3 : q.1 = 3
   ·refine ⟨0, p, ?_, rfl, Nat.le_refl _, h2, hp, .inr (low_of ?_)⟩
    ·rw [texts_cons, toS, if_neg]; · rfl
     rw [show (tx s q).1 = 3 from hq3]; simp
    ·have z := k5.1 q.2.1 (Nat.le_refl _) k2
     rw [hpq] at z; rw [z, hq3]; decide
   ·obtain ⟨j, r, r1, r2, r3, r4, r5, r6⟩ := toS_some s L q (m + 1) k2 k3 k5 hq3 k6
    refine ⟨j + 1, r, ?_, by simpa using r2, by omega, r4, fun i a b => ?_, r6⟩
    ·rw [texts_cons, toS, besT_tx s h1 h2, if_pos (by rw [decide_eq_true hpq, decide_eq_true (show (tx s q).1 ≠ 3 from hq3)]; rfl), r1]; omega
    ·by_cases c : i < p.2.2
     ·exact hp i a c
     ·exact r5 i (by omega) b
  ·refine ⟨0, p, ?_, rfl, Nat.le_refl _, h2, hp, .inr (low_of ?_)⟩
   ·rw [texts_cons, toS, besT_tx s h1 h2, if_neg]; · rfl
    rw [decide_eq_false hpq]; simp
   ·rw [(bk_blank _).1 (k4 _ (Nat.le_refl _) (by omega))]; decide
theorem sb_ext (s : ByteArray) {i j : Nat} (h : i ≤ j) : sb s i = (s.extract i j).data.toList ++ sb s j := by rw [ext_bytes]; exact sb_cut s i j h
theorem mem_ext2 {s : ByteArray} {i j : Nat} (hj : j ≤ s.size) {P : Nat → Prop} (h : ∀ k, i ≤ k → k < j → P (bt s k)) : ∀ c ∈ (s.extract i j).data.toList, P c.toNat := by
 intro c hc
 obtain ⟨k, k1, k2, k3⟩ := mem_ext hj hc
 rw [k3]; exact h k k1 k2
theorem bt_ext (s : ByteArray) {i j k : Nat} (hj : j ≤ s.size) (hk : i + k < j) : bt (s.extract i j) k = bt s (i + k) := by
 have h1 := bL_sb (s.extract i j) 0 k
 have h2 := bL_sb s i k
 rw [Nat.zero_add] at h1
 rw [← h1, ← h2, sb_ext s (show i ≤ j by omega)]
 unfold bL sb
 rw [List.drop_zero, List.getElem?_append_left (by rw [sz, ext_size s hj]; omega)]
theorem one_lf (s : ByteArray) (p : Prt) (L : List Prt) (a : Nat) (h : Pk s a (p :: L) s.size) (hv : Vd (sb s a)) (hm : (fstT (tx s p) (texts s L)).2 ≠ 0) :
    ∃ q, (p :: L)[(fstT (tx s p) (texts s L)).2 - 1]? = some q ∧ Vd (sb s q.2.2) ∧ Lf (tokT s (tx s p) (texts s L)).1 (tokT s (tx s p) (texts s L)).2.1 := by
  obtain ⟨k1, k2, k3, k4, k5, k6⟩ := h
  have hvp : Vd (sb s p.2.1) := vd_skip s p.2.1 a p.2.1 (by omega) k1 (by omega) (fun j x y => low_of (by rw [(bk_blank _).1 (k4 j x y)]; decide)) hv
  by_cases hq : qt (tx s p) = true
  · obtain ⟨q1, q2⟩ := (qt_tx s k2 k3 k5).1 hq
    have hv2 : Vd (sb s p.2.2) := vd_skip s 1 p.2.1 p.2.2 (by omega) (by omega) k3 (fun j x y => by obtain rfl : j = p.2.1 := by omega
                                                                                                    omega) hvp
    have hf : fstT (tx s p) (texts s L) = (3, toQ 1 (texts s L)) := by unfold fstT; rw [if_pos hq]
    rw [hf] at hm ⊢
    rcases toQ_qd s L.length L p.2.2 1 (Nat.le_refl _) k6 with ⟨e, -⟩ | ⟨m, q, e1, e2, e3, e4⟩
    · exact absurd e hm
    · have hvq := vd_qd _ _ (Nat.le_refl _) hv2 _ _ e4
      obtain ⟨g1, g2, g3, -⟩ := Pk_at m _ _ L q k6 e2
      have hend : endN (tx s p :: texts s L) (m + 1) = q.2.2 := end_part (s := s) (L := p :: L) (j := m + 1) (q := q) (by simpa using e2) g2 g3
      refine ⟨q, ?_, ?_, ?_⟩
      · show (p :: L)[toQ 1 (texts s L) - 1]? = _
        rw [e1, show 1 + m + 1 - 1 = m + 1 by omega]; simpa using e2
      · have := hvq.2
        unfold sb at this ⊢
        rw [List.drop_drop, show p.2.2 + (q.2.2 - p.2.2) = q.2.2 by omega] at this
        exact this
      · have ht : (tokT s (tx s p) (texts s L)).2.1 = ⟨(unq ((sb s p.2.2).take (q.2.2 - 1 - p.2.2))).toArray⟩ := by
          unfold tokT
          rw [hf]
          show saidT 3 (s.extract ((p.2.1 : Int)).toNat (endN (tx s p :: texts s L) (toQ 1 (texts s L) - 1))) = _
          rw [e1, show 1 + m + 1 - 1 = m + 1 by omega, hend]
          unfold saidT
          rw [if_neg (by decide), if_pos rfl]
          have : ((s.extract ((p.2.1 : Int)).toNat q.2.2).extract 1 ((s.extract ((p.2.1 : Int)).toNat q.2.2).size - 1)).data.toList = (sb s p.2.2).take (q.2.2 - 1 - p.2.2) := by
            rw [show ((p.2.1 : Int)).toNat = p.2.1 from rfl, ext_size s g3, ByteArray.extract_extract, ext_bytes, q1]
            congr 1
            omega
          rw [this]
        have hk : (tokT s (tx s p) (texts s L)).1 = 3 := by unfold tokT; rw [hf]
        rw [hk, ht]
        intro _
        refine ⟨lx_quote _ (by simpa using hvq.1), ?_⟩
        show (bsT (([39] ++ rpQ _) ++ [39])).data.toList.getLast? ≠ some 58
        rw [bsT_list, List.getLast?_concat]; decide
  · have hqf : qt (tx s p) = false := by simpa using hq
    by_cases p2 : p.1 = 2
    · have hf : fstT (tx s p) (texts s L) = (4, toS 1 (tx s p) (texts s L)) := by unfold fstT; rw [if_neg hq, if_pos (show (tx s p).1 = 2 from p2)]
      rw [hf] at hm ⊢
      obtain ⟨j, q, r1, r2, r3, r4, r5, r6⟩ := toS_some s L p 1 k2 k3 k5 (by omega) k6
      have hend : endN (tx s p :: texts s L) j = q.2.2 := by
        have hq2 : q.2.1 < q.2.2 ∧ q.2.2 ≤ s.size := by
          have := Pk_at j a s.size (p :: L) q ⟨k1, k2, k3, k4, k5, k6⟩ r2
          exact ⟨this.2.1, this.2.2.1⟩
        exact end_part (s := s) (L := p :: L) (j := j) (q := q) r2 hq2.1 hq2.2
      have hcut := vd_cut hvp _ _ (sb_ext s (show p.2.1 ≤ q.2.2 by omega)) (by
        rcases r6 with e | e
        · refine .inr (.inl (List.eq_nil_of_length_eq_zero (by rw [sb_length]; omega)))
        · rcases Nat.lt_or_ge q.2.2 s.size with c | c
          · refine .inr (.inr (.inr ⟨s[q.2.2]'c, ?_, ?_⟩))
            · rw [sb_one s _ c]; rfl
            · rw [← bt_at s _ c]; exact e
          · exact .inr (.inl (List.eq_nil_of_length_eq_zero (by rw [sb_length]; omega))))
      refine ⟨q, ?_, hcut.2, ?_⟩
      · show (p :: L)[toS 1 (tx s p) (texts s L) - 1]? = _
        rw [r1, show 1 + j - 1 = j by omega]; exact r2
      · have ht : (tokT s (tx s p) (texts s L)).2.1 = lowB (s.extract p.2.1 q.2.2) := by
          unfold tokT
          rw [hf]
          show saidT 4 (s.extract ((p.2.1 : Int)).toNat (endN (tx s p :: texts s L) (toS 1 (tx s p) (texts s L) - 1))) = _
          rw [r1, show 1 + j - 1 = j by omega, hend]
          unfold saidT; rw [if_pos rfl]; rfl
        have hk : (tokT s (tx s p) (texts s L)).1 = 4 := by unfold tokT; rw [hf]
        rw [hk, ht]
        have hbl : (lowB (s.extract p.2.1 q.2.2)).data.toList = (s.extract p.2.1 q.2.2).data.toList.map lowC := by unfold lowB; simp
        have hsz : 0 < (s.extract p.2.1 q.2.2).size := by rw [ext_size s r4]; omega
        have hmem : ∀ c ∈ (lowB (s.extract p.2.1 q.2.2)).data.toList, bk c.toNat = 1 ∨ bk c.toNat = 2 := by
          intro c hc
          rw [hbl] at hc
          obtain ⟨d, hd, rfl⟩ := List.mem_map.1 hc
          rcases mem_ext2 r4 (P := fun n => bk n = 1 ∨ bk n = 2) r5 d hd with z | z
          · have : lowC d = d := by
              unfold lowC
              rw [if_neg]
              intro q
              have := (bk_digit _).2 z
              unfold digitN at this
              rw [Bool.and_eq_true, decide_eq_true_eq, decide_eq_true_eq] at this
              omega
            rw [this]; exact .inl z
          · exact .inr (low_bk z)
        refine lf_name (by rw [hbl]; exact vd_low hcut.1) (by rw [lowB_size]; exact hsz) ?_ hmem (lowB_lowB _)
        have hb0 : bk (bt (s.extract p.2.1 q.2.2) 0) = 2 := by
          rw [bt_ext s r4 (by omega), Nat.add_zero, k5.1 _ (Nat.le_refl _) k2, p2]
        have e1 := bt_get (s.extract p.2.1 q.2.2) 0 hsz
        have e2 := bt_get (lowB (s.extract p.2.1 q.2.2)) 0 (by rw [lowB_size]; exact hsz)
        have e3 : (lowB (s.extract p.2.1 q.2.2)).data.toList[0]? = some (lowC ((s.extract p.2.1 q.2.2)[0]'hsz)) := by rw [hbl, List.getElem?_map, e1.1]; rfl
        rw [e2.1] at e3
        have e4 := Option.some.inj e3
        rw [← e2.2, e4]
        rw [← e1.2] at hb0
        exact low_bk hb0
    · by_cases p3 : p.1 = 3
      · have hp1 := k5.2.2 p3
        have hb : bt s p.2.1 < 128 := low_of (by rw [k5.1 _ (Nat.le_refl _) k2, p3]; decide)
        have hv2 : Vd (sb s p.2.2) := vd_skip s 1 p.2.1 p.2.2 (by omega) (by omega) k3 (fun j x y => by obtain rfl : j = p.2.1 := by omega
                                                                                                        exact hb) hvp
        have hf : fstT (tx s p) (texts s L) = (5, if prT (tx s p) (texts s L) then 2 else 1) := by unfold fstT; rw [if_neg hq, if_neg (show ¬ (tx s p).1 = 2 from p2), if_pos (show (tx s p).1 = 3 from p3)]
        have hk : (tokT s (tx s p) (texts s L)).1 = 5 := by unfold tokT; rw [hf]
        rw [hf, hk]
        have hlf : ∀ t, Lf 5 t := fun t z => by omega
        by_cases hp : prT (tx s p) (texts s L) = true
        · rw [if_pos hp]
          cases L with
          | nil => cases hp
          | cons q L =>
            obtain ⟨g1, g2, g3, g4, g5, g6⟩ := k6
            rw [texts_cons, prT, besT_tx s k2 k3, Bool.and_eq_true, decide_eq_true_eq] at hp
            obtain ⟨z1, z2⟩ := hp
            have hsz : ((tx s p).2.1 ++ (tx s q).2.1).size = 2 ∧ bt ((tx s p).2.1 ++ (tx s q).2.1) 1 < 128 := by
              unfold isPr at z2
              simp only [Bool.or_eq_true, decide_eq_true_eq] at z2
              rcases z2 with ((z | z) | z) | z <;> rw [z] <;> exact ⟨rfl, by decide⟩
            have s1 : (tx s p).2.1.size = 1 := by show (s.extract p.2.1 p.2.2).size = 1; rw [ext_size s k3]; omega
            have s2 : (tx s q).2.1.size = q.2.2 - q.2.1 := ext_size s g3
            rw [ByteArray.size_append, s1, s2] at hsz
            have hb2 : bt s q.2.1 < 128 := by
              have := bt_right (tx s p).2.1 (tx s q).2.1 0
              rw [s1] at this
              have h3 := hsz.2
              rw [show (1 : Nat) = 1 + 0 from rfl, this] at h3
              have h4 : bt (tx s q).2.1 0 = bt s (q.2.1 + 0) := bt_ext s g3 (by omega)
              rw [h4] at h3; exact h3
            refine ⟨q, rfl, ?_, hlf _⟩
            exact vd_skip s 1 p.2.2 q.2.2 (by omega) (by omega) g3 (fun j x y => by obtain rfl : j = q.2.1 := by omega
                                                                                    exact hb2) hv2
        · rw [if_neg hp]
          exact ⟨p, rfl, hv2, hlf _⟩
      · have p1 : p.1 = 1 := by have := k5.2.1; omega
        have hdp : ∀ j, p.2.1 ≤ j → j < p.2.2 → bk (bt s j) = 1 := fun j x y => by rw [k5.1 j x y, p1]
        have hv2 : Vd (sb s p.2.2) := vd_skip s s.size p.2.1 p.2.2 (by omega) (by omega) k3 (fun j x y => low_of (by rw [hdp j x y]; decide)) hvp
        by_cases hd : dcT (tx s p) (texts s L) = true
        · have hf : fstT (tx s p) (texts s L) = (2, 3) := by unfold fstT; rw [if_neg hq, if_neg (show ¬ (tx s p).1 = 2 from p2), if_neg (show ¬ (tx s p).1 = 3 from p3), if_pos hd]
          have hk : (tokT s (tx s p) (texts s L)).1 = 2 := by unfold tokT; rw [hf]
          rw [hf, hk]
          match L, k6, hd, hf with
          | [], _, hd, _ => cases hd
          | [q], _, hd, _ => cases hd
          | q :: r :: L, k6, hd, hf =>
            obtain ⟨g1, g2, g3, g4, g5, f1, f2, f3, f4, f5, f6⟩ := k6
            rw [texts_cons, texts_cons, dcT, besT_tx s k2 k3, besT_tx s g2 g3] at hd
            simp only [Bool.and_eq_true, decide_eq_true_eq] at hd
            obtain ⟨⟨⟨z1, z2⟩, z3⟩, z4⟩ := hd
            have z4 : r.1 = 1 := z4
            have hq1 : q.2.2 = q.2.1 + 1 := by
              have := congrArg ByteArray.size z2
              have e : (tx s q).2.1.size = q.2.2 - q.2.1 := ext_size s g3
              rw [e, show (⟨#[46]⟩ : ByteArray).size = 1 from rfl] at this
              omega
            have h46 : bt s q.2.1 = 46 := by
              have h4 : bt (s.extract q.2.1 q.2.2) 0 = bt s (q.2.1 + 0) := bt_ext s g3 (by omega)
              rw [z2, Nat.add_zero] at h4
              rw [← h4]; decide
            have hdr : ∀ j, r.2.1 ≤ j → j < r.2.2 → bk (bt s j) = 1 := fun j x y => by rw [f5.1 j x y, z4]
            have hend : endN (tx s p :: texts s (q :: r :: L)) 2 = r.2.2 := end_part (s := s) (L := p :: q :: r :: L) (j := 2) (q := r) rfl f2 f3
            refine ⟨r, rfl, ?_, ?_⟩
            · have hv3 : Vd (sb s q.2.2) := vd_skip s 1 p.2.2 q.2.2 (by omega) (by omega) g3 (fun j x y => by obtain rfl : j = q.2.1 := by omega
                                                                                                              omega) hv2
              exact vd_skip s s.size q.2.2 r.2.2 (by omega) (by omega) f3 (fun j x y => low_of (by rw [hdr j (by omega) y]; decide)) hv3
            · have ht : (tokT s (tx s p) (texts s (q :: r :: L))).2.1 = s.extract p.2.1 r.2.2 := by
                unfold tokT
                rw [hf]
                show saidT 2 (s.extract ((p.2.1 : Int)).toNat (endN (tx s p :: texts s (q :: r :: L)) 2)) = _
                rw [hend, low_said (x := 0) 2 (by decide) (by decide)]; rfl
              rw [ht]
              have hs2 := ext_size s (i := p.2.1) f3
              refine lf_dec (i := q.2.1 - p.2.1) (by omega) (by omega) (fun j hj hne => ?_) ?_
              · rw [bt_ext s f3 (by omega)]
                by_cases c : p.2.1 + j < p.2.2
                · exact hdp _ (by omega) c
                · exact hdr _ (by omega) (by omega)
              · rw [bt_ext s f3 (by omega), show p.2.1 + (q.2.1 - p.2.1) = q.2.1 by omega]; exact h46
        · have hf : fstT (tx s p) (texts s L) = (1, 1) := by unfold fstT; rw [if_neg hq, if_neg (show ¬ (tx s p).1 = 2 from p2), if_neg (show ¬ (tx s p).1 = 3 from p3), if_neg hd]
          have hk : (tokT s (tx s p) (texts s L)).1 = 1 := by unfold tokT; rw [hf]
          have hend : endN (tx s p :: texts s L) 0 = p.2.2 := end_part (s := s) (L := p :: L) (j := 0) (q := p) rfl k2 k3
          have ht : (tokT s (tx s p) (texts s L)).2.1 = s.extract p.2.1 p.2.2 := by
            unfold tokT
            rw [hf]
            show saidT 1 (s.extract ((p.2.1 : Int)).toNat (endN (tx s p :: texts s L) 0)) = _
            rw [hend, low_said (x := 0) 1 (by decide) (by decide)]; rfl
          rw [hf, hk, ht]
          exact ⟨p, rfl, hv2, lf_num (by rw [ext_size s k3]; omega) (mem_ext2 k3 (P := fun n => bk n = 1) hdp)⟩
theorem src_lf (s : ByteArray) : ∀ (n : Nat) (L : List Prt) (a : Nat) (A T : List Tk), Pk s a L s.size → Vd (sb s a) → (∀ t ∈ A, Lf t.1 t.2.1) → toksF s n (texts s L) A = .inr T → ∀ t ∈ T, Lf t.1 t.2.1 := by
 have h0 : ∀ z : ByteArray, Lf 0 z := fun z q => by omega
 intro n
 induction n with
 | zero =>
  intro L a A T h hv hA e t ht
  simp only [toksF, Sum.inr.injEq] at e; subst e
  rcases List.mem_append.1 ht with ht | ht
  ·exact hA t ht
  ·simp at ht; subst ht; exact h0 _
 | succ n ih =>
  intro L a A T h hv hA e
  cases L with
  | nil =>
   intro t ht
   simp only [texts, List.map_nil, toksF, Sum.inr.injEq] at e; subst e
   rcases List.mem_append.1 ht with ht | ht
   ·exact hA t ht
   ·simp at ht; subst ht; exact h0 _
  | cons p L =>
   rw [texts_cons, toksF] at e
   by_cases hm : (fstT (tx s p) (texts s L)).2 = 0
   ·rw [if_pos hm] at e; cases e
   ·rw [if_neg hm] at e
    obtain ⟨q, q1, q2, q3⟩ := one_lf s p L a h hv hm
    obtain ⟨-, -, -, -, g, -⟩ := Pk_at _ a s.size (p :: L) q h q1
    rw [show (fstT (tx s p) (texts s L)).2 - 1 + 1 = (fstT (tx s p) (texts s L)).2 by omega] at g
    have ed : (tx s p :: texts s L).drop (fstT (tx s p) (texts s L)).2 = texts s ((p :: L).drop (fstT (tx s p) (texts s L)).2) := by
     rw [← texts_cons]; unfold texts; rw [List.map_drop]
    rw [ed] at e
    refine ih _ _ _ T g q2 (fun t ht => ?_) e
    rcases List.mem_append.1 ht with ht | ht
    ·exact hA t ht
    ·simp at ht; subst ht; exact q3
theorem toks_lf {s : ByteArray} {T : List Tk} (h : toksB s = .inr T) : ∀ t ∈ T, Lf t.1 t.2.1 := by
 obtain ⟨P, hp, hf⟩ := toksB_get h
 have hv := vd_split hp
 have e := split_vd hv
 rw [hp] at e
 cases e
 exact src_lf s _ _ 0 [] T (rparts_all s) (by unfold sb; simpa using hv) (by simp) hf
theorem parse_again {s : ByteArray} {n : Nd} (hs : s.size ≤ 2048) (h : parseB s = .inr n) : shN n = true ∧ ((∃ n', parseB (bsT (wrN n)) = .inr n' ∧ AlP false n' n) ∨ ∃ a, parseB (bsT (wrN n)) = .inl (a, 31)) := by
 have hw := parse_wf hs h fun T hT => toks_lf hT
 exact ⟨wf_sh hw, again_any hw⟩
mutual
theorem wr_len : ∀ n : Nd, shN n = true → tzN n = true → (wrN n).length + 20 ≤ 200040 * cnN n
 | .mk k t ks a, hs, hz => by
  rw [tzN, Bool.and_eq_true, decide_eq_true_eq] at hz
  rw [shN, Bool.and_eq_true] at hs
  have hl := wr_lens ks hs.2 hz.2 (f := true)
  have ht : t.data.toList.length ≤ 100000 := by rw [sz]; exact hz.1
  have hq : (rpQ t).length ≤ 200000 := by
   unfold rpQ; rw [repl_dq]
   have := dqL_len t.data.toList
   omega
  rw [wrN, cnN]
  unfold frW
  have h1 := hs.1
  by_cases k9 : k = 9
  ·subst k9
   show ((t.data.toList ++ [40]) ++ jnW [44, 32] true (wrT ks) ++ [41]).length + 20 ≤ _
   simp only [List.length_append, zl, List.length_nil]
   omega
  rw [if_neg k9] at h1
  by_cases k8 : k = 8
  ·subst k8
   rw [if_pos rfl, decide_eq_true_eq] at h1
   match ks, h1, hl with
   | [x, y], _, hl =>
    simp only [wrT, jnW, List.length_append, zl, List.length_nil, if_true, Bool.false_eq_true, if_false] at hl
    show ([40] ++ jnW ([32] ++ t.data.toList ++ [32]) true (wrT [x, y]) ++ [41]).length + 20 ≤ _
    simp only [wrT, jnW, List.length_append, zl, List.length_nil, if_true, Bool.false_eq_true, if_false]
    omega
  rw [if_neg k8] at h1
  by_cases k1 : k = 5 ∨ k = 6 ∨ k = 7 ∨ k = 10
  ·rw [if_pos k1, decide_eq_true_eq] at h1
   match ks, h1, hl with
   | [x], _, hl =>
    simp only [wrT, jnW, List.length_append, List.length_nil, if_true] at hl
    rcases k1 with rfl | rfl | rfl | rfl <;> (simp [wrT, jnW]; omega)
  ·rw [if_neg k1, decide_eq_true_eq] at h1
   have hk : k = 1 ∨ k = 2 ∨ k = 3 ∨ k = 4 := by omega
   rcases hk with rfl | rfl | rfl | rfl <;> (simp; omega)
theorem wr_lens : ∀ l : List Nd, shL l = true → tzL l = true → ∀ {f : Bool}, (jnW [44, 32] f (wrT l)).length ≤ 200040 * cnL l
 | [], _, _, f => by rw [wrT, jnW]; simp
 | n :: l, hs, hz, f => by
  rw [shL, Bool.and_eq_true] at hs
  rw [tzL, Bool.and_eq_true] at hz
  have h1 := wr_len n hs.1 hz.1
  have h2 := wr_lens l hs.2 hz.2 (f := false)
  rw [wrT, jnW, cnL]
  simp only [List.length_append]
  have : (if f = true then ([] : List UInt8) else [44, 32]).length ≤ 2 := by split <;> simp
  omega
end
mutual
theorem alp_cn {b : Bool} : ∀ n m : Nd, AlP b n m → cnN n = cnN m
 | .mk k t ks a, .mk k2 t2 ks2 a2, h => by
  cases h with
  | mk _ _ _ _ _ _ h _ => rw [cnN, cnN, alp_cns ks ks2 h]
theorem alp_cns {b : Bool} : ∀ l m : List Nd, F2 (AlP b) l m → cnL l = cnL m
 | [], [], _ => rfl
 | x :: l, y :: m, h => by
  cases h with
  | cons h1 h2 => rw [cnL, cnL, alp_cn x y h1, alp_cns l m h2]
 | [], _ :: _, h => by cases h
 | _ :: _, [], h => by cases h
end
mutual
theorem st_cn : ∀ n : Nd, stN n ≤ cnN n
 | .mk k t ks a => by
  have := st_cns ks
  rw [stN, cnN]; split <;> omega
theorem st_cns : ∀ l : List Nd, stL l ≤ cnL l
 | [] => by simp [stL, cnL]
 | n :: l => by
  have := st_cn n
  have := st_cns l
  rw [stL, cnL]; omega
end
theorem again_calls {s : ByteArray} {n : Nd} (hs : s.size ≤ 2048) (hp : parseB s = .inr n) : shN n = true ∧ tzN n = true ∧ cnN n ≤ 100000 ∧ (wrN n).length ≤ 1000000000 ∧ stN n ≤ 1000000000 ∧
  ∃ (m : Nd) (A E : Int), cnN m ≤ 100000 ∧ ((E = 0 ∧ AlP false m n) ∨ E = 3 ∨ E = 31) ∧ ∀ w, Gl w → Calls Tryd.prog 5 #[vS (bsT (wrN n))] w fun e w' => Below w.heap.size w w' ∧ ∃ k t sq sn sc a, e = zr (.tuple #[.agg #[vi ki k, vS t, vL sq sn sc, vi ki a], vi ki A, vi ki E]) ∧ NdAt (fun c => w.heap.size < c) w' m [vi ki k, vS t, vL sq sn sc, vi ki a] := by
 obtain ⟨h1, h2⟩ := parse_again hs hp
 obtain ⟨z1, z2⟩ := parse_sz hs hp
 have hl := wr_len n h1 z1
 have hst := st_cn n
 refine ⟨h1, z1, by omega, by omega, by omega, ?_⟩
 by_cases h : (bsT (wrN n)).size ≤ 2048
 ·rcases h2 with ⟨m, e, ha⟩ | ⟨a, e⟩
  ·refine ⟨m, 0, 0, by rw [alp_cn m n ha]; omega, .inl ⟨rfl, ha⟩, fun w hG => (parse_gl _ w hG h).mono ?_⟩
   rw [e]
   exact fun e w' h => h
  ·refine ⟨.mk 0 ⟨#[]⟩ [] 0, a, 31, by decide, .inr (.inr rfl), fun w hG => (parse_gl _ w hG h).mono ?_⟩
   rw [e]
   rintro e w' ⟨hb, rfl⟩
   exact ⟨hb, _, _, _, _, _, _, rfl, NdAt.leaf _ _ _ _ _⟩
 ·refine ⟨.mk 0 ⟨#[]⟩ [] 0, 0, 3, by decide, .inr (.inl rfl), fun w hG => (parse_long _ w (by rw [bsT_size]; unfold maxLen; omega) h).mono ?_⟩
  rintro e w' ⟨hb, rfl⟩
  exact ⟨hb, _, _, _, _, _, _, rfl, NdAt.leaf _ _ _ _ _⟩
theorem et_no (s : ByteArray) (n : Nd) (A E : Int) (hE : (E == 0) = false) (hE2 : (E != 0) = true) (h1 : ∀ w, Gl w → Calls Tryd.prog 5 #[vS s] w fun e w' => Below w.heap.size w w' ∧ ∃ k t sq sn sc a, e = zr (.tuple #[.agg #[vi ki k, vS t, vL sq sn sc, vi ki a], vi ki A, vi ki E]) ∧ NdAt (fun c => w.heap.size < c) w' n [vi ki k, vS t, vL sq sn sc, vi ki a]) (h2 : ∀ w, Calls Tryd.prog 6 #[vS s] w fun e w' => Below w.heap.size w w' ∧ ∃ k t sq sn sc a, e = zr (.tuple #[.agg #[vi ki k, vS t, vL sq sn sc, vi ki a], vi ki A, vi ki E]) ∧ NdAt (fun c => w.heap.size < c) w' n [vi ki k, vS t, vL sq sn sc, vi ki a]) (w : World) (hGl : Gl w) :
  Calls Tryd.prog 4 #[vS s] w fun e w' => e = zr (.bool true) ∧ Below w.heap.size w w' := by
 have HG := hZz hGl
 have HC1 := hZz h1
 have HC2 := hZz h2
 clear hGl h1 h2
 go_enter Tryd.func4, Tryd.ntmps4
 go_wp2_with fail
 refine (HC1.out w HG.out).mono ?_
 rintro e V ⟨hb, k, t, sq, sn, sc, a, rfl, hnd⟩
 have HB := hZz hb
 have HN1 := hZz hnd
 have BV := bsm1 V [vi ki k, vS t, vL sq sn sc, vi ki a] 24
 clear hb hnd HC1
 go_wp2_with fail
 refine (HC2.out _).mono ?_
 rintro e U ⟨hb, k2, t2, sq2, sn2, sc2, a2, rfl, hnd⟩
 have BU : Hid (BS V [(V.heap.size, [vi ki k, vS t, vL sq sn sc, vi ki a])] U) := BV.out.below hb
 have BW : Hid (BS V [(U.heap.size, [vi ki k2, vS t2, vL sq2 sn2 sc2, vi ki a2]), (V.heap.size, [vi ki k, vS t, vL sq sn sc, vi ki a])] (U.alloc (.cells [vi ki k2, vS t2, vL sq2 sn2 sc2, vi ki a2].toArray 30))) := BU.out.new [vi ki k2, vS t2, vL sq2 sn2 sc2, vi ki a2] 30 rfl
 have HN2 : Hid (NdAt (fun c => V.heap.size + 1 < c) (U.alloc (.cells [vi ki k2, vS t2, vL sq2 sn2 sc2, vi ki a2].toArray 30)) n [vi ki k2, vS t2, vL sq2 sn2 sc2, vi ki a2]) := NdAt.keep (by simp) (fun c hc hl => ⟨by simpa using hc, Below.heap_alloc _ _ _ hl⟩) _ _ hnd
 have HW1 : Hid (Below w.heap.size w (U.alloc (.cells [vi ki k2, vS t2, vL sq2 sn2 sc2, vi ki a2].toArray 30))) := HB.out.trans (BW.out.1.mono HB.out.size)
 clear hb hnd BV BU HC2
 go_wp2_with fail
 refine (known22_any _ (HG.out.below HW1.out)).mono ?_
 rintro e v1 ⟨rfl, hb1⟩
 have HF : Hid (Below w.heap.size w v1) := HW1.out.trans (hb1.mono HW1.out.size)
 clear hb1 HW1 HB HG
 go_wp2
 go_ret
 exact ⟨rfl, HF.out⟩
theorem et_yes (s : ByteArray) (n : Nd) (A : Int) (m : Nd) (A2 E2 : Int) (hsh : shN n = true) (htz : tzN n = true) (hcn : cnN n ≤ 100000) (hlen : (wrN n).length ≤ 1000000000) (hst : stN n ≤ 1000000000) (hcm : cnN m ≤ 100000) (hE2 : (E2 = 0 ∧ AlP false m n) ∨ E2 = 3 ∨ E2 = 31) (h3 : ∀ w, Gl w → Calls Tryd.prog 5 #[vS (bsT (wrN n))] w fun e w' => Below w.heap.size w w' ∧ ∃ k t sq sn sc a, e = zr (.tuple #[.agg #[vi ki k, vS t, vL sq sn sc, vi ki a], vi ki A2, vi ki E2]) ∧ NdAt (fun c => w.heap.size < c) w' m [vi ki k, vS t, vL sq sn sc, vi ki a]) (h1 : ∀ w, Gl w → Calls Tryd.prog 5 #[vS s] w fun e w' => Below w.heap.size w w' ∧ ∃ k t sq sn sc a, e = zr (.tuple #[.agg #[vi ki k, vS t, vL sq sn sc, vi ki a], vi ki A, vi ki 0]) ∧ NdAt (fun c => w.heap.size < c) w' n [vi ki k, vS t, vL sq sn sc, vi ki a]) (h2 : ∀ w, Calls Tryd.prog 6 #[vS s] w fun e w' => Below w.heap.size w w' ∧ ∃ k t sq sn sc a, e = zr (.tuple #[.agg #[vi ki k, vS t, vL sq sn sc, vi ki a], vi ki A, vi ki 0]) ∧ NdAt (fun c => w.heap.size < c) w' n [vi ki k, vS t, vL sq sn sc, vi ki a]) (w : World) (hGl : Gl w) :
  Calls Tryd.prog 4 #[vS s] w fun e w' => e = zr (.bool true) ∧ Below w.heap.size w w' := by
 have HG : Hid (Gl w) := hGl
 have HC1 : Hid (∀ w, Gl w → Calls Tryd.prog 5 #[vS s] w fun e w' => Below w.heap.size w w' ∧ ∃ k t sq sn sc a, e = zr (.tuple #[.agg #[vi ki k, vS t, vL sq sn sc, vi ki a], vi ki A, vi ki 0]) ∧ NdAt (fun c => w.heap.size < c) w' n [vi ki k, vS t, vL sq sn sc, vi ki a]) := h1
 have HC2 : Hid (∀ w, Calls Tryd.prog 6 #[vS s] w fun e w' => Below w.heap.size w w' ∧ ∃ k t sq sn sc a, e = zr (.tuple #[.agg #[vi ki k, vS t, vL sq sn sc, vi ki a], vi ki A, vi ki 0]) ∧ NdAt (fun c => w.heap.size < c) w' n [vi ki k, vS t, vL sq sn sc, vi ki a]) := h2
 obtain ⟨T, hT⟩ : ∃ T, T = bsT (wrN n) := ⟨_, rfl⟩
 have hT2 : (⟨(wrN n).toArray⟩ : ByteArray) = T := hT.symm
 rw [← hT] at h3
 have HC3 : Hid (∀ w, Gl w → Calls Tryd.prog 5 #[vS T] w fun e w' => Below w.heap.size w w' ∧ ∃ k t sq sn sc a, e = zr (.tuple #[.agg #[vi ki k, vS t, vL sq sn sc, vi ki a], vi ki A2, vi ki E2]) ∧ NdAt (fun c => w.heap.size < c) w' m [vi ki k, vS t, vL sq sn sc, vi ki a]) := h3
 clear hGl h1 h2 h3
 go_enter Tryd.func4, Tryd.ntmps4
 go_wp2_with fail
 refine (HC1.out w HG.out).mono ?_
 rintro e V ⟨hb, k, t, sq, sn, sc, a, rfl, hnd⟩
 have HB : Hid (Below w.heap.size w V) := hb
 have HN1 : Hid (NdAt (fun c => w.heap.size < c) V n [vi ki k, vS t, vL sq sn sc, vi ki a]) := hnd
 have BV := bsm1 V [vi ki k, vS t, vL sq sn sc, vi ki a] 24
 clear hb hnd HC1
 go_wp2_with fail
 refine (HC2.out _).mono ?_
 rintro e U ⟨hb, k2, t2, sq2, sn2, sc2, a2, rfl, hnd⟩
 have BU : Hid (BS V [(V.heap.size, [vi ki k, vS t, vL sq sn sc, vi ki a])] U) := BV.out.below hb
 have BW : Hid (BS V [(U.heap.size, [vi ki k2, vS t2, vL sq2 sn2 sc2, vi ki a2]), (V.heap.size, [vi ki k, vS t, vL sq sn sc, vi ki a])] (U.alloc (.cells [vi ki k2, vS t2, vL sq2 sn2 sc2, vi ki a2].toArray 30))) := BU.out.new [vi ki k2, vS t2, vL sq2 sn2 sc2, vi ki a2] 30 rfl
 have HN2 : Hid (NdAt (fun c => V.heap.size + 1 < c) (U.alloc (.cells [vi ki k2, vS t2, vL sq2 sn2 sc2, vi ki a2].toArray 30)) n [vi ki k2, vS t2, vL sq2 sn2 sc2, vi ki a2]) := NdAt.keep (by simp) (fun c hc hl => ⟨by simpa using hc, Below.heap_alloc _ _ _ hl⟩) _ _ hnd
 have HW1 : Hid (Below w.heap.size w (U.alloc (.cells [vi ki k2, vS t2, vL sq2 sn2 sc2, vi ki a2].toArray 30))) := HB.out.trans (BW.out.1.mono HB.out.size)
 clear hb hnd BV BU HC2
 obtain ⟨c0, c1, c2, c3⟩ := (BW.out.at (V.heap.size) [vi ki k, vS t, vL sq sn sc, vi ki a] (by simp)).c4; obtain ⟨e0, e1, e2, e3⟩ := (BW.out.at (U.heap.size) [vi ki k2, vS t2, vL sq2 sn2 sc2, vi ki a2] (by simp)).c4; have g1 := (BW.out.at (V.heap.size) [vi ki k, vS t, vL sq sn sc, vi ki a] (by simp)).1; have g2 := (BW.out.at (U.heap.size) [vi ki k2, vS t2, vL sq2 sn2 sc2, vi ki a2] (by simp)).1
 have HGW : Hid (Gl (U.alloc (.cells [vi ki k2, vS t2, vL sq2 sn2 sc2, vi ki a2].toArray 30))) := HG.out.below HW1.out
 have HN0 : Hid (NdAt (fun c => w.heap.size < c) (U.alloc (.cells [vi ki k2, vS t2, vL sq2 sn2 sc2, vi ki a2].toArray 30)) n [vi ki k, vS t, vL sq sn sc, vi ki a]) := HN1.out.below BW.out.1
 go_wp2_with fail
 refine (string_gl n htz hlen (fun c => w.heap.size < c) _ HGW.out _ _ _ _ HN0.out).mono ?_
 rintro e V2 ⟨rfl, hb2⟩
 rw [hT2]
 have B2 : Hid (BS V [(U.heap.size, [vi ki k2, vS t2, vL sq2 sn2 sc2, vi ki a2]), (V.heap.size, [vi ki k, vS t, vL sq sn sc, vi ki a])] V2) := BW.out.below hb2
 have HN3 : Hid (NdAt (fun c => V.heap.size + 1 < c) V2.drew n [vi ki k2, vS t2, vL sq2 sn2 sc2, vi ki a2]) := (HN2.out.below hb2).below (bdrew _)
 have HN4 : Hid (NdAt (fun c => w.heap.size < c) V2.drew n [vi ki k, vS t, vL sq sn sc, vi ki a]) := (HN0.out.below hb2).below (bdrew _)
 clear hb2 HN0 HN2 HN1 HGW c0 c1 c2 c3 e0 e1 e2 e3 g1 g2 BW hT2
 go_upto_region 8 with fail
 refine wp_region_held_drew (S := BS V [(U.heap.size, [vi ki k2, vS t2, vL sq2 sn2 sc2, vi ki a2]), (V.heap.size, [vi ki k, vS t, vL sq sn sc, vi ki a])]) (by kernel_rfl) B2.out.drew (fun hHeld => ?_)
 refine tks 0 (oi := ⟨some 33, _, _, _, _, none⟩) ?_
 simp only [za, zb, zc, zd]
 refine tk (v := ?_) 1 (oi := ⟨some 34, _, _, _, _, none⟩) ?_ ?_
 case refine_2 => (intro w9 hSw; obtain ⟨c0, c1, c2, c3⟩ := (hSw.at (V.heap.size) [vi ki k, vS t, vL sq sn sc, vi ki a] (by simp)).c4; obtain ⟨e0, e1, e2, e3⟩ := (hSw.at (U.heap.size) [vi ki k2, vS t2, vL sq2 sn2 sc2, vi ki a2] (by simp)).c4; have g1 := (hSw.at (V.heap.size) [vi ki k, vS t, vL sq sn sc, vi ki a] (by simp)).1; have g2 := (hSw.at (U.heap.size) [vi ki k2, vS t2, vL sq2 sn2 sc2, vi ki a2] (by simp)).1; clear hSw; go_simp; try with_reducible rfl)
 simp only [za, zb, zc, zd]
 refine rd 2 (fun K hK => ?_)
 go_simp
 refine (rstring_any n (PlN.all n) (fun c => V.heap.size + 1 < c) _ _ _ _ _ (HN3.out.below (Below.refl _ _)) hsh htz hcn hlen).mono ?_
 rintro e v1 ⟨rfl, hb1⟩
 rw [← hT]
 clear hT
 have HM2 : Hid (NdAt (fun c => V.heap.size + 1 < c) v1 n [vi ki k2, vS t2, vL sq2 sn2 sc2, vi ki a2]) := HN3.out.below hb1
 have HM1 : Hid (NdAt (fun c => w.heap.size < c) v1 n [vi ki k, vS t, vL sq sn sc, vi ki a]) := HN4.out.below hb1
 refine hK.out _ _ (hHeld.below hb1) (fun hHeld => ?_)
 clear hK K hb1 HN3 HN4
 refine tks 3 (oi := ⟨some 36, _, _, _, _, none⟩) ?_
 simp only [za, zb, zc, zd]
 refine tks 4 (oi := ⟨some 37, _, _, _, _, none⟩) ?_
 simp only [za, zb, zc, zd]
 refine tk (v := ?_) 5 (oi := ⟨some 38, _, _, _, _, some (4, false)⟩) ?_ ?_
 case refine_2 => (intro w9 hSw; obtain ⟨c0, c1, c2, c3⟩ := (hSw.at (V.heap.size) [vi ki k, vS t, vL sq sn sc, vi ki a] (by simp)).c4; obtain ⟨e0, e1, e2, e3⟩ := (hSw.at (U.heap.size) [vi ki k2, vS t2, vL sq2 sn2 sc2, vi ki a2] (by simp)).c4; have g1 := (hSw.at (V.heap.size) [vi ki k, vS t, vL sq sn sc, vi ki a] (by simp)).1; have g2 := (hSw.at (U.heap.size) [vi ki k2, vS t2, vL sq2 sn2 sc2, vi ki a2] (by simp)).1; clear hSw; go_simp; try with_reducible rfl)
 simp only [za, zb, zc, zd]
 refine tk (v := ?_) 7 (oi := ⟨some 40, _, _, _, _, some (4, false)⟩) ?_ ?_
 case refine_2 => (intro w9 hSw; obtain ⟨c0, c1, c2, c3⟩ := (hSw.at (V.heap.size) [vi ki k, vS t, vL sq sn sc, vi ki a] (by simp)).c4; obtain ⟨e0, e1, e2, e3⟩ := (hSw.at (U.heap.size) [vi ki k2, vS t2, vL sq2 sn2 sc2, vi ki a2] (by simp)).c4; have g1 := (hSw.at (V.heap.size) [vi ki k, vS t, vL sq sn sc, vi ki a] (by simp)).1; have g2 := (hSw.at (U.heap.size) [vi ki k2, vS t2, vL sq2 sn2 sc2, vi ki a2] (by simp)).1; clear hSw; go_simp; try with_reducible rfl)
 simp only [za, zb, zc, zd]
 refine rd 6 (fun K hK => ?_)
 go_simp
 refine (steps_any n (PlN.all n) (fun c => w.heap.size < c) _ _ _ _ _ HM1.out hst).mono ?_
 rintro e v2 ⟨rfl, hb2⟩
 have HM3 : Hid (NdAt (fun c => V.heap.size + 1 < c) v2 n [vi ki k2, vS t2, vL sq2 sn2 sc2, vi ki a2]) := HM2.out.below hb2
 refine hK.out _ _ (hHeld.below hb2) (fun hHeld => ?_)
 clear hK K hb2 HM1 HM2
 refine rd 8 (fun K hK => ?_)
 go_simp
 refine (rsteps_any n (PlN.all n) (fun c => V.heap.size + 1 < c) _ _ _ _ _ HM3.out hst).mono ?_
 rintro e v3 ⟨rfl, hb3⟩
 have HM4 : Hid (NdAt (fun c => V.heap.size + 1 < c) v3 n [vi ki k2, vS t2, vL sq2 sn2 sc2, vi ki a2]) := HM3.out.below hb3
 refine hK.out _ _ (hHeld.below hb3) (fun hHeld => ?_)
 clear hK K hb3 HM3
 refine tks 9 (oi := ⟨some 42, _, _, _, _, some (4, false)⟩) ?_
 simp only [za, zb, zc, zd]
 refine tks 10 (oi := ⟨some 43, _, _, _, _, none⟩) ?_
 simp only [za, zb, zc, zd]
 refine dn ?_
 have HW3 : Hid (Below w.heap.size w v3) := HB.out.trans (hHeld.1.mono HB.out.size)
 have HH : Hid (BS V [(U.heap.size, [vi ki k2, vS t2, vL sq2 sn2 sc2, vi ki a2]), (V.heap.size, [vi ki k, vS t, vL sq sn sc, vi ki a])] v3) := hHeld
 clear hHeld
 go_wp2_with fail
 refine (HC3.out _ (HG.out.below HW3.out)).mono ?_
 rintro e V4 ⟨hb4, k4, t4, sq4, sn4, sc4, a4, rfl, hnd4⟩
 have B5 : Hid (BS V ((V4.heap.size, [vi ki k4, vS t4, vL sq4 sn4 sc4, vi ki a4]) :: [(U.heap.size, [vi ki k2, vS t2, vL sq2 sn2 sc2, vi ki a2]), (V.heap.size, [vi ki k, vS t, vL sq sn sc, vi ki a])]) (V4.alloc (.cells [vi ki k4, vS t4, vL sq4 sn4 sc4, vi ki a4].toArray 24))) := (HH.out.below hb4).new [vi ki k4, vS t4, vL sq4 sn4 sc4, vi ki a4] 24 rfl
 have HX5 : Hid (NdAt (fun _ => True) (V4.alloc (.cells [vi ki k4, vS t4, vL sq4 sn4 sc4, vi ki a4].toArray 24)) m [vi ki k4, vS t4, vL sq4 sn4 sc4, vi ki a4]) := NdAt.keep (by simp) (fun c _ hl => ⟨trivial, Below.heap_alloc _ _ _ hl⟩) _ _ hnd4
 have HM5 : Hid (NdAt (fun c => V.heap.size + 1 < c) (V4.alloc (.cells [vi ki k4, vS t4, vL sq4 sn4 sc4, vi ki a4].toArray 24)) n [vi ki k2, vS t2, vL sq2 sn2 sc2, vi ki a2]) := (HM4.out.below hb4).below ((Below.refl _ V4).alloc (Nat.le_refl _) _)
 have HW5 : Hid (Below w.heap.size w (V4.alloc (.cells [vi ki k4, vS t4, vL sq4 sn4 sc4, vi ki a4].toArray 24))) := HB.out.trans (B5.out.1.mono HB.out.size)
 clear hb4 hnd4 HH HM4 HW3 HC3
 rcases hE2 with ⟨rfl, hal⟩ | rfl | rfl
 ·have HX6 : Hid (NdAt (fun _ => True) (V4.alloc (.cells [vi ki k4, vS t4, vL sq4 sn4 sc4, vi ki a4].toArray 24)).drew m [vi ki k4, vS t4, vL sq4 sn4 sc4, vi ki a4]) := HX5.out.below (bdrew _)
  have HM6 : Hid (NdAt (fun c => V.heap.size + 1 < c) (V4.alloc (.cells [vi ki k4, vS t4, vL sq4 sn4 sc4, vi ki a4].toArray 24)).drew n [vi ki k2, vS t2, vL sq2 sn2 sc2, vi ki a2]) := HM5.out.below (bdrew _)
  clear HX5 HM5 HW5
  go_upto_region 13 with fail
  refine wp_region_held_drew (S := BS V ((V4.heap.size, [vi ki k4, vS t4, vL sq4 sn4 sc4, vi ki a4]) :: [(U.heap.size, [vi ki k2, vS t2, vL sq2 sn2 sc2, vi ki a2]), (V.heap.size, [vi ki k, vS t, vL sq sn sc, vi ki a])])) (by kernel_rfl) B5.out.drew (fun hHeld => ?_)
  refine tks 0 (oi := ⟨some 57, _, _, _, _, none⟩) ?_
  simp only [za, zb, zc, zd]
  refine tks 1 (oi := ⟨some 58, _, _, _, _, none⟩) ?_
  simp only [za, zb, zc, zd]
  refine tks 2 (oi := ⟨some 59, _, _, _, _, none⟩) ?_
  simp only [za, zb, zc, zd]
  refine tk (v := ?_) 3 (oi := ⟨some 60, _, _, _, _, some (2, true)⟩) ?_ ?_
  case refine_2 => (intro w9 hSw; obtain ⟨c0, c1, c2, c3⟩ := (hSw.at (V4.heap.size) [vi ki k4, vS t4, vL sq4 sn4 sc4, vi ki a4] (by simp)).c4; obtain ⟨e0, e1, e2, e3⟩ := (hSw.at (U.heap.size) [vi ki k2, vS t2, vL sq2 sn2 sc2, vi ki a2] (by simp)).c4; have g1 := (hSw.at (V4.heap.size) [vi ki k4, vS t4, vL sq4 sn4 sc4, vi ki a4] (by simp)).1; have g2 := (hSw.at (U.heap.size) [vi ki k2, vS t2, vL sq2 sn2 sc2, vi ki a2] (by simp)).1; clear hSw; go_simp; try with_reducible rfl)
  simp only [za, zb, zc, zd]
  refine tk (v := ?_) 5 (oi := ⟨some 62, _, _, _, _, some (2, true)⟩) ?_ ?_
  case refine_2 => (intro w9 hSw; obtain ⟨c0, c1, c2, c3⟩ := (hSw.at (V4.heap.size) [vi ki k4, vS t4, vL sq4 sn4 sc4, vi ki a4] (by simp)).c4; obtain ⟨e0, e1, e2, e3⟩ := (hSw.at (U.heap.size) [vi ki k2, vS t2, vL sq2 sn2 sc2, vi ki a2] (by simp)).c4; have g1 := (hSw.at (V4.heap.size) [vi ki k4, vS t4, vL sq4 sn4 sc4, vi ki a4] (by simp)).1; have g2 := (hSw.at (U.heap.size) [vi ki k2, vS t2, vL sq2 sn2 sc2, vi ki a2] (by simp)).1; clear hSw; go_simp; try with_reducible rfl)
  simp only [za, zb, zc, zd]
  refine rd 4 (fun K hK => ?_)
  go_simp
  refine (taken_any m hcm (fun _ => True) _ _ _ _ _ (HX6.out.below (Below.refl _ _))).mono ?_
  rintro e v1 ⟨hb1, k6, t6, sq6, sn6, sc6, a6, rfl, hnd1⟩
  have HT1 : Hid (NdAt (fun _ => True) v1 m [vi ki k6, vS t6, vL sq6 sn6 sc6, vi ki a6]) := NdAt.keep (Nat.le_refl _) (fun _ _ _ => ⟨trivial, rfl⟩) _ _ hnd1
  have HM7 : Hid (NdAt (fun c => V.heap.size + 1 < c) v1 n [vi ki k2, vS t2, vL sq2 sn2 sc2, vi ki a2]) := HM6.out.below hb1
  refine hK.out _ _ (hHeld.below hb1) (fun hHeld => ?_)
  clear hK K hb1 hnd1 HX6 HM6
  refine rd 6 (fun K hK => ?_)
  go_simp
  refine (same_any false m n hal (fun _ => True) (fun c => V.heap.size + 1 < c) _ _ _ _ _ _ _ _ _ HT1.out HM7.out).mono ?_
  rintro e v2 ⟨rfl, hb2⟩
  refine hK.out _ _ (hHeld.below hb2) (fun hHeld => ?_)
  clear hK K hb2 HT1 HM7
  refine tks 7 (oi := ⟨some 64, _, _, _, _, none⟩) ?_
  simp only [za, zb, zc, zd]
  refine tks 8 (oi := ⟨some 65, _, _, _, _, none⟩) ?_
  simp only [za, zb, zc, zd]
  refine rd 9 (fun K hK => ?_)
  go_simp
  refine (known22_any _ (HG.out.below (HB.out.trans (hHeld.1.mono HB.out.size)))).mono ?_
  rintro e v3 ⟨rfl, hb3⟩
  refine hK.out _ _ (hHeld.below hb3) (fun hHeld => ?_)
  clear hK K hb3
  refine tks 10 (oi := ⟨some 67, _, _, _, _, none⟩) ?_
  simp only [za, zb, zc, zd]
  refine tks 11 (oi := ⟨some 2, _, _, _, _, none⟩) ?_
  simp only [za, zb, zc, zd]
  refine dn ?_
  have HF : Hid (Below w.heap.size w _) := HB.out.trans (hHeld.1.mono HB.out.size)
  clear hHeld HB HG
  go_wp2
  go_ret
  exact ⟨rfl, HF.out⟩
 ·go_wp2_with fail
  refine (known22_any _ (HG.out.below HW5.out)).mono ?_
  rintro e v9 ⟨rfl, hb9⟩
  have HF : Hid (Below w.heap.size w v9) := HW5.out.trans (hb9.mono HW5.out.size)
  clear hb9 HW5 HB HG
  go_wp2
  go_ret
  exact ⟨rfl, HF.out⟩
 ·go_wp2_with fail
  refine (known22_any _ (HG.out.below HW5.out)).mono ?_
  rintro e v9 ⟨rfl, hb9⟩
  have HF : Hid (Below w.heap.size w v9) := HW5.out.trans (hb9.mono HW5.out.size)
  clear hb9 HW5 HB HG
  go_wp2
  go_ret
  exact ⟨rfl, HF.out⟩
theorem texts_any (s : ByteArray) (hs : s.size ≤ 140737488351232) (w : World) (hGl : Gl w) :
  Calls Tryd.prog 4 #[vS s] w fun e w' => e = zr (.bool true) ∧ Below w.heap.size w w' := by
 by_cases h : s.size ≤ 2048
 ·cases hp : parseB s with
  | inl x =>
   have hE : x.2 ≠ 0 := by
    have q := parse_pl s h
    rw [hp] at q
    exact q.2.2
   refine et_no s (.mk 0 ⟨#[]⟩ [] 0) x.1 x.2 (by simpa using hE) (by simpa using hE) (fun w hG => ?_) (fun w => ?_) w hGl
   ·refine (parse_gl s w hG h).mono ?_
    rw [hp]
    rintro e w' ⟨hb, rfl⟩
    exact ⟨hb, _, _, _, _, _, _, rfl, NdAt.leaf _ _ _ _ _⟩
   ·refine (rparse_any s w h).mono ?_
    rw [hp]
    rintro e w' ⟨hb, rfl⟩
    exact ⟨hb, _, _, _, _, _, _, rfl, NdAt.leaf _ _ _ _ _⟩
  | inr n =>
   obtain ⟨hsh, htz, hcn, hlen, hst, m, A2, E2, hcm, hE2, h3⟩ := again_calls h hp
   refine et_yes s n 0 m A2 E2 hsh htz hcn hlen hst hcm hE2 h3 (fun w hG => ?_) (fun w => ?_) w hGl
   ·refine (parse_gl s w hG h).mono ?_
    rw [hp]
    exact fun e w' h => h
   ·refine (rparse_any s w h).mono ?_
    rw [hp]
    exact fun e w' h => h
 ·refine et_no s (.mk 0 ⟨#[]⟩ [] 0) 0 3 rfl rfl (fun w hG => ?_) (fun w => ?_) w hGl
  ·refine (parse_long s w (by unfold maxLen; omega) h).mono ?_
   rintro e w' ⟨hb, rfl⟩
   exact ⟨hb, _, _, _, _, _, _, rfl, NdAt.leaf _ _ _ _ _⟩
  ·refine (rparse_long s w (by unfold maxLen; omega) h).mono ?_
   rintro e w' ⟨hb, rfl⟩
   exact ⟨hb, _, _, _, _, _, _, rfl, NdAt.leaf _ _ _ _ _⟩
end Go.Proofs.YtaoocecipacnhaaDoor
