/- Mathematics: what clock.runs finds in a text, over its bytes; what a time's text looks like; the scan finds just that. -/
import Derived.Test.YtdkodkkbggdpbaaDoorScnD
namespace Go.Proofs.YtdkodkkbggdpbaaDoor
open Go.RowKit
set_option linter.unusedVariables false

/-- clock.runs over bytes. -/
def runsL : List UInt8 → List Run → Run → Option (List Run)
  | [], l, r => some (l ++ [r])
  | c :: q, l, r =>
    if isDg c = true ∧ r.2.1 < 6 then runsL q l (r.1, r.2.1 + 1, r.2.2 * 10 + ((c.toNat : Int) - 48))
    else if (c = 58 ∨ c = 46) ∧ 0 < r.2.1 ∧ l.length < 3 then runsL q (l ++ [r]) ((c.toNat : Int), 0, 0)
    else none
theorem isDg_iff (c : UInt8) : isDg c = true ↔ 48 ≤ c.toNat ∧ c.toNat ≤ 57 := by
  unfold isDg; rw [Bool.and_eq_true, decide_eq_true_iff, decide_eq_true_iff]
theorem mark_nat (c : UInt8) : (c = 58 ∨ c = 46) ↔ (c.toNat = 58 ∨ c.toNat = 46) := by
  constructor
  · rintro (rfl | rfl) <;> decide
  · rintro (h | h)
    · exact .inl (UInt8.toNat_inj.1 h)
    · exact .inr (UInt8.toNat_inj.1 h)
theorem runsF_L (s : ByteArray) : ∀ (q p : List UInt8) (f : Nat) (l : List Run) (r : Run), s.data.toList = p ++ q → q.length ≤ f → runsF s f p.length l r = runsL q l r
  | [], p, f, l, r, hs, hf => by
    have hz : s.size = p.length := by
      have : s.data.toList.length = p.length := by rw [hs]; simp
      rw [← this]; simp
    rw [runsF_end s f _ l r (by omega)]; rfl
  | c :: q, p, f, l, r, hs, hf => by
    obtain ⟨f', rfl⟩ : ∃ f', f = f' + 1 := ⟨f - 1, by simp at hf; omega⟩
    have hf' : q.length ≤ f' := by simp at hf; omega
    obtain ⟨m, d, n⟩ := r
    have hz : s.size = p.length + (q.length + 1) := by
      have : s.data.toList.length = p.length + (q.length + 1) := by rw [hs]; simp
      rw [← this]; simp
    have ih : ∀ (l : List Run) (r : Run), runsF s f' (p.length + 1) l r = runsL q l r := fun l r => by
      have := runsF_L s q (p ++ [c]) f' l r (by rw [hs]; simp) hf'
      rwa [List.length_append] at this
    by_cases hc : c.toNat < 128
    · obtain ⟨h, e⟩ := at_of hs rfl hc
      have eR : ((Utf8.decode s p.length).1 : Int) = (c.toNat : Int) := by rw [e]
      unfold runsL
      by_cases h1 : isDg c = true ∧ d < 6
      · rw [if_pos h1, runsF_digit h eR (by have := (isDg_iff c).1 h1.1; omega) (by have := (isDg_iff c).1 h1.1; omega) h1.2, e]
        exact ih _ _
      · rw [if_neg h1]
        by_cases h2 : (c = 58 ∨ c = 46) ∧ 0 < d ∧ l.length < 3
        · rw [if_pos h2, runsF_mark h eR (by have := (mark_nat c).1 h2.1; omega) h2.2.1 h2.2.2, e]
          exact ih _ _
        · rw [if_neg h2]
          refine runsF_no h eR (fun k => h1 ⟨(isDg_iff c).2 ⟨by omega, by omega⟩, k.2.2⟩) (fun k => h2 ⟨(mark_nat c).2 (by omega), k.2⟩)
    · have h : p.length < s.size := by omega
      have hg : s[p.length]'h = c := by
        show s.data[p.length]'h = c
        rw [← Array.getElem_toList]
        have : s.data.toList[p.length]? = some c := by rw [hs]; simp
        exact (List.getElem?_eq_some_iff.1 this).2
      have hi := (decode_high s p.length h (by rw [hg]; omega)).1
      unfold runsL
      rw [if_neg (fun k => by have := (isDg_iff c).1 k.1; omega), if_neg (fun k => by have := (mark_nat c).1 k.1; omega)]
      exact runsF_no h rfl (fun k => by omega) (fun k => by omega)

theorem runsL_all (l : List Run) (m : Int) (q : List UInt8) : ∀ (ds : List UInt8) (d : Nat) (n : Int), (∀ c ∈ ds, isDg c = true) → d + ds.length ≤ 6 → runsL (ds ++ q) l (m, d, n) = runsL q l (m, d + ds.length, valD n ds)
  | [], d, n, _, _ => rfl
  | c :: ds, d, n, h, hd => by
    simp only [List.length_cons] at hd
    rw [List.cons_append]
    conv => lhs; unfold runsL
    rw [if_pos ⟨h c (by simp), by show d < 6; omega⟩]
    show runsL (ds ++ q) l (m, d + 1, n * 10 + ((c.toNat : Int) - 48)) = _
    rw [runsL_all l m q ds (d + 1) _ (fun x hx => h x (by simp [hx])) (by omega), List.length_cons, show d + 1 + ds.length = d + (ds.length + 1) by omega]
    rfl
theorem runsL_mark (l : List Run) (m : Int) (d : Nat) (n : Int) (c : UInt8) (q : List UInt8) (hc : c = 58 ∨ c = 46) (hd : 0 < d) (hl : l.length < 3) : runsL (c :: q) l (m, d, n) = runsL q (l ++ [(m, d, n)]) ((c.toNat : Int), 0, 0) := by
  conv => lhs; unfold runsL
  rw [if_neg (fun k => by have := (isDg_iff c).1 k.1; have := (mark_nat c).1 hc; omega), if_pos ⟨hc, hd, hl⟩]
theorem runsL_parse : ∀ (l : List UInt8) (acc : List Run) (m : Int) (d : Nat) (n : Int) (L : List Run), d ≤ 6 → runsL l acc (m, d, n) = some L →
    ∃ ds rest, l = ds ++ rest ∧ (∀ c ∈ ds, isDg c = true) ∧ d + ds.length ≤ 6 ∧ ((rest = [] ∧ L = acc ++ [(m, d + ds.length, valD n ds)]) ∨ ∃ c q, rest = c :: q ∧ (c = 58 ∨ c = 46) ∧ 0 < d + ds.length ∧ acc.length < 3 ∧ runsL q (acc ++ [(m, d + ds.length, valD n ds)]) ((c.toNat : Int), 0, 0) = some L)
  | [], acc, m, d, n, L, hd, h => ⟨[], [], rfl, fun c hc => (nomatch hc), hd, .inl ⟨rfl, (Option.some.inj h).symm⟩⟩
  | c :: q, acc, m, d, n, L, hd, h => by
    unfold runsL at h
    by_cases h1 : isDg c = true ∧ d < 6
    · rw [if_pos h1] at h
      obtain ⟨ds, rest, e, hD, hz, R⟩ := runsL_parse q acc m (d + 1) _ L (by omega) h
      refine ⟨c :: ds, rest, by rw [e]; rfl, fun x hx => ?_, by simp; omega, ?_⟩
      · rcases List.mem_cons.1 hx with rfl | hx
        · exact h1.1
        · exact hD x hx
      · have e2 : d + (c :: ds).length = d + 1 + ds.length := by simp; omega
        rw [e2]
        exact R
    · rw [if_neg h1] at h
      by_cases h2 : (c = 58 ∨ c = 46) ∧ 0 < d ∧ acc.length < 3
      · rw [if_pos h2] at h
        exact ⟨[], c :: q, rfl, fun x hx => (nomatch hx), hd, .inr ⟨c, q, rfl, h2.1, h2.2.1, h2.2.2, h⟩⟩
      · rw [if_neg h2] at h
        cases h

/-- digits, so many at least, at most. -/
def DgL (A : List UInt8) (a b : Nat) : Prop := (∀ c ∈ A, isDg c = true) ∧ a ≤ A.length ∧ A.length ≤ b
/-- the texts of times. -/
def Form (l : List UInt8) (t : Int × Int × Int × Int) : Prop :=
  (∃ A M, DgL A 1 2 ∧ DgL M 2 2 ∧ l = A ++ 58 :: M ∧ t = (valD 0 A, valD 0 M, 0, 0)) ∨
  (∃ A M S, DgL A 1 2 ∧ DgL M 2 2 ∧ DgL S 2 2 ∧ l = A ++ 58 :: (M ++ 58 :: S) ∧ t = (valD 0 A, valD 0 M, valD 0 S, 0)) ∨
  (∃ A M S U, DgL A 1 2 ∧ DgL M 2 2 ∧ DgL S 2 2 ∧ DgL U 1 6 ∧ l = A ++ 58 :: (M ++ 58 :: (S ++ 46 :: U)) ∧ t = (valD 0 A, valD 0 M, valD 0 S, valD 0 U * 10 ^ (6 - U.length)))

/-- what the program makes of the runs. -/
def cgood : List Run → Option (Int × Int × Int × Int)
  | [r0, r1] => if 0 < r1.2.1 ∧ faceOk [r0, r1] = true then some (r0.2.2, r1.2.2, 0, 0) else none
  | [r0, r1, r2] => if 0 < r2.2.1 ∧ faceOk [r0, r1, r2] = true then some (r0.2.2, r1.2.2, r2.2.2, 0) else none
  | [r0, r1, r2, r3] => if 0 < r3.2.1 ∧ faceOk [r0, r1, r2] = true ∧ r3.1 = 46 then some (r0.2.2, r1.2.2, r2.2.2, r3.2.2 * 10 ^ (6 - r3.2.1)) else none
  | _ => none
def cForm (l : List UInt8) : Option (Int × Int × Int × Int) := (runsL l [] (0, 0, 0)).bind cgood

theorem cgood2 (m0 n0 m1 n1 : Int) (d0 d1 : Nat) : cgood [(m0, d0, n0), (m1, d1, n1)] = if 0 < d1 ∧ faceOk [(m0, d0, n0), (m1, d1, n1)] = true then some (n0, n1, 0, 0) else none := rfl
theorem cgood3 (m0 n0 m1 n1 m2 n2 : Int) (d0 d1 d2 : Nat) : cgood [(m0, d0, n0), (m1, d1, n1), (m2, d2, n2)] = if 0 < d2 ∧ faceOk [(m0, d0, n0), (m1, d1, n1), (m2, d2, n2)] = true then some (n0, n1, n2, 0) else none := rfl
theorem cgood4 (m0 n0 m1 n1 m2 n2 m3 n3 : Int) (d0 d1 d2 d3 : Nat) : cgood [(m0, d0, n0), (m1, d1, n1), (m2, d2, n2), (m3, d3, n3)] = if 0 < d3 ∧ faceOk [(m0, d0, n0), (m1, d1, n1), (m2, d2, n2)] = true ∧ m3 = 46 then some (n0, n1, n2, n3 * 10 ^ (6 - d3)) else none := rfl
theorem face2 (d0 d1 : Nat) (n0 n1 m0 m1 : Int) : faceOk [(m0, d0, n0), (m1, d1, n1)] = true ↔ d0 ≤ 2 ∧ d1 = 2 ∧ m1 = 58 := by
  simp [faceOk, faceFrom, badR]
theorem face3 (d0 d1 d2 : Nat) (n0 n1 n2 m0 m1 m2 : Int) : faceOk [(m0, d0, n0), (m1, d1, n1), (m2, d2, n2)] = true ↔ d0 ≤ 2 ∧ (d1 = 2 ∧ m1 = 58) ∧ d2 = 2 ∧ m2 = 58 := by
  simp [faceOk, faceFrom, badR]
theorem runsL_end (A : List UInt8) (l : List Run) (m : Int) (h : ∀ c ∈ A, isDg c = true) (hz : A.length ≤ 6) : runsL A l (m, 0, 0) = some (l ++ [(m, A.length, valD 0 A)]) := by
  have := runsL_all l m [] A 0 0 h (by omega)
  rw [List.append_nil, Nat.zero_add] at this
  exact this
theorem runsL_go (A q : List UInt8) (l : List Run) (m : Int) (c : UInt8) (h : ∀ c ∈ A, isDg c = true) (hz : A.length ≤ 6) (h0 : 0 < A.length) (hc : c = 58 ∨ c = 46) (hl : l.length < 3) : runsL (A ++ c :: q) l (m, 0, 0) = runsL q (l ++ [(m, A.length, valD 0 A)]) ((c.toNat : Int), 0, 0) := by
  rw [runsL_all l m (c :: q) A 0 0 h (by omega), Nat.zero_add, runsL_mark _ _ _ _ _ _ hc h0 hl]

theorem c_of_form {l : List UInt8} {t : Int × Int × Int × Int} (h : Form l t) : cForm l = some t := by
  rcases h with ⟨A, M, ⟨a, a1, a2⟩, ⟨b, b1, b2⟩, rfl, rfl⟩ | ⟨A, M, S, ⟨a, a1, a2⟩, ⟨b, b1, b2⟩, ⟨c, c1, c2⟩, rfl, rfl⟩ | ⟨A, M, S, U, ⟨a, a1, a2⟩, ⟨b, b1, b2⟩, ⟨c, c1, c2⟩, ⟨d, d1, d2⟩, rfl, rfl⟩
  · unfold cForm
    rw [runsL_go A M [] 0 58 a (by omega) (by omega) (.inl rfl) (by decide), runsL_end M _ _ b (by omega)]
    show cgood [(0, A.length, valD 0 A), (58, M.length, valD 0 M)] = _
    rw [cgood2]
    rw [if_pos ⟨by show 0 < M.length; omega, (face2 _ _ _ _ _ _).2 ⟨by omega, by omega, rfl⟩⟩]
  · unfold cForm
    rw [runsL_go A _ [] 0 58 a (by omega) (by omega) (.inl rfl) (by decide), runsL_go M S _ _ 58 b (by omega) (by omega) (.inl rfl) (by simp), runsL_end S _ _ c (by omega)]
    show cgood [(0, A.length, valD 0 A), (58, M.length, valD 0 M), (58, S.length, valD 0 S)] = _
    rw [cgood3]
    rw [if_pos ⟨by show 0 < S.length; omega, (face3 _ _ _ _ _ _ _ _ _).2 ⟨by omega, ⟨by omega, rfl⟩, by omega, rfl⟩⟩]
  · unfold cForm
    rw [runsL_go A _ [] 0 58 a (by omega) (by omega) (.inl rfl) (by decide), runsL_go M _ _ _ 58 b (by omega) (by omega) (.inl rfl) (by simp), runsL_go S U _ _ 46 c (by omega) (by omega) (.inr rfl) (by simp), runsL_end U _ _ d (by omega)]
    show cgood [(0, A.length, valD 0 A), (58, M.length, valD 0 M), (58, S.length, valD 0 S), (46, U.length, valD 0 U)] = _
    rw [cgood4]
    rw [if_pos ⟨by show 0 < U.length; omega, (face3 _ _ _ _ _ _ _ _ _).2 ⟨by omega, ⟨by omega, rfl⟩, by omega, rfl⟩, rfl⟩]

theorem m58 {c : UInt8} (h : (c.toNat : Int) = 58) : c = 58 := UInt8.toNat_inj.1 (by have : (58 : UInt8).toNat = 58 := rfl; omega)
theorem m46 {c : UInt8} (h : (c.toNat : Int) = 46) : c = 46 := UInt8.toNat_inj.1 (by have : (46 : UInt8).toNat = 46 := rfl; omega)
theorem form_of_c {l : List UInt8} {t : Int × Int × Int × Int} (h : cForm l = some t) : Form l t := by
  unfold cForm at h
  obtain ⟨L, hL, hg⟩ := Option.bind_eq_some_iff.1 h
  obtain ⟨A, r0, rfl, a, a6, R⟩ := runsL_parse _ _ _ _ _ _ (by decide) hL
  rw [Nat.zero_add] at R a6
  rcases R with ⟨rfl, rfl⟩ | ⟨c1, q1, rfl, hc1, z1, _, R⟩
  · cases hg
  obtain ⟨M, r1, rfl, b, b6, R⟩ := runsL_parse _ _ _ _ _ _ (by decide) R
  rw [Nat.zero_add] at R b6
  rcases R with ⟨rfl, rfl⟩ | ⟨c2, q2, rfl, hc2, z2, _, R⟩
  · change cgood [(0, A.length, valD 0 A), ((c1.toNat : Int), M.length, valD 0 M)] = _ at hg
    rw [cgood2] at hg
    by_cases k : 0 < M.length ∧ faceOk [(0, A.length, valD 0 A), ((c1.toNat : Int), M.length, valD 0 M)] = true
    · rw [if_pos k] at hg
      obtain ⟨k1, k2, k3⟩ := (face2 _ _ _ _ _ _).1 k.2
      obtain rfl := m58 k3
      exact .inl ⟨A, M, ⟨a, by omega, by omega⟩, ⟨b, by omega, by omega⟩, by simp, (Option.some.inj hg).symm⟩
    · rw [if_neg k] at hg; cases hg
  obtain ⟨S, r2, rfl, c, c6, R⟩ := runsL_parse _ _ _ _ _ _ (by decide) R
  rw [Nat.zero_add] at R c6
  rcases R with ⟨rfl, rfl⟩ | ⟨c3, q3, rfl, hc3, z3, _, R⟩
  · change cgood [(0, A.length, valD 0 A), ((c1.toNat : Int), M.length, valD 0 M), ((c2.toNat : Int), S.length, valD 0 S)] = _ at hg
    rw [cgood3] at hg
    by_cases k : 0 < S.length ∧ faceOk [(0, A.length, valD 0 A), ((c1.toNat : Int), M.length, valD 0 M), ((c2.toNat : Int), S.length, valD 0 S)] = true
    · rw [if_pos k] at hg
      obtain ⟨k1, ⟨k2, k3⟩, k4, k5⟩ := (face3 _ _ _ _ _ _ _ _ _).1 k.2
      obtain rfl := m58 k3
      obtain rfl := m58 k5
      exact .inr (.inl ⟨A, M, S, ⟨a, by omega, by omega⟩, ⟨b, by omega, by omega⟩, ⟨c, by omega, by omega⟩, by simp, (Option.some.inj hg).symm⟩)
    · rw [if_neg k] at hg; cases hg
  obtain ⟨U, r3, rfl, d, d6, R⟩ := runsL_parse _ _ _ _ _ _ (by decide) R
  rw [Nat.zero_add] at R d6
  rcases R with ⟨rfl, rfl⟩ | ⟨c4, q4, rfl, hc4, z4, hz, R⟩
  · change cgood [(0, A.length, valD 0 A), ((c1.toNat : Int), M.length, valD 0 M), ((c2.toNat : Int), S.length, valD 0 S), ((c3.toNat : Int), U.length, valD 0 U)] = _ at hg
    rw [cgood4] at hg
    by_cases k : 0 < U.length ∧ faceOk [(0, A.length, valD 0 A), ((c1.toNat : Int), M.length, valD 0 M), ((c2.toNat : Int), S.length, valD 0 S)] = true ∧ (c3.toNat : Int) = 46
    · rw [if_pos k] at hg
      obtain ⟨k1, ⟨k2, k3⟩, k4, k5⟩ := (face3 _ _ _ _ _ _ _ _ _).1 k.2.1
      obtain rfl := m58 k3
      obtain rfl := m58 k5
      obtain rfl := m46 k.2.2
      exact .inr (.inr ⟨A, M, S, U, ⟨a, by omega, by omega⟩, ⟨b, by omega, by omega⟩, ⟨c, by omega, by omega⟩, ⟨d, by omega, by omega⟩, by simp, (Option.some.inj hg).symm⟩)
    · rw [if_neg k] at hg; cases hg
  · simp at hz

/-- what the reference makes of the scan. -/
def rForm (l : List UInt8) : Option (Int × Int × Int × Int) :=
  if sgnB 58 (rL3 l) = false then (if rQ3 l = false ∧ rL4 l = [] then some (valD 0 (rA l), valD 0 (rM l), 0, 0) else none)
  else if sgnB 46 (rL5 l) = false then (if rQ5 l = false ∧ rL6 l = [] then some (valD 0 (rA l), valD 0 (rM l), valD 0 (rS l), 0) else none)
  else (if rQ7 l = false ∧ rL7 l = [] then some (valD 0 (rA l), valD 0 (rM l), valD 0 (rS l), valD 0 (rU l) * 10 ^ (6 - (rU l).length)) else none)

theorem digs_dg (k : Nat) (l : List UInt8) : ∀ c ∈ digs k l, isDg c = true := fun c hc => takeWhile_all isDg _ c hc
theorem digs_le (k : Nat) (l : List UInt8) : (digs k l).length ≤ k := Nat.le_trans ((List.takeWhile_sublist _).length_le) (by simp; omega)
theorem digs_split (k : Nat) (l : List UInt8) : l = digs k l ++ l.drop (digs k l).length := by
  have h : digs k l <+: l := (List.takeWhile_prefix _).trans (List.take_prefix _ _)
  obtain ⟨r, hr⟩ := h
  conv => rhs; rw [← hr]
  rw [show digs k (digs k l ++ r) = digs k l by rw [hr]]
  simp
  exact hr.symm
theorem sgn_yes {c : UInt8} {l : List UInt8} (h : sgnB c l = true) : l = c :: sgnL c l := by
  cases l with
  | nil => cases h
  | cons x r =>
    have : x = c := by simpa [sgnB] using h
    subst this
    simp [sgnL]
theorem sgn_no {c : UInt8} {l : List UInt8} (h : sgnB c l = false) : sgnL c l = l := by
  cases l with
  | nil => rfl
  | cons x r =>
    have : ¬ x = c := by simpa [sgnB] using h
    simp [sgnL, this]
theorem digs_of {k : Nat} {A q : List UInt8} (hA : ∀ c ∈ A, isDg c = true) (hk : A.length ≤ k) (hq : A.length = k ∨ q = [] ∨ ∃ x r, q = x :: r ∧ isDg x = false) : digs k (A ++ q) = A := by
  have := digs_stop (most := k) (l := A ++ q) (k := A.length) hk (by simp) (fun c hc => hA c (by simpa using hc)) (by
    rcases hq with h | rfl | ⟨x, r, rfl, hx⟩
    · exact .inl h
    · exact .inr (.inl (by simp))
    · exact .inr (.inr ⟨x, by simp, hx⟩))
  rw [this]; simp
theorem no58 : isDg 58 = false := by decide
theorem no46 : isDg 46 = false := by decide

theorem form_of_r {l : List UInt8} {t : Int × Int × Int × Int} (h : rForm l = some t) : Form l t := by
  have s1 : l = rA l ++ rL1 l := digs_split 2 l
  have s2 : rL2 l = rM l ++ rL3 l := digs_split 2 _
  have s3 : rL4 l = rS l ++ rL5 l := digs_split 2 _
  have s4 : rL6 l = rU l ++ rL7 l := digs_split 6 _
  have d1 : (rA l).length ≤ 2 := digs_le 2 _
  have d2 : (rM l).length ≤ 2 := digs_le 2 _
  have d3 : (rS l).length ≤ 2 := digs_le 2 _
  have d4 : (rU l).length ≤ 6 := digs_le 6 _
  have e1 := digs_dg 2 l
  have e2 := digs_dg 2 (rL2 l)
  have e3 := digs_dg 2 (rL4 l)
  have e4 := digs_dg 6 (rL6 l)
  have q3 : rQ3 l = false → 1 ≤ (rA l).length ∧ rL1 l = 58 :: rL2 l ∧ 2 ≤ (rM l).length := fun h => by
    unfold rQ3 at h
    rw [Bool.or_eq_false_iff] at h
    obtain ⟨h1, h2⟩ := h
    unfold rQ2 at h1
    by_cases hs : sgnB 58 (rL1 l) = true
    · rw [if_pos hs] at h1
      unfold rQ1 at h1
      rw [Bool.false_or] at h1
      exact ⟨by have := of_decide_eq_false h1; omega, sgn_yes hs, by have := of_decide_eq_false h2; omega⟩
    · rw [if_neg hs] at h1; cases h1
  have q5 : rQ5 l = false → rQ3 l = false ∧ 2 ≤ (rS l).length := fun h => by
    unfold rQ5 at h
    rw [Bool.or_eq_false_iff] at h
    exact ⟨h.1, by have := of_decide_eq_false h.2; omega⟩
  have q7 : rQ7 l = false → rQ5 l = false ∧ 1 ≤ (rU l).length := fun h => by
    unfold rQ7 at h
    rw [Bool.or_eq_false_iff] at h
    exact ⟨h.1, by have := of_decide_eq_false h.2; omega⟩
  unfold rForm at h
  by_cases c1 : sgnB 58 (rL3 l) = false
  · rw [if_pos c1] at h
    by_cases k : rQ3 l = false ∧ rL4 l = []
    · rw [if_pos k] at h
      obtain ⟨a, b, c⟩ := q3 k.1
      have z : rL3 l = [] := by rw [← sgn_no c1]; exact k.2
      refine .inl ⟨rA l, rM l, ⟨e1, a, d1⟩, ⟨e2, c, d2⟩, ?_, (Option.some.inj h).symm⟩
      rw [z, List.append_nil] at s2
      rw [← s2, ← b]; exact s1
    · rw [if_neg k] at h; cases h
  · have c1' : sgnB 58 (rL3 l) = true := by simpa using c1
    have y1 : rL3 l = 58 :: rL4 l := sgn_yes c1'
    rw [if_neg c1] at h
    by_cases c2 : sgnB 46 (rL5 l) = false
    · rw [if_pos c2] at h
      by_cases k : rQ5 l = false ∧ rL6 l = []
      · rw [if_pos k] at h
        obtain ⟨k5, f⟩ := q5 k.1
        obtain ⟨a, b, c⟩ := q3 k5
        have z : rL5 l = [] := by rw [← sgn_no c2]; exact k.2
        refine .inr (.inl ⟨rA l, rM l, rS l, ⟨e1, a, d1⟩, ⟨e2, c, d2⟩, ⟨e3, f, d3⟩, ?_, (Option.some.inj h).symm⟩)
        rw [z, List.append_nil] at s3
        rw [← s3, ← y1, ← s2, ← b]; exact s1
      · rw [if_neg k] at h; cases h
    · have c2' : sgnB 46 (rL5 l) = true := by simpa using c2
      have y2 : rL5 l = 46 :: rL6 l := sgn_yes c2'
      rw [if_neg c2] at h
      by_cases k : rQ7 l = false ∧ rL7 l = []
      · rw [if_pos k] at h
        obtain ⟨k7, g⟩ := q7 k.1
        obtain ⟨k5, f⟩ := q5 k7
        obtain ⟨a, b, c⟩ := q3 k5
        refine .inr (.inr ⟨rA l, rM l, rS l, rU l, ⟨e1, a, d1⟩, ⟨e2, c, d2⟩, ⟨e3, f, d3⟩, ⟨e4, g, d4⟩, ?_, (Option.some.inj h).symm⟩)
        rw [k.2, List.append_nil] at s4
        rw [← s4, ← y2, ← s3, ← y1, ← s2, ← b]; exact s1
      · rw [if_neg k] at h; cases h

theorem q2_of {l x : List UInt8} (h : rL1 l = 58 :: x) : rQ2 l = rQ1 l := by unfold rQ2; rw [h]; exact if_pos (by simp [sgnB])
theorem drop_len (A q : List UInt8) : (A ++ q).drop A.length = q := by simp
theorem r_of_form {l : List UInt8} {t : Int × Int × Int × Int} (h : Form l t) : rForm l = some t := by
  rcases h with ⟨A, M, ⟨a, a1, a2⟩, ⟨b, b1, b2⟩, hl, rfl⟩ | ⟨A, M, S, ⟨a, a1, a2⟩, ⟨b, b1, b2⟩, ⟨c, c1, c2⟩, hl, rfl⟩ | ⟨A, M, S, U, ⟨a, a1, a2⟩, ⟨b, b1, b2⟩, ⟨c, c1, c2⟩, ⟨d, d1, d2⟩, hl, rfl⟩
  · have xA : rA l = A := by unfold rA; rw [hl]; exact digs_of a a2 (.inr (.inr ⟨58, M, rfl, no58⟩))
    have x1 : rL1 l = 58 :: M := by unfold rL1; rw [xA, hl]; exact drop_len _ _
    have x2 : rL2 l = M := by unfold rL2; rw [x1]; rfl
    have xM : rM l = M := by unfold rM; rw [x2]; have := digs_of (k := 2) (q := []) b b2 (.inr (.inl rfl)); rwa [List.append_nil] at this
    have x3 : rL3 l = [] := by unfold rL3; rw [xM, x2]; simp
    have x4 : rL4 l = [] := by unfold rL4; rw [x3]; rfl
    have g : sgnB 58 (rL3 l) = false := by rw [x3]; rfl
    have q : rQ3 l = false := by
      unfold rQ3
      rw [q2_of x1]
      unfold rQ1
      rw [xA, xM, decide_eq_false (by omega), decide_eq_false (by omega)]; rfl
    unfold rForm
    rw [if_pos g, if_pos ⟨q, x4⟩, xA, xM]
  · have xA : rA l = A := by unfold rA; rw [hl]; exact digs_of a a2 (.inr (.inr ⟨58, _, rfl, no58⟩))
    have x1 : rL1 l = 58 :: (M ++ 58 :: S) := by unfold rL1; rw [xA, hl]; exact drop_len _ _
    have x2 : rL2 l = M ++ 58 :: S := by unfold rL2; rw [x1]; rfl
    have xM : rM l = M := by unfold rM; rw [x2]; exact digs_of b b2 (.inr (.inr ⟨58, _, rfl, no58⟩))
    have x3 : rL3 l = 58 :: S := by unfold rL3; rw [xM, x2]; exact drop_len _ _
    have x4 : rL4 l = S := by unfold rL4; rw [x3]; rfl
    have xS : rS l = S := by unfold rS; rw [x4]; have := digs_of (k := 2) (q := []) c c2 (.inr (.inl rfl)); rwa [List.append_nil] at this
    have x5 : rL5 l = [] := by unfold rL5; rw [xS, x4]; simp
    have x6 : rL6 l = [] := by unfold rL6; rw [x5]; rfl
    have g : ¬ sgnB 58 (rL3 l) = false := by rw [x3]; simp [sgnB]
    have g2 : sgnB 46 (rL5 l) = false := by rw [x5]; rfl
    have q : rQ5 l = false := by
      unfold rQ5 rQ3
      rw [q2_of x1]
      unfold rQ1
      rw [xA, xM, xS, decide_eq_false (by omega), decide_eq_false (by omega), decide_eq_false (by omega)]; rfl
    unfold rForm
    rw [if_neg g, if_pos g2, if_pos ⟨q, x6⟩, xA, xM, xS]
  · have xA : rA l = A := by unfold rA; rw [hl]; exact digs_of a a2 (.inr (.inr ⟨58, _, rfl, no58⟩))
    have x1 : rL1 l = 58 :: (M ++ 58 :: (S ++ 46 :: U)) := by unfold rL1; rw [xA, hl]; exact drop_len _ _
    have x2 : rL2 l = M ++ 58 :: (S ++ 46 :: U) := by unfold rL2; rw [x1]; rfl
    have xM : rM l = M := by unfold rM; rw [x2]; exact digs_of b b2 (.inr (.inr ⟨58, _, rfl, no58⟩))
    have x3 : rL3 l = 58 :: (S ++ 46 :: U) := by unfold rL3; rw [xM, x2]; exact drop_len _ _
    have x4 : rL4 l = S ++ 46 :: U := by unfold rL4; rw [x3]; rfl
    have xS : rS l = S := by unfold rS; rw [x4]; exact digs_of c c2 (.inr (.inr ⟨46, _, rfl, no46⟩))
    have x5 : rL5 l = 46 :: U := by unfold rL5; rw [xS, x4]; exact drop_len _ _
    have x6 : rL6 l = U := by unfold rL6; rw [x5]; rfl
    have xU : rU l = U := by unfold rU; rw [x6]; have := digs_of (k := 6) (q := []) d d2 (.inr (.inl rfl)); rwa [List.append_nil] at this
    have x7 : rL7 l = [] := by unfold rL7; rw [xU, x6]; simp
    have g : ¬ sgnB 58 (rL3 l) = false := by rw [x3]; simp [sgnB]
    have g2 : ¬ sgnB 46 (rL5 l) = false := by rw [x5]; simp [sgnB]
    have q : rQ7 l = false := by
      unfold rQ7 rQ5 rQ3
      rw [q2_of x1]
      unfold rQ1
      rw [xA, xM, xS, xU, decide_eq_false (by omega), decide_eq_false (by omega), decide_eq_false (by omega), decide_eq_false (by omega)]; rfl
    unfold rForm
    rw [if_neg g, if_neg g2, if_pos ⟨q, x7⟩, xA, xM, xS, xU]

theorem forms_same (l : List UInt8) : cForm l = rForm l := by
  cases h : rForm l with
  | some t => exact c_of_form (form_of_r h)
  | none =>
    cases k : cForm l with
    | none => rfl
    | some t => rw [r_of_form (form_of_c k)] at h; cases h

/-- the answer. -/
def ansV : Option (Int × Int × Int × Int) → Int
  | some (h, m, s, u) => mkV h m s u
  | none => 0
def ansE : Option (Int × Int × Int × Int) → Int
  | some (h, m, s, u) => mkE h m s u
  | none => 13

theorem eread_any (l : List UInt8) (hl : l.length ≤ 140737488351232) (w : World) :
    Calls Tryd.prog 10 #[.string ⟨l.toArray⟩] w fun e w' => e = .returned (.tuple #[.int .i64 (ansV (rForm l)), .int .i64 (ansE (rForm l))]) ∧ Below w.heap.size w w' := by
  unfold rForm
  by_cases c1 : sgnB 58 (rL3 l) = false
  · have R := eread_1 l hl c1 w
    unfold rdV rdE at R
    rw [if_pos c1]
    by_cases k : rQ3 l = false ∧ rL4 l = []
    · rw [if_pos k, if_pos k] at R; rw [if_pos k]; exact R
    · rw [if_neg k, if_neg k] at R; rw [if_neg k]; exact R
  · have c1' : sgnB 58 (rL3 l) = true := by simpa using c1
    rw [if_neg c1]
    by_cases c2 : sgnB 46 (rL5 l) = false
    · have R := eread_2 l hl c1' c2 w
      unfold rdV rdE at R
      rw [if_pos c2]
      by_cases k : rQ5 l = false ∧ rL6 l = []
      · rw [if_pos k, if_pos k] at R; rw [if_pos k]; exact R
      · rw [if_neg k, if_neg k] at R; rw [if_neg k]; exact R
    · have R := eread_3 l hl c1' (by simpa using c2) w
      unfold rdV rdE at R
      rw [if_neg c2]
      by_cases k : rQ7 l = false ∧ rL7 l = []
      · rw [if_pos k, if_pos k] at R; rw [if_pos k]; exact R
      · rw [if_neg k, if_neg k] at R; rw [if_neg k]; exact R

end Go.Proofs.YtdkodkkbggdpbaaDoor
