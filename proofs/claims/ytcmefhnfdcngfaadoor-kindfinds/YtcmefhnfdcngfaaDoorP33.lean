import Derived.Test.YtcmefhnfdcngfaaDoorP28
import Derived.Test.YtcmefhnfdcngfaaDoorP5
/- A token's text: of two quotes one (strings.ReplaceAll as a function), and the program's said. -/
namespace Go.Proofs.YtcmefhnfdcngfaaDoor
open Go.RowKit
set_option linter.unusedVariables false

theorem rep_unq : ∀ l : List UInt8, Lib.replaceK [39, 39] [39] (Lib.count l [39, 39]) l = unq l
  | [] => rfl
  | [c] => by
    have e : Lib.index [c] [39, 39] = -1 := by simp [Lib.index, List.isPrefixOf]
    rw [Lib.count_miss e]; rfl
  | a :: b :: l => by
    by_cases h : a = 39 ∧ b = 39
    · obtain ⟨rfl, rfl⟩ := h
      have e : Lib.index (39 :: 39 :: l) [39, 39] = (0 : Nat) := by simp [Lib.index, List.isPrefixOf]
      rw [Lib.count_hit (by simp) e, Nat.add_comm, Lib.replaceK_hit _ _ _ _ 0 e]
      simp only [List.length_cons, List.length_nil, Nat.zero_add, List.take_zero, List.nil_append, List.drop_succ_cons, List.drop_zero]
      rw [rep_unq l]
      simp [unq]
    · have ih := rep_unq (b :: l)
      have hp : List.isPrefixOf [39, 39] (a :: b :: l) = false := by
        simp only [List.isPrefixOf, Bool.and_true, Bool.and_eq_false_iff, beq_eq_false_iff_ne]
        rcases Classical.em (a = 39) with rfl | ha
        · exact .inr fun q => h ⟨rfl, q.symm⟩
        · exact .inl fun q => ha q.symm
      have e0 : Lib.index (a :: b :: l) [39, 39] = if Lib.index (b :: l) [39, 39] == -1 then -1 else Lib.index (b :: l) [39, 39] + 1 := by
        rw [Lib.index, hp]; simp
      rw [show unq (a :: b :: l) = a :: unq (b :: l) by rw [unq, if_neg h], ← ih]
      have hge := Lib.index_ge (b :: l) [39, 39]
      by_cases hm : Lib.index (b :: l) [39, 39] = -1
      · rw [hm] at e0
        rw [Lib.count_miss e0, Lib.count_miss hm]; rfl
      · obtain ⟨i, hi⟩ : ∃ i : Nat, Lib.index (b :: l) [39, 39] = i := ⟨(Lib.index (b :: l) [39, 39]).toNat, by omega⟩
        have e1 : Lib.index (a :: b :: l) [39, 39] = (i + 1 : Nat) := by
          rw [e0, hi, if_neg (by simp <;> omega)]; simp
        rw [Lib.count_hit (by simp) e1, Lib.count_hit (by simp) hi, Nat.add_comm 1, Nat.add_comm 1, Lib.replaceK_hit _ _ _ _ _ e1, Lib.replaceK_hit _ _ _ _ _ hi]
        simp only [List.length_cons, List.length_nil, Nat.zero_add, Nat.add_assoc, List.take_succ_cons, List.cons_append]
        rw [show i + (1 + (1 + 1)) = i + (1 + 1) + 1 by omega, List.drop_succ_cons]
theorem repl_unq (l : List UInt8) : Lib.replaceAll l [39, 39] [39] = unq l := by
  rw [← rep_unq l]
  simp [Lib.replaceAll, Lib.replace, Lib.replaceNum]

/-- a token's text of how it is written. -/
def saidT (k : Int) (t : ByteArray) : ByteArray := if k = 4 then lowB t else if k = 3 then ⟨(unq (t.extract 1 (t.size - 1)).data.toList).toArray⟩ else t

set_option maxRecDepth 100000 in
set_option maxHeartbeats 4000000 in
theorem said_any (k : Int) (t : ByteArray) (m : Int) (w : World) (hm : w.cell? ⟨3, 0, none⟩ = some (.int .i64 m)) (ht : t.size ≤ 4096) (h3 : k = 3 → 2 ≤ t.size) :
    Calls Tryd.prog 31 #[.int .i64 k, .string t] w fun e w' => e = .returned (.string (saidT k t)) ∧ Below w.heap.size w w' := by
  have htI : (t.size : Int) ≤ 4096 := by omega
  rcases Classical.em (k = 4) with rfl | h4
  · have HE : Hid (saidT 4 t = lowB t) := by show _ = _; simp [saidT]
    clear h3
    go_enter Tryd.func31, Tryd.ntmps31
    go_wp2_with fail
    refine (lower_any t (by unfold maxLen; omega) w).mono ?_
    rintro e V ⟨rfl, hk⟩
    have HU : Hid (Below w.heap.size w V) := hk
    clear hk
    go_wp2
    go_ret
    exact ⟨by rw [HE.out]; rfl, HU.out⟩
  have g4 : (k == 4) = false := by simpa using h4
  rcases Classical.em (k = 3) with rfl | hk3
  · have HE : Hid (saidT 3 t = ⟨(unq (t.extract 1 (t.size - 1)).data.toList).toArray⟩) := by show _ = _; simp [saidT]
    have hz : 2 ≤ t.size := h3 rfl
    have hzI : (2 : Int) ≤ (t.size : Int) := by omega
    have q9 : ((t.size : Int) - 1).toNat = t.size - 1 := by omega
    have hsz : (t.extract 1 (t.size - 1)).size ≤ 4096 := by rw [ByteArray.size_extract]; omega
    have RC : Hid (Calls Tryd.prog 44 #[.string (t.extract 1 (t.size - 1)), .string ⟨#[39, 39]⟩, .string ⟨#[39]⟩] w fun e w' => e = .returned (.string (saidT 3 t)) ∧ Below w.heap.size w w') := by
      have hl := Lib.countB_le ⟨#[39, 39]⟩ (by decide) _ (t.extract 1 (t.size - 1)) (Nat.le_refl _)
      have := Tryd.strings_ReplaceAll (t.extract 1 (t.size - 1)) ⟨#[39, 39]⟩ ⟨#[39]⟩ m w (by omega) hm (by decide) (by rw [show (⟨#[39]⟩ : ByteArray).size = 1 from rfl]; omega)
      rw [repl_unq] at this
      rw [HE.out]
      exact this
    clear HE
    clear h3 h4 g4
    go_enter Tryd.func31, Tryd.ntmps31
    go_wp2_with fail
    refine RC.out.mono ?_
    rintro e V ⟨rfl, hk⟩
    have HU : Hid (Below w.heap.size w V) := hk
    clear hk
    go_wp2
    go_ret
    exact ⟨rfl, HU.out⟩
  have g3 : (k == 3) = false := by simpa using hk3
  have HE : Hid (saidT k t = t) := by show _ = _; simp [saidT, h4, hk3]
  go_enter Tryd.func31, Tryd.ntmps31
  go_wp2
  go_ret
  exact ⟨by rw [HE.out]; rfl, Below.refl _ _⟩

end Go.Proofs.YtcmefhnfdcngfaaDoor
/- All tokens of a text: mathematics. -/
namespace Go.Proofs.YtcmefhnfdcngfaaDoor
open Go.RowKit
set_option linter.unusedVariables false

theorem toQ_le : ∀ (n : Nat) (l : List Tk) (i : Nat), l.length ≤ n → toQ i l ≤ i + l.length
  | _, [], i, _ => by simp [toQ]
  | _, [p], i, _ => by simp only [toQ]; split <;> simp
  | 0, p :: q :: l, i, h => by simp at h
  | n + 1, p :: q :: l, i, h => by
    simp only [List.length_cons] at h
    have h1 := toQ_le n l (i + 2) (by omega)
    have h2 := toQ_le n (q :: l) (i + 1) (by simp only [List.length_cons]; omega)
    simp only [List.length_cons] at h2
    simp only [toQ, List.length_cons]
    split
    · split <;> omega
    · omega
theorem toQ_ge : ∀ (n : Nat) (l : List Tk) (i : Nat), l.length ≤ n → toQ i l = 0 ∨ i + 1 ≤ toQ i l
  | _, [], i, _ => by simp [toQ]
  | _, [p], i, _ => by simp only [toQ]; split <;> simp
  | 0, p :: q :: l, i, h => by simp at h
  | n + 1, p :: q :: l, i, h => by
    simp only [List.length_cons] at h
    have h1 := toQ_ge n l (i + 2) (by omega)
    have h2 := toQ_ge n (q :: l) (i + 1) (by simp only [List.length_cons]; omega)
    simp only [toQ]
    split
    · split
      · omega
      · omega
    · omega
theorem toS_le : ∀ (l : List Tk) (m : Nat) (p : Tk), m ≤ toS m p l ∧ toS m p l ≤ m + l.length
  | [], m, p => by simp [toS]
  | q :: l, m, p => by
    have h := toS_le l (m + 1) q
    simp only [toS, List.length_cons]
    split <;> omega
theorem fst_le (p : Tk) (l : List Tk) : (fstT p l).2 ≤ l.length + 1 := by
  unfold fstT
  split
  · have := toQ_le _ l 1 (Nat.le_refl _); simp only; omega
  · split
    · have := toS_le l 1 p; simp only; omega
    · split
      · cases l with
        | nil => simp [prT]
        | cons q l => simp only [List.length_cons]; split <;> omega
      · split
        · rename_i h
          match l, h with
          | q :: r :: l, _ => simp only [List.length_cons]; omega
          | [q], h => simp [dcT] at h
          | [], h => simp [dcT] at h
        · simp
theorem fst_3 (p : Tk) (l : List Tk) (h : (fstT p l).1 = 3) : (fstT p l).2 = 0 ∨ 2 ≤ (fstT p l).2 := by
  unfold fstT at h ⊢
  split
  · have := toQ_ge _ l 1 (Nat.le_refl _); simp only; omega
  · rename_i h0
    rw [if_neg h0] at h
    exfalso
    split at h
    · simp at h
    · split at h
      · simp at h
      · split at h <;> simp at h

/-- parts in order within a text. -/
def Od (s : ByteArray) : Nat → List Tk → Prop
  | _, [] => True
  | a, p :: l => (a : Int) ≤ p.2.2 ∧ 0 < p.2.1.size ∧ p.2.2 + (p.2.1.size : Int) ≤ (s.size : Int) ∧ Od s (p.2.2.toNat + p.2.1.size) l
theorem Od_cov (s : ByteArray) : ∀ (P : List Prt) (a z : Nat), Cov s a P z → Od s a (texts s P)
  | [], a, z, h => trivial
  | p :: P, a, z, h => by
    obtain ⟨h1, h2, h3, h4, h5⟩ := h
    have q := Od_cov s P _ _ h5
    have hz : (s.extract p.2.1 p.2.2).size = p.2.2 - p.2.1 := by rw [ByteArray.size_extract]; omega
    refine ⟨by show (a : Int) ≤ (p.2.1 : Int); omega, by show 0 < (s.extract p.2.1 p.2.2).size; omega, by show (p.2.1 : Int) + ((s.extract p.2.1 p.2.2).size : Int) ≤ _; omega, ?_⟩
    show Od s ((p.2.1 : Int).toNat + (s.extract p.2.1 p.2.2).size) _
    rw [hz, show (p.2.1 : Int).toNat + (p.2.2 - p.2.1) = p.2.2 by omega]
    exact q
theorem Od_mono {s : ByteArray} {a b : Nat} {L : List Tk} (h : Od s a L) (hb : b ≤ a) : Od s b L := by
  cases L with
  | nil => trivial
  | cons p l => exact ⟨by have := h.1; omega, h.2⟩
theorem Od_drop {s : ByteArray} : ∀ (m a : Nat) (L : List Tk), Od s a L → Od s a (L.drop m)
  | 0, a, L, h => h
  | m + 1, a, [], h => trivial
  | m + 1, a, p :: l, h => Od_mono (Od_drop m _ l h.2.2.2) (by have := h.1; omega)
theorem Od_at {s : ByteArray} : ∀ (i a : Nat) (L : List Tk) (q : Tk), Od s a L → L[i]? = some q → ((a + i : Nat) : Int) ≤ q.2.2 ∧ 0 < q.2.1.size ∧ q.2.2 + (q.2.1.size : Int) ≤ (s.size : Int)
  | _, a, [], q, h, e => by simp at e
  | 0, a, p :: l, q, h, e => by simp at e; subst e; exact ⟨h.1, h.2.1, h.2.2.1⟩
  | i + 1, a, p :: l, q, h, e => by
    have r := Od_at i _ l q h.2.2.2 (by simpa using e)
    have := h.1; have := h.2.1
    exact ⟨by omega, r.2⟩
/-- where the i-th part ends. -/
def endN (L : List Tk) (i : Nat) : Nat := match L[i]? with | some q => q.2.2.toNat + q.2.1.size | none => 0
theorem end_at {s : ByteArray} {a : Nat} {p : Tk} {l : List Tk} (h : Od s a (p :: l)) {m : Nat} (h1 : 1 ≤ m) (h2 : m ≤ l.length + 1) : ∃ q : Tk, (p :: l)[m - 1]? = some q ∧ endN (p :: l) (m - 1) = q.2.2.toNat + q.2.1.size ∧ 0 ≤ p.2.2 ∧ 0 ≤ q.2.2 ∧ p.2.2.toNat + m ≤ q.2.2.toNat + q.2.1.size ∧ q.2.2.toNat + q.2.1.size ≤ s.size := by
  obtain ⟨q, hq⟩ : ∃ q, (p :: l)[m - 1]? = some q := ⟨(p :: l)[m - 1]'(by simp; omega), List.getElem?_eq_getElem _⟩
  refine ⟨q, hq, by unfold endN; rw [hq], by have := h.1; omega, ?_⟩
  have ha := h.1
  have hb := h.2.1
  have r := Od_at _ _ _ _ h hq
  refine ⟨by omega, ?_, by omega⟩
  rcases Nat.lt_or_ge m 2 with hm | hm
  · obtain rfl : m = 1 := by omega
    simp at hq; subst hq; omega
  · have r2 := Od_at (m - 2) _ l q h.2.2.2 (by rw [show m - 1 = (m - 2) + 1 by omega] at hq; simpa using hq)
    omega
/-- the first token. -/
def tokT (s : ByteArray) (p : Tk) (l : List Tk) : Tk := ((fstT p l).1, saidT (fstT p l).1 (s.extract p.2.2.toNat (endN (p :: l) ((fstT p l).2 - 1))), p.2.2)
/-- all tokens of parts, behind those at hand; or the place of what is none. -/
def toksF (s : ByteArray) : Nat → List Tk → List Tk → Sum Int (List Tk)
  | 0, _, A => .inr (A ++ [(0, ⟨#[]⟩, (s.size : Int))])
  | _ + 1, [], A => .inr (A ++ [(0, ⟨#[]⟩, (s.size : Int))])
  | n + 1, p :: l, A => if (fstT p l).2 = 0 then .inl p.2.2 else toksF s n ((p :: l).drop (fstT p l).2) (A ++ [tokT s p l])
/-- a text's tokens; or a place and an error. -/
def toksB (s : ByteArray) : Sum (Int × Int) (List Tk) :=
  match splitB s with
  | .inl i => .inl (i, 21)
  | .inr P => match toksF s P.length (texts s P) [] with
    | .inl i => .inl (i, 30)
    | .inr T => .inr T

end Go.Proofs.YtcmefhnfdcngfaaDoor
