/- Contracts: when.readForm and when.ReadOn of any text. -/
import Derived.Test.YtgnfkkcagbbhmaaGreatDoorWhnGq
namespace Go.Proofs.YtgnfkkcagbbhmaaGreatDoor
open Go.RowKit
set_option linter.unusedVariables false

def nmL (l : List UInt8) : List UInt8 := l.takeWhile letC
def rsL (l : List UInt8) : List UInt8 := l.dropWhile letC
def lastB : ByteArray := ⟨#[108, 97, 115, 116]⟩
/-- which form a text says. -/
def rfO (l : List UInt8) : Option (Int × Int × Int) :=
  if nmL l = [] then some (0, 0, numN ⟨(rsL l).toArray⟩)
  else if Lib.hasPrefix (rsL l) [62, 61] = true then some (2, Wrd.shortB ⟨(nmL l).toArray⟩ Wrd.daysL, numN ⟨((rsL l).drop 2).toArray⟩)
  else if Lib.hasPrefix (rsL l) [60, 61] = true then some (3, Wrd.shortB ⟨(nmL l).toArray⟩ Wrd.daysL, numN ⟨((rsL l).drop 2).toArray⟩)
  else if rsL l = [] ∧ 4 < (nmL l).length ∧ Wrd.sameB ⟨((nmL l).take 4).toArray⟩ lastB = true then some (1, Wrd.shortB ⟨((nmL l).drop 4).toArray⟩ Wrd.daysL, 0)
  else none
def rfV : Option (Int × Int × Int) → Value
  | some (k, d, n) => formV k d n
  | none => .nilIface

theorem sizeL (l : List UInt8) : (⟨l.toArray⟩ : ByteArray).size = l.length := by show l.toArray.size = _; simp
theorem sizeL0 {l : List UInt8} (h : l ≠ []) : (⟨l.toArray⟩ : ByteArray).size ≠ 0 := by rw [sizeL]; intro e; exact h (List.eq_nil_of_length_eq_zero e)
theorem pre_len {B : List UInt8} {a b : UInt8} (h : Lib.hasPrefix B [a, b] = true) : 2 ≤ B.length := by
  match B, h with
  | [], h => simp [Lib.hasPrefix, List.isPrefixOf] at h
  | [x], h => simp [Lib.hasPrefix, List.isPrefixOf] at h
  | x :: y :: r, _ => simp

theorem readForm_any (l : List UInt8) (hl : l.length ≤ maxLen) (w : World) :
    Calls Tryz.prog 187 #[.string ⟨l.toArray⟩] w fun e w' => e = .returned (rfV (rfO l)) ∧ Below w.heap.size w w' := by
  have CU : Hid (∀ w : World, Calls Tryz.prog 188 #[.string ⟨l.toArray⟩, .func (.func 189) #[] #[]] w fun e w' => e = .returned (.tuple #[.string ⟨(nmL l).toArray⟩, .string ⟨(rsL l).toArray⟩]) ∧ Below w.heap.size w w') := fun w => cut_let l w hl
  have hA : (nmL l).length ≤ l.length := (List.takeWhile_sublist _).length_le
  have hB : (rsL l).length ≤ l.length := (List.dropWhile_sublist _).length_le
  generalize hNM : nmL l = A at *
  generalize hRS : rsL l = B at *
  have PF : ∀ (a b : UInt8) (t : Bool), Lib.hasPrefix B [a, b] = t → Hid (∀ w : World, Calls Tryz.prog 184 #[.string ⟨B.toArray⟩, .string ⟨#[a, b]⟩] w fun e w' => e = .returned (.bool t) ∧ w' = w) := fun a b t ht w => by
    have R := Tryz.strings_HasPrefix ⟨B.toArray⟩ ⟨#[a, b]⟩ w
    rw [show Lib.hasPrefix (⟨B.toArray⟩ : ByteArray).data.toList (⟨#[a, b]⟩ : ByteArray).data.toList = t from ht] at R
    exact R
  have NU : ∀ (M : List UInt8) (t : ByteArray), t = ⟨M.toArray⟩ → M.length ≤ l.length → Hid (∀ w : World, Calls Tryz.prog 190 #[.string t] w fun e w' => e = .returned (.int .i64 (numN ⟨M.toArray⟩)) ∧ Below w.heap.size w w') := fun M t ht hM w => by
    subst ht
    exact number_any _ _ rfl (by rw [sizeL]; omega) w
  have DY : ∀ (M : List UInt8) (t : ByteArray), t = ⟨M.toArray⟩ → M.length ≤ l.length → Hid (∀ w : World, Calls Tryz.prog 191 #[.string t] w fun e w' => e = .returned (.int .i64 (Wrd.shortB ⟨M.toArray⟩ Wrd.daysL)) ∧ Below w.heap.size w w') := fun M t ht hM w => by
    subst ht
    exact Wrd.day_any _ (by rw [sizeL]; omega) w
  unfold rfO
  rw [hNM, hRS]
  by_cases a0 : A = []
  · rw [if_pos a0]
    exact rf_num _ _ _ _ (by rw [a0]) CU (NU B _ rfl hB) w
  · rw [if_neg a0]
    have z0 := sizeL0 a0
    by_cases p1 : Lib.hasPrefix B [62, 61] = true
    · rw [if_pos p1]
      have lb := pre_len p1
      exact rf_ge _ _ _ _ _ z0 (by rw [sizeL]; exact lb) (by rw [sizeL]; omega) CU (PF 62 61 true p1) (DY A _ rfl hA) (NU (B.drop 2) _ (ext_suf B 2 _ rfl) (by simp; omega)) w
    · rw [if_neg p1]
      have p1' : Lib.hasPrefix B [62, 61] = false := by simpa using p1
      by_cases p2 : Lib.hasPrefix B [60, 61] = true
      · rw [if_pos p2]
        have lb := pre_len p2
        exact rf_le _ _ _ _ _ z0 (by rw [sizeL]; exact lb) (by rw [sizeL]; omega) CU (PF 62 61 false p1') (PF 60 61 true p2) (DY A _ rfl hA) (NU (B.drop 2) _ (ext_suf B 2 _ rfl) (by simp; omega)) w
      · rw [if_neg p2]
        have p2' : Lib.hasPrefix B [60, 61] = false := by simpa using p2
        by_cases b0 : B = []
        · by_cases h4 : 4 < A.length
          · have SA : ∀ t : Bool, Wrd.sameB ⟨(A.take 4).toArray⟩ lastB = t → Hid (∀ w : World, Calls Tryz.prog 113 #[.string ((⟨A.toArray⟩ : ByteArray).extract 0 4), .string ⟨#[108, 97, 115, 116]⟩] w fun e w' => e = .returned (.bool t) ∧ Below w.heap.size w w') := fun t ht w => by
              rw [ext_pre A 4 _ rfl]
              have R := Wrd.same_any ⟨(A.take 4).toArray⟩ lastB (by rw [sizeL]; simp; omega) (by decide +kernel) w
              rw [ht] at R
              exact R
            by_cases hs : Wrd.sameB ⟨(A.take 4).toArray⟩ lastB = true
            · rw [if_pos ⟨b0, h4, hs⟩]
              exact rf_fin _ _ _ _ z0 (by rw [b0]) (by rw [sizeL]; exact h4) (by rw [sizeL]; omega) CU (PF 62 61 false p1') (PF 60 61 false p2') (SA true hs) (DY (A.drop 4) _ (ext_suf A 4 _ rfl) (by simp; omega)) w
            · rw [if_neg (fun k => hs k.2.2)]
              exact rf_x3 _ _ _ z0 (by rw [b0]) (by rw [sizeL]; exact h4) (by rw [sizeL]; omega) CU (PF 62 61 false p1') (PF 60 61 false p2') (SA false (by simpa using hs)) w
          · rw [if_neg (fun k => h4 k.2.1)]
            exact rf_x2 _ _ _ z0 (by rw [b0]) (by rw [sizeL]; omega) CU (PF 62 61 false p1') (PF 60 61 false p2') w
        · rw [if_neg (fun k => b0 k.1)]
          exact rf_x1 _ _ _ z0 (sizeL0 b0) CU (PF 62 61 false p1') (PF 60 61 false p2') w

/-- what the reading of a text comes to. -/
def rdV (l : List UInt8) : Value := match rfO l with
  | some (k, d, n) => roV k d n
  | none => onV 0 0 0
def rdE (l : List UInt8) : Int := match rfO l with
  | some (k, d, n) => roE k d n
  | none => 21
theorem rfO_kind {l : List UInt8} {k d n : Int} (h : rfO l = some (k, d, n)) : (k = 0 ∧ d = 0) ∨ (k = 1 ∧ n = 0) ∨ k = 2 ∨ k = 3 := by
  unfold rfO at h
  split at h
  · simp at h; exact .inl ⟨h.1.symm, h.2.1.symm⟩
  · split at h
    · simp at h; exact .inr (.inr (.inl h.1.symm))
    · split at h
      · simp at h; exact .inr (.inr (.inr h.1.symm))
      · split at h
        · simp at h; exact .inr (.inl ⟨h.1.symm, h.2.2.symm⟩)
        · cases h
theorem readOn_any (l : List UInt8) (hl : l.length ≤ maxLen) (w : World) :
    Calls Tryz.prog 186 #[.string ⟨l.toArray⟩] w fun e w' => e = .returned (.tuple #[rdV l, .int .i64 (rdE l)]) ∧ Below w.heap.size w w' := by
  have RF := readForm_any l hl
  unfold rdV rdE
  cases h : rfO l with
  | none => rw [h] at RF; exact ron_nil _ RF w
  | some t =>
    obtain ⟨k, d, n⟩ := t
    rw [h] at RF
    exact readOn_form _ k d n (rfO_kind h) RF w

end Go.Proofs.YtgnfkkcagbbhmaaGreatDoor
