/- expr.Parse of any text. -/
import Derived.Test.YtaoocecipacnhaaDoorExGq
namespace Go.Proofs.YtaoocecipacnhaaDoor
open Go.RowKit
set_option linter.unusedVariables false

theorem fst_kind (p : Tk) (l : List Tk) : (fstT p l).1 ≠ 0 := by
  unfold fstT
  split
  · simp
  · split
    · simp
    · split
      · simp
      · split <;> simp
theorem endL_snoc : ∀ (A : List Tk) (p : Tk), p.1 = 0 → (∀ a ∈ A, a.1 ≠ 0) → EndL (A ++ [p])
  | [], p, h0, h => by simpa [EndL] using h0
  | [a], p, h0, h => by
    refine ⟨h a (by simp), ?_⟩
    simpa [EndL] using h0
  | a :: b :: A, p, h0, h => ⟨h a (by simp), endL_snoc (b :: A) p h0 (fun x hx => h x (by simp at hx ⊢; exact .inr hx))⟩
theorem toks_end (s : ByteArray) : ∀ (n : Nat) (L A T : List Tk), (∀ a ∈ A, a.1 ≠ 0) → toksF s n L A = .inr T → EndL T ∧ T.length ≤ A.length + n + 1
  | 0, L, A, T, h, e => by
    simp only [toksF, Sum.inr.injEq] at e; subst e
    exact ⟨endL_snoc A _ rfl h, by simp⟩
  | n + 1, [], A, T, h, e => by
    simp only [toksF, Sum.inr.injEq] at e; subst e
    exact ⟨endL_snoc A _ rfl h, by simp⟩
  | n + 1, p :: l, A, T, h, e => by
    rw [toksF] at e
    split at e
    · exact absurd e (by simp)
    · have q := toks_end s n _ _ T (fun a ha => by
        simp only [List.mem_append, List.mem_singleton] at ha
        rcases ha with ha | rfl
        · exact h a ha
        · exact fst_kind p l) e
      simp only [List.length_append, List.length_cons, List.length_nil] at q
      exact ⟨q.1, by omega⟩
theorem toksB_end {s : ByteArray} {T : List Tk} (h : toksB s = .inr T) (hs : s.size ≤ 2048) : EndL T ∧ T.length ≤ 2049 := by
  unfold toksB at h
  cases hp : splitB s with
  | inl i => rw [hp] at h; exact absurd h (by simp)
  | inr P =>
    rw [hp] at h
    dsimp only at h
    cases ht : toksF s P.length (texts s P) [] with
    | inl i => rw [ht] at h; exact absurd h (by simp)
    | inr T' =>
      rw [ht] at h
      simp only [Sum.inr.injEq] at h; subst h
      have q := toks_end s _ _ [] T' (by simp) ht
      have := Cov_length s P 0 _ (splitB_cov hp)
      simp only [List.length_nil] at q
      exact ⟨q.1, by omega⟩
theorem toksB_err {s : ByteArray} {x : Int × Int} (h : toksB s = .inl x) : x.2 = 21 ∨ x.2 = 30 := by
  unfold toksB at h
  cases hp : splitB s with
  | inl i => rw [hp] at h; simp only [Sum.inl.injEq] at h; subst h; exact .inl rfl
  | inr P =>
    rw [hp] at h
    dsimp only at h
    cases ht : toksF s P.length (texts s P) [] with
    | inl i => rw [ht] at h; simp only [Sum.inl.injEq] at h; subst h; exact .inr rfl
    | inr T' => rw [ht] at h; exact absurd h (by simp)

/-- a line and the end behind it. -/
def endT : PR → Sum (Int × Int) Nd
  | .no a e => .inl (a, e)
  | .ok n (q :: _) => if isT q [(0, ⟨#[]⟩)] then .inr n else .inl (q.2.2, 30)
  | .ok n [] => .inl (0, 30)
/-- the node of a text; or a place and an error. -/
def parseB (s : ByteArray) : Sum (Int × Int) Nd :=
  match toksB s with
  | .inl x => .inl x
  | .inr T => endT (par (10 * T.length + 10) (.lv 0) 0 T)
/-- what whole hands back. -/
def WhOf (g : Nat) (X : Nat → Prop) (e : Ending) (w' : World) : Sum (Int × Int) Nd → Prop
  | .inl x => PF g w' 0 x.1 x.2 ∧ e = .returned (.tuple #[.agg #[.int .i64 0, .string ⟨#[]⟩, .slice none 0 0, .int .i64 0], .bool false])
  | .inr n => ∃ k t sq sn sc a, e = .returned (.tuple #[.agg #[.int .i64 k, .string t, .slice sq sn sc, .int .i64 a], .bool true]) ∧ NdAt X w' n [.int .i64 k, .string t, .slice sq sn sc, .int .i64 a]
theorem whole_any (g b cap : Nat) (T : List Tk) (hE : EndL T) (hN : T.length ≤ 100000) (w : World) (h : PS g b cap T w T 0) :
    Calls Tryd.prog 15 #[.pointer (some ⟨g, 0, none⟩)] w fun e w' => Kp g w w' ∧ WhOf g (fun c => w.heap.size ≤ c) e w' (endT (par (10 * T.length + 10) (.lv 0) 0 T)) := by
  have HC : ∀ V : World, PS g b cap T V T 0 → Calls Tryd.prog 27 #[.pointer (some ⟨g, 0, none⟩)] V fun e w' => Kp g V w' ∧ Out g b cap T (fun c => V.heap.size ≤ c) w' 0 e (par (10 * T.length + 10) (.lv 0) 0 T) :=
    fun V hV => (expr_all g b cap T T.length hN).1 V T 0 _ hV hE (by omega) (Nat.le_refl _) (by simp [need])
  have hG := par_good (fun _ => True) (fun _ => True) (10 * T.length + 10) (.lv 0) 0 T (by simp [okTg]) ⟨hE, fun _ _ _ => trivial, fun _ _ => trivial⟩ (by simp [PlT]) (by simp [need])
  cases hp : par (10 * T.length + 10) (.lv 0) 0 T with
  | no ea er =>
    rw [hp] at HC
    exact whole_no g b cap T T 0 ea er HC w h
  | ok n l1 =>
    rw [hp] at HC hG
    obtain ⟨q, l1, rfl⟩ := hG.1.cons
    have hE1 : EndL (q :: l1) := hG.1
    cases hi : isT q [(0, ⟨#[]⟩)] with
    | false =>
      have e1 : endT (.ok n (q :: l1)) = .inl (q.2.2, 30) := by simp [endT, hi]
      rw [e1]
      exact whole_bad g b cap T T 0 n q l1 hi HC w h
    | true =>
      have e1 : endT (.ok n (q :: l1)) = .inr n := by simp [endT, hi]
      rw [e1]
      have hq0 : q.1 = 0 := by simp [isT] at hi; exact hi.1
      have hl : l1 = [] := by
        cases l1 with
        | nil => rfl
        | cons r l1 => exact absurd hq0 hE1.1
      subst hl
      exact whole_good g b cap T T 0 n q hi HC w h

end Go.Proofs.YtaoocecipacnhaaDoor
