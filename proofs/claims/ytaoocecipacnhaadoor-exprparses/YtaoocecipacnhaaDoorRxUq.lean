/- The reference's tokens of a text: mathematics; they are the program's. -/
import Derived.Test.YtaoocecipacnhaaDoorRxAq
import Derived.Test.YtaoocecipacnhaaDoorExFq
namespace Go.Proofs.YtaoocecipacnhaaDoor
open Go.RowKit
set_option linter.unusedVariables false

/-! ### parts by bytes -/
def OneP (s : ByteArray) (p : Prt) : Prop := (∀ j, p.2.1 ≤ j → j < p.2.2 → bk (bt s j) = p.1) ∧ (p.1 = 1 ∨ p.1 = 2 ∨ p.1 = 3) ∧ (p.1 = 3 → p.2.2 = p.2.1 + 1)
def Pk (s : ByteArray) : Nat → List Prt → Nat → Prop
  | a, [], zz => a ≤ zz ∧ zz ≤ s.size ∧ ∀ j, a ≤ j → j < zz → blankN (bt s j) = true
  | a, p :: l, zz => a ≤ p.2.1 ∧ p.2.1 < p.2.2 ∧ p.2.2 ≤ s.size ∧ (∀ j, a ≤ j → j < p.2.1 → blankN (bt s j) = true) ∧ OneP s p ∧ Pk s p.2.2 l zz
theorem Pk_snoc (s : ByteArray) (p : Prt) (zz : Nat) : ∀ (l : List Prt) (a : Nat), Pk s a l p.2.1 → p.2.1 < p.2.2 → p.2.2 ≤ s.size → OneP s p → Pk s p.2.2 [] zz → Pk s a (l ++ [p]) zz
  | [], a, ⟨h1, h2, h3⟩, h4, h5, h6, h7 => ⟨h1, h4, h5, h3, h6, h7⟩
  | q :: l, a, ⟨h1, h2, h3, g4, g5, g6⟩, h4, h5, h6, h7 => ⟨h1, h2, h3, g4, g5, Pk_snoc s p zz l _ g6 h4 h5 h6 h7⟩
theorem Pk_more (s : ByteArray) (zz n : Nat) (hn : n ≤ s.size) (hl : zz ≤ n) (hb : ∀ j, zz ≤ j → j < n → blankN (bt s j) = true) : ∀ (l : List Prt) (a : Nat), Pk s a l zz → Pk s a l n
  | [], a, ⟨h1, h2, h3⟩ => ⟨by omega, hn, fun j h4 h5 => by
      by_cases c : j < zz
      · exact h3 j h4 c
      · exact hb j (by omega) h5⟩
  | p :: l, a, ⟨h1, h2, h3, h4, h5, h6⟩ => ⟨h1, h2, h3, h4, h5, Pk_more s zz n hn hl hb l _ h6⟩
theorem runEnd_all (s : ByteArray) (k : Int) : ∀ (n i j : Nat), s.size ≤ i + n → i ≤ j → j < runEnd s k i → bk (bt s j) = k
  | 0, i, j, h, h1, h2 => by rw [runEnd_stop (by omega)] at h2; omega
  | n + 1, i, j, h, h1, h2 => by
    by_cases c : i < s.size ∧ bk (bt s i) = k
    · rw [runEnd_next c.1 c.2] at h2
      by_cases e : j = i
      · rw [e]; exact c.2
      · exact runEnd_all s k n (i + 1) j (by omega) (by omega) h2
    · rw [runEnd_stop c] at h2; omega
theorem rparts_pk (s : ByteArray) : ∀ (f i : Nat) (l : List Prt), s.size ≤ i + f → i ≤ s.size → Pk s 0 l i → Pk s 0 (rparts s f i l) s.size
  | 0, i, l, h, h1, h2 => by
    obtain rfl : i = s.size := by omega
    exact h2
  | f + 1, i, l, h, h1, h2 => by
    by_cases hp : i < s.size
    · rw [rparts, if_pos hp]
      by_cases z0 : bk (bt s i) = 0
      · rw [if_pos z0]
        exact rparts_pk s f (i + 1) l (by omega) (by omega) (Pk_more s i (i + 1) (by omega) (by omega) (fun j a b => (show j = i by omega) ▸ (bk_blank _).2 z0) l 0 h2)
      · rw [if_neg z0]
        by_cases z3 : bk (bt s i) = 3
        · rw [if_pos z3]
          exact rparts_pk s f (i + 1) _ (by omega) (by omega) (Pk_snoc s (3, i, i + 1) (i + 1) l 0 h2 (by simp) (by simp; omega) ⟨fun j a b => (show j = i by have a' : i ≤ j := a; have b' : j < i + 1 := b; omega) ▸ z3, .inr (.inr rfl), fun _ => rfl⟩ ⟨Nat.le_refl _, by omega, fun j a b => by simp at a b; omega⟩)
        · rw [if_neg z3]
          have hge := runEnd_ge s (bk (bt s i)) s.size (i + 1)
          have hne := runEnd_next (k := bk (bt s i)) hp rfl
          change _ ≤ runEnd s _ _ ∧ (_ → runEnd s _ _ ≤ _) at hge
          have hall := runEnd_all s (bk (bt s i)) s.size i
          have hr := bk_range (bt s i)
          generalize bk (bt s i) = k at *
          rw [hne] at hall ⊢
          exact rparts_pk s f _ _ (by omega) (hge.2 (by omega)) (Pk_snoc s (k, i, runEnd s k (i + 1)) (runEnd s k (i + 1)) l 0 h2 (by simp; omega) (by simp; exact hge.2 (by omega)) ⟨fun j a b => hall j (by omega) a b, by omega, fun z => absurd z z3⟩ ⟨Nat.le_refl _, hge.2 (by omega), fun j a b => by simp at a b; omega⟩)
    · rw [rparts_end _ _ _ _ hp]
      obtain rfl : i = s.size := by omega
      exact h2
theorem rparts_all (s : ByteArray) : Pk s 0 (rparts s s.size 0 []) s.size := rparts_pk s s.size 0 [] (by omega) (by omega) ⟨Nat.le_refl _, Nat.zero_le _, fun j a b => by omega⟩
theorem Pk_at {s : ByteArray} : ∀ (m a zz : Nat) (L : List Prt) (p : Prt), Pk s a L zz → L[m]? = some p → a ≤ p.2.1 ∧ p.2.1 < p.2.2 ∧ p.2.2 ≤ s.size ∧ OneP s p ∧ Pk s p.2.2 (L.drop (m + 1)) zz ∧ ∀ i q, i ≤ m → L[i]? = some q → q.2.1 < p.2.2
  | _, a, zz, [], p, h, e => by simp at e
  | 0, a, zz, x :: L, p, ⟨h1, h2, h3, h4, h5, h6⟩, e => by
    simp at e; subst e
    exact ⟨h1, h2, h3, h5, h6, fun i q hi hq => by obtain rfl : i = 0 := by omega
                                                   simp at hq; subst hq; exact h2⟩
  | m + 1, a, zz, x :: L, p, ⟨h1, h2, h3, h4, h5, h6⟩, e => by
    obtain ⟨g1, g2, g3, g4, g5, g6⟩ := Pk_at m _ zz L p h6 (by simpa using e)
    refine ⟨by omega, g2, g3, g4, g5, fun i q hi hq => ?_⟩
    cases i with
    | zero => simp at hq; subst hq; omega
    | succ i => exact g6 i q (by omega) (by simpa using hq)

/-! ### bytes -/
def sb (s : ByteArray) (a : Nat) : List UInt8 := s.data.toList.drop a
theorem sb_length (s : ByteArray) (a : Nat) : (sb s a).length = s.size - a := by unfold sb; rw [List.length_drop, sz]
theorem sb_cut (s : ByteArray) (a b : Nat) (h : a ≤ b) : sb s a = (sb s a).take (b - a) ++ sb s b := by
  unfold sb
  have := List.take_append_drop (b - a) (s.data.toList.drop a)
  rw [List.drop_drop, show a + (b - a) = b by omega] at this
  exact this.symm
theorem sb_one (s : ByteArray) (a : Nat) (h : a < s.size) : sb s a = s[a]'h :: sb s (a + 1) := by
  unfold sb
  rw [List.drop_eq_getElem_cons (by rw [sz]; exact h)]
  rfl
theorem ext_bytes (s : ByteArray) (i j : Nat) : (s.extract i j).data.toList = (sb s i).take (j - i) := by
  unfold sb
  rw [ByteArray.data_extract, Array.toList_extract]
theorem take_bytes {s : ByteArray} {P : UInt8 → Prop} {a b : Nat} (h : ∀ j (hj : j < s.size), a ≤ j → j < b → P (s[j]'hj)) : ∀ c ∈ (sb s a).take (b - a), P c := by
  intro c hc
  obtain ⟨j, hj, e⟩ := List.mem_iff_getElem.1 hc
  rw [List.length_take, sb_length] at hj
  have : (sb s a)[j]'(by rw [sb_length]; omega) = c := by rw [← e, List.getElem_take]
  have h2 : c = s[a + j]'(by omega) := by rw [← this]; unfold sb; rw [List.getElem_drop]; rfl
  rw [h2]; exact h (a + j) (by omega) (by omega) (by omega)
theorem bt_at (s : ByteArray) (j : Nat) (h : j < s.size) : bt s j = (s[j]'h).toNat := (bt_get s j h).2.symm
theorem not39 {c : UInt8} (h : c.toNat ≠ 39) : c ≠ 39 := fun e => h (by rw [e]; rfl)

/-! ### a text in quotes -/
/-- up zz the quote that ends it: what it says, and how many bytes there are, that quote among them. -/
def qdL : List UInt8 → Option (List UInt8 × Nat)
  | [] => none
  | [c] => if c = 39 then some ([], 1) else none
  | c :: d :: l => if c = 39 then (if d = 39 then (qdL l).map (fun x => (39 :: x.1, x.2 + 2)) else some ([], 1)) else (qdL (d :: l)).map (fun x => (c :: x.1, x.2 + 1))
theorem qdL_cons {c : UInt8} (h : c ≠ 39) (l : List UInt8) : qdL (c :: l) = (qdL l).map (fun x => (c :: x.1, x.2 + 1)) := by
  cases l with
  | nil => simp [qdL, h]
  | cons d l => rw [qdL, if_neg h]
theorem qdL_skip (r : List UInt8) : ∀ (g : List UInt8), (∀ c ∈ g, c ≠ 39) → qdL (g ++ r) = (qdL r).map (fun x => (g ++ x.1, x.2 + g.length))
  | [], h => by simp
  | c :: g, h => by
    rw [List.cons_append, qdL_cons (h c (by simp)), qdL_skip r g (fun x hx => h x (by simp [hx]))]
    cases qdL r <;> simp [Nat.add_assoc]
theorem unq_cons {c : UInt8} (h : c ≠ 39) (l : List UInt8) : unq (c :: l) = c :: unq l := by
  cases l with
  | nil => simp [unq]
  | cons d l => rw [unq, if_neg (fun q => h q.1)]
theorem unq_skip (r : List UInt8) : ∀ (g : List UInt8), (∀ c ∈ g, c ≠ 39) → unq (g ++ r) = g ++ unq r
  | [], h => by simp
  | c :: g, h => by rw [List.cons_append, unq_cons (h c (by simp)), unq_skip r g (fun x hx => h x (by simp [hx]))]; rfl
theorem unq_len : ∀ (n : Nat) (l : List UInt8), l.length ≤ n → (unq l).length ≤ l.length
  | _, [], _ => by simp [unq]
  | _, [c], _ => by simp [unq]
  | 0, c :: d :: l, h => by simp at h
  | n + 1, c :: d :: l, h => by
    simp only [List.length_cons] at h
    have h1 := unq_len n l (by omega)
    have h2 := unq_len n (d :: l) (by simp only [List.length_cons]; omega)
    rw [unq]
    simp only [List.length_cons] at h2 ⊢
    split <;> simp only [List.length_cons] <;> omega

/-- a part with its text. -/
abbrev tx (s : ByteArray) (p : Prt) : Tk := (p.1, s.extract p.2.1 p.2.2, (p.2.1 : Int))
theorem texts_cons (s : ByteArray) (p : Prt) (l : List Prt) : texts s (p :: l) = tx s p :: texts s l := rfl
theorem ext_size (s : ByteArray) {i j : Nat} (h : j ≤ s.size) : (s.extract i j).size = j - i := by rw [ByteArray.size_extract]; omega
theorem besT_tx (s : ByteArray) {p q : Prt} (h1 : p.2.1 < p.2.2) (h2 : p.2.2 ≤ s.size) : besT (tx s p) (tx s q) = decide (q.2.1 = p.2.2) := by
  unfold besT
  simp only [ext_size s h2]
  congr 1
  apply propext; omega
theorem one_byte (s : ByteArray) (i : Nat) (h : i < s.size) : s.extract i (i + 1) = ⟨#[s[i]'h]⟩ := by
  apply ByteArray.ext
  apply Array.ext'
  rw [ext_bytes, sb_one s i h]; simp
theorem qt_tx (s : ByteArray) {p : Prt} (h1 : p.2.1 < p.2.2) (h2 : p.2.2 ≤ s.size) (ho : OneP s p) : qt (tx s p) = true ↔ (p.2.2 = p.2.1 + 1 ∧ bt s p.2.1 = 39) := by
  unfold qt
  rw [decide_eq_true_eq]
  constructor
  · intro e
    have e1 : p.2.2 = p.2.1 + 1 := by
      have := congrArg ByteArray.size e
      simp only [ext_size s h2] at this
      have h3 : qB.size = 1 := rfl
      omega
    refine ⟨e1, ?_⟩
    simp only [e1] at e
    rw [one_byte s _ (by omega)] at e
    rw [bt_at s _ (by omega)]
    have := congrArg (fun b : ByteArray => b.data.toList) e
    simp [qB] at this
    rw [this]; rfl
  · rintro ⟨e1, e2⟩
    simp only [e1]
    rw [one_byte s _ (by omega)]
    rw [bt_at s _ (by omega)] at e2
    have : s[p.2.1]'(by omega) = 39 := UInt8.toNat_inj.1 e2
    rw [this]; rfl
/-- where a part is no quote, none of its bytes is one. -/
theorem no_quote (s : ByteArray) {p : Prt} (h1 : p.2.1 < p.2.2) (h2 : p.2.2 ≤ s.size) (ho : OneP s p) (hq : qt (tx s p) = false) : ∀ c ∈ (sb s p.2.1).take (p.2.2 - p.2.1), c ≠ 39 := by
  refine take_bytes (fun j hj a b => not39 (fun e => ?_))
  have hk := ho.1 j a b
  rw [bt_at s j hj, e] at hk
  have h3 : p.1 = 3 := by rw [← hk]; decide
  have e1 := ho.2.2 h3
  obtain rfl : j = p.2.1 := by omega
  have := (qt_tx s h1 h2 ho).2 ⟨e1, by rw [bt_at s _ hj, e]⟩
  rw [hq] at this; cases this
theorem no_blank (s : ByteArray) {a b : Nat} (h : ∀ j, a ≤ j → j < b → blankN (bt s j) = true) : ∀ c ∈ (sb s a).take (b - a), c ≠ 39 :=
  take_bytes (fun j hj x y => not39 (fun e => by have := h j x y; rw [bt_at s j hj, e] at this; revert this; decide))
theorem take_cut (s : ByteArray) {a b e : Nat} (h1 : a ≤ b) (h2 : b ≤ e) (h3 : b ≤ s.size) : (sb s a).take (e - a) = (sb s a).take (b - a) ++ (sb s b).take (e - b) := by
  rw [sb_cut s a b h1, List.take_append, List.length_take, sb_length, show e - a - min (b - a) (s.size - a) = e - b by omega, List.take_of_length_le (by rw [List.length_take, sb_length]; omega)]
  congr 1
  rw [← sb_cut s a b h1]
/-- by parts as by bytes. -/
theorem toQ_qd (s : ByteArray) : ∀ (n : Nat) (l : List Prt) (a i : Nat), l.length ≤ n → Pk s a l s.size →
    (toQ i (texts s l) = 0 ∧ qdL (sb s a) = none) ∨ (∃ m p, toQ i (texts s l) = i + m + 1 ∧ l[m]? = some p ∧ a + 1 ≤ p.2.2 ∧ qdL (sb s a) = some (unq ((sb s a).take (p.2.2 - 1 - a)), p.2.2 - a))
  | n, [], a, i, hn, h => by
    obtain ⟨h1, h2, h3⟩ := h
    refine .inl ⟨by simp [texts, toQ], ?_⟩
    have q := qdL_skip [] _ (no_blank s h3)
    rw [List.append_nil, List.take_of_length_le (by rw [sb_length]; omega)] at q
    rw [q]; rfl
  | 0, p :: l, a, i, hn, h => by simp at hn
  | n + 1, p :: l, a, i, hn, h => by
    simp only [List.length_cons] at hn
    obtain ⟨h1, h2, h3, h4, h5, h6⟩ := h
    have hb := no_blank s h4
    have e0 := sb_cut s a p.2.1 h1
    have hlen : ((sb s a).take (p.2.1 - a)).length = p.2.1 - a := by rw [List.length_take, sb_length]; omega
    obtain ⟨G, hG⟩ : ∃ G, G = (sb s a).take (p.2.1 - a) := ⟨_, rfl⟩
    rw [← hG] at hb e0 hlen
    have eA : qdL (sb s a) = (qdL (sb s p.2.1)).map (fun x => (G ++ x.1, x.2 + (p.2.1 - a))) := by rw [e0, qdL_skip _ _ hb, hlen]
    cases hq : qt (tx s p) with
    | false =>
      have e1 := sb_cut s p.2.1 p.2.2 (by omega)
      have hc := no_quote s h2 h3 h5 hq
      have hlen2 : ((sb s p.2.1).take (p.2.2 - p.2.1)).length = p.2.2 - p.2.1 := by rw [List.length_take, sb_length]; omega
      obtain ⟨H, hH⟩ : ∃ H, H = (sb s p.2.1).take (p.2.2 - p.2.1) := ⟨_, rfl⟩
      rw [← hH] at hc e1 hlen2
      have eB : qdL (sb s p.2.1) = (qdL (sb s p.2.2)).map (fun x => (H ++ x.1, x.2 + (p.2.2 - p.2.1))) := by rw [e1, qdL_skip _ _ hc, hlen2]
      have eK : (sb s a).take (p.2.2 - a) = G ++ H := by rw [hG, hH]; exact take_cut s h1 (by omega) (by omega)
      have eQ : qdL (sb s a) = (qdL (sb s p.2.2)).map (fun x => ((sb s a).take (p.2.2 - a) ++ x.1, x.2 + (p.2.2 - a))) := by
        rw [eA, eB, eK]
        cases qdL (sb s p.2.2) with
        | none => rfl
        | some x => simp; omega
      have eT : toQ i (texts s (p :: l)) = toQ (i + 1) (texts s l) := by
        rw [texts_cons]
        cases l with
        | nil => simp [texts, toQ, hq]
        | cons q l => rw [texts_cons, toQ, hq]; simp
      rcases toQ_qd s n l p.2.2 (i + 1) (by omega) h6 with ⟨g1, g2⟩ | ⟨m, q, g1, g2, g3, g4⟩
      · exact .inl ⟨by rw [eT, g1], by rw [eQ, g2]; rfl⟩
      · refine .inr ⟨m + 1, q, by rw [eT, g1]; omega, by simpa using g2, by omega, ?_⟩
        rw [eQ, g4]
        have hu : unq ((sb s a).take (q.2.2 - 1 - a)) = (sb s a).take (p.2.2 - a) ++ unq ((sb s p.2.2).take (q.2.2 - 1 - p.2.2)) := by
          rw [take_cut s (show a ≤ p.2.2 by omega) (show p.2.2 ≤ q.2.2 - 1 by omega) h3, unq_skip]
          rw [eK]
          intro c hcc
          rcases List.mem_append.1 hcc with z | z
          · exact hb c z
          · exact hc c z
        rw [hu]
        simp; omega
    | true =>
      obtain ⟨e2, e3⟩ := (qt_tx s h2 h3 h5).1 hq
      rw [bt_at s _ (by omega)] at e3
      have e39 : s[p.2.1]'(by omega) = 39 := UInt8.toNat_inj.1 e3
      have e1 := sb_one s p.2.1 (by omega)
      rw [e39] at e1
      have hend : ∀ r, sb s (p.2.1 + 1) = r → (∀ d r', r = d :: r' → d ≠ 39) → qdL (sb s a) = some (unq ((sb s a).take (p.2.2 - 1 - a)), p.2.2 - a) := by
        intro r hr hd
        have : qdL (39 :: r) = some ([], 1) := by
          cases r with
          | nil => rfl
          | cons d r => rw [qdL, if_pos rfl, if_neg (hd d r rfl)]
        rw [eA, e1, hr, this, e2, show p.2.1 + 1 - 1 - a = p.2.1 - a by omega, ← hG]
        have hu := unq_skip [] _ hb
        rw [List.append_nil] at hu
        rw [hu]; simp [unq]; omega
      cases l with
      | nil =>
        refine .inr ⟨0, p, by simp [texts, toQ, hq], rfl, by omega, hend _ rfl ?_⟩
        intro d r' hr
        obtain ⟨k1, k2, k3⟩ := h6
        have hx : p.2.1 + 1 < s.size := by
          have := congrArg List.length hr
          rw [sb_length] at this; simp at this; omega
        rw [sb_one s _ hx] at hr
        simp at hr
        rw [← hr.1]
        exact not39 (fun z => by have := k3 (p.2.1 + 1) (by omega) hx; rw [bt_at s _ hx, z] at this; revert this; decide)
      | cons q l =>
        obtain ⟨k1, k2, k3, k4, k5, k6⟩ := h6
        have hbes := besT_tx s (q := q) h2 h3
        by_cases hw : besT (tx s p) (tx s q) && qt (tx s q)
        · have hw2 := Bool.and_eq_true_iff.1 hw
          rw [hbes, decide_eq_true_eq] at hw2
          obtain ⟨f2, f3⟩ := (qt_tx s k2 k3 k5).1 hw2.2
          rw [bt_at s _ (by omega)] at f3
          have f39 : s[q.2.1]'(by omega) = 39 := UInt8.toNat_inj.1 f3
          have f1 := sb_one s q.2.1 (by omega)
          rw [f39, hw2.1, e2] at f1
          have eT : toQ i (texts s (p :: q :: l)) = toQ (i + 2) (texts s l) := by rw [texts_cons, texts_cons, toQ, hq, if_pos rfl, if_pos hw]
          have hq2 : q.2.2 = p.2.1 + 1 + 1 := by omega
          have eQ : qdL (sb s a) = (qdL (sb s q.2.2)).map (fun x => (G ++ 39 :: x.1, x.2 + 2 + (p.2.1 - a))) := by
            rw [eA, e1, f1, qdL, if_pos rfl, if_pos rfl, hq2]
            cases qdL (sb s (p.2.1 + 1 + 1)) <;> rfl
          rcases toQ_qd s n l q.2.2 (i + 2) (by simp only [List.length_cons] at hn; omega) k6 with ⟨g1, g2⟩ | ⟨m, r, g1, g2, g3, g4⟩
          · exact .inl ⟨by rw [eT, g1], by rw [eQ, g2]; rfl⟩
          · refine .inr ⟨m + 2, r, by rw [eT, g1]; omega, by simpa using g2, by omega, ?_⟩
            rw [eQ, g4]
            have hu : unq ((sb s a).take (r.2.2 - 1 - a)) = G ++ 39 :: unq ((sb s q.2.2).take (r.2.2 - 1 - q.2.2)) := by
              rw [take_cut s h1 (show p.2.1 ≤ r.2.2 - 1 by omega) (by omega), ← hG, unq_skip _ _ hb]
              congr 1
              rw [e1, f1, show r.2.2 - 1 - p.2.1 = (r.2.2 - 1 - q.2.2) + 1 + 1 by omega, List.take_succ_cons, List.take_succ_cons, unq, if_pos ⟨rfl, rfl⟩, hq2]
            rw [hu]
            simp; omega
        · rw [Bool.not_eq_true] at hw
          have eT : toQ i (texts s (p :: q :: l)) = i + 1 := by rw [texts_cons, texts_cons, toQ, hq, if_pos rfl, hw]; simp
          refine .inr ⟨0, p, by rw [eT], rfl, by omega, hend _ rfl ?_⟩
          intro d r' hr
          have hx : p.2.1 + 1 < s.size := by omega
          rw [sb_one s _ hx] at hr
          simp at hr
          rw [← hr.1]
          refine not39 (fun z => ?_)
          by_cases hqp : q.2.1 = p.2.2
          · rw [hbes, decide_eq_true hqp, Bool.true_and] at hw
            have h39 : bk (bt s q.2.1) = q.1 := k5.1 q.2.1 (Nat.le_refl _) k2
            have hb1 : bt s q.2.1 = 39 := by rw [hqp, e2, bt_at s _ hx, z]
            rw [hb1] at h39
            have h3' : q.1 = 3 := by rw [← h39]; decide
            have := (qt_tx s k2 k3 k5).2 ⟨k5.2.2 h3', hb1⟩
            rw [hw] at this; cases this
          · have := k4 (p.2.1 + 1) (by omega) (by omega)
            rw [bt_at s _ hx, z] at this; revert this; decide

end Go.Proofs.YtaoocecipacnhaaDoor
