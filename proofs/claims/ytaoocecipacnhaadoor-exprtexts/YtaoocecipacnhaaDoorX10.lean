import Derived.Test.YtaoocecipacnhaaDoorX9
open Go.Value renaming int → vi, string → vS, slice → vL
open Go.IntKind renaming i64 → ki
open List renaming setIfInBounds_toArray → zb, set_cons_zero → zc, set_cons_succ → zd, length_cons → zl
open Go.Act renaming put → za
open Go.Ending renaming returned → zr
set_option maxRecDepth 100000
set_option maxHeartbeats 16000000
set_option linter.all false
namespace Go.Proofs.YtaoocecipacnhaaDoor
open Go.RowKit
def OneP (s : ByteArray) (p : Prt) : Prop := (∀ j, p.2.1 ≤ j → j < p.2.2 → bk (bt s j) = p.1) ∧ (p.1 = 1 ∨ p.1 = 2 ∨ p.1 = 3) ∧ (p.1 = 3 → p.2.2 = p.2.1 + 1)
def Pk (s : ByteArray) : Nat → List Prt → Nat → Prop
 | a, [], zz => a ≤ zz ∧ zz ≤ s.size ∧ ∀ j, a ≤ j → j < zz → blankN (bt s j) = true
 | a, p :: l, zz => a ≤ p.2.1 ∧ p.2.1 < p.2.2 ∧ p.2.2 ≤ s.size ∧ (∀ j, a ≤ j → j < p.2.1 → blankN (bt s j) = true) ∧ OneP s p ∧ Pk s p.2.2 l zz
theorem Pk_snoc (s : ByteArray) (p : Prt) (zz : Nat) : ∀ (l : List Prt) (a : Nat), Pk s a l p.2.1 → p.2.1 < p.2.2 → p.2.2 ≤ s.size → OneP s p → Pk s p.2.2 [] zz → Pk s a (l ++ [p]) zz
 | [], a, ⟨h1, h2, h3⟩, h4, h5, h6, h7 => ⟨h1, h4, h5, h3, h6, h7⟩
 | q :: l, a, ⟨h1, h2, h3, g4, g5, g6⟩, h4, h5, h6, h7 => ⟨h1, h2, h3, g4, g5, Pk_snoc s p zz l _ g6 h4 h5 h6 h7⟩
theorem Pk_more (s : ByteArray) (zz n : Nat) (hn : n ≤ s.size) (hl : zz ≤ n) (hb : ∀ j, zz ≤ j → j < n → blankN (bt s j) = true) : ∀ (l : List Prt) (a : Nat), Pk s a l zz → Pk s a l n
 | [], a, ⟨h1, h2, h3⟩ => ⟨by omega, hn, fun j h4 h5 => by
   by_cases c : j < zz
   ·exact h3 j h4 c
   ·exact hb j (by omega) h5⟩
 | p :: l, a, ⟨h1, h2, h3, h4, h5, h6⟩ => ⟨h1, h2, h3, h4, h5, Pk_more s zz n hn hl hb l _ h6⟩
theorem runEnd_all (s : ByteArray) (k : Int) : ∀ (n i j : Nat), s.size ≤ i + n → i ≤ j → j < runEnd s k i → bk (bt s j) = k
 | 0, i, j, h, h1, h2 => by rw [runEnd_stop (by omega)] at h2; omega
 | n + 1, i, j, h, h1, h2 => by
  by_cases c : i < s.size ∧ bk (bt s i) = k
  ·rw [runEnd_next c.1 c.2] at h2
   by_cases e : j = i
   ·rw [e]; exact c.2
   ·exact runEnd_all s k n (i + 1) j (by omega) (by omega) h2
  ·rw [runEnd_stop c] at h2; omega
theorem rparts_pk (s : ByteArray) : ∀ (f i : Nat) (l : List Prt), s.size ≤ i + f → i ≤ s.size → Pk s 0 l i → Pk s 0 (rparts s f i l) s.size
 | 0, i, l, h, h1, h2 => by
  obtain rfl : i = s.size := by omega
  exact h2
 | f + 1, i, l, h, h1, h2 => by
  by_cases hp : i < s.size
  ·rw [rparts, if_pos hp]
   by_cases z0 : bk (bt s i) = 0
   ·rw [if_pos z0]
    exact rparts_pk s f (i + 1) l (by omega) (by omega) (Pk_more s i (i + 1) (by omega) (by omega) (fun j a b => (show j = i by omega) ▸ (bk_blank _).2 z0) l 0 h2)
   ·rw [if_neg z0]
    by_cases z3 : bk (bt s i) = 3
    ·rw [if_pos z3]
     exact rparts_pk s f (i + 1) _ (by omega) (by omega) (Pk_snoc s (3, i, i + 1) (i + 1) l 0 h2 (by simp) (by simp; omega) ⟨fun j a b => (show j = i by have a' : i ≤ j := a; have b' : j < i + 1 := b; omega) ▸ z3, .inr (.inr rfl), fun _ => rfl⟩ ⟨Nat.le_refl _, by omega, fun j a b => by simp at a b; omega⟩)
    ·rw [if_neg z3]
     have hge := runEnd_ge s (bk (bt s i)) s.size (i + 1)
     have hne := runEnd_next (k := bk (bt s i)) hp rfl
     change _ ≤ runEnd s _ _ ∧ (_ → runEnd s _ _ ≤ _) at hge
     have hall := runEnd_all s (bk (bt s i)) s.size i
     have hr := bk_range (bt s i)
     generalize bk (bt s i) = k at *
     rw [hne] at hall ⊢
     exact rparts_pk s f _ _ (by omega) (hge.2 (by omega)) (Pk_snoc s (k, i, runEnd s k (i + 1)) (runEnd s k (i + 1)) l 0 h2 (by simp; omega) (by simp; exact hge.2 (by omega)) ⟨fun j a b => hall j (by omega) a b, by omega, fun z => absurd z z3⟩ ⟨Nat.le_refl _, hge.2 (by omega), fun j a b => by simp at a b; omega⟩)
  ·rw [rparts_end _ _ _ _ hp]
   obtain rfl : i = s.size := by omega
   exact h2
theorem rparts_all (s : ByteArray) : Pk s 0 (rparts s s.size 0 []) s.size := rparts_pk s s.size 0 [] (by omega) (by omega) ⟨Nat.le_refl _, Nat.zero_le _, fun j a b => by omega⟩
theorem Pk_at {s : ByteArray} : ∀ (m a zz : Nat) (L : List Prt) (p : Prt), Pk s a L zz → L[m]? = some p → a ≤ p.2.1 ∧ p.2.1 < p.2.2 ∧ p.2.2 ≤ s.size ∧ OneP s p ∧ Pk s p.2.2 (L.drop (m + 1)) zz ∧ ∀ i q, i ≤ m → L[i]? = some q → q.2.1 < p.2.2
  | _, a, zz, [], p, h, e => by simp at e
  | 0, a, zz, x :: L, p, ⟨h1, h2, h3, h4, h5, h6⟩, e => by
    simp at e; subst e
    exact ⟨h1, h2, h3, h5, h6, fun i q hi hq => by obtain rfl : i = 0 := by omega
                                                   simp at hq; subst hq; exact h2⟩
  | m + 1, a, zz, x :: L, p, ⟨h1, h2, h3, h4, h5, h6⟩, e => by
    obtain ⟨g1, g2, g3, g4, g5, g6⟩ := Pk_at m _ zz L p h6 (by simpa using e)
    refine ⟨by omega, g2, g3, g4, g5, fun i q hi hq => ?_⟩
    cases i with
    | zero => simp at hq; subst hq; omega
    | succ i => exact g6 i q (by omega) (by simpa using hq)
def sb (s : ByteArray) (a : Nat) : List UInt8 := s.data.toList.drop a
theorem sb_get (s : ByteArray) (a j : Nat) : (sb s a)[j]? = s.data.toList[a + j]? := by unfold sb; rw [List.getElem?_drop]
theorem sb_length (s : ByteArray) (a : Nat) : (sb s a).length = s.size - a := by unfold sb; rw [List.length_drop, sz]
theorem sb_cut (s : ByteArray) (a b : Nat) (h : a ≤ b) : sb s a = (sb s a).take (b - a) ++ sb s b := by
 unfold sb
 have := List.take_append_drop (b - a) (s.data.toList.drop a)
 rw [List.drop_drop, show a + (b - a) = b by omega] at this
 exact this.symm
theorem sb_one (s : ByteArray) (a : Nat) (h : a < s.size) : sb s a = s[a]'h :: sb s (a + 1) := by
 unfold sb
 rw [List.drop_eq_getElem_cons (by rw [sz]; exact h)]
 rfl
theorem ext_bytes (s : ByteArray) (i j : Nat) : (s.extract i j).data.toList = (sb s i).take (j - i) := by
 unfold sb
 rw [ByteArray.data_extract, Array.toList_extract]
theorem take_bytes {s : ByteArray} {P : UInt8 → Prop} {a b : Nat} (h : ∀ j (hj : j < s.size), a ≤ j → j < b → P (s[j]'hj)) : ∀ c ∈ (sb s a).take (b - a), P c := by
 intro c hc
 obtain ⟨j, hj, e⟩ := List.mem_iff_getElem.1 hc
 rw [List.length_take, sb_length] at hj
 have : (sb s a)[j]'(by rw [sb_length]; omega) = c := by rw [← e, List.getElem_take]
 have h2 : c = s[a + j]'(by omega) := by rw [← this]; unfold sb; rw [List.getElem_drop]; rfl
 rw [h2]; exact h (a + j) (by omega) (by omega) (by omega)
theorem bt_at (s : ByteArray) (j : Nat) (h : j < s.size) : bt s j = (s[j]'h).toNat := (bt_get s j h).2.symm
theorem not39 {c : UInt8} (h : c.toNat ≠ 39) : c ≠ 39 := fun e => h (by rw [e]; rfl)
def qdL : List UInt8 → Option (List UInt8 × Nat)
 | [] => none
 | [c] => if c = 39 then some ([], 1) else none
 | c :: d :: l => if c = 39 then (if d = 39 then (qdL l).map (fun x => (39 :: x.1, x.2 + 2)) else some ([], 1)) else (qdL (d :: l)).map (fun x => (c :: x.1, x.2 + 1))
theorem qdL_cons {c : UInt8} (h : c ≠ 39) (l : List UInt8) : qdL (c :: l) = (qdL l).map (fun x => (c :: x.1, x.2 + 1)) := by
 cases l with
 | nil => simp [qdL, h]
 | cons d l => rw [qdL, if_neg h]
theorem qdL_skip (r : List UInt8) : ∀ (g : List UInt8), (∀ c ∈ g, c ≠ 39) → qdL (g ++ r) = (qdL r).map (fun x => (g ++ x.1, x.2 + g.length))
 | [], h => by simp
 | c :: g, h => by
  rw [List.cons_append, qdL_cons (h c (by simp)), qdL_skip r g (fun x hx => h x (by simp [hx]))]
  cases qdL r <;> simp [Nat.add_assoc]
theorem unq_cons {c : UInt8} (h : c ≠ 39) (l : List UInt8) : unq (c :: l) = c :: unq l := by
 cases l with
 | nil => simp [unq]
 | cons d l => rw [unq, if_neg (fun q => h q.1)]
theorem unq_skip (r : List UInt8) : ∀ (g : List UInt8), (∀ c ∈ g, c ≠ 39) → unq (g ++ r) = g ++ unq r
 | [], h => by simp
 | c :: g, h => by rw [List.cons_append, unq_cons (h c (by simp)), unq_skip r g (fun x hx => h x (by simp [hx]))]; rfl
theorem unq_len : ∀ (n : Nat) (l : List UInt8), l.length ≤ n → (unq l).length ≤ l.length
 | _, [], _ => by simp [unq]
 | _, [c], _ => by simp [unq]
 | 0, c :: d :: l, h => by simp at h
 | n + 1, c :: d :: l, h => by
  simp only [zl] at h
  have h1 := unq_len n l (by omega)
  have h2 := unq_len n (d :: l) (by simp only [zl]; omega)
  rw [unq]
  simp only [zl] at h2 ⊢
  split <;> simp only [zl] <;> omega
abbrev tx (s : ByteArray) (p : Prt) : Tk := (p.1, s.extract p.2.1 p.2.2, (p.2.1 : Int))
theorem texts_cons (s : ByteArray) (p : Prt) (l : List Prt) : texts s (p :: l) = tx s p :: texts s l := rfl
theorem ext_size (s : ByteArray) {i j : Nat} (h : j ≤ s.size) : (s.extract i j).size = j - i := by rw [ByteArray.size_extract]; omega
theorem besT_tx (s : ByteArray) {p q : Prt} (h1 : p.2.1 < p.2.2) (h2 : p.2.2 ≤ s.size) : besT (tx s p) (tx s q) = decide (q.2.1 = p.2.2) := by
 unfold besT
 simp only [ext_size s h2]
 congr 1
 apply propext; omega
theorem one_byte (s : ByteArray) (i : Nat) (h : i < s.size) : s.extract i (i + 1) = ⟨#[s[i]'h]⟩ := by
 apply ByteArray.ext
 apply Array.ext'
 rw [ext_bytes, sb_one s i h]; simp
theorem qt_tx (s : ByteArray) {p : Prt} (h1 : p.2.1 < p.2.2) (h2 : p.2.2 ≤ s.size) (ho : OneP s p) : qt (tx s p) = true ↔ (p.2.2 = p.2.1 + 1 ∧ bt s p.2.1 = 39) := by
 unfold qt
 rw [decide_eq_true_eq]
 constructor
 ·intro e
  have e1 : p.2.2 = p.2.1 + 1 := by
   have := congrArg ByteArray.size e
   simp only [ext_size s h2] at this
   have h3 : qB.size = 1 := rfl
   omega
  refine ⟨e1, ?_⟩
  simp only [e1] at e
  rw [one_byte s _ (by omega)] at e
  rw [bt_at s _ (by omega)]
  have := congrArg (fun b : ByteArray => b.data.toList) e
  simp [qB] at this
  rw [this]; rfl
 ·rintro ⟨e1, e2⟩
  simp only [e1]
  rw [one_byte s _ (by omega)]
  rw [bt_at s _ (by omega)] at e2
  have : s[p.2.1]'(by omega) = 39 := UInt8.toNat_inj.1 e2
  rw [this]; rfl
theorem no_quote (s : ByteArray) {p : Prt} (h1 : p.2.1 < p.2.2) (h2 : p.2.2 ≤ s.size) (ho : OneP s p) (hq : qt (tx s p) = false) : ∀ c ∈ (sb s p.2.1).take (p.2.2 - p.2.1), c ≠ 39 := by
 refine take_bytes (fun j hj a b => not39 (fun e => ?_))
 have hk := ho.1 j a b
 rw [bt_at s j hj, e] at hk
 have h3 : p.1 = 3 := by rw [← hk]; decide
 have e1 := ho.2.2 h3
 obtain rfl : j = p.2.1 := by omega
 have := (qt_tx s h1 h2 ho).2 ⟨e1, by rw [bt_at s _ hj, e]⟩
 rw [hq] at this; cases this
theorem no_blank (s : ByteArray) {a b : Nat} (h : ∀ j, a ≤ j → j < b → blankN (bt s j) = true) : ∀ c ∈ (sb s a).take (b - a), c ≠ 39 :=
 take_bytes (fun j hj x y => not39 (fun e => by have := h j x y; rw [bt_at s j hj, e] at this; revert this; decide))
theorem take_cut (s : ByteArray) {a b e : Nat} (h1 : a ≤ b) (h2 : b ≤ e) (h3 : b ≤ s.size) : (sb s a).take (e - a) = (sb s a).take (b - a) ++ (sb s b).take (e - b) := by
 rw [sb_cut s a b h1, List.take_append, List.length_take, sb_length, show e - a - min (b - a) (s.size - a) = e - b by omega, List.take_of_length_le (by rw [List.length_take, sb_length]; omega)]
 congr 1
 rw [← sb_cut s a b h1]
theorem toQ_qd (s : ByteArray) : ∀ (n : Nat) (l : List Prt) (a i : Nat), l.length ≤ n → Pk s a l s.size →
  (toQ i (texts s l) = 0 ∧ qdL (sb s a) = none) ∨ (∃ m p, toQ i (texts s l) = i + m + 1 ∧ l[m]? = some p ∧ a + 1 ≤ p.2.2 ∧ qdL (sb s a) = some (unq ((sb s a).take (p.2.2 - 1 - a)), p.2.2 - a))
 | n, [], a, i, hn, h => by
  obtain ⟨h1, h2, h3⟩ := h
  refine .inl ⟨by simp [texts, toQ], ?_⟩
  have q := qdL_skip [] _ (no_blank s h3)
  rw [List.append_nil, List.take_of_length_le (by rw [sb_length]; omega)] at q
  rw [q]; rfl
 | 0, p :: l, a, i, hn, h => by simp at hn
 | n + 1, p :: l, a, i, hn, h => by
  simp only [zl] at hn
  obtain ⟨h1, h2, h3, h4, h5, h6⟩ := h
  have hb := no_blank s h4
  have e0 := sb_cut s a p.2.1 h1
  have hlen : ((sb s a).take (p.2.1 - a)).length = p.2.1 - a := by rw [List.length_take, sb_length]; omega
  obtain ⟨G, hG⟩ : ∃ G, G = (sb s a).take (p.2.1 - a) := ⟨_, rfl⟩
  rw [← hG] at hb e0 hlen
  have eA : qdL (sb s a) = (qdL (sb s p.2.1)).map (fun x => (G ++ x.1, x.2 + (p.2.1 - a))) := by rw [e0, qdL_skip _ _ hb, hlen]
  cases hq : qt (tx s p) with
  | false =>
   have e1 := sb_cut s p.2.1 p.2.2 (by omega)
   have hc := no_quote s h2 h3 h5 hq
   have hlen2 : ((sb s p.2.1).take (p.2.2 - p.2.1)).length = p.2.2 - p.2.1 := by rw [List.length_take, sb_length]; omega
   obtain ⟨H, hH⟩ : ∃ H, H = (sb s p.2.1).take (p.2.2 - p.2.1) := ⟨_, rfl⟩
   rw [← hH] at hc e1 hlen2
   have eB : qdL (sb s p.2.1) = (qdL (sb s p.2.2)).map (fun x => (H ++ x.1, x.2 + (p.2.2 - p.2.1))) := by rw [e1, qdL_skip _ _ hc, hlen2]
   have eK : (sb s a).take (p.2.2 - a) = G ++ H := by rw [hG, hH]; exact take_cut s h1 (by omega) (by omega)
   have eQ : qdL (sb s a) = (qdL (sb s p.2.2)).map (fun x => ((sb s a).take (p.2.2 - a) ++ x.1, x.2 + (p.2.2 - a))) := by
    rw [eA, eB, eK]
    cases qdL (sb s p.2.2) with
    | none => rfl
    | some x => simp; omega
   have eT : toQ i (texts s (p :: l)) = toQ (i + 1) (texts s l) := by
    rw [texts_cons]
    cases l with
    | nil => simp [texts, toQ, hq]
    | cons q l => rw [texts_cons, toQ, hq]; simp
   rcases toQ_qd s n l p.2.2 (i + 1) (by omega) h6 with ⟨g1, g2⟩ | ⟨m, q, g1, g2, g3, g4⟩
   ·exact .inl ⟨by rw [eT, g1], by rw [eQ, g2]; rfl⟩
   ·refine .inr ⟨m + 1, q, by rw [eT, g1]; omega, by simpa using g2, by omega, ?_⟩
    rw [eQ, g4]
    have hu : unq ((sb s a).take (q.2.2 - 1 - a)) = (sb s a).take (p.2.2 - a) ++ unq ((sb s p.2.2).take (q.2.2 - 1 - p.2.2)) := by
     rw [take_cut s (show a ≤ p.2.2 by omega) (show p.2.2 ≤ q.2.2 - 1 by omega) h3, unq_skip]
     rw [eK]
     intro c hcc
     rcases List.mem_append.1 hcc with z | z
     ·exact hb c z
     ·exact hc c z
    rw [hu]
    simp; omega
  | true =>
   obtain ⟨e2, e3⟩ := (qt_tx s h2 h3 h5).1 hq
   rw [bt_at s _ (by omega)] at e3
   have e39 : s[p.2.1]'(by omega) = 39 := UInt8.toNat_inj.1 e3
   have e1 := sb_one s p.2.1 (by omega)
   rw [e39] at e1
   have hend : ∀ r, sb s (p.2.1 + 1) = r → (∀ d r', r = d :: r' → d ≠ 39) → qdL (sb s a) = some (unq ((sb s a).take (p.2.2 - 1 - a)), p.2.2 - a) := by
    intro r hr hd
    have : qdL (39 :: r) = some ([], 1) := by
     cases r with
     | nil => rfl
     | cons d r => rw [qdL, if_pos rfl, if_neg (hd d r rfl)]
    rw [eA, e1, hr, this, e2, show p.2.1 + 1 - 1 - a = p.2.1 - a by omega, ← hG]
    have hu := unq_skip [] _ hb
    rw [List.append_nil] at hu
    rw [hu]; simp [unq]; omega
   cases l with
   | nil =>
    refine .inr ⟨0, p, by simp [texts, toQ, hq], rfl, by omega, hend _ rfl ?_⟩
    intro d r' hr
    obtain ⟨k1, k2, k3⟩ := h6
    have hx : p.2.1 + 1 < s.size := by
     have := congrArg List.length hr
     rw [sb_length] at this; simp at this; omega
    rw [sb_one s _ hx] at hr
    simp at hr
    rw [← hr.1]
    exact not39 (fun z => by have := k3 (p.2.1 + 1) (by omega) hx; rw [bt_at s _ hx, z] at this; revert this; decide)
   | cons q l =>
    obtain ⟨k1, k2, k3, k4, k5, k6⟩ := h6
    have hbes := besT_tx s (q := q) h2 h3
    by_cases hw : besT (tx s p) (tx s q) && qt (tx s q)
    ·have hw2 := Bool.and_eq_true_iff.1 hw
     rw [hbes, decide_eq_true_eq] at hw2
     obtain ⟨f2, f3⟩ := (qt_tx s k2 k3 k5).1 hw2.2
     rw [bt_at s _ (by omega)] at f3
     have f39 : s[q.2.1]'(by omega) = 39 := UInt8.toNat_inj.1 f3
     have f1 := sb_one s q.2.1 (by omega)
     rw [f39, hw2.1, e2] at f1
     have eT : toQ i (texts s (p :: q :: l)) = toQ (i + 2) (texts s l) := by rw [texts_cons, texts_cons, toQ, hq, if_pos rfl, if_pos hw]
     have hq2 : q.2.2 = p.2.1 + 1 + 1 := by omega
     have eQ : qdL (sb s a) = (qdL (sb s q.2.2)).map (fun x => (G ++ 39 :: x.1, x.2 + 2 + (p.2.1 - a))) := by
      rw [eA, e1, f1, qdL, if_pos rfl, if_pos rfl, hq2]
      cases qdL (sb s (p.2.1 + 1 + 1)) <;> rfl
     rcases toQ_qd s n l q.2.2 (i + 2) (by simp only [zl] at hn; omega) k6 with ⟨g1, g2⟩ | ⟨m, r, g1, g2, g3, g4⟩
     ·exact .inl ⟨by rw [eT, g1], by rw [eQ, g2]; rfl⟩
     ·refine .inr ⟨m + 2, r, by rw [eT, g1]; omega, by simpa using g2, by omega, ?_⟩
      rw [eQ, g4]
      have hu : unq ((sb s a).take (r.2.2 - 1 - a)) = G ++ 39 :: unq ((sb s q.2.2).take (r.2.2 - 1 - q.2.2)) := by
       rw [take_cut s h1 (show p.2.1 ≤ r.2.2 - 1 by omega) (by omega), ← hG, unq_skip _ _ hb]
       congr 1
       rw [e1, f1, show r.2.2 - 1 - p.2.1 = (r.2.2 - 1 - q.2.2) + 1 + 1 by omega, List.take_succ_cons, List.take_succ_cons, unq, if_pos ⟨rfl, rfl⟩, hq2]
      rw [hu]
      simp; omega
    ·rw [Bool.not_eq_true] at hw
     have eT : toQ i (texts s (p :: q :: l)) = i + 1 := by rw [texts_cons, texts_cons, toQ, hq, if_pos rfl, hw]; simp
     refine .inr ⟨0, p, by rw [eT], rfl, by omega, hend _ rfl ?_⟩
     intro d r' hr
     have hx : p.2.1 + 1 < s.size := by omega
     rw [sb_one s _ hx] at hr
     simp at hr
     rw [← hr.1]
     refine not39 (fun z => ?_)
     by_cases hqp : q.2.1 = p.2.2
     ·rw [hbes, decide_eq_true hqp, Bool.true_and] at hw
      have h39 : bk (bt s q.2.1) = q.1 := k5.1 q.2.1 (Nat.le_refl _) k2
      have hb1 : bt s q.2.1 = 39 := by rw [hqp, e2, bt_at s _ hx, z]
      rw [hb1] at h39
      have h3' : q.1 = 3 := by rw [← h39]; decide
      have := (qt_tx s k2 k3 k5).2 ⟨k5.2.2 h3', hb1⟩
      rw [hw] at this; cases this
     ·have := k4 (p.2.1 + 1) (by omega) (by omega)
      rw [bt_at s _ hx, z] at this; revert this; decide
def nmT (t : ByteArray) (e : Int) : List Tk → ByteArray
 | [] => t
 | q :: l => if q.2.2 = e ∧ q.1 < 3 then nmT (t ++ q.2.1) (e + (q.2.1.size : Int)) l else t
def dotB : ByteArray := ⟨#[46]⟩
def dgT (p : Tk) : List Tk → ByteArray
 | q :: r :: _ => if q.2.2 = p.2.2 + (p.2.1.size : Int) ∧ q.2.1 = dotB ∧ r.2.2 = p.2.2 + (p.2.1.size : Int) + 1 ∧ r.1 = 1 then p.2.1 ++ dotB ++ r.2.1 else p.2.1
 | _ => p.2.1
def sgT (p : Tk) : List Tk → ByteArray
 | q :: _ => if q.2.2 = p.2.2 + (p.2.1.size : Int) ∧ isPr (p.2.1 ++ q.2.1) = true then p.2.1 ++ q.2.1 else p.2.1
 | [] => p.2.1
def oneT (p : Tk) (l : List Tk) : Tk :=
 if p.1 = 1 then (1, dgT p l, p.2.2)
 else if p.1 = 2 then (2, nmT p.2.1 (p.2.2 + (p.2.1.size : Int)) l, p.2.2)
 else (4, sgT p l, p.2.2)
def qdS (s : ByteArray) (a : Nat) : Option (ByteArray × Nat) := (qdL (sb s (a + 1))).map fun x => (⟨x.1.toArray⟩, a + 1 + x.2)
def rtk (s : ByteArray) : Int → List Tk → List Tk → Sum Int (List Tk)
 | _, [], A => .inr (A ++ [(5, ⟨#[]⟩, (s.size : Int))])
 | e, p :: l, A =>
  if p.2.2 < e then rtk s e l A
  else if qt p then (match qdS s p.2.2.toNat with
   | none => .inl p.2.2
   | some x => rtk s (x.2 : Int) l (A ++ [(3, x.1, p.2.2)]))
  else rtk s (p.2.2 + ((oneT p l).2.1.size : Int)) l (A ++ [oneT p l])
theorem rtk_skip (s : ByteArray) (e : Int) (A : List Tk) : ∀ (m : Nat) (L : List Tk), (∀ i q, i < m → L[i]? = some q → q.2.2 < e) → rtk s e L A = rtk s e (L.drop m) A
 | 0, L, h => rfl
 | m + 1, [], h => rfl
 | m + 1, p :: l, h => by
  rw [rtk, if_pos (h 0 p (by omega) rfl), List.drop_succ_cons]
  exact rtk_skip s e A m l (fun i q hi hq => h (i + 1) q (by omega) (by simpa using hq))
theorem ext_cat (s : ByteArray) {i j k : Nat} (h1 : i ≤ j) (h2 : j ≤ k) : s.extract i j ++ s.extract j k = s.extract i k := by
 rw [ByteArray.extract_append_extract, Nat.min_eq_left h1, Nat.max_eq_right h2]
theorem nm_toS (s : ByteArray) : ∀ (L : List Prt) (P : Prt) (i m zz : Nat), i ≤ P.2.1 → P.2.1 < P.2.2 → P.2.2 ≤ s.size → Pk s P.2.2 L zz →
  nmT (s.extract i P.2.2) (P.2.2 : Int) (texts s L) = s.extract i (endN (tx s P :: texts s L) (toS m (tx s P) (texts s L) - m))
 | [], P, i, m, zz, h1, h2, h3, h => by
  simp only [texts, List.map_nil, nmT, toS, Nat.sub_self, endN, List.getElem?_cons_zero, ext_size s h3]
  congr 1
  omega
 | Q :: L, P, i, m, zz, h1, h2, h3, h => by
  obtain ⟨k1, k2, k3, k4, k5, k6⟩ := h
  have ih := nm_toS s L Q i (m + 1) zz (by omega) k2 k3 k6
  have hb := besT_tx s (q := Q) h2 h3
  have hge := (toS_le (texts s L) (m + 1) (tx s Q)).1
  rw [texts_cons, nmT, toS, hb]
  simp only
  by_cases hc : Q.2.1 = P.2.2 ∧ Q.1 ≠ 3
  ·have hk := k5.2.1
   rw [if_pos ⟨by omega, by omega⟩, if_pos (by simp [hc]), ext_size s k3, ← hc.1, ext_cat s (by omega) (by omega), show (Q.2.1 : Int) + ((Q.2.2 - Q.2.1 : Nat) : Int) = (Q.2.2 : Int) by omega, ih]
   congr 1
   rw [show toS (m + 1) (tx s Q) (texts s L) - m = (toS (m + 1) (tx s Q) (texts s L) - (m + 1)) + 1 by omega]
   unfold endN
   rw [List.getElem?_cons_succ]
  ·rw [if_neg (fun z => hc ⟨by omega, by have := z.2; omega⟩), if_neg (by simp; omega)]
   simp only [Nat.sub_self, endN, List.getElem?_cons_zero, ext_size s h3]
   congr 1
   omega
theorem end_part {s : ByteArray} {L : List Prt} {j : Nat} {q : Prt} (h : L[j]? = some q) (h1 : q.2.1 < q.2.2) (h2 : q.2.2 ≤ s.size) : endN (texts s L) j = q.2.2 := by
 unfold endN texts
 rw [List.getElem?_map, h]
 simp only [Option.map_some, ext_size s h2]
 omega
theorem mem_ext {s : ByteArray} {i j : Nat} (hj : j ≤ s.size) {c : UInt8} (hc : c ∈ (s.extract i j).data.toList) : ∃ k, i ≤ k ∧ k < j ∧ c.toNat = bt s k := by
 rw [ext_bytes] at hc
 obtain ⟨k, hk, e⟩ := List.mem_iff_getElem.1 hc
 rw [List.length_take, sb_length] at hk
 have : (sb s i)[k]'(by rw [sb_length]; omega) = c := by rw [← e, List.getElem_take]
 have h2 : c = s[i + k]'(by omega) := by rw [← this]; unfold sb; rw [List.getElem_drop]; rfl
 exact ⟨i + k, by omega, by omega, by rw [h2, bt_at s _ (by omega)]⟩
theorem con46 (l : List UInt8) : l.contains 46 = true ↔ (46 : UInt8) ∈ l := by simp
theorem dig_46 {s : ByteArray} {p : Prt} (h2 : p.2.2 ≤ s.size) (ho : OneP s p) (h1 : p.1 = 1) : (s.extract p.2.1 p.2.2).data.toList.contains 46 = false := by
 rw [Bool.eq_false_iff]
 intro hc
 obtain ⟨k, k1, k2, k3⟩ := mem_ext h2 ((con46 _).1 hc)
 have := ho.1 k k1 k2
 rw [← k3, h1] at this
 revert this; decide
theorem mT_1 (t : ByteArray) (a : Int) : mT (1, t, a) = (if t.data.toList.contains 46 then 2 else 1, t, a) := by unfold mT; simp
theorem mT_2 (t : ByteArray) (a : Int) : mT (2, t, a) = (4, lowB t, a) := by unfold mT; simp
theorem mT_4 (t : ByteArray) (a : Int) : mT (4, t, a) = (5, t, a) := by unfold mT; simp
theorem said_id {k : Int} (h4 : k ≠ 4) (h3 : k ≠ 3) (t : ByteArray) : saidT k t = t := by unfold saidT; rw [if_neg h4, if_neg h3]
theorem one_tok (s : ByteArray) (p : Prt) (L : List Prt) (a zz : Nat) (h : Pk s a (p :: L) zz) (hq : qt (tx s p) = false) :
  mT (oneT (tx s p) (texts s L)) = tokT s (tx s p) (texts s L) ∧ (oneT (tx s p) (texts s L)).2.1 = s.extract p.2.1 (endN (texts s (p :: L)) ((fstT (tx s p) (texts s L)).2 - 1)) ∧ (fstT (tx s p) (texts s L)).2 ≠ 0 := by
 obtain ⟨h1, h2, h3, h4, h5, h6⟩ := h
 have he : (p.2.1 : Int) + ((s.extract p.2.1 p.2.2).size : Int) = (p.2.2 : Int) := by rw [ext_size s h3]; omega
 have hnat : ((p.2.1 : Nat) : Int).toNat = p.2.1 := by omega
 have e0 : endN (texts s (p :: L)) 0 = p.2.2 := end_part (L := p :: L) (j := 0) rfl h2 h3
 unfold tokT
 simp only [hnat]
 rcases h5.2.1 with hk | hk | hk
 ·-- digits
  have hd := dig_46 h3 h5 hk
  cases hdc : dcT (tx s p) (texts s L) with
  | true =>
   have hf : fstT (tx s p) (texts s L) = (2, 3) := by unfold fstT; rw [hq, hdc]; simp [hk]
   match L, h6, hdc with
   | Q :: R :: L, h6, hdc =>
    obtain ⟨k1, k2, k3, k4, k5, r1, r2, r3, r4, r5, r6⟩ := h6
    rw [texts_cons, texts_cons, dcT, besT_tx s h2 h3, besT_tx s k2 k3] at hdc
    simp only [Bool.and_eq_true, decide_eq_true_eq] at hdc
    obtain ⟨⟨⟨d1, d2⟩, d3⟩, d4⟩ := hdc
    have hQ : Q.2.2 = Q.2.1 + 1 := by
     have := congrArg ByteArray.size d2
     rw [ext_size s k3] at this
     have h9 : (⟨#[46]⟩ : ByteArray).size = 1 := rfl
     omega
    have e1 : dgT (tx s p) (texts s (Q :: R :: L)) = s.extract p.2.1 R.2.2 := by
     rw [texts_cons, texts_cons, dgT]
     simp only [he]
     rw [if_pos ⟨by omega, d2, by omega, d4⟩, show dotB = s.extract Q.2.1 Q.2.2 from d2.symm, ← d1, ext_cat s (by omega) (by omega), ← d3, ext_cat s (by omega) (by omega)]
    have e2 : endN (texts s (p :: Q :: R :: L)) 2 = R.2.2 := end_part (L := p :: Q :: R :: L) (j := 2) rfl r2 r3
    have h46 : (s.extract p.2.1 R.2.2).data.toList.contains 46 = true := by
     rw [con46, ← ext_cat s (show p.2.1 ≤ R.2.1 by omega) (by omega), ← ext_cat s (show p.2.1 ≤ Q.2.1 by omega) (show Q.2.1 ≤ R.2.1 by omega), d3, d2]
     simp [ByteArray.data_append]
    have eO : oneT (tx s p) (texts s (Q :: R :: L)) = (1, s.extract p.2.1 R.2.2, (p.2.1 : Int)) := by rw [← e1]; unfold oneT; rw [if_pos hk]
    rw [eO, hf]
    refine ⟨?_, ?_, by simp⟩
    ·rw [mT_1, if_pos h46]
     show _ = (2, saidT 2 (s.extract p.2.1 (endN (texts s (p :: Q :: R :: L)) 2)), (p.2.1 : Int))
     rw [e2, said_id (by decide) (by decide)]
    ·show _ = s.extract p.2.1 (endN (texts s (p :: Q :: R :: L)) 2)
     rw [e2]
  | false =>
   have hf : fstT (tx s p) (texts s L) = (1, 1) := by unfold fstT; rw [hq, hdc]; simp [hk]
   have e1 : dgT (tx s p) (texts s L) = s.extract p.2.1 p.2.2 := by
    match L, h6, hdc with
    | [], _, _ => rfl
    | [Q], _, _ => rfl
    | Q :: R :: L, h6, hdc =>
     obtain ⟨k1, k2, k3, k4, k5, r1, r2, r3, r4, r5, r6⟩ := h6
     rw [texts_cons, texts_cons, dcT, besT_tx s h2 h3, besT_tx s k2 k3] at hdc
     rw [texts_cons, texts_cons, dgT]
     simp only [he]
     rw [if_neg]
     rintro ⟨d1, d2, d3, d4⟩
     have hQ : Q.2.2 = Q.2.1 + 1 := by
      have := congrArg ByteArray.size d2
      rw [ext_size s k3] at this
      have h9 : dotB.size = 1 := rfl
      omega
     have : (decide (Q.2.1 = p.2.2) && decide (s.extract Q.2.1 Q.2.2 = ⟨#[46]⟩) && decide (R.2.1 = Q.2.2) && decide (R.1 = 1)) = true := by
      simp only [Bool.and_eq_true, decide_eq_true_eq]
      exact ⟨⟨⟨by omega, d2⟩, by omega⟩, d4⟩
     simp only at hdc
     rw [this] at hdc; cases hdc
   have eO : oneT (tx s p) (texts s L) = (1, s.extract p.2.1 p.2.2, (p.2.1 : Int)) := by rw [← e1]; unfold oneT; rw [if_pos hk]
   rw [eO, hf]
   refine ⟨?_, ?_, by simp⟩
   ·rw [mT_1, if_neg (by rw [hd]; simp)]
    show _ = (1, saidT 1 (s.extract p.2.1 (endN (texts s (p :: L)) 0)), (p.2.1 : Int))
    rw [e0, said_id (by decide) (by decide)]
   ·show _ = s.extract p.2.1 (endN (texts s (p :: L)) 0)
    rw [e0]
 ·-- a name
  have hf : fstT (tx s p) (texts s L) = (4, toS 1 (tx s p) (texts s L)) := by unfold fstT; rw [hq]; simp [hk]
  have e1 := nm_toS s L p p.2.1 1 zz (Nat.le_refl _) h2 h3 h6
  have hge := (toS_le (texts s L) 1 (tx s p)).1
  have eO : oneT (tx s p) (texts s L) = (2, s.extract p.2.1 (endN (tx s p :: texts s L) (toS 1 (tx s p) (texts s L) - 1)), (p.2.1 : Int)) := by rw [← e1]; unfold oneT; simp only [he]; rw [if_neg (by omega), if_pos hk]
  rw [eO, hf]
  refine ⟨?_, rfl, by show toS 1 (tx s p) (texts s L) ≠ 0; omega⟩
  rw [mT_2]
  show _ = (4, saidT 4 _, (p.2.1 : Int))
  unfold saidT; rw [if_pos rfl]
 ·-- a sign
  have e1 : sgT (tx s p) (texts s L) = s.extract p.2.1 (endN (texts s (p :: L)) ((if prT (tx s p) (texts s L) then 2 else 1) - 1)) := by
   match L, h6 with
   | [], _ => simp [prT, sgT, texts]; rw [← show texts s [p] = [tx s p] from rfl, e0]
   | Q :: L, h6 =>
    obtain ⟨k1, k2, k3, k4, k5, k6⟩ := h6
    have e2 : endN (texts s (p :: Q :: L)) 1 = Q.2.2 := end_part (L := p :: Q :: L) (j := 1) rfl k2 k3
    have hb := besT_tx s (q := Q) h2 h3
    rw [texts_cons s Q L, prT, sgT, hb]
    simp only [he]
    by_cases hc : Q.2.1 = p.2.2 ∧ isPr (s.extract p.2.1 p.2.2 ++ s.extract Q.2.1 Q.2.2) = true
    ·rw [if_pos ⟨by omega, hc.2⟩, if_pos (by simp only [Bool.and_eq_true, decide_eq_true_eq]; exact hc), e2, ← hc.1, ext_cat s (by omega) (by omega)]
    ·rw [if_neg (fun z => hc ⟨by omega, z.2⟩), if_neg (by simp only [Bool.and_eq_true, decide_eq_true_eq]; exact hc), e0]
  have hf : fstT (tx s p) (texts s L) = (5, if prT (tx s p) (texts s L) then 2 else 1) := by unfold fstT; rw [hq]; simp [hk]
  have eO : oneT (tx s p) (texts s L) = (4, sgT (tx s p) (texts s L), (p.2.1 : Int)) := by unfold oneT; rw [if_neg (show ¬ p.1 = 1 by omega), if_neg (show ¬ p.1 = 2 by omega)]
  rw [eO, hf, mT_4]
  refine ⟨?_, e1, by simp only; split <;> omega⟩
  show _ = (5, saidT 5 _, (p.2.1 : Int))
  rw [said_id (by decide) (by decide), e1]
  rfl
theorem low_keep {c : UInt8} (h : bk c.toNat = 3) : lowC c = c := by
 unfold lowC
 rw [if_neg]
 rintro ⟨h1, h2⟩
 have : bk c.toNat = 2 := (bk_letter _).1 (by simp [letterN]; omega)
 omega
theorem low_bk {c : UInt8} (h : bk c.toNat = 2) : bk (lowC c).toNat = 2 := by
 unfold lowC
 split
 ·rename_i q
  have := low32 c q
  rw [this]
  exact (bk_letter _).1 (by simp [letterN]; omega)
 ·exact h
theorem low_signs {t : ByteArray} (h : ∀ c ∈ t.data.toList, bk c.toNat = 3) : lowB t = t := by
 apply ByteArray.ext
 apply Array.ext'
 unfold lowB
 rw [Array.toList_map]
 exact (List.map_congr_left (g := id) (fun c hc => low_keep (h c hc))).trans (List.map_id _)
theorem wrd_first : ∀ s ∈ wrdL, ∃ c l, s.data.toList = c :: l ∧ bk c.toNat = 2 := by
 intro s hs
 unfold wrdL at hs
 simp only [List.mem_cons, List.not_mem_nil, or_false] at hs
 rcases hs with rfl | rfl | rfl | rfl | rfl | rfl <;> exact ⟨_, _, rfl, by decide⟩
theorem sgn_first : ∀ s ∈ sgnL, ∃ c l, s.data.toList = c :: l ∧ bk c.toNat = 3 := by
 intro s hs
 unfold sgnL at hs
 simp only [List.mem_cons, List.not_mem_nil, or_false] at hs
 rcases hs with rfl | rfl | rfl | rfl | rfl | rfl | rfl | rfl | rfl | rfl | rfl | rfl | rfl | rfl | rfl <;> exact ⟨_, _, rfl, by decide⟩
theorem ext_first {s : ByteArray} {i j : Nat} (h1 : i < j) (h2 : j ≤ s.size) : ∃ c l, (s.extract i j).data.toList = c :: l ∧ c.toNat = bt s i := by
 rw [ext_bytes, sb_one s i (by omega), show j - i = (j - i - 1) + 1 by omega, List.take_succ_cons]
 exact ⟨_, _, rfl, (bt_at s i (by omega)).symm⟩
theorem good_one (s : ByteArray) (p : Prt) (L : List Prt) (a zz : Nat) (hs : s.size ≤ 2048) (h : Pk s a (p :: L) zz) (hq : qt (tx s p) = false) : GoodT (oneT (tx s p) (texts s L)) := by
 obtain ⟨-, e2, e3⟩ := one_tok s p L a zz h hq
 obtain ⟨h1, h2, h3, h4, h5, h6⟩ := h
 have hsz : (oneT (tx s p) (texts s L)).2.1.size ≤ 2048 := by
  rw [e2, ByteArray.size_extract]; omega
 rcases h5.2.1 with hk | hk | hk
 ·have e : (oneT (tx s p) (texts s L)).1 = 1 := by unfold oneT; simp [hk]
  exact ⟨by omega, hsz, fun z => by omega, fun z => by omega⟩
 ·have e : (oneT (tx s p) (texts s L)).1 = 2 := by unfold oneT; simp [hk]
  refine ⟨by omega, hsz, fun z => by omega, fun _ hm => ?_⟩
  obtain ⟨c, l, g1, g2⟩ := sgn_first _ hm
  have hbk := h5.1 p.2.1 (Nat.le_refl _) h2
  have hpos : ∃ c l, (oneT (tx s p) (texts s L)).2.1.data.toList = c :: l ∧ c.toNat = bt s p.2.1 := by
   have he : (p.2.1 : Int) + ((s.extract p.2.1 p.2.2).size : Int) = (p.2.2 : Int) := by rw [ext_size s h3]; omega
   have e1 := nm_toS s L p p.2.1 1 zz (Nat.le_refl _) h2 h3 h6
   have e4 : (oneT (tx s p) (texts s L)).2.1 = nmT (s.extract p.2.1 p.2.2) (p.2.2 : Int) (texts s L) := by unfold oneT; rw [if_neg (show ¬ p.1 = 1 by omega), if_pos hk]; simp only [he]
   rw [e4]
   have hpre : ∀ (l : List Tk) (t : ByteArray) (e : Int) (c : UInt8) (r : List UInt8), t.data.toList = c :: r → ∃ r', (nmT t e l).data.toList = c :: r' := by
    intro l
    induction l with
    | nil => intro t e c r ht; exact ⟨r, ht⟩
    | cons q l ih =>
     intro t e c r ht
     rw [nmT]
     split
     ·exact ih (t ++ q.2.1) _ c (r ++ q.2.1.data.toList) (by simp [ByteArray.data_append, ht])
     ·exact ⟨r, ht⟩
   obtain ⟨c, r, f1, f2⟩ := ext_first h2 h3
   obtain ⟨r', f3⟩ := hpre (texts s L) _ (p.2.2 : Int) c r f1
   exact ⟨c, r', f3, f2⟩
  obtain ⟨c', l', f1, f2⟩ := hpos
  unfold lowB at g1
  rw [Array.toList_map, f1, List.map_cons] at g1
  have g3 := (List.cons.inj g1).1
  rw [hk, ← f2] at hbk
  have := low_bk hbk
  rw [g3] at this
  omega
 ·have e : (oneT (tx s p) (texts s L)).1 = 4 := by unfold oneT; simp [hk]
  have hall : ∀ c ∈ (oneT (tx s p) (texts s L)).2.1.data.toList, bk c.toNat = 3 := by
   have e1 : (oneT (tx s p) (texts s L)).2.1 = sgT (tx s p) (texts s L) := by unfold oneT; simp [hk]
   have hp3 : ∀ c ∈ (s.extract p.2.1 p.2.2).data.toList, bk c.toNat = 3 := by
    intro c hc
    obtain ⟨k, k1, k2, k3⟩ := mem_ext h3 hc
    rw [k3, h5.1 k k1 k2, hk]
   rw [e1]
   intro c hc
   match L, h6, hc with
   | [], _, hc => exact hp3 c hc
   | Q :: L, h6, hc =>
    rw [texts_cons, sgT] at hc
    split at hc
    ·rename_i hw
     simp only [ByteArray.data_append, Array.toList_append, List.mem_append] at hc
     rcases hc with hc | hc
     ·exact hp3 c hc
     ·have hpr := hw.2
      unfold isPr at hpr
      simp only [Bool.or_eq_true, decide_eq_true_eq] at hpr
      have hm : c ∈ ((tx s p).2.1 ++ (tx s Q).2.1).data.toList := by simp [ByteArray.data_append]; exact .inr (by simpa using hc)
      rcases hpr with ((hpr | hpr) | hpr) | hpr <;> (rw [hpr] at hm; simp at hm; rcases hm with rfl | rfl <;> decide)
    ·exact hp3 c hc
  refine ⟨by omega, hsz, fun _ => ⟨low_signs hall, fun hm => ?_⟩, fun z => by omega⟩
  obtain ⟨c, l, g1, g2⟩ := wrd_first _ hm
  have := hall c (by rw [g1]; simp)
  omega
theorem mL_snoc (A : List Tk) (r : Tk) : mL (A ++ [r]) = mL A ++ [mT r] := by unfold mL; simp
theorem rtk_toks (s : ByteArray) (hs : s.size ≤ 2048) : ∀ (n : Nat) (L : List Prt) (a : Nat) (e : Int) (A : List Tk), L.length ≤ n → Pk s a L s.size → e ≤ (a : Int) → (∀ x ∈ A, GoodT x) →
  (∀ i, rtk s e (texts s L) A = .inl i → toksF s n (texts s L) (mL A) = .inl i) ∧ (∀ T, rtk s e (texts s L) A = .inr T → toksF s n (texts s L) (mL A) = .inr (mL T) ∧ ∀ x ∈ T, GoodT x)
 | n, [], a, e, A, hn, h, he, hA => by
  have hx : rtk s e (texts s []) A = .inr (A ++ [(5, ⟨#[]⟩, (s.size : Int))]) := rfl
  rw [hx]
  refine ⟨fun i z => (by cases z), fun T z => ?_⟩
  cases z
  refine ⟨?_, fun x hx => ?_⟩
  ·have : toksF s n (texts s []) (mL A) = .inr (mL A ++ [(0, ⟨#[]⟩, (s.size : Int))]) := by cases n <;> rfl
   rw [this, mL_snoc]; rfl
  ·rcases List.mem_append.1 hx with z | z
   ·exact hA x z
   ·simp at z; subst z
    exact ⟨by simp, by show (0 : Nat) ≤ 2048; omega, fun z => by simp at z, fun z => by simp at z⟩
 | 0, p :: L, a, e, A, hn, h, he, hA => by simp at hn
 | n + 1, p :: L, a, e, A, hn, h, he, hA => by
  simp only [zl] at hn
  have hP := h
  obtain ⟨h1, h2, h3, h4, h5, h6⟩ := h
  have hlt : ¬ ((tx s p).2.2 < e) := by show ¬ ((p.2.1 : Int) < e); omega
  rw [texts_cons, rtk, toksF, if_neg hlt]
  have go : ∀ (m : Nat) (r : Tk), (fstT (tx s p) (texts s L)).2 = m + 1 → GoodT r → mT r = tokT s (tx s p) (texts s L) → ∀ q : Prt, (p :: L)[m]? = some q → ∀ E : Int, E = (q.2.2 : Int) →
    (∀ i, rtk s E (texts s L) (A ++ [r]) = .inl i → toksF s n ((tx s p :: texts s L).drop (fstT (tx s p) (texts s L)).2) (mL A ++ [tokT s (tx s p) (texts s L)]) = .inl i) ∧ (∀ T, rtk s E (texts s L) (A ++ [r]) = .inr T → toksF s n ((tx s p :: texts s L).drop (fstT (tx s p) (texts s L)).2) (mL A ++ [tokT s (tx s p) (texts s L)]) = .inr (mL T) ∧ ∀ x ∈ T, GoodT x) := by
   intro m r hm hr hmr q hqm E hE
   subst hE
   obtain ⟨g1, g2, g3, g4, g5, g6⟩ := Pk_at m a s.size (p :: L) q hP hqm
   have hsk : rtk s (q.2.2 : Int) (texts s L) (A ++ [r]) = rtk s (q.2.2 : Int) (texts s (L.drop m)) (A ++ [r]) := by
    rw [rtk_skip s (q.2.2 : Int) (A ++ [r]) m (texts s L) (fun i x hi hx => ?_)]
    ·unfold texts; rw [List.map_drop]
    ·unfold texts at hx
     rw [List.getElem?_map] at hx
     cases hL : L[i]? with
     | none => rw [hL] at hx; cases hx
     | some y =>
      rw [hL] at hx; simp at hx; subst hx
      have := g6 (i + 1) y (by omega) (by simpa using hL)
      show (y.2.1 : Int) < _
      omega
   have hdr : (tx s p :: texts s L).drop (fstT (tx s p) (texts s L)).2 = texts s (L.drop m) := by rw [hm, List.drop_succ_cons]; unfold texts; rw [List.map_drop]
   have hg5 : Pk s q.2.2 (L.drop m) s.size := by simpa using g5
   have ih := rtk_toks s hs n (L.drop m) q.2.2 (q.2.2 : Int) (A ++ [r]) (by rw [List.length_drop]; omega) hg5 (Int.le_refl _) (fun x hx => by
    rcases List.mem_append.1 hx with z | z
    ·exact hA x z
    ·simp at z; subst z; exact hr)
   rw [hsk, hdr, ← hmr, ← mL_snoc]
   exact ih
  cases hq : qt (tx s p) with
  | false =>
   rw [if_neg (by simp)]
   obtain ⟨o1, o2, o3⟩ := one_tok s p L a s.size hP hq
   rw [if_neg o3]
   have hfl := fst_le (tx s p) (texts s L)
   have hll : (texts s L).length = L.length := texts_length s L
   obtain ⟨m, hm⟩ : ∃ m, (fstT (tx s p) (texts s L)).2 = m + 1 := ⟨(fstT (tx s p) (texts s L)).2 - 1, by omega⟩
   have hml : m < (p :: L).length := by simp only [zl]; omega
   obtain ⟨q, hqm⟩ : ∃ q, (p :: L)[m]? = some q := ⟨(p :: L)[m]'hml, List.getElem?_eq_getElem hml⟩
   obtain ⟨g1, g2, g3, g4, g5, g6⟩ := Pk_at m a s.size (p :: L) q hP hqm
   have g7 := g6 0 p (by omega) rfl
   refine go m _ hm (good_one s p L a s.size hs hP hq) o1 q hqm _ ?_
   rw [o2, hm, show m + 1 - 1 = m by omega, end_part hqm g2 g3, ext_size s g3]
   show (p.2.1 : Int) + _ = _
   omega
  | true =>
   rw [if_pos rfl]
   obtain ⟨e1, e39⟩ := (qt_tx s h2 h3 h5).1 hq
   have hf : fstT (tx s p) (texts s L) = (3, toQ 1 (texts s L)) := by unfold fstT; rw [hq]; simp
   have h6' : Pk s (p.2.1 + 1) L s.size := by rw [← e1]; exact h6
   have hnat : (tx s p).2.2.toNat = p.2.1 := by show ((p.2.1 : Nat) : Int).toNat = _; omega
   rw [hnat]
   rcases toQ_qd s L.length L (p.2.1 + 1) 1 (Nat.le_refl _) h6' with ⟨t1, t2⟩ | ⟨m, q, t1, t2, t3, t4⟩
   ·have e2 : qdS s p.2.1 = none := by unfold qdS; rw [t2]; rfl
    rw [e2, if_pos (by rw [hf]; exact t1)]
    exact ⟨fun i z => z, fun T z => by cases z⟩
   ·obtain ⟨x, hx⟩ : ∃ x : ByteArray, x = ⟨(unq ((sb s (p.2.1 + 1)).take (q.2.2 - 1 - (p.2.1 + 1)))).toArray⟩ := ⟨_, rfl⟩
    have e2 : qdS s p.2.1 = some (x, q.2.2) := by unfold qdS; rw [t4, hx]; simp; omega
    have hm : (fstT (tx s p) (texts s L)).2 = m + 1 + 1 := by rw [hf, t1]; simp; omega
    have hqm : (p :: L)[m + 1]? = some q := by simpa using t2
    obtain ⟨g1, g2, g3, g4, g5, g6⟩ := Pk_at (m + 1) a s.size (p :: L) q hP hqm
    have hxs : x.size ≤ 2048 := by
     have := unq_len _ ((sb s (p.2.1 + 1)).take (q.2.2 - 1 - (p.2.1 + 1))) (Nat.le_refl _)
     rw [List.length_take, sb_length] at this
     rw [hx]; show (_ : Array UInt8).size ≤ _; simp only [List.size_toArray]; omega
    rw [e2, if_neg (by omega)]
    simp only
    refine go (m + 1) (3, x, (p.2.1 : Int)) hm ⟨by simp, hxs, fun z => by simp at z, fun z => by simp at z⟩ ?_ q hqm _ rfl
    unfold mT tokT
    rw [hm, show m + 1 + 1 - 1 = m + 1 by omega, ← texts_cons, end_part hqm g2 g3, hnat, hf]
    simp only [saidT]
    rw [hx]
    have e3 : ((s.extract p.2.1 q.2.2).extract 1 ((s.extract p.2.1 q.2.2).size - 1)).data.toList = (sb s (p.2.1 + 1)).take (q.2.2 - 1 - (p.2.1 + 1)) := by
     rw [ext_size s g3, ByteArray.extract_extract, ext_bytes]
     congr 1
     omega
    rw [e3]
    simp
def conts (s : ByteArray) (i n : Nat) : Prop := ∀ k, 2 ≤ k → k < n → 128 ≤ bt s (i + k) ∧ bt s (i + k) ≤ 191
theorem long_short (s : ByteArray) (i c n lo hh : Nat) (hs : s.size ≤ 2048) (hi : i < s.size) (hc : bt s i = c) (h : 128 ≤ c) (hz : c < 256) (hcl : Cls c n lo hh) (hsh : s.size - i < n) (w : World) :
  Calls Tryd.prog 29 #[vS s, vi ki (i : Int)] w fun e w' => e = zr (vi ki 0) ∧ w' = w := by
 have hb := byte_eq s i hi
 rw [hc] at hb
 have hi' : (i : Int) < (s.size : Int) := by omega
 have h' : ¬ (c : Int) < 128 := by omega
 have i0 : (0 : Int) ≤ (i : Int) := by omega
 have hsh' : (s.size : Int) - (i : Int) < (n : Int) := by omega
 rcases hcl with ⟨x1, x2, rfl, rfl, rfl⟩ | ⟨rfl, rfl, rfl, rfl⟩ | ⟨rfl, rfl, rfl, rfl⟩ | ⟨⟨x1, x2, x3⟩, rfl, rfl, rfl⟩ | ⟨rfl, rfl, rfl, rfl⟩ | ⟨rfl, rfl, rfl, rfl⟩ | ⟨⟨x1, x2⟩, rfl, rfl, rfl⟩
 all_goals
  go_enter Tryd.func29, Tryd.ntmps29
  go_wp2_with fail
  all_goals first
   | (go_ret; exact ⟨rfl, rfl⟩)
   | (exfalso; omega)
theorem long_out (s : ByteArray) (i c n lo hh b : Nat) (hs : s.size ≤ 2048) (hi : i < s.size) (hc : bt s i = c) (h : 128 ≤ c) (hz : c < 256) (hcl : Cls c n lo hh) (hsh : ¬ s.size - i < n) (hbb : bt s (i + 1) = b) (hlo : b < lo ∨ hh < b) (w : World) :
  Calls Tryd.prog 29 #[vS s, vi ki (i : Int)] w fun e w' => e = zr (vi ki 0) ∧ w' = w := by
 have hb := byte_eq s i hi
 rw [hc] at hb
 have hi' : (i : Int) < (s.size : Int) := by omega
 have h' : ¬ (c : Int) < 128 := by omega
 have i0 : (0 : Int) ≤ (i : Int) := by omega
 have hsh' : ¬ (s.size : Int) - (i : Int) < (n : Int) := by omega
 have hn2 : 2 ≤ n ∧ n ≤ 4 ∧ 128 ≤ lo ∧ hh ≤ 191 := by unfold Cls at hcl; omega
 have h1 : i + 1 < s.size := by omega
 have hb1 := byte_eq s (i + 1) h1
 rw [hbb] at hb1
 have hbz : b < 256 := by rw [← hbb]; exact UInt8.toNat_lt _
 have h1' : (i : Int) + 1 < (s.size : Int) := by omega
 have hlo' : (b : Int) < (lo : Int) ∨ (hh : Int) < (b : Int) := by omega
 rcases hcl with ⟨x1, x2, rfl, rfl, rfl⟩ | ⟨rfl, rfl, rfl, rfl⟩ | ⟨rfl, rfl, rfl, rfl⟩ | ⟨⟨x1, x2, x3⟩, rfl, rfl, rfl⟩ | ⟨rfl, rfl, rfl, rfl⟩ | ⟨rfl, rfl, rfl, rfl⟩ | ⟨⟨x1, x2⟩, rfl, rfl, rfl⟩
 all_goals
  go_enter Tryd.func29, Tryd.ntmps29
  go_wp2_with fail
  all_goals first
   | (go_ret; exact ⟨rfl, rfl⟩)
   | (exfalso; omega)
theorem long_in2 (s : ByteArray) (i c lo hh b R : Nat) (hs : s.size ≤ 2048) (hi : i < s.size) (hc : bt s i = c) (h : 128 ≤ c) (hz : c < 256) (hcl : (194 ≤ c ∧ c ≤ 223 ∧ lo = 128 ∧ hh = 191)) (hsh : ¬ s.size - i < 2) (hbb : bt s (i + 1) = b) (hlo1 : ¬ b < lo) (hlo2 : ¬ hh < b)
  (HR1 : Hid (¬ conts s i 2 → R = 0)) (HR2 : Hid (conts s i 2 → R = 2)) (w : World) :
  Calls Tryd.prog 29 #[vS s, vi ki (i : Int)] w fun e w' => e = zr (vi ki (R : Int)) ∧ w' = w := by
 have hb := byte_eq s i hi
 rw [hc] at hb
 have hi' : (i : Int) < (s.size : Int) := by omega
 have h' : ¬ (c : Int) < 128 := by omega
 have i0 : (0 : Int) ≤ (i : Int) := by omega
 have hsh' : ¬ (s.size : Int) - (i : Int) < 2 := by omega
 have h1 : i + 1 < s.size := by omega
 have hb1 := byte_eq s (i + 1) h1
 rw [hbb] at hb1
 have hbz : b < 256 := by rw [← hbb]; exact UInt8.toNat_lt _
 have h1' : (i : Int) + 1 < (s.size : Int) := by omega
 have hlo1' : ¬ (b : Int) < (lo : Int) := by omega
 have hlo2' : ¬ (hh : Int) < (b : Int) := by omega
 obtain ⟨x1, x2, rfl, rfl⟩ := hcl
 all_goals
  go_enter Tryd.func29, Tryd.ntmps29
  go_wp2_with fail
 all_goals first
  | (exfalso; omega)
  | (go_ret; exfalso; omega)
  | skip
 all_goals
  go_loop [9] (fun kk => ∃ k : Nat, 2 ≤ k ∧ k ≤ 2 ∧ kk = vi ki (k : Int) ∧ Hid (∀ j, 2 ≤ j → j < k → 128 ≤ bt s (i + j) ∧ bt s (i + j) ≤ 191)) (fun kk => 2 - (intOf kk).toNat)
  case atStart => exact ⟨2, Nat.le_refl _, by omega, rfl, fun j a b => by omega⟩
  case round =>
   obtain ⟨k, k2, kn, rfl, HK⟩ := hrel
   by_cases hk : k < 2
   ·have hk' : (k : Int) < 2 := by omega
    have hks : i + k < s.size := by omega
    have hks' : (i : Int) + (k : Int) < (s.size : Int) := by omega
    have hk0 : (0 : Int) ≤ (i : Int) + (k : Int) := by omega
    have hto : ((i : Int) + (k : Int)).toNat = i + k := by omega
    have hbk := byte_eq s (i + k) hks
    obtain ⟨d, hd⟩ : ∃ d, bt s (i + k) = d := ⟨_, rfl⟩
    rw [hd] at hbk
    by_cases hok : 128 ≤ d ∧ d ≤ 191
    ·have d1 : ¬ (d : Int) < 128 := by omega
     have d2 : ¬ (191 : Int) < (d : Int) := by omega
     go_wp2_with fail
     go_round
     case rel => exact ⟨k + 1, by omega, by omega, by go_num, fun j a b => by
      by_cases e : j = k
      ·subst e; rw [hd]; exact hok
      ·exact HK.out j a (by omega)⟩
     case measure => simp [intOf]; omega
    ·have e : R = 0 := HR1.out (fun q => hok (by rw [← hd]; exact q k k2 hk))
     subst e
     go_wp2_with fail
     all_goals first
      | (exfalso; omega)
      | (go_ret; exact ⟨rfl, rfl⟩)
   ·have hk' : ¬ (k : Int) < 2 := by omega
    obtain rfl : k = 2 := by omega
    have e : R = 2 := HR2.out HK.out
    subst e
    go_wp2_with fail
    go_ret
    exact ⟨rfl, rfl⟩
theorem long_in3 (s : ByteArray) (i c lo hh b R : Nat) (hs : s.size ≤ 2048) (hi : i < s.size) (hc : bt s i = c) (h : 128 ≤ c) (hz : c < 256) (hcl : (c = 224 ∧ lo = 160 ∧ hh = 191) ∨ (c = 237 ∧ lo = 128 ∧ hh = 159) ∨ ((225 ≤ c ∧ c ≤ 239 ∧ c ≠ 237) ∧ lo = 128 ∧ hh = 191)) (hsh : ¬ s.size - i < 3) (hbb : bt s (i + 1) = b) (hlo1 : ¬ b < lo) (hlo2 : ¬ hh < b)
  (HR1 : Hid (¬ conts s i 3 → R = 0)) (HR2 : Hid (conts s i 3 → R = 3)) (w : World) :
  Calls Tryd.prog 29 #[vS s, vi ki (i : Int)] w fun e w' => e = zr (vi ki (R : Int)) ∧ w' = w := by
 have hb := byte_eq s i hi
 rw [hc] at hb
 have hi' : (i : Int) < (s.size : Int) := by omega
 have h' : ¬ (c : Int) < 128 := by omega
 have i0 : (0 : Int) ≤ (i : Int) := by omega
 have hsh' : ¬ (s.size : Int) - (i : Int) < 3 := by omega
 have h1 : i + 1 < s.size := by omega
 have hb1 := byte_eq s (i + 1) h1
 rw [hbb] at hb1
 have hbz : b < 256 := by rw [← hbb]; exact UInt8.toNat_lt _
 have h1' : (i : Int) + 1 < (s.size : Int) := by omega
 have hlo1' : ¬ (b : Int) < (lo : Int) := by omega
 have hlo2' : ¬ (hh : Int) < (b : Int) := by omega
 rcases hcl with ⟨rfl, rfl, rfl⟩ | ⟨rfl, rfl, rfl⟩ | ⟨⟨x1, x2, x3⟩, rfl, rfl⟩
 all_goals
  go_enter Tryd.func29, Tryd.ntmps29
  go_wp2_with fail
 all_goals first
  | (exfalso; omega)
  | (go_ret; exfalso; omega)
  | skip
 all_goals
  go_loop [9] (fun kk => ∃ k : Nat, 2 ≤ k ∧ k ≤ 3 ∧ kk = vi ki (k : Int) ∧ Hid (∀ j, 2 ≤ j → j < k → 128 ≤ bt s (i + j) ∧ bt s (i + j) ≤ 191)) (fun kk => 3 - (intOf kk).toNat)
  case atStart => exact ⟨2, Nat.le_refl _, by omega, rfl, fun j a b => by omega⟩
  case round =>
   obtain ⟨k, k2, kn, rfl, HK⟩ := hrel
   by_cases hk : k < 3
   ·have hk' : (k : Int) < 3 := by omega
    have hks : i + k < s.size := by omega
    have hks' : (i : Int) + (k : Int) < (s.size : Int) := by omega
    have hk0 : (0 : Int) ≤ (i : Int) + (k : Int) := by omega
    have hto : ((i : Int) + (k : Int)).toNat = i + k := by omega
    have hbk := byte_eq s (i + k) hks
    obtain ⟨d, hd⟩ : ∃ d, bt s (i + k) = d := ⟨_, rfl⟩
    rw [hd] at hbk
    by_cases hok : 128 ≤ d ∧ d ≤ 191
    ·have d1 : ¬ (d : Int) < 128 := by omega
     have d2 : ¬ (191 : Int) < (d : Int) := by omega
     go_wp2_with fail
     go_round
     case rel => exact ⟨k + 1, by omega, by omega, by go_num, fun j a b => by
      by_cases e : j = k
      ·subst e; rw [hd]; exact hok
      ·exact HK.out j a (by omega)⟩
     case measure => simp [intOf]; omega
    ·have e : R = 0 := HR1.out (fun q => hok (by rw [← hd]; exact q k k2 hk))
     subst e
     go_wp2_with fail
     all_goals first
      | (exfalso; omega)
      | (go_ret; exact ⟨rfl, rfl⟩)
   ·have hk' : ¬ (k : Int) < 3 := by omega
    obtain rfl : k = 3 := by omega
    have e : R = 3 := HR2.out HK.out
    subst e
    go_wp2_with fail
    go_ret
    exact ⟨rfl, rfl⟩
theorem long_in4 (s : ByteArray) (i c lo hh b R : Nat) (hs : s.size ≤ 2048) (hi : i < s.size) (hc : bt s i = c) (h : 128 ≤ c) (hz : c < 256) (hcl : (c = 240 ∧ lo = 144 ∧ hh = 191) ∨ (c = 244 ∧ lo = 128 ∧ hh = 143) ∨ ((241 ≤ c ∧ c ≤ 243) ∧ lo = 128 ∧ hh = 191)) (hsh : ¬ s.size - i < 4) (hbb : bt s (i + 1) = b) (hlo1 : ¬ b < lo) (hlo2 : ¬ hh < b)
  (HR1 : Hid (¬ conts s i 4 → R = 0)) (HR2 : Hid (conts s i 4 → R = 4)) (w : World) :
  Calls Tryd.prog 29 #[vS s, vi ki (i : Int)] w fun e w' => e = zr (vi ki (R : Int)) ∧ w' = w := by
 have hb := byte_eq s i hi
 rw [hc] at hb
 have hi' : (i : Int) < (s.size : Int) := by omega
 have h' : ¬ (c : Int) < 128 := by omega
 have i0 : (0 : Int) ≤ (i : Int) := by omega
 have hsh' : ¬ (s.size : Int) - (i : Int) < 4 := by omega
 have h1 : i + 1 < s.size := by omega
 have hb1 := byte_eq s (i + 1) h1
 rw [hbb] at hb1
 have hbz : b < 256 := by rw [← hbb]; exact UInt8.toNat_lt _
 have h1' : (i : Int) + 1 < (s.size : Int) := by omega
 have hlo1' : ¬ (b : Int) < (lo : Int) := by omega
 have hlo2' : ¬ (hh : Int) < (b : Int) := by omega
 rcases hcl with ⟨rfl, rfl, rfl⟩ | ⟨rfl, rfl, rfl⟩ | ⟨⟨x1, x2⟩, rfl, rfl⟩
 all_goals
  go_enter Tryd.func29, Tryd.ntmps29
  go_wp2_with fail
 all_goals first
  | (exfalso; omega)
  | (go_ret; exfalso; omega)
  | skip
 all_goals
  go_loop [9] (fun kk => ∃ k : Nat, 2 ≤ k ∧ k ≤ 4 ∧ kk = vi ki (k : Int) ∧ Hid (∀ j, 2 ≤ j → j < k → 128 ≤ bt s (i + j) ∧ bt s (i + j) ≤ 191)) (fun kk => 4 - (intOf kk).toNat)
  case atStart => exact ⟨2, Nat.le_refl _, by omega, rfl, fun j a b => by omega⟩
  case round =>
   obtain ⟨k, k2, kn, rfl, HK⟩ := hrel
   by_cases hk : k < 4
   ·have hk' : (k : Int) < 4 := by omega
    have hks : i + k < s.size := by omega
    have hks' : (i : Int) + (k : Int) < (s.size : Int) := by omega
    have hk0 : (0 : Int) ≤ (i : Int) + (k : Int) := by omega
    have hto : ((i : Int) + (k : Int)).toNat = i + k := by omega
    have hbk := byte_eq s (i + k) hks
    obtain ⟨d, hd⟩ : ∃ d, bt s (i + k) = d := ⟨_, rfl⟩
    rw [hd] at hbk
    by_cases hok : 128 ≤ d ∧ d ≤ 191
    ·have d1 : ¬ (d : Int) < 128 := by omega
     have d2 : ¬ (191 : Int) < (d : Int) := by omega
     go_wp2_with fail
     go_round
     case rel => exact ⟨k + 1, by omega, by omega, by go_num, fun j a b => by
      by_cases e : j = k
      ·subst e; rw [hd]; exact hok
      ·exact HK.out j a (by omega)⟩
     case measure => simp [intOf]; omega
    ·have e : R = 0 := HR1.out (fun q => hok (by rw [← hd]; exact q k k2 hk))
     subst e
     go_wp2_with fail
     all_goals first
      | (exfalso; omega)
      | (go_ret; exact ⟨rfl, rfl⟩)
   ·have hk' : ¬ (k : Int) < 4 := by omega
    obtain rfl : k = 4 := by omega
    have e : R = 4 := HR2.out HK.out
    subst e
    go_wp2_with fail
    go_ret
    exact ⟨rfl, rfl⟩
theorem rlong_any (s : ByteArray) (i : Nat) (hs : s.size ≤ 2048) (hi : i < s.size) (w : World) :
    Calls Tryd.prog 29 #[vS s, vi ki (i : Int)] w fun e w' => e = zr (vi ki (rlong s i : Int)) ∧ w' = w := by
  have hz : bt s i < 256 := UInt8.toNat_lt _
  unfold rlong
  by_cases h : bt s i < 128
  · rw [if_pos h]; exact long_low s i hs hi h w
  · rw [if_neg h]
    by_cases h0 : rN (bt s i) = 0
    · rw [if_pos (.inl h0)]
      refine long_none s i _ hs hi rfl (by omega) ?_ hz w
      unfold rN at h0
      by_cases a : 194 ≤ bt s i ∧ bt s i ≤ 223
      · rw [if_pos a] at h0; exact absurd h0 (by decide)
      · rw [if_neg a] at h0
        by_cases b : 224 ≤ bt s i ∧ bt s i ≤ 239
        · rw [if_pos b] at h0; exact absurd h0 (by decide)
        · rw [if_neg b] at h0
          by_cases d : 240 ≤ bt s i ∧ bt s i ≤ 244
          · rw [if_pos d] at h0; exact absurd h0 (by decide)
          · omega
    · have hcl := cls_of (bt s i) (by omega) hz h0
      obtain ⟨n, hn⟩ : ∃ n, rN (bt s i) = n := ⟨_, rfl⟩
      obtain ⟨lo, hlo⟩ : ∃ n, rLo (bt s i) = n := ⟨_, rfl⟩
      obtain ⟨hh, hhh⟩ : ∃ n, rHi (bt s i) = n := ⟨_, rfl⟩
      rw [hn] at h0 hcl ⊢
      rw [hlo] at hcl ⊢
      rw [hhh] at hcl ⊢
      by_cases hsh : s.size - i < n
      · rw [if_pos (.inr (.inl hsh))]
        exact long_short s i _ n lo hh hs hi rfl (by omega) hz hcl hsh w
      · by_cases ho : bt s (i + 1) < lo ∨ hh < bt s (i + 1)
        · rw [if_pos (.inr (.inr ho))]
          exact long_out s i _ n lo hh _ hs hi rfl (by omega) hz hcl hsh rfl ho w
        · rw [if_neg (fun q => by rcases q with q | q | q; exact h0 q; exact hsh q; exact ho q)]
          have hn24 : n = 2 ∨ n = 3 ∨ n = 4 := by unfold Cls at hcl; omega
          rcases hn24 with rfl | rfl | rfl
          · exact long_in2 s i _ lo hh _ _ hs hi rfl (by omega) hz (by unfold Cls at hcl; omega) hsh rfl (by omega) (by omega)
              (fun q => absurd (fun k a b => by omega) q) (fun _ => by simp) w
          · refine long_in3 s i _ lo hh _ _ hs hi rfl (by omega) hz (by unfold Cls at hcl; omega) hsh rfl (by omega) (by omega) (fun q => ?_) (fun q => ?_) w
            · rw [if_pos]
              refine ⟨by omega, ?_⟩
              apply Classical.byContradiction
              intro z
              exact q (fun k a b => by obtain rfl : k = 2 := by omega
                                       omega)
            · have := q 2 (by omega) (by omega)
              rw [if_neg (by omega), if_neg (by omega)]
          · refine long_in4 s i _ lo hh _ _ hs hi rfl (by omega) hz (by unfold Cls at hcl; omega) hsh rfl (by omega) (by omega) (fun q => ?_) (fun q => ?_) w
            · by_cases z2 : bt s (i + 2) < 128 ∨ 191 < bt s (i + 2)
              · rw [if_pos ⟨by omega, z2⟩]
              · rw [if_neg (fun y => z2 y.2), if_pos]
                refine ⟨by omega, ?_⟩
                apply Classical.byContradiction
                intro z
                exact q (fun k a b => by
                  have : k = 2 ∨ k = 3 := by omega
                  rcases this with rfl | rfl <;> omega)
            · have u2 := q 2 (by omega) (by omega)
              have u3 := q 3 (by omega) (by omega)
              rw [if_neg (by omega), if_neg (by omega)]
def RSplitOf (w : World) (s : ByteArray) (e : Ending) (w' : World) : Option Nat → Prop
 | some i => e = zr (.tuple #[vL none 0 0, vi ki (i : Int), vi ki 21])
 | none => ∃ v, e = zr (.tuple #[v, vi ki 0, vi ki 0]) ∧ w'.ownsRow w.heap.size 86 3 v (rparts s s.size 0 []).length (flatP s (rparts s s.size 0 []))
theorem rsplit_no {w : World} {s : ByteArray} {e : Ending} {w' : World} {i : Nat} (h : e = zr (.tuple #[vL none 0 0, vi ki (i : Int), vi ki 21])) : RSplitOf w s e w' (some i) := h
theorem rsplit_yes {w : World} {s : ByteArray} {e : Ending} {w' : World} {l : List Prt} (v : Value) (hl : l = rparts s s.size 0 []) (h : e = zr (.tuple #[v, vi ki 0, vi ki 0])) (ho : w'.ownsRow w.heap.size 86 3 v l.length (flatP s l)) : RSplitOf w s e w' none := by
 subst hl; exact ⟨v, h, ho⟩
theorem bad_long {s : ByteArray} {i : Nat} (h : rlong s i = 0) : badN s i = true := by unfold badN; rw [h]; rfl
theorem bad_low {s : ByteArray} {i : Nat} (h1 : bt s i < 32) (h2 : blankN (bt s i) = false) : badN s i = true := by unfold badN; rw [h2, decide_eq_true h1]; simp
theorem bad_del {s : ByteArray} {i : Nat} (h1 : bt s i = 127) : badN s i = true := by unfold badN; rw [h1]; simp
theorem good_at {s : ByteArray} {i : Nat} (h0 : rlong s i ≠ 0) (h1 : bt s i < 32 → blankN (bt s i) = true) (h2 : bt s i ≠ 127) : badN s i = false := by
 unfold badN
 have a : (rlong s i == 0) = false := by simp; exact h0
 have b : (bt s i == 127) = false := by simp; exact h2
 rw [a, b]
 by_cases c : bt s i < 32
 ·rw [h1 c]; simp
 ·rw [decide_eq_false c]; rfl
theorem rsplit_any (s : ByteArray) (w : World) (hsz : s.size ≤ 2048) :
    Calls Tryd.prog 16 #[vS s] w fun e w' => Below w.heap.size w w' ∧ RSplitOf w s e w' (rcheck s s.size 0) := by
  obtain ⟨i0, hi, hz0, hz1, hz2⟩ := info_parts infoRPart
  have hsi : ¬ (2048 : Int) < (s.size : Int) := by omega
  obtain ⟨C, hC⟩ : ∃ C, rcheck s s.size 0 = C := ⟨_, rfl⟩
  rw [hC]
  have HC := hZz hC
  clear hC
  go_enter Tryd.func16, Tryd.ntmps16
  go_wp2_with fail
  go_loop [5] (fun iv => ∃ i fuel : Nat, i ≤ s.size ∧ iv = vi ki (i : Int) ∧ Hid (rcheck s fuel i = C) ∧ s.size ≤ i + fuel) (fun iv => s.size - (intOf iv).toNat)
  case atStart => exact ⟨0, s.size, Nat.zero_le _, rfl, HC, by omega⟩
  case round =>
    obtain ⟨i, fuel, hil, rfl, HS, hf⟩ := hrel
    by_cases hp : i < s.size
    · have hp' : (i : Int) < (s.size : Int) := by omega
      have hp0 : (0 : Int) ≤ (i : Int) := by omega
      obtain ⟨fuel, rfl⟩ : ∃ f', fuel = f' + 1 := ⟨fuel - 1, by omega⟩
      have hb := byte_eq s i hp
      have hlong := rlong_any s i hsz hp
      obtain ⟨c, hc⟩ : ∃ c, bt s i = c := ⟨_, rfl⟩
      obtain ⟨n, hn⟩ : ∃ n, rlong s i = n := ⟨_, rfl⟩
      rw [hc] at hb
      rw [hn] at hlong
      have hc2 : c < 256 := by rw [← hc]; exact UInt8.toNat_lt _
      have HL := hZz hlong
      have HN := hZz hn
      have HC2 := hZz hc
      have hnle : n ≤ 4 ∧ i + n ≤ s.size := by
        obtain ⟨_, k2⟩ := bad_kind s i hp
        have q := rlong_eq s i hp
        rw [hn] at q
        rcases dec_shape s i hp with ⟨y, e⟩ | ⟨y, e⟩ | ⟨y, d1, d2, d3, _⟩
        · rw [if_pos y] at q; omega
        · rw [if_neg (by omega), if_pos e] at q; omega
        · rw [if_neg (by omega), if_neg (fun z => by rw [z] at d1; simp at d1)] at q; omega
      obtain ⟨n4, nle⟩ := hnle
      clear hlong hn hc
      go_wp2_with fail
      refine (HL.out _).mono ?_
      rintro e w' ⟨rfl, rfl⟩
      by_cases n0 : n = 0
      · have e : C = some i := by rw [← HS.out, rcheck_bad hp (bad_long (by rw [HN.out, n0]))]
        subst e
        subst n0
        go_wp2_with fail
        go_ret3
        exact ⟨Below.refl _ _, rsplit_no rfl⟩
      · have n0' : ((n : Int) == 0) = false := by simp; omega
        by_cases c32 : c < 32
        · have c32' : (c : Int) < 32 := by omega
          have hbl := blank_any c hc2
          cases hq : blankN c with
          | false =>
            rw [hq] at hbl
            have HBL := hZz hbl
            have e : C = some i := by rw [← HS.out, rcheck_bad hp (bad_low (by rw [HC2.out]; exact c32) (by rw [HC2.out]; exact hq))]
            subst e
            clear hbl hq
            go_wp2_with fail
            refine (HBL.out _).mono ?_
            rintro e w' ⟨rfl, rfl⟩
            go_wp2_with fail
            go_ret3
            exact ⟨Below.refl _ _, rsplit_no rfl⟩
          | true =>
            rw [hq] at hbl
            have HBL := hZz hbl
            have c127 : ((c : Int) == 127) = false := by simp; omega
            have HE : Hid (rcheck s fuel (i + n) = C) := by show _ = _; rw [← HS.out, rcheck_next hp (good_at (by rw [HN.out]; exact n0) (by rw [HC2.out]; exact fun _ => hq) (by rw [HC2.out]; omega)), HN.out]
            clear hbl hq
            go_wp2_with fail
            refine (HBL.out _).mono ?_
            rintro e w' ⟨rfl, rfl⟩
            go_wp2_with fail
            go_round
            case rel => exact ⟨i + n, fuel, by omega, by go_num, HE, by omega⟩
            case measure => simp [intOf]; omega
        · have c32' : ¬ (c : Int) < 32 := by omega
          by_cases c127 : c = 127
          · have e : C = some i := by rw [← HS.out, rcheck_bad hp (bad_del (by rw [HC2.out]; exact c127))]
            subst e
            subst c127
            go_wp2_with fail
            go_ret3
            exact ⟨Below.refl _ _, rsplit_no rfl⟩
          · have c127' : ((c : Int) == 127) = false := by simp; omega
            have HE : Hid (rcheck s fuel (i + n) = C) := by show _ = _; rw [← HS.out, rcheck_next hp (good_at (by rw [HN.out]; exact n0) (by rw [HC2.out]; exact fun q => absurd q c32) (by rw [HC2.out]; exact c127)), HN.out]
            go_wp2_with fail
            go_round
            case rel => exact ⟨i + n, fuel, by omega, by go_num, HE, by omega⟩
            case measure => simp [intOf]; omega
    · have hp' : ¬ (i : Int) < (s.size : Int) := by omega
      have e : C = none := by rw [← HS.out, rcheck_end s fuel i hp]
      subst e
      obtain ⟨G, hG⟩ : ∃ G, rparts s s.size 0 [] = G := ⟨_, rfl⟩
      have HG := hZz hG
      clear hG HS HC
      go_wp2_with fail
      go_loopw [7, 8] (fun v iv W => ∃ (i fuel : Nat) (l : List Prt), i ≤ s.size ∧ iv = vi ki (i : Int) ∧ W.ownsRow w.heap.size 86 3 v l.length (flatP s l) ∧ Below w.heap.size w W ∧ Hid (rparts s fuel i l = G) ∧ s.size ≤ i + fuel ∧ l.length ≤ i) (fun _ iv _ => s.size - (intOf iv).toNat)
      case atStart => exact ⟨0, s.size, [], Nat.zero_le _, rfl, World.ownsRow_nil _ _ _ _, Below.refl _ _, HG, by omega, Nat.le_refl _⟩
      case round =>
        clear hp hp' hf hil
        obtain ⟨i, fuel, l, hil, rfl, ho, B, HS, hf, hln⟩ := hrel
        obtain ⟨n, hn⟩ : ∃ n, l.length = n := ⟨_, rfl⟩
        rw [hn] at ho hln
        have HO := hZz ho
        have HB := hZz B
        have HN := hZz hn
        clear ho B hn
        by_cases hp : i < s.size
        · have hp' : (i : Int) < (s.size : Int) := by omega
          have hp0 : (0 : Int) ≤ (i : Int) := by omega
          obtain ⟨fuel, rfl⟩ : ∃ f', fuel = f' + 1 := ⟨fuel - 1, by omega⟩
          have hb := byte_eq s i hp
          obtain ⟨c, hc⟩ : ∃ c, bt s i = c := ⟨_, rfl⟩
          rw [hc] at hb
          have hc2 : c < 256 := by rw [← hc]; exact UInt8.toNat_lt _
          have hbl := blank_any c hc2
          have hdg := digit_any c hc2
          have hlt := letter_any c hc2
          have HBL := hZz hbl
          have HDG := hZz hdg
          have HLT := hZz hlt
          clear hbl hdg hlt
          have hkr := bk_range c
          have kb := bk_blank c
          have kd := bk_digit c
          have kl := bk_letter c
          rcases HO.out.2 with ⟨e0, -⟩ | ⟨g0, cap0, cur, e0, _, _, _, _, _, _⟩
          all_goals
            subst e0
            rcases hkr with kk | kk | kk | kk
            · have hkd : bk (bt s i) = 0 := by rw [hc]; exact kk
              have b0 : blankN c = true := kb.2 kk
              have HE : Hid (rparts s fuel (i + 1) l = G) := by show _ = _; rw [← HS.out, rparts, if_pos hp, if_pos hkd]
              rw [b0] at HBL
              clear kb kd kl kk hkd HS hc HDG HLT b0
              go_wp2_with fail
              refine (HBL.out _).mono ?_
              rintro e w' ⟨rfl, hw'⟩
              obtain rfl := hw'.symm
              clear hw'
              go_wp2_with fail
              go_roundw
              case rel => exact ⟨i + 1, fuel, l, by omega, by go_num, by rw [HN.out]; exact HO.out, HB.out, HE, by omega, by rw [HN.out]; omega⟩
              case measure => simp [intOf]; omega
            · have hkd : bk (bt s i) = 1 := by rw [hc]; exact kk
              have b0 : blankN c = false := by
                cases z : blankN c with
                | false => rfl
                | true => have := kb.1 z; omega
              have b1 : digitN c = true := kd.2 kk
              rw [b0] at HBL
              rw [b1] at HDG
              clear kb kd kl kk HLT b0 b1
              go_wp2_with fail
              refine (HBL.out _).mono ?_
              rintro e w' ⟨rfl, hw'⟩
              obtain rfl := hw'.symm
              clear hw'
              go_wp2_with fail
              refine (HDG.out _).mono ?_
              rintro e w' ⟨rfl, hw'⟩
              obtain rfl := hw'.symm
              clear hw'
              go_wp2_with fail
              obtain ⟨E, hE⟩ : ∃ E, runEnd s 1 i = E := ⟨_, rfl⟩
              have HG2 : Hid (rparts s fuel E (l ++ [(1, i, E)]) = G) := by show _ = _; rw [← HS.out, rparts, if_pos hp, if_neg (by omega), if_neg (by omega), hkd, hE]
              have hE1 : i + 1 ≤ E ∧ E ≤ s.size := by
                have q := runEnd_ge s 1 s.size (i + 1)
                rw [← hE, runEnd_next hp hkd]
                exact ⟨q.1, q.2 (by omega)⟩
              have HE := hZz hE
              clear hE HS
              go_loop [9] (fun kk => ∃ k : Nat, i ≤ k ∧ k ≤ s.size ∧ kk = vi ki (k : Int) ∧ Hid (runEnd s 1 k = E)) (fun kk => s.size - (intOf kk).toNat)
              case atStart => exact ⟨i, Nat.le_refl _, by omega, rfl, HE⟩
              case round =>
                obtain ⟨k, hk1, hk2, rfl, HK⟩ := hrel
                by_cases hks : k < s.size
                · have hks' : (k : Int) < (s.size : Int) := by omega
                  have hk0 : (0 : Int) ≤ (k : Int) := by omega
                  have hkb := byte_eq s k hks
                  obtain ⟨d, hd⟩ : ∃ d, bt s k = d := ⟨_, rfl⟩
                  rw [hd] at hkb
                  have hd2 : d < 256 := by rw [← hd]; exact UInt8.toNat_lt _
                  have cd := digit_any d hd2
                  cases hq : digitN d with
                  | true =>
                    rw [hq] at cd
                    have HCD := hZz cd
                    have HK2 : Hid (runEnd s 1 (k + 1) = E) := by show _ = _; rw [← HK.out, runEnd_next hks (by rw [hd]; exact (bk_digit d).1 hq)]
                    clear cd hq
                    go_wp2_with fail
                    refine (HCD.out _).mono ?_
                    rintro e w' ⟨rfl, hw'⟩
                    obtain rfl := hw'.symm
                    clear hw'
                    go_wp2_with fail
                    go_round
                    case rel => exact ⟨k + 1, by omega, by omega, by go_num, HK2⟩
                    case measure => simp [intOf]; omega
                  | false =>
                    rw [hq] at cd
                    have HCD := hZz cd
                    obtain rfl : k = E := by
                      rw [← HK.out, runEnd_stop (fun q => by have := (bk_digit d).2 (by rw [← hd]; exact q.2); rw [hq] at this; exact absurd this (by decide))]
                    have ik1 : (i : Int) ≤ (k : Int) := by omega
                    have ik2 : (k : Int) ≤ (s.size : Int) := by omega
                    clear cd hq
                    go_wp2_with fail
                    refine (HCD.out _).mono ?_
                    rintro e w' ⟨rfl, hw'⟩
                    obtain rfl := hw'.symm
                    clear hw'
                    go_wp2_with (first
                      | (at_builtin; refine wpList_append_own _ rfl _ _ 48 rfl w.heap.size 86 i0 (.agg #[vi ki 0, vS ByteArray.empty, vi ki 0]) 3 32 Tryd.underlying48 hi hz0 hz1 hz2 rfl (by decide) _ n (flatP s l) rfl (HO.out.alloc _) ⟨wr.heap.size, 0, none⟩ 1 1 [vi ki 1, vS (s.extract i k), vi ki (i : Int)] rfl rfl (part_new _ _ _ _ _) (part_one _ _ _) (by unfold maxLen; omega) (by omega) (by have := HB.out.size; simp; omega) ?_; intro v' w3 hown' hgrow3 hnil3
                         have HJ : Hid (w3.ownsRow w.heap.size 86 3 v' (n + 1) (flatP s (l ++ [(1, i, k)])) ∧ Below w.heap.size w w3) := ⟨by rw [flatP_append]; exact hown', Below.grown (HB.out.alloc HB.out.size _) hgrow3 (by have := HB.out.size; simp; omega) (fun k hk => by have := (HO.out.lt _ hk).1; omega)⟩
                         clear hown' hgrow3 hnil3))
                    go_roundw
                    case rel =>
                      refine ⟨k, fuel, l ++ [(1, i, k)], by omega, rfl, ?_, HJ.out.2, HG2, by omega, ?_⟩
                      · rw [List.length_append, HN.out]; exact HJ.out.1
                      · simp only [List.length_append, HN.out, List.length_singleton]; omega
                    case measure => simp [intOf]; omega
                · have hks' : ¬ (k : Int) < (s.size : Int) := by omega
                  obtain rfl : k = E := by rw [← HK.out, runEnd_stop (fun q => hks q.1)]
                  have ik1 : (i : Int) ≤ (k : Int) := by omega
                  have ik2 : (k : Int) ≤ (s.size : Int) := by omega
                  go_wp2_with (first
                    | (at_builtin; refine wpList_append_own _ rfl _ _ 48 rfl w.heap.size 86 i0 (.agg #[vi ki 0, vS ByteArray.empty, vi ki 0]) 3 32 Tryd.underlying48 hi hz0 hz1 hz2 rfl (by decide) _ n (flatP s l) rfl (HO.out.alloc _) ⟨wr.heap.size, 0, none⟩ 1 1 [vi ki 1, vS (s.extract i k), vi ki (i : Int)] rfl rfl (part_new _ _ _ _ _) (part_one _ _ _) (by unfold maxLen; omega) (by omega) (by have := HB.out.size; simp; omega) ?_; intro v' w3 hown' hgrow3 hnil3
                       have HJ : Hid (w3.ownsRow w.heap.size 86 3 v' (n + 1) (flatP s (l ++ [(1, i, k)])) ∧ Below w.heap.size w w3) := ⟨by rw [flatP_append]; exact hown', Below.grown (HB.out.alloc HB.out.size _) hgrow3 (by have := HB.out.size; simp; omega) (fun k hk => by have := (HO.out.lt _ hk).1; omega)⟩
                       clear hown' hgrow3 hnil3))
                  go_roundw
                  case rel =>
                    refine ⟨k, fuel, l ++ [(1, i, k)], by omega, rfl, ?_, HJ.out.2, HG2, by omega, ?_⟩
                    · rw [List.length_append, HN.out]; exact HJ.out.1
                    · simp only [List.length_append, HN.out, List.length_singleton]; omega
                  case measure => simp [intOf]; omega
            · have hkd : bk (bt s i) = 2 := by rw [hc]; exact kk
              have b0 : blankN c = false := by
                cases z : blankN c with
                | false => rfl
                | true => have := kb.1 z; omega
              have b1 : digitN c = false := by
                cases z : digitN c with
                | false => rfl
                | true => have := kd.1 z; omega
              have b2 : letterN c = true := kl.2 kk
              rw [b0] at HBL
              rw [b1] at HDG
              rw [b2] at HLT
              clear kb kd kl kk b0 b1 b2
              go_wp2_with fail
              refine (HBL.out _).mono ?_
              rintro e w' ⟨rfl, hw'⟩
              obtain rfl := hw'.symm
              clear hw'
              go_wp2_with fail
              refine (HDG.out _).mono ?_
              rintro e w' ⟨rfl, hw'⟩
              obtain rfl := hw'.symm
              clear hw'
              go_wp2_with fail
              refine (HLT.out _).mono ?_
              rintro e w' ⟨rfl, hw'⟩
              obtain rfl := hw'.symm
              clear hw'
              go_wp2_with fail
              obtain ⟨E, hE⟩ : ∃ E, runEnd s 2 i = E := ⟨_, rfl⟩
              have HG2 : Hid (rparts s fuel E (l ++ [(2, i, E)]) = G) := by show _ = _; rw [← HS.out, rparts, if_pos hp, if_neg (by omega), if_neg (by omega), hkd, hE]
              have hE1 : i + 1 ≤ E ∧ E ≤ s.size := by
                have q := runEnd_ge s 2 s.size (i + 1)
                rw [← hE, runEnd_next hp hkd]
                exact ⟨q.1, q.2 (by omega)⟩
              have HE := hZz hE
              clear hE HS
              go_loop [9] (fun kk => ∃ k : Nat, i ≤ k ∧ k ≤ s.size ∧ kk = vi ki (k : Int) ∧ Hid (runEnd s 2 k = E)) (fun kk => s.size - (intOf kk).toNat)
              case atStart => exact ⟨i, Nat.le_refl _, by omega, rfl, HE⟩
              case round =>
                obtain ⟨k, hk1, hk2, rfl, HK⟩ := hrel
                by_cases hks : k < s.size
                · have hks' : (k : Int) < (s.size : Int) := by omega
                  have hk0 : (0 : Int) ≤ (k : Int) := by omega
                  have hkb := byte_eq s k hks
                  obtain ⟨d, hd⟩ : ∃ d, bt s k = d := ⟨_, rfl⟩
                  rw [hd] at hkb
                  have hd2 : d < 256 := by rw [← hd]; exact UInt8.toNat_lt _
                  have cd := letter_any d hd2
                  cases hq : letterN d with
                  | true =>
                    rw [hq] at cd
                    have HCD := hZz cd
                    have HK2 : Hid (runEnd s 2 (k + 1) = E) := by show _ = _; rw [← HK.out, runEnd_next hks (by rw [hd]; exact (bk_letter d).1 hq)]
                    clear cd hq
                    go_wp2_with fail
                    refine (HCD.out _).mono ?_
                    rintro e w' ⟨rfl, hw'⟩
                    obtain rfl := hw'.symm
                    clear hw'
                    go_wp2_with fail
                    go_round
                    case rel => exact ⟨k + 1, by omega, by omega, by go_num, HK2⟩
                    case measure => simp [intOf]; omega
                  | false =>
                    rw [hq] at cd
                    have HCD := hZz cd
                    obtain rfl : k = E := by
                      rw [← HK.out, runEnd_stop (fun q => by have := (bk_letter d).2 (by rw [← hd]; exact q.2); rw [hq] at this; exact absurd this (by decide))]
                    have ik1 : (i : Int) ≤ (k : Int) := by omega
                    have ik2 : (k : Int) ≤ (s.size : Int) := by omega
                    clear cd hq
                    go_wp2_with fail
                    refine (HCD.out _).mono ?_
                    rintro e w' ⟨rfl, hw'⟩
                    obtain rfl := hw'.symm
                    clear hw'
                    go_wp2_with (first
                      | (at_builtin; refine wpList_append_own _ rfl _ _ 48 rfl w.heap.size 86 i0 (.agg #[vi ki 0, vS ByteArray.empty, vi ki 0]) 3 32 Tryd.underlying48 hi hz0 hz1 hz2 rfl (by decide) _ n (flatP s l) rfl (HO.out.alloc _) ⟨wr.heap.size, 0, none⟩ 1 1 [vi ki 2, vS (s.extract i k), vi ki (i : Int)] rfl rfl (part_new _ _ _ _ _) (part_one _ _ _) (by unfold maxLen; omega) (by omega) (by have := HB.out.size; simp; omega) ?_; intro v' w3 hown' hgrow3 hnil3
                         have HJ : Hid (w3.ownsRow w.heap.size 86 3 v' (n + 1) (flatP s (l ++ [(2, i, k)])) ∧ Below w.heap.size w w3) := ⟨by rw [flatP_append]; exact hown', Below.grown (HB.out.alloc HB.out.size _) hgrow3 (by have := HB.out.size; simp; omega) (fun k hk => by have := (HO.out.lt _ hk).1; omega)⟩
                         clear hown' hgrow3 hnil3))
                    go_roundw
                    case rel =>
                      refine ⟨k, fuel, l ++ [(2, i, k)], by omega, rfl, ?_, HJ.out.2, HG2, by omega, ?_⟩
                      · rw [List.length_append, HN.out]; exact HJ.out.1
                      · simp only [List.length_append, HN.out, List.length_singleton]; omega
                    case measure => simp [intOf]; omega
                · have hks' : ¬ (k : Int) < (s.size : Int) := by omega
                  obtain rfl : k = E := by rw [← HK.out, runEnd_stop (fun q => hks q.1)]
                  have ik1 : (i : Int) ≤ (k : Int) := by omega
                  have ik2 : (k : Int) ≤ (s.size : Int) := by omega
                  go_wp2_with (first
                    | (at_builtin; refine wpList_append_own _ rfl _ _ 48 rfl w.heap.size 86 i0 (.agg #[vi ki 0, vS ByteArray.empty, vi ki 0]) 3 32 Tryd.underlying48 hi hz0 hz1 hz2 rfl (by decide) _ n (flatP s l) rfl (HO.out.alloc _) ⟨wr.heap.size, 0, none⟩ 1 1 [vi ki 2, vS (s.extract i k), vi ki (i : Int)] rfl rfl (part_new _ _ _ _ _) (part_one _ _ _) (by unfold maxLen; omega) (by omega) (by have := HB.out.size; simp; omega) ?_; intro v' w3 hown' hgrow3 hnil3
                       have HJ : Hid (w3.ownsRow w.heap.size 86 3 v' (n + 1) (flatP s (l ++ [(2, i, k)])) ∧ Below w.heap.size w w3) := ⟨by rw [flatP_append]; exact hown', Below.grown (HB.out.alloc HB.out.size _) hgrow3 (by have := HB.out.size; simp; omega) (fun k hk => by have := (HO.out.lt _ hk).1; omega)⟩
                       clear hown' hgrow3 hnil3))
                  go_roundw
                  case rel =>
                    refine ⟨k, fuel, l ++ [(2, i, k)], by omega, rfl, ?_, HJ.out.2, HG2, by omega, ?_⟩
                    · rw [List.length_append, HN.out]; exact HJ.out.1
                    · simp only [List.length_append, HN.out, List.length_singleton]; omega
                  case measure => simp [intOf]; omega
            · have hkd : bk (bt s i) = 3 := by rw [hc]; exact kk
              have b0 : blankN c = false := by
                cases z : blankN c with
                | false => rfl
                | true => have := kb.1 z; omega
              have b1 : digitN c = false := by
                cases z : digitN c with
                | false => rfl
                | true => have := kd.1 z; omega
              have b2 : letterN c = false := by
                cases z : letterN c with
                | false => rfl
                | true => have := kl.1 z; omega
              have HG2 : Hid (rparts s fuel (i + 1) (l ++ [(3, i, i + 1)]) = G) := by show _ = _; rw [← HS.out, rparts, if_pos hp, if_neg (by omega), if_pos hkd]
              rw [b0] at HBL
              rw [b1] at HDG
              rw [b2] at HLT
              have y1 : (i : Int) + 1 ≤ (s.size : Int) := by omega
              have y2 : (i : Int) ≤ (i : Int) + 1 := by omega
              have y3 : ((i : Int) + 1).toNat = i + 1 := by omega
              have y4 : (0 : Int) ≤ (i : Int) + 1 := by omega
              clear kb kd kl kk hkd HS hc b0 b1 b2
              go_wp2_with fail
              refine (HBL.out _).mono ?_
              rintro e w' ⟨rfl, hw'⟩
              obtain rfl := hw'.symm
              clear hw'
              go_wp2_with fail
              refine (HDG.out _).mono ?_
              rintro e w' ⟨rfl, hw'⟩
              obtain rfl := hw'.symm
              clear hw'
              go_wp2_with fail
              refine (HLT.out _).mono ?_
              rintro e w' ⟨rfl, hw'⟩
              obtain rfl := hw'.symm
              clear hw'
              go_wp2_with (first
                | (at_builtin; refine wpList_append_own _ rfl _ _ 48 rfl w.heap.size 86 i0 (.agg #[vi ki 0, vS ByteArray.empty, vi ki 0]) 3 32 Tryd.underlying48 hi hz0 hz1 hz2 rfl (by decide) _ n (flatP s l) rfl (HO.out.alloc _) ⟨wr.heap.size, 0, none⟩ 1 1 [vi ki 3, vS (s.extract i (i + 1)), vi ki (i : Int)] rfl rfl (part_new _ _ _ _ _) (part_one _ _ _) (by unfold maxLen; omega) (by omega) (by have := HB.out.size; simp; omega) ?_; intro v' w3 hown' hgrow3 hnil3
                   have HJ : Hid (w3.ownsRow w.heap.size 86 3 v' (n + 1) (flatP s (l ++ [(3, i, (i + 1))])) ∧ Below w.heap.size w w3) := ⟨by rw [flatP_append]; exact hown', Below.grown (HB.out.alloc HB.out.size _) hgrow3 (by have := HB.out.size; simp; omega) (fun k hk => by have := (HO.out.lt _ hk).1; omega)⟩
                   clear hown' hgrow3 hnil3))
              go_roundw
              case rel =>
                refine ⟨i + 1, fuel, l ++ [(3, i, i + 1)], by omega, by go_num, ?_, HJ.out.2, HG2, by omega, ?_⟩
                · rw [List.length_append, HN.out]; exact HJ.out.1
                · simp only [List.length_append, HN.out, List.length_singleton]; omega
              case measure => simp [intOf]; omega
        · have hp' : ¬ (i : Int) < (s.size : Int) := by omega
          have e : l = rparts s s.size 0 [] := by rw [HG.out, ← HS.out, rparts_end s fuel i l hp]
          go_wp2_with fail
          go_ret3
          exact ⟨HB.out, rsplit_yes _ e rfl (by rw [HN.out]; exact HO.out)⟩
theorem rsplit_long (s : ByteArray) (w : World) (hs : s.size ≤ maxLen) (hsz : ¬ s.size ≤ 2048) :
  Calls Tryd.prog 16 #[vS s] w fun e w' => e = zr (.tuple #[vL none 0 0, vi ki 0, vi ki 3]) ∧ w' = w := by
 unfold maxLen at hs
 have hsi : (2048 : Int) < (s.size : Int) := by omega
 go_enter Tryd.func16, Tryd.ntmps16
 go_wp2_with fail
 go_ret3
 exact ⟨rfl, rfl⟩
end Go.Proofs.YtaoocecipacnhaaDoor
