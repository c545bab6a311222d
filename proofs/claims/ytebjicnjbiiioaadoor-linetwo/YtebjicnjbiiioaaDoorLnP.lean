/- Plain mathematics: the lines of a source, written as a source, are read as the same fields. -/
import Derived.Test.YtebjicnjbiiioaaDoorLnK
namespace Go.Proofs.YtebjicnjbiiioaaDoor
open Go.RowKit
set_option linter.unusedVariables false

/-- a byte that a field may have. -/
def gb (c : UInt8) : Prop := c.toNat ≠ 34 ∧ (c.toNat = 9 ∨ (32 ≤ c.toNat ∧ c.toNat ≤ 126))
def GoodF (k : Nat) (f : ByteArray) : Prop := (∀ c ∈ f.data.toList, gb c) ∧ f.size ≤ k
theorem kind_four {c : Nat} {q : Bool} (h : kindN c q = 4) : c ≠ 34 ∧ (c = 9 ∨ (32 ≤ c ∧ c ≤ 126)) := by
  unfold kindN at h
  split at h
  · omega
  · split at h
    · omega
    · split at h
      · rename_i h1 h2 h3
        refine ⟨h1, ?_⟩
        split at h
        · rename_i hq
          have : ¬ c = 13 := fun e => h2 ⟨e, hq⟩
          omega
        · omega
      · split at h
        · omega
        · split at h
          · omega
          · omega
def SInvG (k : Nat) (s : LSt) : Prop := (∀ f ∈ s.out, GoodF k f) ∧ (∀ c ∈ s.fld, gb c) ∧ s.fld.length ≤ k
theorem good_mono {k k' : Nat} {f : ByteArray} (h : GoodF k f) (hk : k ≤ k') : GoodF k' f := ⟨h.1, Nat.le_trans h.2 hk⟩
theorem fin_good {k : Nat} {s : LSt} (h : SInvG k s) : ∀ f ∈ fin s, GoodF k f := by
  intro f hf
  unfold fin at hf
  split at hf
  · rcases List.mem_append.1 hf with hf | hf
    · exact h.1 f hf
    · rw [List.mem_singleton.1 hf]
      exact ⟨by simpa using h.2.1, by show s.fld.toArray.size ≤ k; simpa using h.2.2⟩
  · exact h.1 f hf
theorem stp_good {k : Nat} {s s' : LSt} {c : UInt8} (h : SInvG k s) (e : stp s c = some s') : SInvG (k + 1) s' := by
  obtain ⟨h1, h2, h3⟩ := h
  have hm : ∀ f ∈ s.out, GoodF (k + 1) f := fun f hf => good_mono (h1 f hf) (by omega)
  unfold stp at e
  split at e
  · exact absurd e (by simp)
  · split at e
    · cases e; exact ⟨hm, h2, by omega⟩
    · split at e
      · rename_i h4
        cases e
        refine ⟨hm, fun x hx => ?_, by show (s.fld ++ [c]).length ≤ _; rw [List.length_append]; show _ + 1 ≤ _; omega⟩
        rcases List.mem_append.1 hx with hx | hx
        · exact h2 x hx
        · rw [List.mem_singleton.1 hx]; exact kind_four h4
      · split at e
        · cases e; exact ⟨hm, h2, by show s.fld.length ≤ _; omega⟩
        · split at e
          · cases e; exact ⟨hm, h2, by show s.fld.length ≤ _; omega⟩
          · cases e
            exact ⟨fun f hf => good_mono (fin_good ⟨h1, h2, h3⟩ f hf) (by omega), ⟨fun x (hx : x ∈ ([] : List UInt8)) => absurd hx (by simp), Nat.zero_le _⟩⟩
theorem run_good : ∀ (l : List UInt8) (k : Nat) (s s' : LSt), SInvG k s → runL l s = some s' → SInvG (k + l.length) s'
  | [], k, s, s', h, e => by
    have : s = s' := by simpa [runL] using e
    subst this; exact h
  | c :: l, k, s, s', h, e => by
    rw [runL_cons] at e
    cases hs : stp s c with
    | none => rw [hs] at e; exact absurd e (by simp)
    | some s1 =>
      rw [hs] at e
      have := run_good l (k + 1) s1 s' (stp_good h hs) e
      rw [List.length_cons, show k + (l.length + 1) = k + 1 + l.length by omega]
      exact this
theorem one_good {t : List UInt8} {F : List ByteArray} (h : oneL t = some F) : ∀ f ∈ F, GoodF t.length f := by
  unfold oneL oneR at h
  cases hr : runL t lst0 with
  | none => rw [hr] at h; exact absurd h (by simp)
  | some s =>
    rw [hr] at h
    have hg := run_good t 0 lst0 s ⟨fun f (hf : f ∈ ([] : List ByteArray)) => absurd hf (by simp), ⟨fun x (hx : x ∈ ([] : List UInt8)) => absurd hx (by simp), Nat.le_refl _⟩⟩ hr
    rw [Nat.zero_add] at hg
    have h' : ends s = some F := h
    unfold ends at h'
    split at h'
    · exact absurd h' (by simp)
    · have : fin s = F := by simpa using h'
      rw [← this]; exact fin_good hg
theorem pieces_len : ∀ (l cur : List UInt8) (p : List UInt8), p ∈ pieces cur l → p.length ≤ cur.length + l.length
  | [], cur, p, h => by
    have : p = cur := by simpa [pieces] using h
    subst this; simp
  | c :: l, cur, p, h => by
    rw [pieces] at h
    split at h
    · rcases List.mem_cons.1 h with h | h
      · subst h; simp
      · have := pieces_len l [] p h
        simp at this ⊢; omega
    · have := pieces_len l (cur ++ [c]) p h
      simp at this ⊢; omega
/-- lines that came of a source. -/
def GoodL (L : List Lne) : Prop := L.length ≤ 400 ∧ ∀ p ∈ L, 1 ≤ p.2.length ∧ p.2.length ≤ 16 ∧ ∀ f ∈ p.2, GoodF 8192 f
theorem lnsF_good : ∀ (ts : List (List UInt8)) (n : Nat) (acc L : List Lne), (∀ t ∈ ts, t.length ≤ 8192) → GoodL acc → lnsF ts n acc = .inr L → GoodL L
  | [], n, acc, L, _, h, e => by
    have : acc = L := by simpa [lnsF] using e
    rw [← this]; exact h
  | t :: ts, n, acc, L, ht, h, e => by
    cases ho : oneL t with
    | none => rw [lnsF_none ho] at e; exact absurd e (by simp)
    | some F =>
      rw [lnsF_some ho] at e
      have ht' : ∀ t ∈ ts, t.length ≤ 8192 := fun x hx => ht x (List.mem_cons_of_mem _ hx)
      by_cases h1 : F.length = 0
      · rw [if_pos h1] at e; exact lnsF_good ts _ _ _ ht' h e
      · rw [if_neg h1] at e
        by_cases h2 : 16 < F.length ∨ acc.length = 400
        · rw [if_pos h2] at e; exact absurd e (by simp)
        · rw [if_neg h2] at e
          refine lnsF_good ts _ _ _ ht' ⟨?_, fun p hp => ?_⟩ e
          · have := h.1
            rw [List.length_append]; show _ + 1 ≤ _; omega
          · rcases List.mem_append.1 hp with hp | hp
            · exact h.2 p hp
            · rw [List.mem_singleton.1 hp]
              exact ⟨by show 1 ≤ F.length; omega, by show F.length ≤ 16; omega, fun f hf => good_mono (one_good ho f hf) (ht t List.mem_cons_self)⟩
theorem lnsS_good {s : ByteArray} {L : List Lne} (h : lnsS s = .inr L) : GoodL L := by
  unfold lnsS at h
  split at h
  · exact absurd h (by simp)
  · rename_i hs
    refine lnsF_good _ _ _ _ (fun t ht => ?_) ⟨Nat.zero_le _, fun p hp => by cases hp⟩ h
    have := pieces_len _ _ t ht
    simp at this
    omega
theorem fine_good {L : List Lne} (h : GoodL L) : Fine L := ⟨h.1, fun p hp => ⟨(h.2 p hp).2.1, fun f hf => ⟨((h.2 p hp).2.2 f hf).2, fun j b hb => by
  have := ((h.2 p hp).2.2 f hf).1 b (List.mem_of_getElem? hb)
  unfold gb at this; omega⟩⟩⟩

/-! ## there and back -/
theorem run_append (a b : List UInt8) : ∀ (s s' : LSt), runL a s = some s' → runL (a ++ b) s = runL b s' := by
  induction a with
  | nil =>
    intro s s' h
    have : s = s' := by simpa [runL] using h
    rw [this]; rfl
  | cons c a ih =>
    intro s s' h
    rw [runL_cons] at h
    rw [List.cons_append, runL_cons]
    cases hs : stp s c with
    | none => rw [hs] at h; exact absurd h (by simp)
    | some s1 => rw [hs] at h; exact ih s1 s' h
theorem any_none : ∀ (l cs : List UInt8), Lib.containsAny l cs = false → ∀ c ∈ l, cs.contains c = false
  | [], cs, _, c, hc => by cases hc
  | b :: l, cs, h, c, hc => by
    have hge := Lib.indexAny_ge cs l
    unfold Lib.containsAny at h
    have h := of_decide_eq_false h
    unfold Lib.indexAny at h
    by_cases hb : cs.contains b = true
    · rw [if_pos hb] at h; omega
    · rw [if_neg hb] at h
      have hl : Lib.indexAny l cs = -1 := by
        by_cases q : Lib.indexAny l cs = -1
        · exact q
        · simp [q] at h; omega
      rcases List.mem_cons.1 hc with hc | hc
      · subst hc; simpa using hb
      · exact any_none l cs (by unfold Lib.containsAny; rw [hl]; rfl) c hc
/-- bytes of a field, out of quotes. -/
theorem run_out (o : List ByteArray) : ∀ (l pre : List UInt8) (b : Bool), (∀ c ∈ l, gb c ∧ [32, 9, 35].contains c = false) → runL l ⟨o, pre, b, false, false⟩ = some ⟨o, pre ++ l, b || !l.isEmpty, false, false⟩
  | [], pre, b, _ => by simp [runL]
  | c :: l, pre, b, h => by
    obtain ⟨⟨g1, g2⟩, g3⟩ := h c List.mem_cons_self
    have h32 : c.toNat ≠ 32 := fun e => by
      have : c = 32 := UInt8.toNat_inj.1 e
      subst this; exact absurd g3 (by decide)
    have h9 : c.toNat ≠ 9 := fun e => by
      have : c = 9 := UInt8.toNat_inj.1 e
      subst this; exact absurd g3 (by decide)
    have h35 : c.toNat ≠ 35 := fun e => by
      have : c = 35 := UInt8.toNat_inj.1 e
      subst this; exact absurd g3 (by decide)
    have hk : kindN c.toNat false = 4 := by
      unfold kindN
      rw [if_neg g1, if_neg (by simp), if_neg (by omega), if_neg h35, if_pos (by omega)]
    rw [run_plain (s := ⟨o, pre, b, false, false⟩) hk rfl]
    show runL l ⟨o, pre ++ [c], true, false, false⟩ = _
    rw [run_out o l _ _ (fun x hx => h x (List.mem_cons_of_mem _ hx))]
    simp
/-- bytes of a field, in quotes. -/
theorem run_in (o : List ByteArray) : ∀ (l pre : List UInt8), (∀ c ∈ l, gb c) → runL l ⟨o, pre, true, true, false⟩ = some ⟨o, pre ++ l, true, true, false⟩
  | [], pre, _ => by simp [runL]
  | c :: l, pre, h => by
    obtain ⟨g1, g2⟩ := h c List.mem_cons_self
    have hk : kindN c.toNat true = 4 := by
      unfold kindN
      rw [if_neg g1, if_neg (by omega)]
      by_cases q1 : c.toNat = 32 ∨ c.toNat = 9 ∨ c.toNat = 13
      · rw [if_pos q1, if_pos rfl]
      · rw [if_neg q1]
        by_cases q2 : c.toNat = 35
        · rw [if_pos q2, if_pos rfl]
        · rw [if_neg q2, if_pos (by omega)]
    rw [run_plain (s := ⟨o, pre, true, true, false⟩) hk rfl]
    show runL l ⟨o, pre ++ [c], true, true, false⟩ = _
    rw [run_in o l _ (fun x hx => h x (List.mem_cons_of_mem _ hx))]
    simp
theorem run_field (o : List ByteArray) (f : ByteArray) (hf : ∀ c ∈ f.data.toList, gb c) : runL (wrB f).data.toList ⟨o, [], false, false, false⟩ = some ⟨o, f.data.toList, true, false, false⟩ := by
  unfold wrB
  by_cases hq : wrQ f = true
  · rw [if_pos hq]
    have e : (⟨#[34]⟩ ++ f ++ ⟨#[34]⟩ : ByteArray).data.toList = 34 :: (f.data.toList ++ [34]) := by
      rw [ByteArray.data_append, ByteArray.data_append]; simp
    rw [e, run_quote (s := ⟨o, [], false, false, false⟩) (by rfl) rfl]
    show runL (f.data.toList ++ [34]) ⟨o, [], true, true, false⟩ = _
    rw [run_append _ _ _ _ (run_in o _ [] hf), List.nil_append, run_quote (s := ⟨o, f.data.toList, true, true, false⟩) (by rfl) rfl]
    rfl
  · rw [if_neg hq]
    unfold wrQ at hq
    have hq2 : decide (f.size = 0) = false ∧ Lib.containsAny f.data.toList [32, 9, 35] = false := by
      cases h1 : decide (f.size = 0)
      · cases h2 : Lib.containsAny f.data.toList [32, 9, 35]
        · exact ⟨rfl, rfl⟩
        · rw [h1, h2] at hq; exact absurd rfl hq
      · rw [h1] at hq; exact absurd rfl hq
    have h0 := of_decide_eq_false hq2.1
    have hn := any_none _ _ hq2.2
    rw [run_out o _ [] false (fun c hc => ⟨hf c hc, hn c hc⟩)]
    have : f.data.toList.isEmpty = false := by
      rw [List.isEmpty_eq_false_iff]
      intro e
      have hl : f.data.toList.length = f.size := by simp
      rw [e] at hl
      exact h0 hl.symm
    rw [this]; simp
theorem get_good {F : List ByteArray} (h : ∀ f ∈ F, GoodF 8192 f) {j : Nat} (hj : j < F.length) : ∃ f, F.getD j ⟨#[]⟩ = f ∧ F[j]? = some f ∧ ∀ c ∈ f.data.toList, gb c := by
  refine ⟨F[j], ?_, List.getElem?_eq_getElem hj, (h _ (List.getElem_mem hj)).1⟩
  rw [List.getD_eq_getElem?_getD, List.getElem?_eq_getElem hj]; rfl
theorem run_part (F : List ByteArray) (h : ∀ f ∈ F, GoodF 8192 f) : ∀ j, j < F.length → runL (partF F (j + 1)) lst0 = some ⟨F.take j, (F.getD j ⟨#[]⟩).data.toList, true, false, false⟩
  | 0, hj => by
    obtain ⟨f, e1, e2, g⟩ := get_good h hj
    rw [partF, e1]
    show runL (([] ++ []) ++ (wrB f).data.toList) lst0 = _
    rw [List.nil_append, List.nil_append]
    exact run_field [] f g
  | j + 1, hj => by
    obtain ⟨f, e1, e2, g⟩ := get_good h hj
    obtain ⟨f0, d1, d2, _⟩ := get_good h (show j < F.length by omega)
    have ih := run_part F h j (by omega)
    rw [partF, e1, if_pos (by omega), List.append_assoc, run_append _ _ _ _ ih, List.singleton_append, run_blank (s := ⟨F.take j, (F.getD j ⟨#[]⟩).data.toList, true, false, false⟩) (by rfl) rfl]
    have e : fin ⟨F.take j, (F.getD j ⟨#[]⟩).data.toList, true, false, false⟩ = F.take (j + 1) := by
      rw [fin_yes rfl, List.take_add_one, d2, d1]; rfl
    rw [e]
    exact run_field _ f g
theorem one_back (F : List ByteArray) (h : ∀ f ∈ F, GoodF 8192 f) (hn : 1 ≤ F.length) : oneL (partF F F.length) = some F := by
  obtain ⟨j, hj⟩ : ∃ j, F.length = j + 1 := ⟨F.length - 1, by omega⟩
  obtain ⟨f0, d1, d2, _⟩ := get_good h (show j < F.length by omega)
  unfold oneL
  rw [hj, run_part F h j (by omega)]
  show some (fin _) = _
  rw [fin_yes rfl, d1]
  show some (F.take j ++ [f0]) = some F
  congr 1
  have : F.take (j + 1) = F.take j ++ [f0] := by rw [List.take_add_one, d2]; rfl
  rw [← this, List.take_of_length_le (by omega)]
theorem part_noten (F : List ByteArray) (h : ∀ f ∈ F, GoodF 8192 f) : ∀ j, j ≤ F.length → ∀ c ∈ partF F j, c ≠ 10
  | 0, _, c, hc => by cases hc
  | j + 1, hj, c, hc => by
    obtain ⟨f, e1, e2, g⟩ := get_good h (show j < F.length by omega)
    rw [partF, e1] at hc
    rcases List.mem_append.1 hc with hc | hc
    · rcases List.mem_append.1 hc with hc | hc
      · exact part_noten F h j (by omega) c hc
      · split at hc
        · rw [List.mem_singleton.1 hc]; decide
        · cases hc
    · intro e
      subst e
      unfold wrB at hc
      split at hc
      · rw [ByteArray.data_append, ByteArray.data_append] at hc
        have : (10 : UInt8) ∈ f.data.toList := by simpa using hc
        have := g 10 this
        unfold gb at this
        exact absurd this (by decide)
      · have := g 10 hc
        unfold gb at this
        exact absurd this (by decide)
theorem pieces_line : ∀ (p cur r : List UInt8), (∀ c ∈ p, c ≠ 10) → pieces cur (p ++ 10 :: r) = (cur ++ p) :: pieces [] r
  | [], cur, r, _ => by simp [pieces]
  | c :: p, cur, r, h => by
    rw [List.cons_append, pieces, if_neg (h c List.mem_cons_self), pieces_line p _ r (fun x hx => h x (List.mem_cons_of_mem _ hx))]
    simp
theorem joinK_flat (L : List Lne) : ∀ k, k ≤ L.length → joinK L k = ((L.take k).map (fun p => lineF p.2)).flatten
  | 0, _ => by simp [joinK]
  | k + 1, hk => by
    have hk' : k < L.length := by omega
    have e1 : L.take (k + 1) = L.take k ++ [L[k]] := by rw [List.take_add_one, List.getElem?_eq_getElem hk']; rfl
    have e2 : L.getD k (0, []) = L[k] := by rw [List.getD_eq_getElem?_getD, List.getElem?_eq_getElem hk']; rfl
    rw [joinK, joinK_flat L k (by omega), e1, e2, List.map_append, List.flatten_append, List.map_cons, List.map_nil, List.flatten_cons, List.flatten_nil, List.append_nil]
theorem pieces_join : ∀ L : List Lne, (∀ p ∈ L, ∀ f ∈ p.2, GoodF 8192 f) → pieces [] ((L.map (fun p => lineF p.2)).flatten) = L.map (fun p => partF p.2 p.2.length) ++ [[]]
  | [], _ => by simp [pieces]
  | p :: L, h => by
    rw [List.map_cons, List.flatten_cons, lineF, List.append_assoc, List.singleton_append, pieces_line _ _ _ (part_noten p.2 (h p List.mem_cons_self) _ (Nat.le_refl _)), pieces_join L (fun x hx => h x (List.mem_cons_of_mem _ hx))]
    simp
theorem lnsF_back : ∀ (L : List Lne) (n : Nat) (acc : List Lne), (∀ p ∈ L, 1 ≤ p.2.length ∧ p.2.length ≤ 16 ∧ ∀ f ∈ p.2, GoodF 8192 f) → acc.length + L.length ≤ 400 →
    ∃ M, lnsF (L.map (fun p => partF p.2 p.2.length) ++ [[]]) n acc = .inr (acc ++ M) ∧ M.map (fun p => p.2) = L.map (fun p => p.2)
  | [], n, acc, _, _ => by
    refine ⟨[], ?_, rfl⟩
    have : oneL [] = some [] := rfl
    rw [List.map_nil, List.nil_append, lnsF_some this, if_pos (show ([] : List ByteArray).length = 0 from rfl), List.append_nil]; rfl
  | p :: L, n, acc, h, hl => by
    obtain ⟨h1, h2, h3⟩ := h p List.mem_cons_self
    rw [List.length_cons] at hl
    obtain ⟨M, e1, e2⟩ := lnsF_back L (n + 1) (acc ++ [((n : Int) + 1, p.2)]) (fun x hx => h x (List.mem_cons_of_mem _ hx)) (by rw [List.length_append]; show _ + 1 + _ ≤ _; omega)
    refine ⟨((n : Int) + 1, p.2) :: M, ?_, by rw [List.map_cons, List.map_cons, e2]⟩
    rw [List.map_cons, List.cons_append, lnsF_some (one_back p.2 h3 h1), if_neg (by omega), if_neg (by omega), e1]
    simp
/-- the lines of a source, written and read again. -/
theorem split_back {s : ByteArray} {L : List Lne} (h : lnsS s = .inr L) (hz : ¬ 8192 < (joinB L).size) : ∃ M, lnsS (joinB L) = .inr M ∧ M.map (fun p => p.2) = L.map (fun p => p.2) := by
  have hg := lnsS_good h
  obtain ⟨M, e1, e2⟩ := lnsF_back L 0 [] hg.2 (by have := hg.1; simpa using this)
  refine ⟨M, ?_, e2⟩
  have ej : (joinB L).data.toList = (L.map (fun p => lineF p.2)).flatten := by
    show joinK L L.length = _
    rw [joinK_flat L _ (Nat.le_refl _), List.take_of_length_le (Nat.le_refl _)]
  unfold lnsS
  rw [if_neg hz, ej, pieces_join L (fun p hp => (hg.2 p hp).2.2), e1, List.nil_append]

end Go.Proofs.YtebjicnjbiiioaaDoor
