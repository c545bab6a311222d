/- Plain mathematics: what the fields of a source's lines may be. -/
import Derived.Test.YtgnfkkcagbbhmaaGreatDoorLnCq
namespace Go.Proofs.YtgnfkkcagbbhmaaGreatDoor.Lin
open Go.RowKit
set_option linter.unusedVariables false

/-- a byte that a field may have. -/
def gb (c : UInt8) : Prop := c.toNat ≠ 34 ∧ (c.toNat = 9 ∨ (32 ≤ c.toNat ∧ c.toNat ≤ 126))
def GoodF (k : Nat) (f : ByteArray) : Prop := (∀ c ∈ f.data.toList, gb c) ∧ f.size ≤ k
theorem kind_four {c : Nat} {q : Bool} (h : kindN c q = 4) : c ≠ 34 ∧ (c = 9 ∨ (32 ≤ c ∧ c ≤ 126)) := by
  unfold kindN at h
  split at h
  · omega
  · split at h
    · omega
    · split at h
      · rename_i h1 h2 h3
        refine ⟨h1, ?_⟩
        split at h
        · rename_i hq
          have : ¬ c = 13 := fun e => h2 ⟨e, hq⟩
          omega
        · omega
      · split at h
        · omega
        · split at h
          · omega
          · omega
def SInvG (k : Nat) (s : LSt) : Prop := (∀ f ∈ s.out, GoodF k f) ∧ (∀ c ∈ s.fld, gb c) ∧ s.fld.length ≤ k
theorem good_mono {k k' : Nat} {f : ByteArray} (h : GoodF k f) (hk : k ≤ k') : GoodF k' f := ⟨h.1, Nat.le_trans h.2 hk⟩
theorem fin_good {k : Nat} {s : LSt} (h : SInvG k s) : ∀ f ∈ fin s, GoodF k f := by
  intro f hf
  unfold fin at hf
  split at hf
  · rcases List.mem_append.1 hf with hf | hf
    · exact h.1 f hf
    · rw [List.mem_singleton.1 hf]
      exact ⟨by simpa using h.2.1, by show s.fld.toArray.size ≤ k; simpa using h.2.2⟩
  · exact h.1 f hf
theorem stp_good {k : Nat} {s s' : LSt} {c : UInt8} (h : SInvG k s) (e : stp s c = some s') : SInvG (k + 1) s' := by
  obtain ⟨h1, h2, h3⟩ := h
  have hm : ∀ f ∈ s.out, GoodF (k + 1) f := fun f hf => good_mono (h1 f hf) (by omega)
  unfold stp at e
  split at e
  · exact absurd e (by simp)
  · split at e
    · cases e; exact ⟨hm, h2, by omega⟩
    · split at e
      · rename_i h4
        cases e
        refine ⟨hm, fun x hx => ?_, by show (s.fld ++ [c]).length ≤ _; rw [List.length_append]; show _ + 1 ≤ _; omega⟩
        rcases List.mem_append.1 hx with hx | hx
        · exact h2 x hx
        · rw [List.mem_singleton.1 hx]; exact kind_four h4
      · split at e
        · cases e; exact ⟨hm, h2, by show s.fld.length ≤ _; omega⟩
        · split at e
          · cases e; exact ⟨hm, h2, by show s.fld.length ≤ _; omega⟩
          · cases e
            exact ⟨fun f hf => good_mono (fin_good ⟨h1, h2, h3⟩ f hf) (by omega), ⟨fun x (hx : x ∈ ([] : List UInt8)) => absurd hx (by simp), Nat.zero_le _⟩⟩
theorem run_good : ∀ (l : List UInt8) (k : Nat) (s s' : LSt), SInvG k s → runL l s = some s' → SInvG (k + l.length) s'
  | [], k, s, s', h, e => by
    have : s = s' := by simpa [runL] using e
    subst this; exact h
  | c :: l, k, s, s', h, e => by
    rw [runL_cons] at e
    cases hs : stp s c with
    | none => rw [hs] at e; exact absurd e (by simp)
    | some s1 =>
      rw [hs] at e
      have := run_good l (k + 1) s1 s' (stp_good h hs) e
      rw [List.length_cons, show k + (l.length + 1) = k + 1 + l.length by omega]
      exact this
theorem one_good {t : List UInt8} {F : List ByteArray} (h : oneL t = some F) : ∀ f ∈ F, GoodF t.length f := by
  unfold oneL oneR at h
  cases hr : runL t lst0 with
  | none => rw [hr] at h; exact absurd h (by simp)
  | some s =>
    rw [hr] at h
    have hg := run_good t 0 lst0 s ⟨fun f (hf : f ∈ ([] : List ByteArray)) => absurd hf (by simp), ⟨fun x (hx : x ∈ ([] : List UInt8)) => absurd hx (by simp), Nat.le_refl _⟩⟩ hr
    rw [Nat.zero_add] at hg
    have h' : ends s = some F := h
    unfold ends at h'
    split at h'
    · exact absurd h' (by simp)
    · have : fin s = F := by simpa using h'
      rw [← this]; exact fin_good hg
theorem pieces_len : ∀ (l cur : List UInt8) (p : List UInt8), p ∈ pieces cur l → p.length ≤ cur.length + l.length
  | [], cur, p, h => by
    have : p = cur := by simpa [pieces] using h
    subst this; simp
  | c :: l, cur, p, h => by
    rw [pieces] at h
    split at h
    · rcases List.mem_cons.1 h with h | h
      · subst h; simp
      · have := pieces_len l [] p h
        simp at this ⊢; omega
    · have := pieces_len l (cur ++ [c]) p h
      simp at this ⊢; omega
/-- lines that came of a source. -/
def GoodL (L : List Lne) : Prop := L.length ≤ 400 ∧ ∀ p ∈ L, 1 ≤ p.2.length ∧ p.2.length ≤ 16 ∧ ∀ f ∈ p.2, GoodF 8192 f
theorem lnsF_good : ∀ (ts : List (List UInt8)) (n : Nat) (acc L : List Lne), (∀ t ∈ ts, t.length ≤ 8192) → GoodL acc → lnsF ts n acc = .inr L → GoodL L
  | [], n, acc, L, _, h, e => by
    have : acc = L := by simpa [lnsF] using e
    rw [← this]; exact h
  | t :: ts, n, acc, L, ht, h, e => by
    cases ho : oneL t with
    | none => rw [lnsF_none ho] at e; exact absurd e (by simp)
    | some F =>
      rw [lnsF_some ho] at e
      have ht' : ∀ t ∈ ts, t.length ≤ 8192 := fun x hx => ht x (List.mem_cons_of_mem _ hx)
      by_cases h1 : F.length = 0
      · rw [if_pos h1] at e; exact lnsF_good ts _ _ _ ht' h e
      · rw [if_neg h1] at e
        by_cases h2 : 16 < F.length ∨ acc.length = 400
        · rw [if_pos h2] at e; exact absurd e (by simp)
        · rw [if_neg h2] at e
          refine lnsF_good ts _ _ _ ht' ⟨?_, fun p hp => ?_⟩ e
          · have := h.1
            rw [List.length_append]; show _ + 1 ≤ _; omega
          · rcases List.mem_append.1 hp with hp | hp
            · exact h.2 p hp
            · rw [List.mem_singleton.1 hp]
              exact ⟨by show 1 ≤ F.length; omega, by show F.length ≤ 16; omega, fun f hf => good_mono (one_good ho f hf) (ht t List.mem_cons_self)⟩
theorem lnsS_good {s : ByteArray} {L : List Lne} (h : lnsS s = .inr L) : GoodL L := by
  unfold lnsS at h
  split at h
  · exact absurd h (by simp)
  · rename_i hs
    refine lnsF_good _ _ _ _ (fun t ht => ?_) ⟨Nat.zero_le _, fun p hp => by cases hp⟩ h
    have := pieces_len _ _ t ht
    simp at this
    omega

end Go.Proofs.YtgnfkkcagbbhmaaGreatDoor.Lin
