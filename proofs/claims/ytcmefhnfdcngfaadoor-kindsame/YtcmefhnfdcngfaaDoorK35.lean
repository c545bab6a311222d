import Derived.Test.YtcmefhnfdcngfaaDoorK33
import Derived.Test.YtcmefhnfdcngfaaDoorK34
/- Kinds of expressions that are alike; casts to an expression's own kind. -/
namespace Go.Proofs.YtcmefhnfdcngfaaDoor
open Go.RowKit
set_option linter.unusedVariables false

def ChA : Sum Int (Int × Bool) → Sum Int (Int × Bool) → Prop
  | .inl _, .inl _ => True
  | .inr x, .inr y => x = y
  | _, _ => False
def ChB : Sum Int (List Int) → Sum Int (List Int) → Prop
  | .inl _, .inl _ => True
  | .inr x, .inr y => x = y
  | _, _ => False
theorem al_chL {ks ls : List Nd} (h : F2 AlN ks ls) : (∀ n ∈ ks, ∀ m, AlN n m → ChA (chN n) (chN m)) → ChB (chL ks) (chL ls) := by
  induction h with
  | nil => intro _; rw [chL]; exact rfl
  | @cons a b l m hab hl ih =>
    intro H
    have h1 := H a List.mem_cons_self b hab
    have h2 := ih (fun n hn => H n (List.mem_cons_of_mem _ hn))
    rw [chL, chL]
    cases ha : chN a with
    | inl x =>
      cases hb : chN b with
      | inl y => trivial
      | inr y => rw [ha, hb] at h1; exact h1.elim
    | inr x =>
      cases hb : chN b with
      | inl y => rw [ha, hb] at h1; exact h1.elim
      | inr y =>
        rw [ha, hb] at h1
        obtain rfl : x = y := h1
        obtain ⟨k, t⟩ := x
        cases t with
        | true => trivial
        | false =>
          cases hc : chL l with
          | inl u =>
            cases hd : chL m with
            | inl v => trivial
            | inr v => rw [hc, hd] at h2; exact h2.elim
          | inr u =>
            cases hd : chL m with
            | inl v => rw [hc, hd] at h2; exact h2.elim
            | inr v => rw [hc, hd] at h2; obtain rfl : u = v := h2; exact rfl
theorem al_ch (n : Nd) : ∀ m, AlN n m → ChA (chN n) (chN m) := by
  have hn := PlN.all n
  induction hn with
  | mk k t ks a ha hk ih =>
    intro m h
    cases h with
    | mk _ _ _ ls _ b hF =>
      rw [chN, chN]
      cases wrt k with
      | some r => exact rfl
      | none =>
        have h2 := al_chL hF ih
        dsimp only
        cases hc : chL ks with
        | inl u =>
          cases hd : chL ls with
          | inl v => trivial
          | inr v => rw [hc, hd] at h2; exact h2.elim
        | inr u =>
          cases hd : chL ls with
          | inl v => rw [hc, hd] at h2; exact h2.elim
          | inr v =>
            rw [hc, hd] at h2
            obtain rfl : u = v := h2
            show ChA (apO _ _ _) (apO _ _ _)
            cases opOf k t with
            | none => trivial
            | some s =>
              unfold apO
              dsimp only
              cases finF s u with
              | none => trivial
              | some r => exact rfl
def rgT (x : ByteArray × ByteArray) : Bool := (rowsF x.2).all (fun r => decide (1 ≤ r.getD (r.length - 1) 0 ∧ r.getD (r.length - 1) 0 ≤ 8))
theorem tbl_rg : tbl.all rgT = true := by decide +kernel
theorem fRow_rg {args : List Int} {k : Int} : ∀ (R : List (List Int)), R.all (fun r => decide (1 ≤ r.getD (r.length - 1) 0 ∧ r.getD (r.length - 1) 0 ≤ 8)) = true → fRow args R = some k → 1 ≤ k ∧ k ≤ 8
  | [], h, e => by cases e
  | r :: R, h, e => by
    rw [List.all_cons, Bool.and_eq_true, decide_eq_true_eq] at h
    rw [fRow] at e
    split at e
    · cases e; exact h.1
    · exact fRow_rg R h.2 e
theorem fTab_rg {op : ByteArray} {args : List Int} {k : Int} : ∀ (T : List (ByteArray × ByteArray)), T.all rgT = true → fTab op args T = some k → 1 ≤ k ∧ k ≤ 8
  | [], h, e => by cases e
  | x :: T, h, e => by
    rw [List.all_cons, Bool.and_eq_true] at h
    rw [fTab] at e
    split at e
    · split at e
      · rename_i k' hk; cases e; exact fRow_rg _ h.1 hk
      · exact fTab_rg T h.2 e
    · exact fTab_rg T h.2 e
theorem ch_rg {n : Nd} {k : Int} {l : Bool} (h : chN n = .inr (k, l)) : 1 ≤ k ∧ k ≤ 8 := by
  cases n with
  | mk k0 t ks a =>
    rw [chN] at h
    cases hw : wrt k0 with
    | some r =>
      rw [hw] at h
      cases h
      unfold wrt at hw
      repeat' (split at hw)
      all_goals (first | (cases hw; omega) | cases hw)
    | none =>
      rw [hw] at h
      dsimp only at h
      cases hc : chL ks with
      | inl u => rw [hc] at h; cases h
      | inr u =>
        rw [hc] at h
        change apO _ _ _ = _ at h
        cases ho : opOf k0 t with
        | none => rw [ho] at h; cases h
        | some s =>
          rw [ho] at h
          unfold apO at h
          dsimp only at h
          cases hf : finF s u with
          | none => rw [hf] at h; cases h
          | some r => rw [hf] at h; cases h; exact fTab_rg tbl tbl_rg hf
/-- what a cast to the kind k is. -/
def CsOk (k : Int) (N : ByteArray) (z : Int) : Prop :=
  knN k = N ∧ toksB ((⟨#[58, 58]⟩ : ByteArray) ++ N) = .inr [(5, ⟨#[58, 58]⟩, 0), (4, N, 2), (0, ⟨#[]⟩, z)] ∧ free (4, N, 2) = true ∧ finF ((⟨#[58, 58]⟩ : ByteArray) ++ N) [k] = (if k = 1 then none else some k) ∧ decide (((⟨#[58, 58]⟩ : ByteArray) ++ N) = srs) = false ∧ N.size ≤ 11
theorem cs_1 : CsOk 1 ⟨#[98, 111, 111, 108]⟩ 6 := ⟨by decide +kernel, by decide +kernel, by decide +kernel, by decide +kernel, by decide +kernel, by decide⟩
theorem cs_2 : CsOk 2 ⟨#[105, 110, 116]⟩ 5 := ⟨by decide +kernel, by decide +kernel, by decide +kernel, by decide +kernel, by decide +kernel, by decide⟩
theorem cs_3 : CsOk 3 ⟨#[110, 117, 109, 101, 114, 105, 99]⟩ 9 := ⟨by decide +kernel, by decide +kernel, by decide +kernel, by decide +kernel, by decide +kernel, by decide⟩
theorem cs_4 : CsOk 4 ⟨#[116, 101, 120, 116]⟩ 6 := ⟨by decide +kernel, by decide +kernel, by decide +kernel, by decide +kernel, by decide +kernel, by decide⟩
theorem cs_5 : CsOk 5 ⟨#[100, 97, 116, 101]⟩ 6 := ⟨by decide +kernel, by decide +kernel, by decide +kernel, by decide +kernel, by decide +kernel, by decide⟩
theorem cs_6 : CsOk 6 ⟨#[116, 105, 109, 101, 115, 116, 97, 109, 112]⟩ 11 := ⟨by decide +kernel, by decide +kernel, by decide +kernel, by decide +kernel, by decide +kernel, by decide⟩
theorem cs_7 : CsOk 7 ⟨#[116, 105, 109, 101, 115, 116, 97, 109, 112, 116, 122]⟩ 13 := ⟨by decide +kernel, by decide +kernel, by decide +kernel, by decide +kernel, by decide +kernel, by decide⟩
theorem cs_8 : CsOk 8 ⟨#[105, 110, 116, 101, 114, 118, 97, 108]⟩ 10 := ⟨by decide +kernel, by decide +kernel, by decide +kernel, by decide +kernel, by decide +kernel, by decide⟩
theorem cs_all {k : Int} (h1 : 1 ≤ k) (h2 : k ≤ 8) : ∃ N z, CsOk k N z := by
  rcases (by omega : k = 1 ∨ k = 2 ∨ k = 3 ∨ k = 4 ∨ k = 5 ∨ k = 6 ∨ k = 7 ∨ k = 8) with rfl | rfl | rfl | rfl | rfl | rfl | rfl | rfl
  · exact ⟨_, _, cs_1⟩
  · exact ⟨_, _, cs_2⟩
  · exact ⟨_, _, cs_3⟩
  · exact ⟨_, _, cs_4⟩
  · exact ⟨_, _, cs_5⟩
  · exact ⟨_, _, cs_6⟩
  · exact ⟨_, _, cs_7⟩
  · exact ⟨_, _, cs_8⟩
theorem ch_cast {k : Int} {l : Bool} {N : ByteArray} {z : Int} (hc : CsOk k N z) {m : Nd} {a : Int} (hm : chN m = .inr (k, l)) : (l = true ∨ k = 1 → ∃ b, chN (.mk 10 N [m] a) = .inl b) ∧ (l = false → k ≠ 1 → chN (.mk 10 N [m] a) = .inr (k, false)) := by
  have e : chN (.mk 10 N [m] a) = apL (csL (.inr (k, l)) m.pl (.inr [])) (some ((⟨#[58, 58]⟩ : ByteArray) ++ N)) a := by
    rw [chN, chL, chL, hm]; rfl
  rw [e]
  obtain ⟨-, -, -, hf, hd, -⟩ := hc
  cases l with
  | true => exact ⟨fun _ => ⟨m.pl, rfl⟩, fun h => by cases h⟩
  | false =>
    have e2 : apL (csL (.inr (k, false)) m.pl (.inr [])) (some ((⟨#[58, 58]⟩ : ByteArray) ++ N)) a = apO (some ((⟨#[58, 58]⟩ : ByteArray) ++ N)) [k] a := rfl
    rw [e2]
    unfold apO
    dsimp only
    rw [hf]
    refine ⟨fun h => ?_, fun _ hk => ?_⟩
    · rcases h with h | h
      · cases h
      · rw [if_pos h]; exact ⟨a, rfl⟩
    · rw [if_neg hk]; dsimp only; rw [hd]

end Go.Proofs.YtcmefhnfdcngfaaDoor
