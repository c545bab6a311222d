/- Mathematics: hours, minutes, seconds as the reference reads them; they are what the program reads. -/
import Derived.Test.YtgnfkkcagbbhmaaGreatDoorSrNq
import Derived.Test.YtgnfkkcagbbhmaaGreatDoorWhnQq
namespace Go.Proofs.YtgnfkkcagbbhmaaGreatDoor
open Go.RowKit Lin Sr
set_option linter.unusedVariables false

/-- the parts between colons. -/
def colP (cur : List UInt8) : List UInt8 → List (List UInt8)
  | [] => [cur]
  | c :: l => if c = 58 then cur :: colP [] l else colP (cur ++ [c]) l
theorem colP_no : ∀ (l cur : List UInt8), (58 : UInt8) ∉ l → colP cur l = [cur ++ l]
  | [], cur, _ => by simp [colP]
  | c :: l, cur, h => by
    have h1 : c ≠ 58 := fun e => h (by simp [e])
    rw [colP, if_neg h1, colP_no l _ (fun e => h (by simp [e]))]; simp
theorem colP_cut : ∀ (A r cur : List UInt8), (58 : UInt8) ∉ A → colP cur (A ++ 58 :: r) = (cur ++ A) :: colP [] r
  | [], r, cur, _ => by simp [colP]
  | c :: A, r, cur, h => by
    have h1 : c ≠ 58 := fun e => h (by simp [e])
    rw [List.cons_append, colP, if_neg h1, colP_cut A r _ (fun e => h (by simp [e]))]; simp
theorem colP_pos : ∀ (l cur : List UInt8), 0 < (colP cur l).length
  | [], cur => by simp [colP]
  | c :: l, cur => by
    rw [colP]
    split
    · simp
    · exact colP_pos l _
theorem col_split : ∀ l : List UInt8, (58 : UInt8) ∉ l ∨ ∃ A r, (58 : UInt8) ∉ A ∧ l = A ++ 58 :: r
  | [] => .inl (by simp)
  | c :: l => by
    by_cases h : c = 58
    · exact .inr ⟨[], l, by simp, by simp [h]⟩
    · rcases col_split l with k | ⟨A, r, k, e⟩
      · exact .inl (by simp [Ne.symm h, k])
      · exact .inr ⟨c :: A, r, by simp [Ne.symm h, k], by simp [e]⟩

def shL (p : List UInt8) : Int := shN ⟨p.toArray⟩
theorem dgN_eq (a : UInt8) : Wrd.digitN a.toNat = Clk.isDg a := by
  rw [Bool.eq_iff_iff, Wrd.digit_iff, Clk.isDg_iff]
theorem digs_one (a : UInt8) : Wrd.digs ⟨#[a]⟩ = Clk.isDg a := by
  unfold Wrd.digs
  show Wrd.digF ⟨#[a]⟩ 1 0 = _
  rw [Wrd.digF_step (show 0 < (⟨#[a]⟩ : ByteArray).size from Nat.zero_lt_one), Wrd.digF_end _ _ _ (show ¬ 0 + 1 < (⟨#[a]⟩ : ByteArray).size from Nat.lt_irrefl 1), Bool.and_true]
  exact dgN_eq a
theorem digs_two (a b : UInt8) : Wrd.digs ⟨#[a, b]⟩ = (Clk.isDg a && Clk.isDg b) := by
  unfold Wrd.digs
  show Wrd.digF ⟨#[a, b]⟩ 2 0 = _
  rw [Wrd.digF_step (show 0 < (⟨#[a, b]⟩ : ByteArray).size from Nat.zero_lt_two), Wrd.digF_step (show 0 + 1 < (⟨#[a, b]⟩ : ByteArray).size from Nat.lt_succ_self 1), Wrd.digF_end _ _ _ (show ¬ 0 + 1 + 1 < (⟨#[a, b]⟩ : ByteArray).size from Nat.lt_irrefl 2), Bool.and_true]
  rw [← dgN_eq a, ← dgN_eq b]; rfl
theorem val_one (a : UInt8) : Wrd.valTo ⟨#[a]⟩ 1 = (a.toNat : Int) - 48 := by
  show (0 : Int) * 10 + ((a.toNat : Int) - 48) = _
  omega
theorem val_two (a b : UInt8) : Wrd.valTo ⟨#[a, b]⟩ 2 = ((a.toNat : Int) - 48) * 10 + ((b.toNat : Int) - 48) := by
  show ((0 : Int) * 10 + ((a.toNat : Int) - 48)) * 10 + ((b.toNat : Int) - 48) = _
  omega
theorem sh_one (a : UInt8) : shL [a] = if Clk.isDg a = true then (a.toNat : Int) - 48 else -1 := by
  have hv := val_one a
  have hz : (⟨#[a]⟩ : ByteArray).size = 1 := rfl
  show shN ⟨#[a]⟩ = _
  unfold shN Wrd.numE Wrd.numV
  rw [digs_one, hz, hv]
  by_cases h : Clk.isDg a = true
  · have := (Clk.isDg_iff a).1 h
    have h2 : (a.toNat : Int) - 48 ≤ Wrd.lastN := by unfold Wrd.lastN; omega
    simp [h, h2]
  · simp [h]
theorem sh_two (a b : UInt8) : shL [a, b] = if Clk.isDg a = true ∧ Clk.isDg b = true then ((a.toNat : Int) - 48) * 10 + ((b.toNat : Int) - 48) else -1 := by
  have hv := val_two a b
  have hz : (⟨#[a, b]⟩ : ByteArray).size = 2 := rfl
  show shN ⟨#[a, b]⟩ = _
  unfold shN Wrd.numE Wrd.numV
  rw [digs_two, hz, hv]
  by_cases h : Clk.isDg a = true ∧ Clk.isDg b = true
  · have h1 := (Clk.isDg_iff a).1 h.1
    have h3 := (Clk.isDg_iff b).1 h.2
    have h2 : ((a.toNat : Int) - 48) * 10 + ((b.toNat : Int) - 48) ≤ Wrd.lastN := by unfold Wrd.lastN; omega
    simp [h.1, h.2, h2]
  · have : ¬ ((Clk.isDg a && Clk.isDg b) = true) := by simpa using h
    simp [h, this]
theorem sh_long {A : List UInt8} (h : A.length < 1 ∨ 2 < A.length) : shL A = -1 := by
  unfold shL shN
  rw [if_neg]
  rintro ⟨h1, h2, _⟩
  have e : (⟨A.toArray⟩ : ByteArray).size = A.length := sizeL A
  omega
theorem sh_dg {A : List UInt8} {n : Nat} (h : Clk.DgL A n 2) (hn : 1 ≤ n) : shL A = Clk.valD 0 A ∧ 0 ≤ shL A ∧ shL A ≤ 99 := by
  obtain ⟨h1, h2, h3⟩ := h
  match A, h1, h2, h3 with
  | [], _, h2, _ => simp at h2; omega
  | [a], h1, _, _ =>
    have ha := h1 a (by simp)
    have := (Clk.isDg_iff a).1 ha
    rw [sh_one, if_pos ha]
    refine ⟨?_, by omega, by omega⟩
    show _ = (0 : Int) * 10 + ((a.toNat : Int) - 48)
    omega
  | [a, b], h1, _, _ =>
    have ha := h1 a (by simp)
    have hb := h1 b (by simp)
    have := (Clk.isDg_iff a).1 ha
    have := (Clk.isDg_iff b).1 hb
    rw [sh_two, if_pos ⟨ha, hb⟩]
    refine ⟨?_, by omega, by omega⟩
    show _ = ((0 : Int) * 10 + ((a.toNat : Int) - 48)) * 10 + ((b.toNat : Int) - 48)
    omega
  | a :: b :: c :: l, _, _, h3 => simp at h3
theorem sh_of {A : List UInt8} (h : 0 ≤ shL A) : Clk.DgL A 1 2 := by
  match A, h with
  | [], h => rw [sh_long (by simp)] at h; omega
  | [a], h =>
    rw [sh_one] at h
    by_cases ha : Clk.isDg a = true
    · exact ⟨fun c hc => by simp at hc; rw [hc]; exact ha, by simp, by simp⟩
    · rw [if_neg ha] at h; omega
  | [a, b], h =>
    rw [sh_two] at h
    by_cases ha : Clk.isDg a = true ∧ Clk.isDg b = true
    · exact ⟨fun c hc => by simp at hc; exact hc.elim (fun e => by rw [e]; exact ha.1) (fun e => by rw [e]; exact ha.2), by simp, by simp⟩
    · rw [if_neg ha] at h; omega
  | a :: b :: c :: l, h => rw [sh_long (by simp)] at h; omega

/-- the parts behind the first. -/
def secL (i : Nat) (n : Int) : List (List UInt8) → Int
  | [] => n
  | p :: l => if p.length = 2 ∧ 0 ≤ shL p ∧ shL p ≤ 59 then secL (i + 1) (n + (if i = 1 then shL p * 60 else shL p)) l else -1
def secV : List (List UInt8) → Int
  | [] => -1
  | p :: r => if 0 ≤ shL p ∧ (p :: r).length ≤ 3 then secL 1 (shL p * 3600) r else -1
/-- hours, minutes, seconds as the reference reads them; -1: it is none. -/
def secN (l : List UInt8) : Int := secV (colP [] l)
/-- the forms that it takes. -/
def Hms (l : List UInt8) (n : Int) : Prop :=
  (∃ A, Clk.DgL A 1 2 ∧ l = A ∧ n = Clk.valD 0 A * 3600) ∨
  (∃ A M, Clk.DgL A 1 2 ∧ Clk.DgL M 2 2 ∧ Clk.valD 0 M ≤ 59 ∧ l = A ++ 58 :: M ∧ n = Clk.valD 0 A * 3600 + Clk.valD 0 M * 60) ∨
  (∃ A M S, Clk.DgL A 1 2 ∧ Clk.DgL M 2 2 ∧ Clk.DgL S 2 2 ∧ Clk.valD 0 M ≤ 59 ∧ Clk.valD 0 S ≤ 59 ∧ l = A ++ 58 :: (M ++ 58 :: S) ∧ n = Clk.valD 0 A * 3600 + Clk.valD 0 M * 60 + Clk.valD 0 S)
theorem dg_no58 {A : List UInt8} {a b : Nat} (h : Clk.DgL A a b) : (58 : UInt8) ∉ A := fun e => by
  have := (Clk.isDg_iff _).1 (h.1 _ e)
  have e2 : (58 : UInt8).toNat = 58 := rfl
  omega
theorem sec_of_hms {l : List UInt8} {n : Int} (h : Hms l n) : secN l = n ∧ 0 ≤ n := by
  unfold secN
  rcases h with ⟨A, hA, rfl, rfl⟩ | ⟨A, M, hA, hM, m1, rfl, rfl⟩ | ⟨A, M, S, hA, hM, hS, m1, s1, rfl, rfl⟩
  · obtain ⟨a1, a2, a3⟩ := sh_dg hA (by omega)
    rw [colP_no _ _ (dg_no58 hA), List.nil_append, secV, if_pos ⟨a2, by simp⟩, secL, a1]
    omega
  · obtain ⟨a1, a2, a3⟩ := sh_dg hA (by omega)
    obtain ⟨b1, b2, b3⟩ := sh_dg hM (by omega)
    rw [colP_cut _ _ _ (dg_no58 hA), colP_no _ _ (dg_no58 hM), List.nil_append, List.nil_append, secV, if_pos ⟨a2, by simp⟩, secL, if_pos ⟨Nat.le_antisymm hM.2.2 hM.2.1, b2, by omega⟩, if_pos rfl, secL, a1, b1]
    omega
  · obtain ⟨a1, a2, a3⟩ := sh_dg hA (by omega)
    obtain ⟨b1, b2, b3⟩ := sh_dg hM (by omega)
    obtain ⟨c1, c2, c3⟩ := sh_dg hS (by omega)
    rw [colP_cut _ _ _ (dg_no58 hA), colP_cut _ _ _ (dg_no58 hM), colP_no _ _ (dg_no58 hS), List.nil_append, List.nil_append, List.nil_append, secV, if_pos ⟨a2, by simp⟩, secL, if_pos ⟨Nat.le_antisymm hM.2.2 hM.2.1, b2, by omega⟩, if_pos rfl, secL, if_pos ⟨Nat.le_antisymm hS.2.2 hS.2.1, c2, by omega⟩, if_neg (by omega), secL, a1, b1, c1]
    omega
theorem hms_of_sec {l : List UInt8} (h : 0 ≤ secN l) : Hms l (secN l) := by
  have h0 := h
  rcases col_split l with k | ⟨A, r, k, rfl⟩
  · unfold secN at h
    rw [colP_no _ _ k, List.nil_append, secV] at h
    by_cases a : 0 ≤ shL l ∧ [l].length ≤ 3
    · have : Hms l (Clk.valD 0 l * 3600) := .inl ⟨l, sh_of a.1, rfl, rfl⟩
      rw [(sec_of_hms this).1]; exact this
    · rw [if_neg a] at h; omega
  · unfold secN at h
    rw [colP_cut _ _ _ k, List.nil_append, secV] at h
    by_cases a : 0 ≤ shL A ∧ (A :: colP [] r).length ≤ 3
    · rw [if_pos a] at h
      have dA := sh_of a.1
      rcases col_split r with k2 | ⟨M, r2, k2, rfl⟩
      · rw [colP_no _ _ k2, List.nil_append, secL] at h
        by_cases b : r.length = 2 ∧ 0 ≤ shL r ∧ shL r ≤ 59
        · have dM : Clk.DgL r 2 2 := ⟨(sh_of b.2.1).1, by omega, by omega⟩
          have : Hms (A ++ 58 :: r) (Clk.valD 0 A * 3600 + Clk.valD 0 r * 60) := .inr (.inl ⟨A, r, dA, dM, by rw [← (sh_dg dM (by omega)).1]; exact b.2.2, rfl, rfl⟩)
          rw [(sec_of_hms this).1]; exact this
        · rw [if_neg b] at h; omega
      · rw [colP_cut _ _ _ k2, List.nil_append, secL] at h
        by_cases b : M.length = 2 ∧ 0 ≤ shL M ∧ shL M ≤ 59
        · rw [if_pos b] at h
          have dM : Clk.DgL M 2 2 := ⟨(sh_of b.2.1).1, by omega, by omega⟩
          rcases col_split r2 with k3 | ⟨S, r3, k3, rfl⟩
          · rw [colP_no _ _ k3, List.nil_append, secL] at h
            by_cases c : r2.length = 2 ∧ 0 ≤ shL r2 ∧ shL r2 ≤ 59
            · have dS : Clk.DgL r2 2 2 := ⟨(sh_of c.2.1).1, by omega, by omega⟩
              have : Hms (A ++ 58 :: (M ++ 58 :: r2)) (Clk.valD 0 A * 3600 + Clk.valD 0 M * 60 + Clk.valD 0 r2) := .inr (.inr ⟨A, M, r2, dA, dM, dS, by rw [← (sh_dg dM (by omega)).1]; exact b.2.2, by rw [← (sh_dg dS (by omega)).1]; exact c.2.2, rfl, rfl⟩)
              rw [(sec_of_hms this).1]; exact this
            · rw [if_neg c] at h; omega
          · have h2 := a.2
            rw [colP_cut _ _ _ k2, colP_cut _ _ _ k3] at h2
            have := colP_pos r3 []
            simp only [List.length_cons] at h2
            omega
        · rw [if_neg b] at h; omega
    · rw [if_neg a] at h; omega
theorem sec_face {l : List UInt8} (h : 0 ≤ secN l) : ∀ c ∈ l, faceC c = true := by
  have fd : ∀ {A : List UInt8} {a b : Nat}, Clk.DgL A a b → ∀ c ∈ A, faceC c = true := fun h c hc => by
    have := (Clk.isDg_iff c).1 (h.1 c hc)
    exact decide_eq_true (.inl (by omega))
  have f58 : faceC 58 = true := by decide
  rcases hms_of_sec h with ⟨A, hA, rfl, _⟩ | ⟨A, M, hA, hM, m1, e, _⟩ | ⟨A, M, S, hA, hM, hS, m1, s1, e, _⟩
  · exact fd hA
  · rw [e]; intro c hc
    simp only [List.mem_append, List.mem_cons] at hc
    rcases hc with h | rfl | h
    · exact fd hA c h
    · exact f58
    · exact fd hM c h
  · rw [e]; intro c hc
    simp only [List.mem_append, List.mem_cons] at hc
    rcases hc with h | rfl | h | rfl | h
    · exact fd hA c h
    · exact f58
    · exact fd hM c h
    · exact f58
    · exact fd hS c h
theorem idx_yes : ∀ (l : List UInt8), (58 : UInt8) ∈ l → 0 ≤ Lib.indexByte l 58
  | [], h => (nomatch h)
  | b :: l, h => by
    unfold Lib.indexByte
    by_cases e : (b == 58) = true
    · rw [if_pos e]; exact Int.le_refl _
    · rw [if_neg e]
      have hm : (58 : UInt8) ∈ l := by
        rcases List.mem_cons.1 h with h | h
        · rw [← h] at e; exact absurd rfl e
        · exact h
      have r := idx_yes l hm
      rw [if_neg (by rw [beq_iff_eq]; omega)]
      omega
theorem idx_no : ∀ (l : List UInt8), (58 : UInt8) ∉ l → Lib.indexByte l 58 = -1
  | [], _ => rfl
  | b :: l, h => by
    unfold Lib.indexByte
    have h1 : (b == 58) = false := beq_eq_false_iff_ne.2 (fun e => h (by simp [e]))
    rw [h1, idx_no l (fun e => h (by simp [e]))]
    rfl
/-- a face with minutes. -/
def fcF (F : List UInt8) : List UInt8 := if 0 ≤ Lib.indexByte F 58 then F else F ++ [58, 48, 48]
theorem fcF_yes {F : List UInt8} (h : (58 : UInt8) ∈ F) : fcF F = F := if_pos (idx_yes F h)
theorem fcF_no {F : List UInt8} (h : (58 : UInt8) ∉ F) : fcF F = F ++ [58, 48, 48] := by unfold fcF; rw [idx_no F h]; rfl
theorem ansE_some {h m s u : Int} : Clk.ansE (some (h, m, s, u)) = Clk.mkE h m s u := rfl
theorem ansV_some {h m s u : Int} : Clk.ansV (some (h, m, s, u)) = Clk.mkV h m s u := rfl
theorem dgL_bd {A : List UInt8} {n : Nat} (h : Clk.DgL A n 2) (hn : 1 ≤ n) : 0 ≤ Clk.valD 0 A ∧ Clk.valD 0 A ≤ 99 := by
  obtain ⟨a, b, c⟩ := sh_dg h hn
  omega
/-- the program reads them so, too. -/
theorem prog_of_hms {F : List UInt8} {n : Int} (h : Hms F n) : (Clk.ansE (Clk.cForm (fcF F)) = 0 ↔ n ≤ 86400) ∧ (n ≤ 86400 → (Clk.ansV (Clk.cForm (fcF F))).tdiv 1000000 = n) := by
  have key : ∀ (t : List UInt8) (a b c : Int), Clk.Form t (a, b, c, 0) → 0 ≤ a → 0 ≤ b → b ≤ 59 → 0 ≤ c → c ≤ 59 → (Clk.ansE (Clk.cForm t) = 0 ↔ a * 3600 + b * 60 + c ≤ 86400) ∧ (a * 3600 + b * 60 + c ≤ 86400 → (Clk.ansV (Clk.cForm t)).tdiv 1000000 = a * 3600 + b * 60 + c) := fun t a b c hf a0 b0 b1 c0 c1 => by
    rw [Clk.c_of_form hf, ansE_some, ansV_some]
    by_cases q : a * 3600 + b * 60 + c ≤ 86400
    · have ok : Clk.mkOk a b c 0 := by unfold Clk.mkOk; omega
      rw [Clk.mkE_in ok, Clk.mkV_in ok]
      refine ⟨⟨fun _ => q, fun _ => rfl⟩, fun _ => ?_⟩
      rw [Int.tdiv_eq_ediv_of_nonneg (by omega)]
      omega
    · have no : ¬ Clk.mkOk a b c 0 := by unfold Clk.mkOk; omega
      rw [Clk.mkE_out no]
      exact ⟨⟨fun e => by omega, fun e => absurd e q⟩, fun e => absurd e q⟩
  rcases h with ⟨A, hA, rfl, rfl⟩ | ⟨A, M, hA, hM, m1, rfl, rfl⟩ | ⟨A, M, S, hA, hM, hS, m1, s1, rfl, rfl⟩
  · rw [fcF_no (dg_no58 hA)]
    have := key (F ++ 58 :: [48, 48]) (Clk.valD 0 F) 0 0 (.inl ⟨F, [48, 48], hA, ⟨by decide, by decide, by decide⟩, rfl, rfl⟩) (dgL_bd hA (by omega)).1 (by omega) (by omega) (by omega) (by omega)
    simpa using this
  · rw [fcF_yes (by simp)]
    have := key (A ++ 58 :: M) (Clk.valD 0 A) (Clk.valD 0 M) 0 (.inl ⟨A, M, hA, hM, rfl, rfl⟩) (dgL_bd hA (by omega)).1 (dgL_bd hM (by omega)).1 m1 (by omega) (by omega)
    simpa using this
  · rw [fcF_yes (by simp)]
    exact key (A ++ 58 :: (M ++ 58 :: S)) (Clk.valD 0 A) (Clk.valD 0 M) (Clk.valD 0 S) (.inr (.inl ⟨A, M, S, hA, hM, hS, rfl, rfl⟩)) (dgL_bd hA (by omega)).1 (dgL_bd hM (by omega)).1 m1 (dgL_bd hS (by omega)).1 s1
theorem cut_eq {A B r : List UInt8} (hA : (58 : UInt8) ∉ A) (hB : (58 : UInt8) ∉ B) {q : List UInt8} (h : A ++ 58 :: r = B ++ 58 :: q) : A = B ∧ r = q := by
  induction A generalizing B with
  | nil =>
    cases B with
    | nil => simp at h; exact ⟨rfl, h⟩
    | cons b B => simp at h; exact absurd (by simp [h.1]) hB
  | cons a A ih =>
    cases B with
    | nil => simp at h; exact absurd (by simp [h.1]) hA
    | cons b B =>
      simp at h
      have := ih (fun e => hA (by simp [e])) (fun e => hB (by simp [e])) h.2
      exact ⟨by rw [h.1, this.1], this.2⟩
theorem hms_of_prog {F : List UInt8} (hF : ∀ c ∈ F, faceC c = true) (h : Clk.ansE (Clk.cForm (fcF F)) = 0) : ∃ n, Hms F n := by
  cases hc : Clk.cForm (fcF F) with
  | none => rw [hc] at h; exact absurd h (by decide)
  | some t =>
    obtain ⟨a, b, c, u⟩ := t
    rw [hc, ansE_some] at h
    have ok : Clk.mkOk a b c u := by
      by_cases q : Clk.mkOk a b c u
      · exact q
      · rw [Clk.mkE_out q] at h; omega
    have hf := Clk.form_of_c hc
    unfold Clk.mkOk at ok
    by_cases h58 : (58 : UInt8) ∈ F
    · rw [fcF_yes h58] at hf
      rcases hf with ⟨A, M, hA, hM, e, et⟩ | ⟨A, M, S, hA, hM, hS, e, et⟩ | ⟨A, M, S, U, hA, hM, hS, hU, e, et⟩
      · simp only [Prod.mk.injEq] at et
        exact ⟨_, .inr (.inl ⟨A, M, hA, hM, by omega, e, rfl⟩)⟩
      · simp only [Prod.mk.injEq] at et
        exact ⟨_, .inr (.inr ⟨A, M, S, hA, hM, hS, by omega, by omega, e, rfl⟩)⟩
      · have := hF 46 (by rw [e]; simp)
        exact absurd this (by decide)
    · rw [fcF_no h58] at hf
      have e1 : F ++ [58, 48, 48] = F ++ 58 :: [48, 48] := rfl
      rcases hf with ⟨A, M, hA, hM, e, et⟩ | ⟨A, M, S, hA, hM, hS, e, et⟩ | ⟨A, M, S, U, hA, hM, hS, hU, e, et⟩
      · obtain ⟨rfl, _⟩ := cut_eq h58 (dg_no58 hA) (e1 ▸ e)
        exact ⟨_, .inl ⟨F, hA, rfl, rfl⟩⟩
      · obtain ⟨_, q⟩ := cut_eq h58 (dg_no58 hA) (e1 ▸ e)
        have : (58 : UInt8) ∈ ([48, 48] : List UInt8) := by rw [q]; simp
        exact absurd this (by decide)
      · obtain ⟨_, q⟩ := cut_eq h58 (dg_no58 hA) (e1 ▸ e)
        have : (58 : UInt8) ∈ ([48, 48] : List UInt8) := by rw [q]; simp
        exact absurd this (by decide)
/-- of a face both read the same. -/
theorem face_same {F : List UInt8} (hF : ∀ c ∈ F, faceC c = true) : (Clk.ansE (Clk.cForm (fcF F)) == 0) = decide (0 ≤ secN F ∧ secN F ≤ 86400) ∧ (0 ≤ secN F → secN F ≤ 86400 → (Clk.ansV (Clk.cForm (fcF F))).tdiv 1000000 = secN F) := by
  by_cases h : 0 ≤ secN F
  · obtain ⟨p, q⟩ := prog_of_hms (hms_of_sec h)
    refine ⟨?_, fun _ => q⟩
    by_cases h2 : secN F ≤ 86400
    · rw [p.2 h2, decide_eq_true ⟨h, h2⟩]; rfl
    · have : Clk.ansE (Clk.cForm (fcF F)) ≠ 0 := fun e => h2 (p.1 e)
      rw [beq_eq_false_iff_ne.2 this, decide_eq_false (fun k => h2 k.2)]
  · refine ⟨?_, fun k => absurd k h⟩
    have : Clk.ansE (Clk.cForm (fcF F)) ≠ 0 := fun e => by
      obtain ⟨n, hn⟩ := hms_of_prog hF e
      obtain ⟨a, b⟩ := sec_of_hms hn
      omega
    rw [beq_eq_false_iff_ne.2 this, decide_eq_false (fun k => h k.1)]
theorem sOk_same (l : List UInt8) : sOk l = decide (0 ≤ secN (l.takeWhile faceC) ∧ secN (l.takeWhile faceC) ≤ 86400) := (face_same (F := l.takeWhile faceC) (fun c hc => by
  have := List.all_takeWhile (p := faceC) (l := l)
  exact (List.all_eq_true.1 this) c hc)).1
theorem sV_same (l : List UInt8) (h : sOk l = true) : sV l = secN (l.takeWhile faceC) := by
  have hf : ∀ c ∈ l.takeWhile faceC, faceC c = true := fun c hc => by
    have := List.all_takeWhile (p := faceC) (l := l)
    exact (List.all_eq_true.1 this) c hc
  rw [sOk_same, decide_eq_true_iff] at h
  exact (face_same hf).2 h.1 h.2
theorem tw_all {l : List UInt8} (h : ∀ c ∈ l, faceC c = true) : l.takeWhile faceC = l ∧ l.dropWhile faceC = [] := by
  induction l with
  | nil => exact ⟨rfl, rfl⟩
  | cons c l ih =>
    obtain ⟨a, b⟩ := ih (fun x hx => h x (by simp [hx]))
    rw [List.takeWhile_cons, List.dropWhile_cons, if_pos (h c (by simp)), if_pos (h c (by simp)), a, b]
    exact ⟨rfl, rfl⟩
theorem dw_nil {l : List UInt8} (h : l.dropWhile faceC = []) : ∀ c ∈ l, faceC c = true := fun c hc => by
  have e := List.takeWhile_append_dropWhile (p := faceC) (l := l)
  rw [h, List.append_nil] at e
  rw [← e] at hc
  exact (List.all_eq_true.1 (List.all_takeWhile (p := faceC) (l := l))) c hc
/-- a shift as the reference reads it. -/
def svR (l : List UInt8) : Int × Bool :=
  if l = [45] then (0, true)
  else if Lib.hasPrefix l [45] = true then (if 0 ≤ secN (l.drop 1) ∧ secN (l.drop 1) ≤ 86400 then (-(secN (l.drop 1)), true) else (0, false))
  else if 0 ≤ secN l ∧ secN l ≤ 86400 then (secN l, true) else (0, false)
theorem sv_core (d : List UInt8) : (sOk d = true ∧ d.dropWhile faceC = []) ↔ (0 ≤ secN d ∧ secN d ≤ 86400) := by
  constructor
  · rintro ⟨h1, h2⟩
    rw [sOk_same, decide_eq_true_iff, (tw_all (dw_nil h2)).1] at h1
    exact h1
  · intro h
    obtain ⟨a, b⟩ := tw_all (sec_face h.1)
    exact ⟨by rw [sOk_same, a, decide_eq_true_iff]; exact h, b⟩
theorem sv_val (d : List UInt8) (h : 0 ≤ secN d ∧ secN d ≤ 86400) : sV d = secN d := by
  rw [sV_same d ((sv_core d).2 h).1, (tw_all (sec_face h.1)).1]
theorem svF_same (l : List UInt8) : svF l = svR l := by
  unfold svF svR svD Lib.trimPrefix
  by_cases h : l = [45]
  · rw [if_pos h, if_pos h]
  · rw [if_neg h, if_neg h]
    by_cases hp : Lib.hasPrefix l [45] = true
    · rw [hp]
      simp only [if_true]
      show (if sOk (l.drop 1) = true ∧ (l.drop 1).dropWhile faceC = [] then (-(sV (l.drop 1)), true) else (0, false)) = _
      by_cases k : 0 ≤ secN (l.drop 1) ∧ secN (l.drop 1) ≤ 86400
      · rw [if_pos k, if_pos ((sv_core _).2 k), sv_val _ k]
      · rw [if_neg k, if_neg (fun q => k ((sv_core _).1 q))]
    · rw [show Lib.hasPrefix l [45] = false by simpa using hp]
      simp only [Bool.false_eq_true, if_false]
      by_cases k : 0 ≤ secN l ∧ secN l ≤ 86400
      · rw [if_pos k, if_pos ((sv_core _).2 k), sv_val _ k]
      · rw [if_neg k, if_neg (fun q => k ((sv_core _).1 q))]
/-- a time as the reference reads it. -/
def kindR (c : UInt8) : Int := if c = 119 then 119 else if c = 115 then 115 else if c = 117 ∨ c = 103 ∨ c = 122 then 117 else 0
def atR' (d : List UInt8) (k : Int) : (Int × Int) × Bool := if 0 ≤ secN d ∧ secN d ≤ 86400 then ((secN d, k), true) else ((0, 0), false)
def atRd (l : List UInt8) : (Int × Int) × Bool :=
  if l = [45] then ((0, 119), true)
  else match l.getLast? with
    | none => atR' l 119
    | some c => if kindR c = 0 then atR' l 119 else atR' l.dropLast (kindR c)
theorem clk_one (c : UInt8) : clkV [c] = kindR c := by
  unfold clkV kindR
  simp
theorem clk_many (a b : UInt8) (l : List UInt8) : clkV (a :: b :: l) = 0 := by
  unfold clkV
  simp
theorem face_kind {c : UInt8} (h : faceC c = true) : kindR c = 0 := by
  have : (48 ≤ (c.toNat : Int) ∧ (c.toNat : Int) ≤ 57) ∨ (c.toNat : Int) = 58 := of_decide_eq_true h
  unfold kindR
  rw [if_neg, if_neg, if_neg]
  · rintro (rfl | rfl | rfl) <;> revert this <;> decide
  · rintro rfl; revert this; decide
  · rintro rfl; revert this; decide
theorem atF_same (l : List UInt8) : atF l = atRd l := by
  unfold atF atRd
  by_cases h : l = [45]
  · rw [if_pos h, if_pos h]
  · rw [if_neg h, if_neg h]
    have el := List.takeWhile_append_dropWhile (p := faceC) (l := l)
    have hF : ∀ c ∈ l.takeWhile faceC, faceC c = true := fun c hc => (List.all_eq_true.1 (List.all_takeWhile (p := faceC) (l := l))) c hc
    have hv := sV_same l
    rw [sOk_same] at hv ⊢
    generalize l.takeWhile faceC = F at el hF hv ⊢
    cases hL : l.dropWhile faceC with
    | nil =>
      rw [hL, List.append_nil] at el
      subst el
      have e : (match F.getLast? with | none => atR' F 119 | some c => if kindR c = 0 then atR' F 119 else atR' F.dropLast (kindR c)) = atR' F 119 := by
        cases hl : F.getLast? with
        | none => rfl
        | some c => simp only; rw [if_pos (face_kind (hF c (List.mem_of_getLast? hl)))]
      rw [e]
      unfold atR'
      by_cases k : 0 ≤ secN F ∧ secN F ≤ 86400
      · rw [if_pos (decide_eq_true k), if_neg (by decide), if_pos k, hv (decide_eq_true k)]; rfl
      · rw [if_neg (by rw [decide_eq_true_iff]; exact k), if_neg k]
    | cons x r =>
      have hx : faceC x = false := by
        have q := List.head?_dropWhile_not faceC l
        rw [hL] at q
        simpa using q
      rw [hL] at el
      subst el
      cases r with
      | nil =>
        rw [List.getLast?_append, List.dropLast_append_of_ne_nil (by simp)]
        simp only [List.getLast?_singleton, Option.some_or, List.dropLast_singleton, List.append_nil, clk_one]
        by_cases k0 : kindR x = 0
        · rw [if_pos k0, if_pos k0]
          have : ¬ (0 ≤ secN (F ++ [x]) ∧ secN (F ++ [x]) ≤ 86400) := fun q => by
            have := sec_face q.1 x (by simp)
            rw [hx] at this; cases this
          unfold atR'
          rw [if_neg this]
          split <;> rfl
        · rw [if_neg k0, if_neg k0]
          unfold atR'
          by_cases k : 0 ≤ secN F ∧ secN F ≤ 86400
          · rw [if_pos (decide_eq_true k), if_pos k, hv (decide_eq_true k)]
          · rw [if_neg (by rw [decide_eq_true_iff]; exact k), if_neg k]
      | cons y r =>
        rw [clk_many, if_pos rfl]
        have no : ∀ d : List UInt8, x ∈ d → ∀ k, atR' d k = ((0, 0), false) := fun d hd k => by
          unfold atR'
          rw [if_neg]
          intro q
          have := sec_face q.1 x hd
          rw [hx] at this; cases this
        have e : (match (F ++ x :: y :: r).getLast? with | none => atR' (F ++ x :: y :: r) 119 | some c => if kindR c = 0 then atR' (F ++ x :: y :: r) 119 else atR' (F ++ x :: y :: r).dropLast (kindR c)) = ((0, 0), false) := by
          cases hl : (F ++ x :: y :: r).getLast? with
          | none => exact no _ (by simp) _
          | some c =>
            simp only
            rw [no _ (by simp) _, no _ (by rw [List.dropLast_append_of_ne_nil (by simp)]; simp) _]
            split <;> rfl
        rw [e]
        split <;> rfl

end Go.Proofs.YtgnfkkcagbbhmaaGreatDoor
