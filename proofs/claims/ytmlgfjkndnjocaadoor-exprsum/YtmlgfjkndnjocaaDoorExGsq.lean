/- Two expressions in brackets with a plus between: mathematics. -/
import Derived.Test.YtmlgfjkndnjocaaDoorExGrq
namespace Go.Proofs.YtmlgfjkndnjocaaDoor
open Go.RowKit
set_option linter.unusedVariables false

theorem RL_mapf {c : Tk} {R : List Tk} {f : Tk → Tk} (hf : ∀ p, AlT p (f p)) {e : Tk} (he : e.1 = 0) : ∀ (A : List Tk), (∀ t ∈ A, t.1 ≠ 0) → RL c R (A ++ [e]) (A.map f ++ c :: R)
  | [], h => .last e he
  | p :: A, h => .cons p (f p) _ _ (h p (by simp)) (hf p) (RL_mapf hf he A (fun t ht => h t (by simp [ht])))
/-- a plus. -/
def plT (a : Int) : Tk := (5, ⟨#[43]⟩, a)
theorem quiet_plus (a : Int) (lev : Nat) (h : 5 ≤ lev) (h8 : lev < 9) : Quiet lev (plT a) := by
  have h4 : sgs lev = [(5, b1 42), (5, b1 47), (5, b1 37)] := by
    match lev, h with
    | n + 5, _ => rfl
  refine ⟨?_, ?_, fun _ => ?_⟩
  · rw [h4]; unfold isT plT; simp; decide
  · unfold isT plT; simp
  · unfold isT plT; simp; decide
/-- the grammar of both, with more fuel than is needed. -/
theorem par_sum {c1 c2 e2 : Tk} (h1 : brT c1) (h2 : brT c2) (he2 : e2.1 = 0) {f : Nat} {TA TB LA LB : List Tk} {x y : Nd} {ea eb : Tk} (p q z : Int)
    (ha : par f (.lv 0) 0 TA = .ok x [ea]) (hb : par f (.lv 0) 0 TB = .ok y [eb]) (hna : need (.lv 0) TA ≤ f) (hnb : need (.lv 0) TB ≤ f)
    (hA : RL c1 (plT z :: opT q :: LB) TA LA) (hB : RL c2 [e2] TB LB) :
    (∃ x' y', AlN x x' ∧ AlN y y' ∧ par (f + 11) (.lv 0) 0 (opT p :: LA) = .ok (.mk 8 ⟨#[43]⟩ [x', y'] z) [e2]) ∨ ∃ b, par (f + 11) (.lv 0) 0 (opT p :: LA) = .no b 31 := by
  rcases par_br h1 (d := 0) (by omega) p (par_mono (Nat.le_succ f) ha) hA (by omega) with ⟨x', hx, r1⟩ | ⟨b, r1⟩
  · have u1 := ups_ok (op_not p) (op_neg p) 4 5 (by omega) (fun i h h' => quiet_plus z i h (by omega)) r1
    rcases par_br h2 (d := 0) (by omega) q hb hB hnb with ⟨y', hy, r2⟩ | ⟨b, r2⟩
    · left
      refine ⟨x', y', hx, hy, ?_⟩
      have u2 := ups_ok (op_not q) (op_neg q) 4 5 (by omega) (fun i _ _ => quiet_end he2 i) r2
      have l1 : par (f + 1 + 1 + 4) (.lp 4 x') 0 (plT z :: opT q :: LB) = .ok (.mk 8 ⟨#[43]⟩ [x', y'] z) [e2] := by
        rw [show f + 1 + 1 + 4 = (f + 1 + 4) + 1 by omega, par_succ]; unfold pst; dsimp only
        rw [show isT (plT z) (sgs 4) = true by unfold isT plT sgs; simp; decide, if_pos rfl, u2]
        dsimp only
        rw [show f + 1 + 4 = (f + 4) + 1 by omega, par_succ]; unfold pst; dsimp only
        rw [isT_end he2 _ (sgs_kind 4), if_neg (by simp)]
        rfl
      have l2 : par (f + 1 + 1 + 4 + 1) (.lv 4) 0 (opT p :: LA) = .ok (.mk 8 ⟨#[43]⟩ [x', y'] z) [e2] := by
        rw [par_succ]; unfold pst; dsimp only
        rw [if_neg (by decide), if_neg (by decide), if_neg (by decide), if_neg (by decide), if_neg (by decide), if_neg (by decide)]
        rw [show (4 : Nat) + 1 = 5 from rfl, u1]
        exact l1
      exact ups_ok (op_not p) (op_neg p) 4 0 (by omega) (fun i _ _ => quiet_end he2 i) l2
    · right
      refine ⟨b, ?_⟩
      have u2 := ups_no (op_not q) (op_neg q) 4 5 (by omega) r2
      have l1 : par (f + 1 + 1 + 4) (.lp 4 x') 0 (plT z :: opT q :: LB) = .no b 31 := by
        rw [show f + 1 + 1 + 4 = (f + 1 + 4) + 1 by omega, par_succ]; unfold pst; dsimp only
        rw [show isT (plT z) (sgs 4) = true by unfold isT plT sgs; simp; decide, if_pos rfl, u2]
      have l2 : par (f + 1 + 1 + 4 + 1) (.lv 4) 0 (opT p :: LA) = .no b 31 := by
        rw [par_succ]; unfold pst; dsimp only
        rw [if_neg (by decide), if_neg (by decide), if_neg (by decide), if_neg (by decide), if_neg (by decide), if_neg (by decide)]
        rw [show (4 : Nat) + 1 = 5 from rfl, u1]
        exact l1
      exact ups_no (op_not p) (op_neg p) 4 0 (by omega) l2
  · right
    exact ⟨b, ups_no (op_not p) (op_neg p) 9 0 (by omega) r1⟩
theorem toks_plus : toksB ⟨#[32, 43, 32]⟩ = .inr ([(5, ⟨#[43]⟩, 1)] ++ [(0, ⟨#[]⟩, ((⟨#[32, 43, 32]⟩ : ByteArray).size : Int))]) := by decide +kernel
/-- two expressions in brackets with a plus between them. -/
def sumB (a b : ByteArray) : ByteArray := (⟨#[40]⟩ : ByteArray) ++ a ++ (⟨#[41, 32, 43, 32, 40]⟩ : ByteArray) ++ b ++ (⟨#[41]⟩ : ByteArray)
theorem sumB_eq (a b : ByteArray) : sumB a b = (⟨#[40]⟩ : ByteArray) ++ (a ++ ((⟨#[41]⟩ : ByteArray) ++ ((⟨#[32, 43, 32]⟩ : ByteArray) ++ ((⟨#[40]⟩ : ByteArray) ++ (b ++ ((⟨#[41]⟩ : ByteArray) ++ (⟨#[]⟩ : ByteArray))))))) := by
  unfold sumB
  rw [show (⟨#[41, 32, 43, 32, 40]⟩ : ByteArray) = (⟨#[41]⟩ : ByteArray) ++ ((⟨#[32, 43, 32]⟩ : ByteArray) ++ (⟨#[40]⟩ : ByteArray)) by decide, show (⟨#[41]⟩ : ByteArray) ++ (⟨#[]⟩ : ByteArray) = ⟨#[41]⟩ by decide]
  simp only [ByteArray.append_assoc]
theorem sumB_size (a b : ByteArray) : (sumB a b).size = a.size + b.size + 7 := by
  unfold sumB
  rw [ByteArray.size_append, ByteArray.size_append, ByteArray.size_append, ByteArray.size_append]
  show 1 + a.size + 5 + b.size + 1 = _
  omega
theorem parse_sum {a b : ByteArray} {x y : Nd} (hsa : a.size ≤ 2048) (hsb : b.size ≤ 2048) (ha : parseB a = .inr x) (hb : parseB b = .inr y) :
    (∃ x' y' z, AlN x x' ∧ AlN y y' ∧ parseB (sumB a b) = .inr (.mk 8 ⟨#[43]⟩ [x', y'] z)) ∨ ∃ b', parseB (sumB a b) = .inl (b', 31) := by
  obtain ⟨A, ea, hta, hA, hea, hra⟩ := parse_toks hsa ha
  obtain ⟨B, eb, htb, hB, heb, hrb⟩ := parse_toks hsb hb
  have t1 := toks_cat (x := 41) (.inr rfl) htb toks_empty
  have t3 := toks_cat (x := 40) (.inl rfl) toks_plus t1
  have t4 := toks_cat (x := 41) (.inr rfl) hta t3
  have t5 := toks_sign (x := 40) (.inl rfl) t4
  rw [← sumB_eq] at t5
  simp only [List.map_append, List.map_cons, List.map_nil, List.map_map] at t5
  obtain ⟨g, hg⟩ : ∃ g : Tk → Tk, g = (shK 1 ∘ shK a.size ∘ shK 1 ∘ shK (⟨#[32, 43, 32]⟩ : ByteArray).size ∘ shK 1) := ⟨_, rfl⟩
  have hgf : ∀ p, AlT p (g p) := fun p => by subst hg; exact ⟨rfl, rfl⟩
  obtain ⟨c1, c2, e2, z, q, hc1, hc2, he2, het, hT⟩ : ∃ c1 c2 e2 z q, brT c1 ∧ brT c2 ∧ e2.1 = 0 ∧ e2.2.1 = ⟨#[]⟩ ∧ toksB (sumB a b) = .inr (opT 0 :: (A.map (shK 1) ++ c1 :: plT z :: opT q :: (B.map g ++ c2 :: [e2]))) := by
    refine ⟨_, _, _, _, _, ?_, ?_, ?_, ?_, t5.trans (by subst hg; simp only [List.cons_append, List.nil_append]; rfl)⟩
    · exact ⟨rfl, rfl⟩
    · exact ⟨rfl, rfl⟩
    · rfl
    · rfl
  have hlen : (opT 0 :: (A.map (shK 1) ++ c1 :: plT z :: opT q :: (B.map g ++ c2 :: [e2]))).length = A.length + B.length + 6 := by simp; omega
  have hB2 : parseB (sumB a b) = endT (par (10 * A.length + 10 * B.length + 59 + 11) (.lv 0) 0 (opT 0 :: (A.map (shK 1) ++ c1 :: plT z :: opT q :: (B.map g ++ c2 :: [e2])))) := by
    unfold parseB
    rw [hT]
    dsimp only
    rw [hlen, show 10 * (A.length + B.length + 6) + 10 = 10 * A.length + 10 * B.length + 59 + 11 by omega]
  rw [hB2]
  rcases par_sum hc1 hc2 he2 (f := 10 * A.length + 10 * B.length + 59) 0 q z (par_mono (by omega) hra) (par_mono (by omega) hrb) (by simp [need]; omega) (by simp [need]; omega) (RL_map 1 rfl A hA) (RL_mapf hgf rfl B hB) with ⟨x', y', hx, hy, r⟩ | ⟨b', r⟩
  · left
    refine ⟨x', y', z, hx, hy, ?_⟩
    rw [r, endT, show isT e2 [(0, ⟨#[]⟩)] = true by unfold isT; simp [he2, het], if_pos rfl]
  · right
    exact ⟨b', by rw [r]; rfl⟩

end Go.Proofs.YtmlgfjkndnjocaaDoor
