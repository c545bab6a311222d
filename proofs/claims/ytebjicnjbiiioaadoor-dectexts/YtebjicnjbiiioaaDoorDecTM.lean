/- Plain mathematics of decimal texts: a number's text, what a text tells, and both behind each other. -/
import Derived.Test.YtebjicnjbiiioaaDoorDecR
import Derived.Lib.ItoaLen
namespace Go.Proofs.YtebjicnjbiiioaaDoor
open Go.RowKit
set_option linter.unusedVariables false

theorem ba_ext {a b : ByteArray} (h : a.data.toList = b.data.toList) : a = b := by
  cases a; cases b
  congr
  exact Array.toList_inj.1 h
theorem isD_point {c : UInt8} (h : isD c = true) : c ≠ 46 := by
  intro e; subst e; exact absurd h (by decide)
theorem allD_no_point {l : List UInt8} (h : l.all isD = true) : 46 ∉ l := fun hm => isD_point (List.all_eq_true.1 h _ hm) rfl
theorem index_none {l : List UInt8} (h : 46 ∉ l) : Lib.indexByte l 46 = -1 := by
  induction l with
  | nil => rfl
  | cons c l ih =>
    have h1 : c ≠ 46 := fun e => h (e ▸ List.mem_cons_self)
    have h2 : 46 ∉ l := fun k => h (List.mem_cons_of_mem _ k)
    unfold Lib.indexByte
    rw [ih h2]
    simp [h1]
theorem index_some {a b : List UInt8} (h : 46 ∉ a) : Lib.indexByte (a ++ 46 :: b) 46 = (a.length : Int) := by
  induction a with
  | nil => rfl
  | cons c a ih =>
    have h1 : c ≠ 46 := fun e => h (e ▸ List.mem_cons_self)
    have h2 : 46 ∉ a := fun k => h (List.mem_cons_of_mem _ k)
    rw [List.cons_append]
    unfold Lib.indexByte
    rw [ih h2]
    have h3 : ((a.length : Int) == -1) = false := by simp
    simp only [h3, beq_iff_eq, if_neg h1]
    simp
theorem first_point : ∀ l : List UInt8, 46 ∈ l → ∃ a b, l = a ++ 46 :: b ∧ 46 ∉ a
  | [], h => absurd h (by simp)
  | c :: l, h => by
    by_cases hc : c = 46
    · exact ⟨[], l, by rw [hc]; rfl, by simp⟩
    · have h' : (46 : UInt8) ∈ l := by
        rcases List.mem_cons.1 h with k | k
        · exact absurd k.symm hc
        · exact k
      obtain ⟨a, b, e, ha⟩ := first_point l h'
      exact ⟨c :: a, b, by rw [e]; rfl, fun k => by
        rcases List.mem_cons.1 k with k | k
        · exact hc k.symm
        · exact ha k⟩
theorem index_cases (l : List UInt8) : (46 ∉ l ∧ Lib.indexByte l 46 = -1) ∨ ∃ a b, l = a ++ 46 :: b ∧ 46 ∉ a ∧ Lib.indexByte l 46 = (a.length : Int) := by
  by_cases h : (46 : UInt8) ∈ l
  · obtain ⟨a, b, e, ha⟩ := first_point l h
    exact .inr ⟨a, b, e, ha, by rw [e]; exact index_some ha⟩
  · exact .inl ⟨h, index_none h⟩
theorem erase_point {a b : List UInt8} (h : 46 ∉ a) : (a ++ 46 :: b).erase 46 = a ++ b := by
  rw [List.erase_append_right _ h]; simp
theorem erase_none {l : List UInt8} (h : 46 ∉ l) : l.erase 46 = l := List.erase_of_not_mem h

/-- can a text be a number? -/
def okT (T : ByteArray) : Bool := areD (cutA T) && (!cutF T || (areD (cutB T) && decide ((cutB T).size ≤ 9)))
/-- all but the first point are digits, there is one at least ahead of it and behind it, nine at most behind it. -/
def OkL (T : List UInt8) : Prop := (T.erase 46).all isD = true ∧ T ≠ [] ∧ (Lib.indexByte T 46 = -1 ∨ (1 ≤ Lib.indexByte T 46 ∧ 1 ≤ (T.length : Int) - Lib.indexByte T 46 - 1 ∧ (T.length : Int) - Lib.indexByte T 46 - 1 ≤ 9))
theorem cut_none {T : ByteArray} (h : 46 ∉ T.data.toList) : cutA T = T ∧ cutB T = ⟨#[]⟩ ∧ cutF T = false := by
  have e := index_none h
  unfold cutA cutB cutF
  simp [e]
theorem cut_some {T : ByteArray} {a b : List UInt8} (h : T.data.toList = a ++ 46 :: b) (ha : 46 ∉ a) : (cutA T).data.toList = a ∧ (cutB T).data.toList = b ∧ cutF T = true := by
  have e : Lib.indexByte T.data.toList 46 = (a.length : Int) := by rw [h]; exact index_some ha
  have hn : ¬ (a.length : Int) = -1 := by omega
  have hs : T.size = a.length + (b.length + 1) := by
    have := congrArg List.length h
    simpa using this
  unfold cutA cutB cutF
  rw [e]
  simp only [if_neg hn, Int.toNat_natCast]
  refine ⟨?_, ?_, by simp⟩
  · rw [ByteArray.data_extract, Array.toList_extract, h]; simp
  · rw [ByteArray.data_extract, Array.toList_extract, h, List.extract_eq_take_drop, hs]
    rw [show a.length + (b.length + 1) - (a.length + 1) = b.length by omega]
    rw [show a ++ 46 :: b = (a ++ [46]) ++ b by simp, List.drop_left' (by simp), List.take_length]
theorem areD_iff (A : ByteArray) : areD A = true ↔ A.data.toList.all isD = true ∧ A.data.toList ≠ [] := by
  unfold areD allD
  rw [Bool.and_eq_true, Lib.toList_data]
  simp
theorem cutAB (T : ByteArray) : (cutA T ++ cutB T).data.toList = T.data.toList.erase 46 := by
  rcases index_cases T.data.toList with ⟨h, _⟩ | ⟨a, b, h, ha, _⟩
  · obtain ⟨e1, e2, _⟩ := cut_none h
    rw [e1, e2, erase_none h]; simp
  · obtain ⟨e1, e2, _⟩ := cut_some h ha
    rw [h, erase_point ha, ByteArray.data_append, Array.toList_append, e1, e2]
theorem ok_iff (T : ByteArray) : okT T = true ↔ OkL T.data.toList := by
  unfold okT OkL
  rcases index_cases T.data.toList with ⟨h, e⟩ | ⟨a, b, h, ha, e⟩
  · obtain ⟨e1, e2, e3⟩ := cut_none h
    rw [e1, e3, erase_none h, e]
    simp only [Bool.not_false, Bool.true_or, Bool.and_true, areD_iff]
    constructor
    · rintro ⟨q1, q2⟩; exact ⟨q1, q2, .inl trivial⟩
    · rintro ⟨q1, q2, _⟩; exact ⟨q1, q2⟩
  · obtain ⟨e1, e2, e3⟩ := cut_some h ha
    have hz : (cutB T).size = b.length := by rw [← e2]; simp
    rw [e3, e, h, erase_point ha, Bool.and_eq_true, Bool.not_true, Bool.false_or, Bool.and_eq_true, areD_iff, areD_iff, e1, e2, hz, decide_eq_true_iff, List.all_append, Bool.and_eq_true]
    have hl : ((a ++ 46 :: b).length : Int) = a.length + (b.length + 1) := by simp
    rw [hl]
    constructor
    · rintro ⟨⟨q1, q2⟩, ⟨q3, q4⟩, q5⟩
      have := List.length_pos_iff.2 q2
      have := List.length_pos_iff.2 q4
      exact ⟨⟨q1, q3⟩, by simp, .inr ⟨by omega, by omega, by omega⟩⟩
    · rintro ⟨⟨q1, q3⟩, _, q5⟩
      rcases q5 with q5 | ⟨q5, q6, q7⟩
      · omega
      · exact ⟨⟨q1, List.length_pos_iff.1 (by omega)⟩, ⟨q3, List.length_pos_iff.1 (by omega)⟩, by omega⟩
theorem cutB_size {T : ByteArray} : ((cutB T).size : Int) = if Lib.indexByte T.data.toList 46 = -1 then 0 else (T.size : Int) - Lib.indexByte T.data.toList 46 - 1 := by
  rcases index_cases T.data.toList with ⟨h, e⟩ | ⟨a, b, h, ha, e⟩
  · obtain ⟨e1, e2, e3⟩ := cut_none h
    rw [e2, if_pos e]; rfl
  · obtain ⟨e1, e2, e3⟩ := cut_some h ha
    have hz : (cutB T).size = b.length := by rw [← e2]; simp
    have hs : T.size = a.length + (b.length + 1) := by
      have := congrArg List.length h
      simpa using this
    rw [hz, e, if_neg (by omega), hs]; omega

/-- is there a sign? what is behind it. -/
def bel (s : ByteArray) : Bool := Lib.hasPrefix s.data.toList [45]
def pls (s : ByteArray) : Bool := Lib.hasPrefix s.data.toList [43]
def rest (s : ByteArray) : ByteArray := if bel s || pls s then s.extract 1 s.size else s
def vT (s : ByteArray) : Int := sg (bel s) (valL (cutA (rest s) ++ cutB (rest s)).data.toList)
/-- what a text tells: its number, its places, its error. -/
def rdN (s : ByteArray) : Int := if okT (rest s) = true then ofN (smV (vT s)) (smE (vT s)) else 0
def rdS (s : ByteArray) : Int := if okT (rest s) = true then ofS ((cutB (rest s)).size : Int) (smE (vT s)) else 0
def rdE (s : ByteArray) : Int := if okT (rest s) = true then smE (vT s) else 13

/-- digits with noughts ahead of them, so that they are more than so many. -/
def padL (D : List UInt8) (s : Nat) : List UInt8 := List.replicate (s + 1 - D.length) 48 ++ D
theorem padL_length (D : List UInt8) (s : Nat) : s < (padL D s).length := by unfold padL; simp; omega
/-- a number with its places, as a text. -/
def bodyL (P : List UInt8) (s : Nat) : List UInt8 := P.take (P.length - s) ++ (if s = 0 then [] else 46 :: P.drop (P.length - s))
def dtL (n : Int) (s : Nat) : List UInt8 := (if n < 0 then [45] else []) ++ bodyL (padL (Lib.decDigits n.natAbs) s) s
def dtB (n : Int) (s : Nat) : ByteArray := ⟨(dtL n s).toArray⟩

theorem valL_append (a b : List UInt8) : valL (a ++ b) = b.foldl (fun a c => a * 10 + (c.toNat - 48)) (valL a) := by unfold valL; rw [List.foldl_append]
theorem valL_snoc (a : List UInt8) (c : UInt8) : valL (a ++ [c]) = valL a * 10 + (c.toNat - 48) := by rw [valL_append]; rfl
theorem valL_zeros (k : Nat) (l : List UInt8) : valL (List.replicate k 48 ++ l) = valL l := by
  induction k with
  | zero => rfl
  | succ k ih => rw [List.replicate_succ, List.cons_append]; exact ih
theorem digit_toNat {k : Nat} (h : k < 10) : (UInt8.ofNat (48 + k)).toNat = 48 + k := by simp; omega
theorem dec_isD (u : Nat) : (Lib.decDigits u).all isD = true := by
  induction u using Nat.strongRecOn with
  | _ u ih =>
    rw [Lib.decDigits]
    split
    · rename_i h
      rw [List.all_cons, List.all_nil, Bool.and_true]
      unfold isD
      rw [digit_toNat h]
      exact decide_eq_true (by omega)
    · rename_i h
      rw [List.all_append, ih _ (by omega), Bool.true_and, List.all_cons, List.all_nil, Bool.and_true]
      have := digit_toNat (k := u % 10) (by omega)
      unfold isD
      rw [this]
      exact decide_eq_true (by omega)
theorem dec_val (u : Nat) : valL (Lib.decDigits u) = u := by
  induction u using Nat.strongRecOn with
  | _ u ih =>
    rw [Lib.decDigits]
    split
    · rename_i h
      unfold valL; simp only [List.foldl_cons, List.foldl_nil]
      rw [digit_toNat h]; omega
    · rename_i h
      rw [valL_snoc, ih _ (by omega), digit_toNat (by omega)]; omega
theorem pad_isD (u s : Nat) : (padL (Lib.decDigits u) s).all isD = true := by
  unfold padL
  rw [List.all_append, dec_isD, Bool.and_true, List.all_eq_true]
  intro c hc
  rw [(List.mem_replicate.1 hc).2]; decide
theorem pad_val (u s : Nat) : valL (padL (Lib.decDigits u) s) = u := by unfold padL; rw [valL_zeros, dec_val]
theorem body_erase {P : List UInt8} {s : Nat} (h : P.all isD = true) : (bodyL P s).erase 46 = P := by
  unfold bodyL
  by_cases hs : s = 0
  · rw [if_pos hs, hs, Nat.sub_zero, List.take_length, List.append_nil, erase_none (allD_no_point h)]
  · rw [if_neg hs, erase_point (fun k => allD_no_point h (List.mem_of_mem_take k)), List.take_append_drop]
theorem head_hp (c : UInt8) (l : List UInt8) (d : UInt8) : Lib.hasPrefix (c :: l) [d] = (d == c) := by
  unfold Lib.hasPrefix; simp [List.isPrefixOf]
theorem body_head {P : List UInt8} {s : Nat} (h : P.all isD = true) (hl : s < P.length) : ∃ c l, bodyL P s = c :: l ∧ isD c = true := by
  unfold bodyL
  match P, hl with
  | c :: P, hl =>
    rw [List.all_cons, Bool.and_eq_true] at h
    have e : (c :: P).length - s = (P.length - s) + 1 := by simp at hl ⊢; omega
    rw [e, List.take_succ_cons]
    exact ⟨c, _, rfl, h.1⟩
theorem body_point {P : List UInt8} {s : Nat} (h : P.all isD = true) (hl : s < P.length) : Lib.indexByte (bodyL P s) 46 = if s = 0 then -1 else ((P.length - s : Nat) : Int) := by
  unfold bodyL
  by_cases hs : s = 0
  · rw [if_pos hs, if_pos hs, List.append_nil, index_none (fun k => allD_no_point h (List.mem_of_mem_take k))]
  · rw [if_neg hs, if_neg hs, index_some (fun k => allD_no_point h (List.mem_of_mem_take k)), List.length_take]
    congr 1; omega
theorem body_length {P : List UInt8} {s : Nat} (hl : s < P.length) : (bodyL P s).length = P.length + (if s = 0 then 0 else 1) := by
  unfold bodyL
  by_cases hs : s = 0
  · simp [hs]
  · simp [hs]; omega

/-- what is behind the sign of a number's text. -/
theorem rest_text (n : Int) (s : Nat) : (rest (dtB n s)).data.toList = bodyL (padL (Lib.decDigits n.natAbs) s) s ∧ bel (dtB n s) = decide (n < 0) := by
  have hP := pad_isD n.natAbs s
  obtain ⟨c, l, e, hc⟩ := body_head hP (padL_length _ _)
  unfold rest bel pls dtB dtL
  by_cases hn : n < 0
  · rw [if_pos hn, decide_eq_true hn]
    simp only [List.cons_append, List.nil_append, head_hp]
    simp [ByteArray.data_extract, List.extract_eq_take_drop, ByteArray.size]
  · rw [if_neg hn, decide_eq_false hn, List.nil_append, e]
    simp only [head_hp]
    have h1 : ((45 : UInt8) == c) = false := by
      rw [beq_eq_false_iff_ne]; intro k; rw [← k] at hc; exact absurd hc (by decide)
    have h2 : ((43 : UInt8) == c) = false := by
      rw [beq_eq_false_iff_ne]; intro k; rw [← k] at hc; exact absurd hc (by decide)
    simp [h1, h2]
/-- a number's text is read again as it is. -/
theorem text_back (n : Int) (s : Nat) (hs : s ≤ 9) (h1 : -9223372036854775808 ≤ n) (h2 : n ≤ 9223372036854775807) : rdN (dtB n s) = n ∧ rdS (dtB n s) = (s : Int) ∧ rdE (dtB n s) = 0 := by
  obtain ⟨e1, e2⟩ := rest_text n s
  have hP := pad_isD n.natAbs s
  have hL := padL_length (Lib.decDigits n.natAbs) s
  have ei := body_point hP hL
  have el := body_length hL
  have ok : okT (rest (dtB n s)) = true := by
    rw [ok_iff, e1]
    refine ⟨by rw [body_erase hP]; exact hP, ?_, ?_⟩
    · obtain ⟨c, l, e, _⟩ := body_head hP hL
      rw [e]; simp
    · rw [ei, el]
      by_cases h : s = 0
      · exact .inl (if_pos h)
      · rw [if_neg h, if_neg h]; right; omega
  have hv : vT (dtB n s) = n := by
    unfold vT
    rw [cutAB, e1, e2, body_erase hP, pad_val]
    unfold sg
    by_cases hn : n < 0
    · rw [decide_eq_true hn]; simp only [if_true]; omega
    · rw [decide_eq_false hn]; simp; omega
  have hz : ((cutB (rest (dtB n s))).size : Int) = s := by
    rw [cutB_size, e1, ei]
    have hsz : ((rest (dtB n s)).size : Int) = ((bodyL (padL (Lib.decDigits n.natAbs) s) s).length : Int) := by rw [← e1]; simp
    rw [hsz, el]
    by_cases h : s = 0
    · rw [if_pos h, if_pos rfl, h]; rfl
    · rw [if_neg h, if_neg h, if_neg (by omega)]; omega
  have hE : smE n = 0 := by unfold smE; rw [if_pos ⟨h1, h2⟩]
  have hV : smV n = n := by unfold smV; rw [if_pos ⟨h1, h2⟩]
  unfold rdN rdS rdE
  rw [if_pos ok, if_pos ok, if_pos ok, hv, hE, hV, hz]
  exact ⟨rfl, rfl, rfl⟩

end Go.Proofs.YtebjicnjbiiioaaDoor
