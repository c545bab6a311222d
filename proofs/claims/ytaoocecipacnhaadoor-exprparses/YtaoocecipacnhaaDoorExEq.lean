/- A token's text: of two quotes one (strings.ReplaceAll as a function), and the program's said. -/
import Derived.Test.YtaoocecipacnhaaDoorExDq
import Derived.Test.YtaoocecipacnhaaDoorShelfq
namespace Go.Proofs.YtaoocecipacnhaaDoor
open Go.RowKit
set_option linter.unusedVariables false

theorem rep_unq : ∀ l : List UInt8, Lib.replaceK [39, 39] [39] (Lib.count l [39, 39]) l = unq l
  | [] => rfl
  | [c] => by
    have e : Lib.index [c] [39, 39] = -1 := by simp [Lib.index, List.isPrefixOf]
    rw [Lib.count_miss e]; rfl
  | a :: b :: l => by
    by_cases h : a = 39 ∧ b = 39
    · obtain ⟨rfl, rfl⟩ := h
      have e : Lib.index (39 :: 39 :: l) [39, 39] = (0 : Nat) := by simp [Lib.index, List.isPrefixOf]
      rw [Lib.count_hit (by simp) e, Nat.add_comm, Lib.replaceK_hit _ _ _ _ 0 e]
      simp only [List.length_cons, List.length_nil, Nat.zero_add, List.take_zero, List.nil_append, List.drop_succ_cons, List.drop_zero]
      rw [rep_unq l]
      simp [unq]
    · have ih := rep_unq (b :: l)
      have hp : List.isPrefixOf [39, 39] (a :: b :: l) = false := by
        simp only [List.isPrefixOf, Bool.and_true, Bool.and_eq_false_iff, beq_eq_false_iff_ne]
        rcases Classical.em (a = 39) with rfl | ha
        · exact .inr fun q => h ⟨rfl, q.symm⟩
        · exact .inl fun q => ha q.symm
      have e0 : Lib.index (a :: b :: l) [39, 39] = if Lib.index (b :: l) [39, 39] == -1 then -1 else Lib.index (b :: l) [39, 39] + 1 := by
        rw [Lib.index, hp]; simp
      rw [show unq (a :: b :: l) = a :: unq (b :: l) by rw [unq, if_neg h], ← ih]
      have hge := Lib.index_ge (b :: l) [39, 39]
      by_cases hm : Lib.index (b :: l) [39, 39] = -1
      · rw [hm] at e0
        rw [Lib.count_miss e0, Lib.count_miss hm]; rfl
      · obtain ⟨i, hi⟩ : ∃ i : Nat, Lib.index (b :: l) [39, 39] = i := ⟨(Lib.index (b :: l) [39, 39]).toNat, by omega⟩
        have e1 : Lib.index (a :: b :: l) [39, 39] = (i + 1 : Nat) := by
          rw [e0, hi, if_neg (by simp <;> omega)]; simp
        rw [Lib.count_hit (by simp) e1, Lib.count_hit (by simp) hi, Nat.add_comm 1, Nat.add_comm 1, Lib.replaceK_hit _ _ _ _ _ e1, Lib.replaceK_hit _ _ _ _ _ hi]
        simp only [List.length_cons, List.length_nil, Nat.zero_add, Nat.add_assoc, List.take_succ_cons, List.cons_append]
        rw [show i + (1 + (1 + 1)) = i + (1 + 1) + 1 by omega, List.drop_succ_cons]
theorem repl_unq (l : List UInt8) : Lib.replaceAll l [39, 39] [39] = unq l := by
  rw [← rep_unq l]
  simp [Lib.replaceAll, Lib.replace, Lib.replaceNum]

/-- a token's text of how it is written. -/
def saidT (k : Int) (t : ByteArray) : ByteArray := if k = 4 then lowB t else if k = 3 then ⟨(unq (t.extract 1 (t.size - 1)).data.toList).toArray⟩ else t

set_option maxRecDepth 100000 in
set_option maxHeartbeats 4000000 in
theorem said_any (k : Int) (t : ByteArray) (m : Int) (w : World) (hm : w.cell? ⟨2, 0, none⟩ = some (.int .i64 m)) (ht : t.size ≤ 4096) (h3 : k = 3 → 2 ≤ t.size) :
    Calls Tryd.prog 25 #[.int .i64 k, .string t] w fun e w' => e = .returned (.string (saidT k t)) ∧ Below w.heap.size w w' := by
  have htI : (t.size : Int) ≤ 4096 := by omega
  rcases Classical.em (k = 4) with rfl | h4
  · have HE : Hid (saidT 4 t = lowB t) := by show _ = _; simp [saidT]
    clear h3
    go_enter Tryd.func25, Tryd.ntmps25
    go_wp2_with fail
    refine (lower_any t (by unfold maxLen; omega) w).mono ?_
    rintro e V ⟨rfl, hk⟩
    have HU : Hid (Below w.heap.size w V) := hk
    clear hk
    go_wp2
    go_ret
    exact ⟨by rw [HE.out]; rfl, HU.out⟩
  have g4 : (k == 4) = false := by simpa using h4
  rcases Classical.em (k = 3) with rfl | hk3
  · have HE : Hid (saidT 3 t = ⟨(unq (t.extract 1 (t.size - 1)).data.toList).toArray⟩) := by show _ = _; simp [saidT]
    have hz : 2 ≤ t.size := h3 rfl
    have hzI : (2 : Int) ≤ (t.size : Int) := by omega
    have q9 : ((t.size : Int) - 1).toNat = t.size - 1 := by omega
    have hsz : (t.extract 1 (t.size - 1)).size ≤ 4096 := by rw [ByteArray.size_extract]; omega
    have RC : Hid (Calls Tryd.prog 41 #[.string (t.extract 1 (t.size - 1)), .string ⟨#[39, 39]⟩, .string ⟨#[39]⟩] w fun e w' => e = .returned (.string (saidT 3 t)) ∧ Below w.heap.size w w') := by
      have hl := Lib.countB_le ⟨#[39, 39]⟩ (by decide) _ (t.extract 1 (t.size - 1)) (Nat.le_refl _)
      have := Tryd.strings_ReplaceAll (t.extract 1 (t.size - 1)) ⟨#[39, 39]⟩ ⟨#[39]⟩ m w (by omega) hm (by decide) (by rw [show (⟨#[39]⟩ : ByteArray).size = 1 from rfl]; omega)
      rw [repl_unq] at this
      rw [HE.out]
      exact this
    clear HE
    clear h3 h4 g4
    go_enter Tryd.func25, Tryd.ntmps25
    go_wp2_with fail
    refine RC.out.mono ?_
    rintro e V ⟨rfl, hk⟩
    have HU : Hid (Below w.heap.size w V) := hk
    clear hk
    go_wp2
    go_ret
    exact ⟨rfl, HU.out⟩
  have g3 : (k == 3) = false := by simpa using hk3
  have HE : Hid (saidT k t = t) := by show _ = _; simp [saidT, h4, hk3]
  go_enter Tryd.func25, Tryd.ntmps25
  go_wp2
  go_ret
  exact ⟨by rw [HE.out]; rfl, Below.refl _ _⟩

end Go.Proofs.YtaoocecipacnhaaDoor
