/- Contracts of word.areDigits and word.Number: digits as a number. -/
import Derived.Test.YtgnfkkcagbbhmaaGreatDoorWdFq
import Derived.Test.YtgnfkkcagbbhmaaGreatDoorNumCq
namespace Go.Proofs.YtgnfkkcagbbhmaaGreatDoor.Wrd
open Go.RowKit
set_option linter.unusedVariables false

theorem empty_of {s : ByteArray} (h : s.size = 0) : s = ⟨#[]⟩ := by
  cases s with
  | mk d => congr; exact Array.eq_empty_of_size_eq_zero h
theorem toList_ne {s : ByteArray} (h : s.size ≠ 0) : s.toList.isEmpty = false ∧ (s.toList == []) = false := by
  rw [Lib.toList_data]
  cases hl : s.data.toList with
  | nil => exact absurd (by rw [← sz, hl]; rfl) h
  | cons a b => exact ⟨rfl, rfl⟩

set_option maxRecDepth 1000000 in
set_option maxHeartbeats 4000000 in
theorem adigits_any (s : ByteArray) (B : Bool) (hB : Hid (B = (digs s && decide (s.size ≠ 0)))) (hs : s.size ≤ maxLen) (w : World) :
    Calls Tryz.prog 171 #[.string s] w fun e w' => e = .returned (.bool B) ∧ Below w.heap.size w w' := by
  unfold maxLen at hs
  go_enter Tryz.func171, Tryz.ntmps171
  go_wp2_with fail
  go_loopw [] (fun wr => ∃ pos fuel : Nat, pos ≤ s.size ∧ wr.heap[w.heap.size]? = some (.stringIter s pos) ∧ Below w.heap.size w wr ∧ Hid (digF s fuel pos = digs s) ∧ s.size ≤ pos + fuel) (fun wr => s.size - wr.iterPos w.heap.size)
  case atStart => exact ⟨0, s.size, Nat.zero_le _, World.iter_heap w s 0, (Below.refl _ _).alloc (Nat.le_refl _) _, rfl, by omega⟩
  case round =>
    obtain ⟨pos, fuel, hle, hit, B0, HS, hf⟩ := hrel
    have hpos0 : Hid (wr.iterPos w.heap.size = pos) := iterPos_eq hit
    by_cases hp : pos < s.size
    · have hnx : ∀ ty, (Instr.next (.pointer (some ⟨w.heap.size, 0, none⟩)) true ty).run Tryz.prog wr = _ := fun ty => Lib.run_next_any_at wr w.heap.size s pos ty hit hp
      obtain ⟨fuel, rfl⟩ : ∃ f', fuel = f' + 1 := ⟨fuel - 1, by omega⟩
      have hit2 := Lib.iterAt_heap wr w.heap.size s pos (pos + (Utf8.decode s pos).2) hit
      have B2 := Lib.below_iterAt B0 (k := w.heap.size) (by omega) s (pos + (Utf8.decode s pos).2)
      obtain ⟨rd1, rd2⟩ := rune_digit s pos hp
      obtain ⟨R, hR⟩ : ∃ R : Int, ((Utf8.decode s pos).1 : Int) = R := ⟨_, rfl⟩
      obtain ⟨W1, hW1⟩ : ∃ W1, W1 = wr.iterAt w.heap.size s (pos + (Utf8.decode s pos).2) := ⟨_, rfl⟩
      rw [hR] at hnx
      rw [← hW1] at hnx hit2 B2
      have R0 : 0 ≤ R := by omega
      have R1 : R ≤ 2147483647 := by have := decode_le s pos; omega
      have HI : Hid (W1.heap[w.heap.size]? = some (.stringIter s (pos + (Utf8.decode s pos).2))) := hit2
      have HB : Hid (Below w.heap.size w W1) := B2
      clear hit2 B2 B0 hit hW1
      by_cases hd : 48 ≤ R ∧ R ≤ 57
      · have hq : digitN (bt s pos) = true := rd1.1 (by omega)
        have hw := rd2 hq
        rw [hw] at HI
        have HE : Hid (digF s fuel (pos + 1) = digs s) := by show _ = _; rw [← HS.out, digF_step hp, hq, Bool.true_and]
        obtain ⟨d1, d2⟩ := hd
        have d1' : ¬ R < 48 := by omega
        have d2' : ¬ 57 < R := by omega
        clear hR rd1 rd2 hw hq
        go_wp2_with fail
        go_roundw
        case rel => exact ⟨pos + 1, fuel, by omega, HI.out, HB.out, HE, by omega⟩
        case measure => rw [hpos0.out, iterPos_eq HI.out]; omega
      · have hq : digitN (bt s pos) = false := by
          cases z : digitN (bt s pos) with
          | false => rfl
          | true => exfalso; have := rd1.2 z; omega
        have e : B = false := by rw [hB.out, ← HS.out, digF_step hp, hq]; rfl
        subst e
        clear hR rd1 rd2 hq
        go_wp2_with fail
        all_goals first
          | (exfalso; omega)
          | (go_ret; exact ⟨rfl, HB.out⟩)
    · have hnx : ∀ ty, (Instr.next (.pointer (some ⟨w.heap.size, 0, none⟩)) true ty).run Tryz.prog wr = _ := fun ty => Lib.run_next_end_at wr w.heap.size s pos ty hit hp
      have hdg : digs s = true := by rw [← HS.out, digF_end s fuel pos hp]
      have HB : Hid (Below w.heap.size w wr) := B0
      clear B0 hit
      by_cases h0 : s.size = 0
      · have e : B = false := by rw [hB.out, h0]; simp
        subst e
        have e2 := empty_of h0
        subst e2
        go_wp2_with fail
        go_ret
        exact ⟨rfl, HB.out⟩
      · have e : B = true := by rw [hB.out, hdg, decide_eq_true h0]; rfl
        subst e
        obtain ⟨z1, z2⟩ := toList_ne h0
        go_wp2_with fail
        go_ret
        exact ⟨rfl, HB.out⟩

end Go.Proofs.YtgnfkkcagbbhmaaGreatDoor.Wrd
