/- The reference's decimal sums: what joins the wide numbers and the decimals; a power of ten. -/
import Derived.Test.YtlhlanekklonmaaDoorDecL
import Derived.Test.YtlhlanekklonmaaDoorWideV
namespace Go.Proofs.YtlhlanekklonmaaDoor
open Go.RowKit
set_option linter.unusedVariables false

theorem ten_le (k : Nat) (h : k ≤ 9) : (10 : Int) ^ k ≤ 1000000000 ∧ 1 ≤ (10 : Int) ^ k := by
  match k, h with
  | 0, _ => exact by decide
  | 1, _ => exact by decide
  | 2, _ => exact by decide
  | 3, _ => exact by decide
  | 4, _ => exact by decide
  | 5, _ => exact by decide
  | 6, _ => exact by decide
  | 7, _ => exact by decide
  | 8, _ => exact by decide
  | 9, _ => exact by decide

set_option maxRecDepth 100000 in
set_option maxHeartbeats 1000000 in
theorem rten_any (n : Nat) (hn : n ≤ 9) (w : World) :
    Calls Tryd.prog 74 #[.int .i64 n] w fun e w' => e = .returned (.int .i64 (10 ^ n)) ∧ Below w.heap.size w w' := by
  go_enter Tryd.func74, Tryd.ntmps74
  go_wp2_with fail
  go_loopw [3, 4] (fun p i wr => ∃ k : Nat, k ≤ n ∧ i = .int .i64 k ∧ p = .int .i64 (10 ^ k) ∧ Below w.heap.size w wr) (fun _ i _ => n - (intOf i).toNat)
  case atStart => exact ⟨0, by omega, rfl, rfl, Below.refl _ _⟩
  case round =>
    obtain ⟨k, hk, rfl, rfl, hB⟩ := hrel
    have HB : Hid (Below w.heap.size w wr) := hB
    clear hB
    by_cases hlt : k < n
    · have hlt' : (k : Int) < (n : Int) := by omega
      obtain ⟨t1, t2⟩ := ten_le k (by omega)
      obtain ⟨p, hp⟩ : ∃ p : Int, p = 10 ^ k := ⟨_, rfl⟩
      have HP : Hid (p * 10 = 10 ^ (k + 1)) := by show _ = _; rw [hp, Int.pow_succ]
      rw [← hp] at t1 t2 ⊢
      clear hp
      go_wp2
      exact ⟨⟨k + 1, by omega, by go_num, by rw [← HP.out], HB.out⟩, by simp [intOf]; omega⟩
    · have hlt' : ¬ (k : Int) < (n : Int) := by omega
      obtain rfl : k = n := by omega
      generalize hV : (10 : Int) ^ k = V at *
      go_wp2
      go_ret
      exact ⟨rfl, HB.out⟩

end Go.Proofs.YtlhlanekklonmaaDoor
