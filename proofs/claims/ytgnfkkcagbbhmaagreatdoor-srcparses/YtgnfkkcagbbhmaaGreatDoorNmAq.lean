/- strings.IndexRune and ContainsRune of the four signs of a name, for a sign beyond ASCII: none is there; src.Name of any text. -/
import Derived.Test.YtgnfkkcagbbhmaaGreatDoorSrEq
import Derived.Test.YtgnfkkcagbbhmaaGreatDoorShelfq
import Derived.Deep.Cut
namespace Go.Proofs.YtgnfkkcagbbhmaaGreatDoor
open Go.RowKit
set_option linter.unusedVariables false

theorem four_low : ∀ p : Fin 4, ((⟨#[95, 45, 43, 47]⟩ : ByteArray)[p.val]'(p.isLt)).toNat < 128 := by decide

set_option maxRecDepth 100000 in
set_option maxHeartbeats 4000000 in
theorem irune_bad (R : Int) (h1 : 128 ≤ R) (h2 : R ≠ 65533) (hv : Lib.validRune R = false) (w : World) :
    Calls Tryz.prog 74 #[.string ⟨#[95, 45, 43, 47]⟩, .int .i32 R] w fun e w' => e = .returned (.int .i64 (-1)) ∧ w' = w := by
  have HV := Tryz.utf8_ValidRune R w
  rw [hv] at HV
  have n1 : ¬ R < 128 := by omega
  have n2 : (R == 65533) = false := beq_eq_false_iff_ne.2 h2
  have n3 : 0 ≤ R := by omega
  go_enter Tryz.func74, Tryz.ntmps74
  go_wp2_with fail
  refine HV.mono ?_
  rintro e w' ⟨rfl, hw⟩
  obtain rfl := hw.symm
  clear hw HV
  go_wp2_with fail
  exact bodyPost_ret (v := .int .i64 (-1)) (by simp [results, Tryz.results74, go_sem]) rfl ⟨rfl, rfl⟩

set_option maxRecDepth 100000 in
set_option maxHeartbeats 4000000 in
theorem irune_err (w : World) :
    Calls Tryz.prog 74 #[.string ⟨#[95, 45, 43, 47]⟩, .int .i32 65533] w fun e w' => e = .returned (.int .i64 (-1)) ∧ Below w.heap.size w w' := by
  go_enter Tryz.func74, Tryz.ntmps74
  go_wp2_with fail
  go_loopw [] (fun wr => ∃ pos : Nat, pos ≤ 4 ∧ Hid (wr.heap[w.heap.size]? = some (.stringIter ⟨#[95, 45, 43, 47]⟩ pos)) ∧ Hid (Below w.heap.size w wr)) (fun wr => 4 - wr.iterPos w.heap.size)
  case atStart => exact ⟨0, Nat.zero_le _, World.iter_heap w _ 0, (Below.refl _ _).alloc (Nat.le_refl _) _⟩
  case round =>
    obtain ⟨pos, hle, HI, HB⟩ := hrel
    have hpos0 : Hid (wr.iterPos w.heap.size = pos) := Lin.iterPos_at HI.out
    by_cases hp : pos < 4
    · obtain ⟨c, hc, hasc⟩ : ∃ c : UInt8, (⟨#[95, 45, 43, 47]⟩ : ByteArray)[pos]'hp = c ∧ c.toNat < 128 := ⟨_, rfl, four_low ⟨pos, hp⟩⟩
      have hnx : ∀ ty, (Instr.next (.pointer (some ⟨w.heap.size, 0, none⟩)) true ty).run Tryz.prog wr = _ := fun ty => Lib.run_next_ascii_at wr w.heap.size ⟨#[95, 45, 43, 47]⟩ pos ty HI.out hp (by rw [hc]; exact hasc)
      rw [hc] at hnx
      have HI1 : Hid ((wr.iterAt w.heap.size ⟨#[95, 45, 43, 47]⟩ (pos + 1)).heap[w.heap.size]? = some (.stringIter ⟨#[95, 45, 43, 47]⟩ (pos + 1))) := Lib.iterAt_heap wr w.heap.size _ pos (pos + 1) HI.out
      have HB1 : Hid (Below w.heap.size w (wr.iterAt w.heap.size ⟨#[95, 45, 43, 47]⟩ (pos + 1))) := Lib.below_iterAt HB.out (k := w.heap.size) (Nat.le_refl _) _ (pos + 1)
      obtain ⟨C, hC⟩ : ∃ C, c.toNat = C := ⟨_, rfl⟩
      rw [hC] at hnx hasc
      have hne : ((C : Int) == 65533) = false := by rw [beq_eq_false_iff_ne]; omega
      clear hc HI HB
      generalize wr.iterAt w.heap.size ⟨#[95, 45, 43, 47]⟩ (pos + 1) = w1 at *
      go_wp2_with fail
      go_roundw
      case rel => exact ⟨pos + 1, by omega, HI1, HB1⟩
      case measure => rw [hpos0.out, Lin.iterPos_at HI1.out]; omega
    · have hnx : ∀ ty, (Instr.next (.pointer (some ⟨w.heap.size, 0, none⟩)) true ty).run Tryz.prog wr = _ := fun ty => Lib.run_next_end_at wr w.heap.size ⟨#[95, 45, 43, 47]⟩ pos ty HI.out (by show ¬ pos < 4; exact hp)
      go_wp2_with fail
      exact bodyPost_ret (v := .int .i64 (-1)) (by simp [results, Tryz.results74, go_sem]) rfl ⟨rfl, HB.out⟩

end Go.Proofs.YtgnfkkcagbbhmaaGreatDoor
