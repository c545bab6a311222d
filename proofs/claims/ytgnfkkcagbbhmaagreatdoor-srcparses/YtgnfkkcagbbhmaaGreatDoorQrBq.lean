/- Contract: the reference's among (of a source). -/
import Derived.Test.YtgnfkkcagbbhmaaGreatDoorQrAq
namespace Go.Proofs.YtgnfkkcagbbhmaaGreatDoor
open Go.RowKit
set_option linter.unusedVariables false

/-- whether a text is one of some. -/
def amB (s : ByteArray) (F : List ByteArray) : Bool := F.any fun x => x.toList == s.toList
theorem amB_at {s : ByteArray} {F : List ByteArray} {j : Nat} {x : ByteArray} (hx : F[j]? = some x) : amB s (F.drop j) = ((x.toList == s.toList) || amB s (F.drop (j + 1))) := by
  have hj := (List.getElem?_eq_some_iff.1 hx).1
  unfold amB
  rw [List.drop_eq_getElem_cons hj, (List.getElem?_eq_some_iff.1 hx).2, List.any_cons]

set_option maxRecDepth 100000 in
set_option maxHeartbeats 4000000 in
theorem qamong_any (s : ByteArray) (F : List ByteArray) (a : Option Addr) (c : Nat) (w : World) (hc : F.length ≤ c) (hc9 : c ≤ maxLen) (HA : F ≠ [] → ∃ g, a = some ⟨g, 0, none⟩ ∧ ∀ j x, F[j]? = some x → w.cell? ⟨g, j, none⟩ = some (.string x)) :
    Calls Tryz.prog 22 #[.string s, .slice a F.length c] w fun e w' => e = .returned (.bool (amB s F)) ∧ Below w.heap.size w w' := by
  unfold maxLen at hc9
  have hF9 : (F.length : Int) ≤ 9223372036854775807 := by omega
  obtain ⟨G, hG⟩ : ∃ G, amB s F = G := ⟨_, rfl⟩
  rw [hG]
  have HG : Hid (amB s (F.drop 0) = G) := by rw [List.drop_zero]; exact hG
  clear hG
  go_enter Tryz.func22, Tryz.ntmps22
  go_wp2_with fail
  go_loopw [5] (fun iv W => ∃ j : Nat, iv = .int .i64 (j : Int) ∧ j ≤ F.length ∧ Hid (amB s (F.drop j) = G) ∧ Hid (Below w.heap.size w W)) (fun iv _ => F.length - (intOf iv).toNat)
  case atStart => exact ⟨0, rfl, Nat.zero_le _, HG, Below.refl _ _⟩
  case round =>
    obtain ⟨j, rfl, hj, HE, HW⟩ := hrel
    have hj0 : (0 : Int) ≤ (j : Int) := by omega
    by_cases hjn : j < F.length
    · have hjI : (j : Int) < (F.length : Int) := by omega
      have hjw : IntKind.i64.wrap ((j : Int) + 1) = (j : Int) + 1 := by rw [IntKind.wrap_i64]; omega
      obtain ⟨g, hg, hcell⟩ := HA (fun e => by rw [e] at hjn; simp at hjn)
      subst hg
      obtain ⟨x, hx⟩ : ∃ x, F[j]? = some x := ⟨_, List.getElem?_eq_getElem hjn⟩
      have f0 := (HW.out.cell (World.block_lt_of_cell? _ _ (hcell j x hx))).trans (hcell j x hx)
      have HE2 : Hid (((x.toList == s.toList) || amB s (F.drop (j + 1))) = G) := by have := HE.out; rw [amB_at hx] at this; exact this
      clear HE hx hcell
      cases hq : (x.toList == s.toList) with
      | true =>
        have hG : G = true := by rw [← HE2.out, hq]; rfl
        clear HE2
        go_wp2_with fail
        go_ret
        exact ⟨by first | rfl | (rw [hG]; rfl), HW.out⟩
      | false =>
        have HE3 : Hid (amB s (F.drop (j + 1)) = G) := by have := HE2.out; rw [hq] at this; exact this
        clear HE2
        go_wp2_with fail
        exact ⟨⟨j + 1, rfl, hjn, HE3, HW⟩, by simp only [intOf]; omega⟩
    · have hjI : ¬ (j : Int) < (F.length : Int) := by omega
      have hG : G = false := by rw [← HE.out, List.drop_eq_nil_of_le (by omega)]; rfl
      go_wp2_with fail
      go_ret
      exact ⟨by first | rfl | (rw [hG]; rfl), HW.out⟩

end Go.Proofs.YtgnfkkcagbbhmaaGreatDoor
