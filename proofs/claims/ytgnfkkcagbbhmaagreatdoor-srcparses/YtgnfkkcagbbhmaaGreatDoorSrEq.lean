/- Contract: src.Name. -/
import Derived.Test.YtgnfkkcagbbhmaaGreatDoorSrDq
import Derived.Test.YtgnfkkcagbbhmaaGreatDoorWdMathq
namespace Go.Proofs.YtgnfkkcagbbhmaaGreatDoor
open Go.RowKit Lin
set_option linter.unusedVariables false

/-- one of the four signs that a name may bear. -/
def isP (R : Int) : Bool := decide (R = 95) || decide (R = 45) || decide (R = 43) || decide (R = 47)
def nmC (i : Nat) (R : Int) : Bool := isL R || (decide (i ≠ 0) && (isD R || isP R))
theorem nmC_high {R : Int} (h : 128 ≤ R) (i : Nat) : nmC i R = false := by simp [nmC, isL, isD, isP]; omega
def nmF : Nat → List UInt8 → Bool
  | _, [] => true
  | i, c :: l => nmC i (c.toNat : Int) && nmF (i + 1) l
def nameB (s : ByteArray) : Bool := nmF 0 s.data.toList && (decide (s.size ≠ 0) && decide (s.size ≤ 32))
/-- what ContainsRune says of a sign below B. -/
def CRune (B : Int) : Prop := ∀ (R : Int) (w : World), 0 ≤ R → R < B → Calls Tryz.prog 42 #[.string ⟨#[95, 45, 43, 47]⟩, .int .i32 R] w fun e w' => e = .returned (.bool (isP R)) ∧ Below w.heap.size w w'

set_option maxRecDepth 1000000 in
set_option maxHeartbeats 8000000 in
theorem name_any (s : ByteArray) (B : Int) (HCR : Hid (CRune B)) (hsB : Hid (∀ pos, pos < s.size → ((Utf8.decode s pos).1 : Int) < B)) (hs9 : s.size ≤ maxLen) (w : World) :
    Calls Tryz.prog 15 #[.string s] w fun e w' => e = .returned (.bool (nameB s)) ∧ Below w.heap.size w w' := by
  unfold maxLen at hs9
  obtain ⟨G, hG⟩ : ∃ G, nameB s = G := ⟨_, rfl⟩
  rw [hG]
  have HG : Hid ((nmF 0 (s.data.toList.drop 0) && (decide (s.size ≠ 0) && decide (s.size ≤ 32))) = G) := hG
  clear hG
  go_enter Tryz.func15, Tryz.ntmps15
  go_wp2_with fail
  go_loopw [] (fun wr => ∃ pos : Nat, pos ≤ s.size ∧ Hid (wr.heap[w.heap.size]? = some (.stringIter s pos)) ∧ Hid ((nmF pos (s.data.toList.drop pos) && (decide (s.size ≠ 0) && decide (s.size ≤ 32))) = G) ∧ Hid (Below w.heap.size w wr)) (fun wr => s.size - wr.iterPos w.heap.size)
  case atStart => exact ⟨0, Nat.zero_le _, World.iter_heap w s 0, HG, (Below.refl _ _).alloc (Nat.le_refl _) _⟩
  case round =>
    clear HG
    obtain ⟨pos, hle, HI, HG, HB⟩ := hrel
    have hpos0 : Hid (wr.iterPos w.heap.size = pos) := iterPos_at HI.out
    by_cases hp : pos < s.size
    · obtain ⟨c, hc1, hc2⟩ := drop_cons hp
      rw [hc1] at HG
      have hltI : w.heap.size < wr.heap.size := (Array.getElem?_eq_some_iff.1 HI.out).1
      have hRB := hsB.out pos hp
      obtain ⟨R, W1, pos2, hnx, HI1, HB1, HE, R0, RB, hpp⟩ : ∃ (R : Int) (W1 : World) (pos2 : Nat), (∀ ty, (Instr.next (.pointer (some ⟨w.heap.size, 0, none⟩)) true ty).run Tryz.prog wr = .ok (.tuple #[.bool true, .int .i64 (pos : Int), .int .i32 R]) W1) ∧ Hid (W1.heap[w.heap.size]? = some (.stringIter s pos2)) ∧ Hid (Below w.heap.size w W1) ∧ Hid ((nmC pos R && (nmF pos2 (s.data.toList.drop pos2) && (decide (s.size ≠ 0) && decide (s.size ≤ 32)))) = G) ∧ 0 ≤ R ∧ R < B ∧ pos < pos2 ∧ pos2 ≤ s.size := by
        by_cases hasc : c.toNat < 128
        · refine ⟨(c.toNat : Int), wr.iterAt w.heap.size s (pos + 1), pos + 1, ?_, Lib.iterAt_heap wr w.heap.size s pos (pos + 1) HI.out, Lib.below_iterAt HB.out (k := w.heap.size) (Nat.le_refl _) s (pos + 1), ?_, by omega, ?_, by omega, by omega⟩
          · intro ty
            have := Lib.run_next_ascii_at (P := Tryz.prog) wr w.heap.size s pos ty HI.out hp (by rw [hc2]; exact hasc)
            rw [hc2] at this
            exact this
          · show _ = _
            rw [← HG.out, nmF, Bool.and_assoc]
          · have := decode_ascii s pos hp (by rw [hc2]; exact hasc)
            rw [this, hc2] at hRB
            exact hRB
        · have hd := (decode_high s pos hp (by rw [hc2]; omega)).1
          refine ⟨((Utf8.decode s pos).1 : Int), wr.iterAt w.heap.size s (pos + (Utf8.decode s pos).2), pos + (Utf8.decode s pos).2, ?_, Lib.iterAt_heap wr w.heap.size s pos _ HI.out, Lib.below_iterAt HB.out (k := w.heap.size) (Nat.le_refl _) s _, ?_, by omega, hRB, ?_, ?_⟩
          · intro ty
            exact Lib.run_next_any_at wr w.heap.size s pos ty HI.out hp
          · show _ = _
            rw [← HG.out, nmF, nmC_high (by omega), nmC_high (by omega)]; rfl
          · have := Wrd.wd_pos s pos; omega
          · exact Wrd.wd_le s pos hp
      clear HG HI HB hc1 hc2 hRB
      have HL : Hid (∀ w : World, Calls Tryz.prog 40 #[.int .i32 R] w fun e w' => e = .returned (.bool (isL R)) ∧ w' = w) := srLetter_any R
      have HD : Hid (∀ w : World, Calls Tryz.prog 41 #[.int .i32 R] w fun e w' => e = .returned (.bool (isD R)) ∧ w' = w) := srDigit_any R
      have HP : Hid (∀ w : World, Calls Tryz.prog 42 #[.string ⟨#[95, 45, 43, 47]⟩, .int .i32 R] w fun e w' => e = .returned (.bool (isP R)) ∧ Below w.heap.size w w') := fun w => HCR.out R w R0 RB
      unfold nmC at HE
      generalize isL R = b1 at *
      generalize isD R = b2 at *
      generalize isP R = b3 at *
      cases b1 with
      | true =>
        go_wp2_with fail
        refine (HL.out _).mono ?_
        rintro e w2 ⟨rfl, hw2⟩
        obtain rfl := hw2.symm
        clear hw2
        have HE : Hid ((nmF pos2 (s.data.toList.drop pos2) && (decide (s.size ≠ 0) && decide (s.size ≤ 32))) = G) := HE
        go_wp2_with fail
        go_roundw
        case rel => exact ⟨pos2, hpp.2, HI1, HE, HB1⟩
        case measure => rw [hpos0.out, iterPos_at HI1.out]; omega
      | false =>
        go_wp2_with fail
        refine (HL.out _).mono ?_
        rintro e w2 ⟨rfl, hw2⟩
        obtain rfl := hw2.symm
        clear hw2
        by_cases hp0 : pos = 0
        · subst hp0
          have HE2 : G = false := HE.out.symm
          subst HE2
          go_wp2_with fail
          go_ret
          exact ⟨rfl, HB1.out⟩
        · have hp0' : ((pos : Int) == 0) = false := by rw [beq_eq_false_iff_ne]; omega
          have hd0 : decide (pos ≠ 0) = true := by simp [hp0]
          rw [hd0] at HE
          cases b2 with
          | true =>
            go_wp2_with fail
            refine (HD.out _).mono ?_
            rintro e w2 ⟨rfl, hw2⟩
            obtain rfl := hw2.symm
            clear hw2
            have HE : Hid ((nmF pos2 (s.data.toList.drop pos2) && (decide (s.size ≠ 0) && decide (s.size ≤ 32))) = G) := HE
            go_wp2_with fail
            go_roundw
            case rel => exact ⟨pos2, hpp.2, HI1, HE, HB1⟩
            case measure => rw [hpos0.out, iterPos_at HI1.out]; omega
          | false =>
            go_wp2_with fail
            refine (HD.out _).mono ?_
            rintro e w2 ⟨rfl, hw2⟩
            obtain rfl := hw2.symm
            clear hw2
            go_wp2_with fail
            refine (HP.out _).mono ?_
            rintro e w2 ⟨rfl, hb2⟩
            have HB2 : Hid (Below w.heap.size w w2) := HB1.out.trans (hb2.mono HB1.out.size)
            have HI2 : Hid (w2.heap[w.heap.size]? = some (.stringIter s pos2)) := (hb2.block _ (Array.getElem?_eq_some_iff.1 HI1.out).1).trans HI1.out
            clear hb2
            cases b3 with
            | true =>
              have HE : Hid ((nmF pos2 (s.data.toList.drop pos2) && (decide (s.size ≠ 0) && decide (s.size ≤ 32))) = G) := HE
              go_wp2_with fail
              go_roundw
              case rel => exact ⟨pos2, hpp.2, HI2, HE, HB2⟩
              case measure => rw [hpos0.out, iterPos_at HI2.out]; omega
            | false =>
              have HE2 : G = false := HE.out.symm
              subst HE2
              go_wp2_with fail
              go_ret
              exact ⟨rfl, HB2.out⟩
    · have hnx : ∀ ty, (Instr.next (.pointer (some ⟨w.heap.size, 0, none⟩)) true ty).run Tryz.prog wr = _ := fun ty => Lib.run_next_end_at wr w.heap.size s pos ty HI.out hp
      have HE : G = (decide (s.size ≠ 0) && decide (s.size ≤ 32)) := by
        rw [← HG.out, List.drop_of_length_le (by simp; omega)]; rfl
      clear HG HI
      by_cases h0 : s.size = 0
      · have hs0 : s = ⟨#[]⟩ := by apply ByteArray.ext; exact Array.eq_empty_of_size_eq_zero h0
        subst hs0
        have HE2 : G = false := HE
        subst HE2
        clear HE
        go_wp2_with fail
        go_ret
        exact ⟨rfl, HB.out⟩
      · have hs0 : s.toList.isEmpty = false := by rw [ByteArray.toList_eq s, List.isEmpty_eq_false_iff]; intro e; exact h0 (by show s.data.size = 0; rw [← Array.length_toList, e]; rfl)
        have fin : ∀ b : Bool, b = (decide (s.size ≠ 0) && decide (s.size ≤ 32)) → Ending.returned (.bool b) = .returned (.bool (decide (s.size ≠ 0) && decide (s.size ≤ 32))) := fun b h => by rw [h]
        subst HE
        go_wp2_with fail
        go_ret
        exact ⟨fin _ (by simp [h0]; omega), HB.out⟩

end Go.Proofs.YtgnfkkcagbbhmaaGreatDoor
