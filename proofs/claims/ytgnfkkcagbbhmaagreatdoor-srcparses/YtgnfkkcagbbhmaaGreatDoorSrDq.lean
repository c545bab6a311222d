/- Contracts: src.isLetter, src.isDigit, letterReader.read. -/
import Derived.Test.YtgnfkkcagbbhmaaGreatDoorSrCq
import Derived.Test.YtgnfkkcagbbhmaaGreatDoorLnBq
namespace Go.Proofs.YtgnfkkcagbbhmaaGreatDoor
open Go.RowKit Lin
set_option linter.unusedVariables false

def isL (R : Int) : Bool := decide (97 ≤ R ∧ R ≤ 122) || decide (65 ≤ R ∧ R ≤ 90)
def isD (R : Int) : Bool := decide (48 ≤ R ∧ R ≤ 57)
theorem ret_bl {a b : Bool} (h : a = b) : Ending.returned (.bool a) = .returned (.bool b) := by rw [h]

set_option maxRecDepth 100000 in
set_option maxHeartbeats 4000000 in
theorem srLetter_any (R : Int) (w : World) : Calls Tryz.prog 40 #[.int .i32 R] w fun e w' => e = .returned (.bool (isL R)) ∧ w' = w := by
  go_enter Tryz.func40, Tryz.ntmps40
  go_wp2
  all_goals (go_ret; exact ⟨ret_bl (by unfold isL; by_cases a1 : 97 ≤ R <;> by_cases a2 : R ≤ 122 <;> by_cases a3 : 65 ≤ R <;> by_cases a4 : R ≤ 90 <;> simp_all <;> omega), rfl⟩)

set_option maxRecDepth 100000 in
set_option maxHeartbeats 4000000 in
theorem srDigit_any (R : Int) (w : World) : Calls Tryz.prog 41 #[.int .i32 R] w fun e w' => e = .returned (.bool (isD R)) ∧ w' = w := by
  go_enter Tryz.func41, Tryz.ntmps41
  go_wp2
  all_goals (go_ret; exact ⟨ret_bl (by simp [isD] <;> omega), rfl⟩)

/-- a letter or a digit. -/
def isLD (R : Int) : Bool := isL R || isD R
theorem isLD_high {R : Int} (h : 128 ≤ R) : isLD R = false := by simp [isLD, isL, isD]; omega
def allLD (l : List UInt8) : Bool := l.all fun c => isLD (c.toNat : Int)
def ltrO (s : ByteArray) : ByteArray × Bool :=
  if s.toList = [45] then (⟨#[]⟩, true) else if allLD s.data.toList = true then (s, decide (s.size ≠ 0) && decide (s.size ≤ 8)) else (⟨#[]⟩, false)

theorem drop_cons {s : ByteArray} {k : Nat} (h : k < s.size) : ∃ c : UInt8, s.data.toList.drop k = c :: s.data.toList.drop (k + 1) ∧ s[k]'h = c := by
  refine ⟨s[k]'h, ?_, rfl⟩
  rw [List.drop_eq_getElem_cons (by simpa using h)]
  rfl

set_option maxRecDepth 1000000 in
set_option maxHeartbeats 8000000 in
theorem letterR (s : ByteArray) (w : World) :
    Calls Tryz.prog 204 #[.agg #[], .string s] w fun e w' => e = .returned (.tuple #[.iface 9 (.string (ltrO s).1), .bool (ltrO s).2]) ∧ Below w.heap.size w w' := by
  by_cases h45 : s.toList = [45]
  · have e : ltrO s = (⟨#[]⟩, true) := by unfold ltrO; rw [if_pos h45]
    rw [e]
    have h45' : (s.toList == [45]) = true := by rw [h45]; rfl
    clear e h45
    go_enter Tryz.func204, Tryz.ntmps204
    go_wp2
    go_ret2
    exact ⟨rfl, NBs (Below.refl _ _)⟩
  · have h45' : (s.toList == [45]) = false := beq_eq_false_iff_ne.2 h45
    obtain ⟨G, hG⟩ : ∃ G, ltrO s = G := ⟨_, rfl⟩
    rw [hG]
    have HG : Hid ((if allLD (s.data.toList.drop 0) = true then (s, decide (s.size ≠ 0) && decide (s.size ≤ 8)) else (⟨#[]⟩, false)) = G) := by
      show _ = _
      rw [← hG]; unfold ltrO; rw [if_neg h45]; rfl
    clear hG h45
    go_enter Tryz.func204, Tryz.ntmps204
    go_wp2_with fail
    go_loopw [] (fun wr => ∃ pos : Nat, pos ≤ s.size ∧ Hid (wr.heap[w.heap.size + 1]? = some (.stringIter s pos)) ∧ Hid ((if allLD (s.data.toList.drop pos) = true then (s, decide (s.size ≠ 0) && decide (s.size ≤ 8)) else (⟨#[]⟩, false)) = G) ∧ Hid (Below w.heap.size w wr)) (fun wr => s.size - wr.iterPos (w.heap.size + 1))
    case atStart =>
      refine ⟨0, Nat.zero_le _, ?_, HG, ?_⟩
      · have := World.iter_heap (w.alloc (.cells #[] 192)) s 0
        simp only [World.size_alloc] at this
        exact this
      · exact ((Below.refl _ _).alloc (Nat.le_refl _) _).alloc (by simp) _
    case round =>
      clear HG
      obtain ⟨pos, hle, HI, HG, HB⟩ := hrel
      have hpos0 : Hid (wr.iterPos (w.heap.size + 1) = pos) := iterPos_at HI.out
      by_cases hp : pos < s.size
      · obtain ⟨c, hc1, hc2⟩ := drop_cons hp
        rw [hc1] at HG
        by_cases hasc : c.toNat < 128
        · have hnx : ∀ ty, (Instr.next (.pointer (some ⟨w.heap.size + 1, 0, none⟩)) true ty).run Tryz.prog wr = _ := fun ty => Lib.run_next_ascii_at wr (w.heap.size + 1) s pos ty HI.out hp (by rw [hc2]; exact hasc)
          rw [hc2] at hnx
          have HI1 : Hid ((wr.iterAt (w.heap.size + 1) s (pos + 1)).heap[w.heap.size + 1]? = some (.stringIter s (pos + 1))) := Lib.iterAt_heap wr (w.heap.size + 1) s pos (pos + 1) HI.out
          have HB1 : Hid (Below w.heap.size w (wr.iterAt (w.heap.size + 1) s (pos + 1))) := Lib.below_iterAt HB.out (k := w.heap.size + 1) (by omega) s (pos + 1)
          obtain ⟨C, hC⟩ : ∃ C : Int, (c.toNat : Int) = C := ⟨_, rfl⟩
          have HE : Hid ((if (isLD C && allLD (s.data.toList.drop (pos + 1))) = true then (s, decide (s.size ≠ 0) && decide (s.size ≤ 8)) else (⟨#[]⟩, false)) = G) := by
            show _ = _
            rw [← HG.out, ← hC]; rfl
          rw [hC] at hnx
          clear HG HI HB hc1 hc2 hC hasc
          generalize wr.iterAt (w.heap.size + 1) s (pos + 1) = w1 at *
          have HL : Hid (∀ w : World, Calls Tryz.prog 40 #[.int .i32 C] w fun e w' => e = .returned (.bool (isL C)) ∧ w' = w) := srLetter_any C
          have HD : Hid (∀ w : World, Calls Tryz.prog 41 #[.int .i32 C] w fun e w' => e = .returned (.bool (isD C)) ∧ w' = w) := srDigit_any C
          unfold isLD at HE
          generalize isL C = b1 at *
          generalize isD C = b2 at *
          cases b1 with
          | true =>
            go_wp2_with fail
            refine (HL.out _).mono ?_
            rintro e w2 ⟨rfl, hw2⟩
            obtain rfl := hw2.symm
            clear hw2
            go_wp2_with fail
            go_roundw
            case rel => exact ⟨pos + 1, by omega, HI1, HE, HB1⟩
            case measure => rw [hpos0.out, iterPos_at HI1.out]; omega
          | false =>
            go_wp2_with fail
            refine (HL.out _).mono ?_
            rintro e w2 ⟨rfl, hw2⟩
            obtain rfl := hw2.symm
            clear hw2
            cases b2 with
            | true =>
              go_wp2_with fail
              refine (HD.out _).mono ?_
              rintro e w2 ⟨rfl, hw2⟩
              obtain rfl := hw2.symm
              clear hw2
              go_wp2_with fail
              go_roundw
              case rel => exact ⟨pos + 1, by omega, HI1, HE, HB1⟩
              case measure => rw [hpos0.out, iterPos_at HI1.out]; omega
            | false =>
              go_wp2_with fail
              refine (HD.out _).mono ?_
              rintro e w2 ⟨rfl, hw2⟩
              obtain rfl := hw2.symm
              clear hw2
              have HE2 : G = (⟨#[]⟩, false) := HE.out.symm
              subst HE2
              go_wp2_with fail
              go_ret2
              exact ⟨rfl, HB1.out⟩
        · have hd := (decode_high s pos hp (by rw [hc2]; omega)).1
          have hnx : ∀ ty, (Instr.next (.pointer (some ⟨w.heap.size + 1, 0, none⟩)) true ty).run Tryz.prog wr = _ := fun ty => Lib.run_next_any_at wr (w.heap.size + 1) s pos ty HI.out hp
          have HB1 : Hid (Below w.heap.size w (wr.iterAt (w.heap.size + 1) s (pos + (Utf8.decode s pos).2))) := Lib.below_iterAt HB.out (k := w.heap.size + 1) (by omega) s _
          have HE2 : G = (⟨#[]⟩, false) := by
            rw [← HG.out]
            have : isLD (c.toNat : Int) = false := isLD_high (by omega)
            simp [allLD, this]
          subst HE2
          obtain ⟨R, hR⟩ : ∃ R : Int, ((Utf8.decode s pos).1 : Int) = R := ⟨_, rfl⟩
          have hR2 : isLD R = false := isLD_high (by omega)
          rw [hR] at hnx
          have HL : Hid (∀ w : World, Calls Tryz.prog 40 #[.int .i32 R] w fun e w' => e = .returned (.bool false) ∧ w' = w) := fun w => by
            have := srLetter_any R w
            rwa [show isL R = false by simp [isLD] at hR2; exact hR2.1] at this
          have HD : Hid (∀ w : World, Calls Tryz.prog 41 #[.int .i32 R] w fun e w' => e = .returned (.bool false) ∧ w' = w) := fun w => by
            have := srDigit_any R w
            rwa [show isD R = false by simp [isLD] at hR2; exact hR2.2] at this
          clear HG HI HB hc1 hc2 hR hasc hd hR2
          generalize wr.iterAt (w.heap.size + 1) s (pos + (Utf8.decode s pos).2) = w1 at *
          go_wp2_with fail
          refine (HL.out _).mono ?_
          rintro e w2 ⟨rfl, hw2⟩
          obtain rfl := hw2.symm
          clear hw2
          go_wp2_with fail
          refine (HD.out _).mono ?_
          rintro e w2 ⟨rfl, hw2⟩
          obtain rfl := hw2.symm
          clear hw2
          go_wp2_with fail
          go_ret2
          exact ⟨rfl, HB1.out⟩
      · have hnx : ∀ ty, (Instr.next (.pointer (some ⟨w.heap.size + 1, 0, none⟩)) true ty).run Tryz.prog wr = _ := fun ty => Lib.run_next_end_at wr (w.heap.size + 1) s pos ty HI.out hp
        have HE : G = (s, decide (s.size ≠ 0) && decide (s.size ≤ 8)) := by
          rw [← HG.out, List.drop_of_length_le (by simp; omega)]; rfl
        subst HE
        clear HG HI
        by_cases h0 : s.size = 0
        · have hs0 : s = ⟨#[]⟩ := by apply ByteArray.ext; exact Array.eq_empty_of_size_eq_zero h0
          subst hs0
          go_wp2_with fail
          go_ret2
          exact ⟨rfl, HB.out⟩
        · have hs0 : s.toList.isEmpty = false := by rw [ByteArray.toList_eq s, List.isEmpty_eq_false_iff]; intro e; exact h0 (by show s.data.size = 0; rw [← Array.length_toList, e]; rfl)
          have fin : ∀ b : Bool, b = (decide (s.size ≠ 0) && decide (s.size ≤ 8)) → Ending.returned (.tuple #[.iface 9 (.string s), .bool b]) = .returned (.tuple #[.iface 9 (.string s), .bool (decide (s.size ≠ 0) && decide (s.size ≤ 8))]) := fun b h => by rw [h]
          go_wp2_with fail
          go_ret2
          exact ⟨fin _ (by simp [h0]; omega), HB.out⟩

end Go.Proofs.YtgnfkkcagbbhmaaGreatDoor
