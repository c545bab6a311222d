/- Contract: formatReader.read. -/
import Derived.Test.YtgnfkkcagbbhmaaGreatDoorSrEq
namespace Go.Proofs.YtgnfkkcagbbhmaaGreatDoor
open Go.RowKit Lin
set_option linter.unusedVariables false

/-- a format's sign more: how many marks, and whether a percent sign stands ahead. -/
def fmS (n i m : Nat) (pc : Bool) (R : Int) : Option (Nat × Bool) :=
  if pc = true then (if R = 115 ∨ R = 122 then some (m, false) else none)
  else if R = 37 then some (m + 1, true) else if R = 47 ∧ 0 < i ∧ i + 1 < n then some (m + 1, false) else if isL R = true ∨ isD R = true ∨ R = 43 ∨ R = 45 then some (m, false) else none
theorem fmS_high {R : Int} (h : 128 ≤ R) (n i m : Nat) (pc : Bool) : fmS n i m pc R = none := by
  unfold fmS
  have h1 : isL R = false := by simp [isL]; omega
  have h2 : isD R = false := by simp [isD]; omega
  have h3 : ¬ (R = 47 ∧ 0 < i ∧ i + 1 < n) := by omega
  have h4 : ¬ (isL R = true ∨ isD R = true ∨ R = 43 ∨ R = 45) := by rw [h1, h2]; simp; omega
  rw [if_neg (by omega : ¬ (R = 115 ∨ R = 122)), if_neg (by omega : ¬ R = 37), if_neg h3, if_neg h4]
  cases pc <;> rfl
def fmF (n : Nat) : Nat → Nat → Bool → List UInt8 → Option (Nat × Bool)
  | _, m, pc, [] => some (m, pc)
  | i, m, pc, c :: l => match fmS n i m pc (c.toNat : Int) with
    | none => none
    | some (m', p') => fmF n (i + 1) m' p' l
def fmE (s : ByteArray) : Option (Nat × Bool) → ByteArray × Bool
  | none => (⟨#[]⟩, false)
  | some (m, pc) => (s, decide (s.size ≠ 0) && decide (s.size ≤ 24) && !pc && decide (m ≤ 1))
def fmtO (s : ByteArray) : ByteArray × Bool := fmE s (fmF s.size 0 0 false s.data.toList)
def fmN (s : ByteArray) (pos2 : Nat) : Option (Nat × Bool) → Option (Nat × Bool)
  | none => none
  | some (m', p') => fmF s.size pos2 m' p' (s.data.toList.drop pos2)

set_option maxRecDepth 1000000 in
set_option maxHeartbeats 8000000 in
theorem formatR (s : ByteArray) (hs9 : s.size ≤ maxLen) (w : World) :
    Calls Tryz.prog 167 #[.agg #[], .string s] w fun e w' => e = .returned (.tuple #[.iface 9 (.string (fmtO s).1), .bool (fmtO s).2]) ∧ Below w.heap.size w w' := by
  unfold maxLen at hs9
  obtain ⟨G, hG⟩ : ∃ G, fmtO s = G := ⟨_, rfl⟩
  rw [hG]
  have HG : Hid (fmE s (fmF s.size 0 0 false (s.data.toList.drop 0)) = G) := hG
  clear hG
  go_enter Tryz.func167, Tryz.ntmps167
  go_wp2_with fail
  go_loopw [6, 7] (fun mv pv wr => ∃ (pos m : Nat) (pc : Bool), pos ≤ s.size ∧ m ≤ pos ∧ mv = .int .i64 (m : Int) ∧ pv = .bool pc ∧ Hid (wr.heap[w.heap.size + 1]? = some (.stringIter s pos)) ∧ Hid (fmE s (fmF s.size pos m pc (s.data.toList.drop pos)) = G) ∧ Hid (Below w.heap.size w wr)) (fun _ _ wr => s.size - wr.iterPos (w.heap.size + 1))
  case atStart =>
    refine ⟨0, 0, false, Nat.zero_le _, Nat.le_refl _, rfl, rfl, ?_, HG, ?_⟩
    · have := World.iter_heap (w.alloc (.cells #[] 179)) s 0
      simp only [World.size_alloc] at this
      exact this
    · exact ((Below.refl _ _).alloc (Nat.le_refl _) _).alloc (by simp) _
  case round =>
    clear HG
    obtain ⟨pos, m, pc, hle, hmp, rfl, rfl, HI, HG, HB⟩ := hrel
    have hpos0 : Hid (wr.iterPos (w.heap.size + 1) = pos) := iterPos_at HI.out
    by_cases hp : pos < s.size
    · obtain ⟨c, hc1, hc2⟩ := drop_cons hp
      rw [hc1] at HG
      obtain ⟨R, W1, pos2, hnx, HI1, HB1, HE, R0, hpp⟩ : ∃ (R : Int) (W1 : World) (pos2 : Nat), (∀ ty, (Instr.next (.pointer (some ⟨w.heap.size + 1, 0, none⟩)) true ty).run Tryz.prog wr = .ok (.tuple #[.bool true, .int .i64 (pos : Int), .int .i32 R]) W1) ∧ Hid (W1.heap[w.heap.size + 1]? = some (.stringIter s pos2)) ∧ Hid (Below w.heap.size w W1) ∧ Hid (fmE s (fmN s pos2 (fmS s.size pos m pc R)) = G) ∧ 0 ≤ R ∧ pos < pos2 ∧ pos2 ≤ s.size := by
        by_cases hasc : c.toNat < 128
        · refine ⟨(c.toNat : Int), wr.iterAt (w.heap.size + 1) s (pos + 1), pos + 1, ?_, Lib.iterAt_heap wr (w.heap.size + 1) s pos (pos + 1) HI.out, Lib.below_iterAt HB.out (k := w.heap.size + 1) (by omega) s (pos + 1), ?_, by omega, by omega, by omega⟩
          · intro ty
            have := Lib.run_next_ascii_at (P := Tryz.prog) wr (w.heap.size + 1) s pos ty HI.out hp (by rw [hc2]; exact hasc)
            rw [hc2] at this
            exact this
          · show _ = _
            rw [← HG.out, fmF]
            cases fmS s.size pos m pc (c.toNat : Int) <;> rfl
        · have hd := (decode_high s pos hp (by rw [hc2]; omega)).1
          refine ⟨((Utf8.decode s pos).1 : Int), wr.iterAt (w.heap.size + 1) s (pos + (Utf8.decode s pos).2), pos + (Utf8.decode s pos).2, ?_, Lib.iterAt_heap wr (w.heap.size + 1) s pos _ HI.out, Lib.below_iterAt HB.out (k := w.heap.size + 1) (by omega) s _, ?_, by omega, ?_, ?_⟩
          · intro ty
            exact Lib.run_next_any_at wr (w.heap.size + 1) s pos ty HI.out hp
          · show _ = _
            rw [← HG.out, fmF, fmS_high (by omega), fmS_high (by omega)]; rfl
          · have := Wrd.wd_pos s pos; omega
          · exact Wrd.wd_le s pos hp
      clear HG HI HB hc1 hc2
      have HL : Hid (∀ w : World, Calls Tryz.prog 40 #[.int .i32 R] w fun e w' => e = .returned (.bool (isL R)) ∧ w' = w) := srLetter_any R
      have HD : Hid (∀ w : World, Calls Tryz.prog 41 #[.int .i32 R] w fun e w' => e = .returned (.bool (isD R)) ∧ w' = w) := srDigit_any R
      have hmw : IntKind.i64.wrap ((m : Int) + 1) = (m : Int) + 1 := by rw [IntKind.wrap_i64]; omega
      have hsw : IntKind.i64.wrap ((s.size : Int) - 1) = (s.size : Int) - 1 := by rw [IntKind.wrap_i64]; omega
      cases pc with
      | true =>
        by_cases h1 : R = 115
        · subst h1
          have e : fmS s.size pos m true 115 = some (m, false) := by simp [fmS]
          rw [e] at HE
          clear HL HD
          go_wp2_with fail
          go_roundw
          case rel => exact ⟨pos2, m, false, hpp.2, by omega, by go_num, rfl, HI1, HE, HB1⟩
          case measure => rw [hpos0.out, iterPos_at HI1.out]; omega
        · have h1' : (R != 115) = true := by simp [h1]
          by_cases h2 : R = 122
          · subst h2
            have e : fmS s.size pos m true 122 = some (m, false) := by simp [fmS]
            rw [e] at HE
            clear HL HD
            go_wp2_with fail
            go_roundw
            case rel => exact ⟨pos2, m, false, hpp.2, by omega, by go_num, rfl, HI1, HE, HB1⟩
            case measure => rw [hpos0.out, iterPos_at HI1.out]; omega
          · have h2' : (R != 122) = true := by simp [h2]
            have e : fmS s.size pos m true R = none := by simp [fmS, h1, h2]
            rw [e] at HE
            have HE2 : G = (⟨#[]⟩, false) := HE.out.symm
            subst HE2
            clear HE
            go_wp2_with fail
            go_ret2
            exact ⟨rfl, HB1.out⟩
      | false =>
        by_cases h1 : R = 37
        · subst h1
          have e : fmS s.size pos m false 37 = some (m + 1, true) := by simp [fmS]
          rw [e] at HE
          clear HL HD
          go_wp2_with fail
          go_roundw
          case rel => exact ⟨pos2, m + 1, true, hpp.2, by omega, by go_num, rfl, HI1, HE, HB1⟩
          case measure => rw [hpos0.out, iterPos_at HI1.out]; omega
        · have h1' : (R == 37) = false := by simp [h1]
          by_cases h2 : R = 47
          · subst h2
            by_cases h3 : 0 < pos
            · have h3' : (0 : Int) < (pos : Int) := by omega
              by_cases h4 : pos + 1 < s.size
              · have h4' : (pos : Int) < (s.size : Int) - 1 := by omega
                have e : fmS s.size pos m false 47 = some (m + 1, false) := by simp [fmS, h3, h4]
                rw [e] at HE
                clear HL HD
                go_wp2_with fail
                go_roundw
                case rel => exact ⟨pos2, m + 1, false, hpp.2, by omega, by go_num, rfl, HI1, HE, HB1⟩
                case measure => rw [hpos0.out, iterPos_at HI1.out]; omega
              · have h4' : ¬ (pos : Int) < (s.size : Int) - 1 := by omega
                have e : fmS s.size pos m false 47 = none := by simp [fmS, h4]; decide
                have q1 : isL 47 = false := by decide
                have q2 : isD 47 = false := by decide
                rw [q1] at HL
                rw [q2] at HD
                go_wp2_with fail
                refine (HL.out _).mono ?_
                rintro e1 w2 ⟨rfl, hw2⟩
                obtain rfl := hw2.symm
                clear hw2
                go_wp2_with fail
                refine (HD.out _).mono ?_
                rintro e1 w2 ⟨rfl, hw2⟩
                obtain rfl := hw2.symm
                clear hw2
                rw [e] at HE
                have HE2 : G = (⟨#[]⟩, false) := HE.out.symm
                subst HE2
                clear HE
                go_wp2_with fail
                go_ret2
                exact ⟨rfl, HB1.out⟩
            · have h3' : ¬ (0 : Int) < (pos : Int) := by omega
              have e : fmS s.size pos m false 47 = none := by simp [fmS, h3]; decide
              have q1 : isL 47 = false := by decide
              have q2 : isD 47 = false := by decide
              rw [q1] at HL
              rw [q2] at HD
              go_wp2_with fail
              refine (HL.out _).mono ?_
              rintro e1 w2 ⟨rfl, hw2⟩
              obtain rfl := hw2.symm
              clear hw2
              go_wp2_with fail
              refine (HD.out _).mono ?_
              rintro e1 w2 ⟨rfl, hw2⟩
              obtain rfl := hw2.symm
              clear hw2
              rw [e] at HE
              have HE2 : G = (⟨#[]⟩, false) := HE.out.symm
              subst HE2
              clear HE
              go_wp2_with fail
              go_ret2
              exact ⟨rfl, HB1.out⟩
          · have h2' : (R == 47) = false := by simp [h2]
            have e0 : fmS s.size pos m false R = if isL R = true ∨ isD R = true ∨ R = 43 ∨ R = 45 then some (m, false) else none := by simp [fmS, h1, h2]
            rw [e0] at HE
            generalize isL R = b1 at *
            generalize isD R = b2 at *
            cases b1 with
            | true =>
              rw [if_pos (.inl rfl)] at HE
              go_wp2_with fail
              refine (HL.out _).mono ?_
              rintro e1 w2 ⟨rfl, hw2⟩
              obtain rfl := hw2.symm
              clear hw2
              clear HL HD
              go_wp2_with fail
              go_roundw
              case rel => exact ⟨pos2, m, false, hpp.2, by omega, by go_num, rfl, HI1, HE, HB1⟩
              case measure => rw [hpos0.out, iterPos_at HI1.out]; omega
            | false =>
              go_wp2_with fail
              refine (HL.out _).mono ?_
              rintro e1 w2 ⟨rfl, hw2⟩
              obtain rfl := hw2.symm
              clear hw2
              cases b2 with
              | true =>
                rw [if_pos (.inr (.inl rfl))] at HE
                go_wp2_with fail
                refine (HD.out _).mono ?_
                rintro e1 w2 ⟨rfl, hw2⟩
                obtain rfl := hw2.symm
                clear hw2
                clear HL HD
                go_wp2_with fail
                go_roundw
                case rel => exact ⟨pos2, m, false, hpp.2, by omega, by go_num, rfl, HI1, HE, HB1⟩
                case measure => rw [hpos0.out, iterPos_at HI1.out]; omega
              | false =>
                go_wp2_with fail
                refine (HD.out _).mono ?_
                rintro e1 w2 ⟨rfl, hw2⟩
                obtain rfl := hw2.symm
                clear hw2
                by_cases h5 : R = 43
                · rw [if_pos (.inr (.inr (.inl h5)))] at HE
                  subst h5
                  clear HL HD
                  go_wp2_with fail
                  go_roundw
                  case rel => exact ⟨pos2, m, false, hpp.2, by omega, by go_num, rfl, HI1, HE, HB1⟩
                  case measure => rw [hpos0.out, iterPos_at HI1.out]; omega
                · have h5' : (R != 43) = true := by simp [h5]
                  by_cases h6 : R = 45
                  · rw [if_pos (.inr (.inr (.inr h6)))] at HE
                    subst h6
                    clear HL HD
                    go_wp2_with fail
                    go_roundw
                    case rel => exact ⟨pos2, m, false, hpp.2, by omega, by go_num, rfl, HI1, HE, HB1⟩
                    case measure => rw [hpos0.out, iterPos_at HI1.out]; omega
                  · have h6' : (R != 45) = true := by simp [h6]
                    rw [if_neg (by simp [h5, h6])] at HE
                    have HE2 : G = (⟨#[]⟩, false) := HE.out.symm
                    subst HE2
                    clear HE
                    go_wp2_with fail
                    go_ret2
                    exact ⟨rfl, HB1.out⟩
    · have hnx : ∀ ty, (Instr.next (.pointer (some ⟨w.heap.size + 1, 0, none⟩)) true ty).run Tryz.prog wr = _ := fun ty => Lib.run_next_end_at wr (w.heap.size + 1) s pos ty HI.out hp
      have HE : G = (s, decide (s.size ≠ 0) && decide (s.size ≤ 24) && !pc && decide (m ≤ 1)) := by
        rw [← HG.out, List.drop_of_length_le (by simp; omega)]; rfl
      subst HE
      clear HG HI
      by_cases h0 : s.size = 0
      · have hs0 : s = ⟨#[]⟩ := by apply ByteArray.ext; exact Array.eq_empty_of_size_eq_zero h0
        subst hs0
        go_wp2_with fail
        go_ret2
        exact ⟨rfl, HB.out⟩
      · have hs0 : s.toList.isEmpty = false := by rw [ByteArray.toList_eq s, List.isEmpty_eq_false_iff]; intro e; exact h0 (by show s.data.size = 0; rw [← Array.length_toList, e]; rfl)
        have fin : ∀ b : Bool, b = (decide (s.size ≠ 0) && decide (s.size ≤ 24) && !pc && decide (m ≤ 1)) → Ending.returned (.tuple #[.iface 9 (.string s), .bool b]) = .returned (.tuple #[.iface 9 (.string s), .bool (decide (s.size ≠ 0) && decide (s.size ≤ 24) && !pc && decide (m ≤ 1))]) := fun b h => by rw [h]
        by_cases h24 : s.size ≤ 24
        · have h24' : (s.size : Int) ≤ 24 := by omega
          cases pc with
          | true =>
            go_wp2_with fail
            go_ret2
            exact ⟨fin _ (by simp), HB.out⟩
          | false =>
            go_wp2_with fail
            go_ret2
            exact ⟨fin _ (by simp [h0, h24]; omega), HB.out⟩
        · have h24' : ¬ (s.size : Int) ≤ 24 := by omega
          go_wp2_with fail
          go_ret2
          exact ⟨fin _ (by simp [h24]), HB.out⟩

end Go.Proofs.YtgnfkkcagbbhmaaGreatDoor
