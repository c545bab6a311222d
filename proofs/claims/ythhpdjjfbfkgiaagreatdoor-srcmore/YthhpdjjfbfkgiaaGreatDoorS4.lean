import Derived.Test.YthhpdjjfbfkgiaaGreatDoorS3
import Derived.Deep.RegionHeld3
import Derived.Deep.MidRow
/- Contract: formatReader.read. -/
namespace Go.Proofs.YthhpdjjfbfkgiaaGreatDoor
open Go.RowKit Lin
set_option linter.unusedVariables false

/-- a format's sign more: how many marks, and whether a percent sign stands ahead. -/
def fmS (n i m : Nat) (pc : Bool) (R : Int) : Option (Nat × Bool) :=
  if pc = true then (if R = 115 ∨ R = 122 then some (m, false) else none)
  else if R = 37 then some (m + 1, true) else if R = 47 ∧ 0 < i ∧ i + 1 < n then some (m + 1, false) else if isL R = true ∨ isD R = true ∨ R = 43 ∨ R = 45 then some (m, false) else none
theorem fmS_high {R : Int} (h : 128 ≤ R) (n i m : Nat) (pc : Bool) : fmS n i m pc R = none := by
  unfold fmS
  have h1 : isL R = false := by simp [isL]; omega
  have h2 : isD R = false := by simp [isD]; omega
  have h3 : ¬ (R = 47 ∧ 0 < i ∧ i + 1 < n) := by omega
  have h4 : ¬ (isL R = true ∨ isD R = true ∨ R = 43 ∨ R = 45) := by rw [h1, h2]; simp; omega
  rw [if_neg (by omega : ¬ (R = 115 ∨ R = 122)), if_neg (by omega : ¬ R = 37), if_neg h3, if_neg h4]
  cases pc <;> rfl
def fmF (n : Nat) : Nat → Nat → Bool → List UInt8 → Option (Nat × Bool)
  | _, m, pc, [] => some (m, pc)
  | i, m, pc, c :: l => match fmS n i m pc (c.toNat : Int) with
    | none => none
    | some (m', p') => fmF n (i + 1) m' p' l
def fmE (s : ByteArray) : Option (Nat × Bool) → ByteArray × Bool
  | none => (⟨#[]⟩, false)
  | some (m, pc) => (s, decide (s.size ≠ 0) && decide (s.size ≤ 24) && !pc && decide (m ≤ 1))
def fmtO (s : ByteArray) : ByteArray × Bool := fmE s (fmF s.size 0 0 false s.data.toList)
def fmN (s : ByteArray) (pos2 : Nat) : Option (Nat × Bool) → Option (Nat × Bool)
  | none => none
  | some (m', p') => fmF s.size pos2 m' p' (s.data.toList.drop pos2)

set_option maxRecDepth 1000000 in
set_option maxHeartbeats 8000000 in
theorem formatR (s : ByteArray) (hs9 : s.size ≤ maxLen) (w : World) :
    Calls Tryz.prog 102 #[.agg #[], .string s] w fun e w' => e = .returned (.tuple #[.iface 9 (.string (fmtO s).1), .bool (fmtO s).2]) ∧ Below w.heap.size w w' := by
  unfold maxLen at hs9
  obtain ⟨G, hG⟩ : ∃ G, fmtO s = G := ⟨_, rfl⟩
  rw [hG]
  have HG : Hid (fmE s (fmF s.size 0 0 false (s.data.toList.drop 0)) = G) := hG
  clear hG
  go_enter Tryz.func102, Tryz.ntmps102
  go_wp2_with fail
  go_loopw [6, 7] (fun mv pv wr => ∃ (pos m : Nat) (pc : Bool), pos ≤ s.size ∧ m ≤ pos ∧ mv = .int .i64 (m : Int) ∧ pv = .bool pc ∧ Hid (wr.heap[w.heap.size + 1]? = some (.stringIter s pos)) ∧ Hid (fmE s (fmF s.size pos m pc (s.data.toList.drop pos)) = G) ∧ Hid (Below w.heap.size w wr)) (fun _ _ wr => s.size - wr.iterPos (w.heap.size + 1))
  case atStart =>
    refine ⟨0, 0, false, Nat.zero_le _, Nat.le_refl _, rfl, rfl, ?_, HG, ?_⟩
    · have := World.iter_heap (w.alloc (.cells #[] 128)) s 0
      simp only [World.size_alloc] at this
      exact this
    · exact ((Below.refl _ _).alloc (Nat.le_refl _) _).alloc (by simp) _
  case round =>
    clear HG
    obtain ⟨pos, m, pc, hle, hmp, rfl, rfl, HI, HG, HB⟩ := hrel
    have hpos0 : Hid (wr.iterPos (w.heap.size + 1) = pos) := iterPos_at HI.out
    by_cases hp : pos < s.size
    · obtain ⟨c, hc1, hc2⟩ := drop_cons hp
      rw [hc1] at HG
      obtain ⟨R, W1, pos2, hnx, HI1, HB1, HE, R0, hpp⟩ : ∃ (R : Int) (W1 : World) (pos2 : Nat), (∀ ty, (Instr.next (.pointer (some ⟨w.heap.size + 1, 0, none⟩)) true ty).run Tryz.prog wr = .ok (.tuple #[.bool true, .int .i64 (pos : Int), .int .i32 R]) W1) ∧ Hid (W1.heap[w.heap.size + 1]? = some (.stringIter s pos2)) ∧ Hid (Below w.heap.size w W1) ∧ Hid (fmE s (fmN s pos2 (fmS s.size pos m pc R)) = G) ∧ 0 ≤ R ∧ pos < pos2 ∧ pos2 ≤ s.size := by
        by_cases hasc : c.toNat < 128
        · refine ⟨(c.toNat : Int), wr.iterAt (w.heap.size + 1) s (pos + 1), pos + 1, ?_, Lib.iterAt_heap wr (w.heap.size + 1) s pos (pos + 1) HI.out, Lib.below_iterAt HB.out (k := w.heap.size + 1) (by omega) s (pos + 1), ?_, by omega, by omega, by omega⟩
          · intro ty
            have := Lib.run_next_ascii_at (P := Tryz.prog) wr (w.heap.size + 1) s pos ty HI.out hp (by rw [hc2]; exact hasc)
            rw [hc2] at this
            exact this
          · show _ = _
            rw [← HG.out, fmF]
            cases fmS s.size pos m pc (c.toNat : Int) <;> rfl
        · have hd := (decode_high s pos hp (by rw [hc2]; omega)).1
          refine ⟨((Utf8.decode s pos).1 : Int), wr.iterAt (w.heap.size + 1) s (pos + (Utf8.decode s pos).2), pos + (Utf8.decode s pos).2, ?_, Lib.iterAt_heap wr (w.heap.size + 1) s pos _ HI.out, Lib.below_iterAt HB.out (k := w.heap.size + 1) (by omega) s _, ?_, by omega, ?_, ?_⟩
          · intro ty
            exact Lib.run_next_any_at wr (w.heap.size + 1) s pos ty HI.out hp
          · show _ = _
            rw [← HG.out, fmF, fmS_high (by omega), fmS_high (by omega)]; rfl
          · have := Wrd.wd_pos s pos; omega
          · exact Wrd.wd_le s pos hp
      clear HG HI HB hc1 hc2
      have HL : Hid (∀ w : World, Calls Tryz.prog 97 #[.int .i32 R] w fun e w' => e = .returned (.bool (isL R)) ∧ w' = w) := srLetter_any R
      have HD : Hid (∀ w : World, Calls Tryz.prog 95 #[.int .i32 R] w fun e w' => e = .returned (.bool (isD R)) ∧ w' = w) := srDigit_any R
      have hmw : IntKind.i64.wrap ((m : Int) + 1) = (m : Int) + 1 := by rw [IntKind.wrap_i64]; omega
      have hsw : IntKind.i64.wrap ((s.size : Int) - 1) = (s.size : Int) - 1 := by rw [IntKind.wrap_i64]; omega
      cases pc with
      | true =>
        by_cases h1 : R = 115
        · subst h1
          have e : fmS s.size pos m true 115 = some (m, false) := by simp [fmS]
          rw [e] at HE
          clear HL HD
          go_wp2_with fail
          go_roundw
          case rel => exact ⟨pos2, m, false, hpp.2, by omega, by go_num, rfl, HI1, HE, HB1⟩
          case measure => rw [hpos0.out, iterPos_at HI1.out]; omega
        · have h1' : (R != 115) = true := by simp [h1]
          by_cases h2 : R = 122
          · subst h2
            have e : fmS s.size pos m true 122 = some (m, false) := by simp [fmS]
            rw [e] at HE
            clear HL HD
            go_wp2_with fail
            go_roundw
            case rel => exact ⟨pos2, m, false, hpp.2, by omega, by go_num, rfl, HI1, HE, HB1⟩
            case measure => rw [hpos0.out, iterPos_at HI1.out]; omega
          · have h2' : (R != 122) = true := by simp [h2]
            have e : fmS s.size pos m true R = none := by simp [fmS, h1, h2]
            rw [e] at HE
            have HE2 : G = (⟨#[]⟩, false) := HE.out.symm
            subst HE2
            clear HE
            go_wp2_with fail
            go_ret2
            exact ⟨rfl, HB1.out⟩
      | false =>
        by_cases h1 : R = 37
        · subst h1
          have e : fmS s.size pos m false 37 = some (m + 1, true) := by simp [fmS]
          rw [e] at HE
          clear HL HD
          go_wp2_with fail
          go_roundw
          case rel => exact ⟨pos2, m + 1, true, hpp.2, by omega, by go_num, rfl, HI1, HE, HB1⟩
          case measure => rw [hpos0.out, iterPos_at HI1.out]; omega
        · have h1' : (R == 37) = false := by simp [h1]
          by_cases h2 : R = 47
          · subst h2
            by_cases h3 : 0 < pos
            · have h3' : (0 : Int) < (pos : Int) := by omega
              by_cases h4 : pos + 1 < s.size
              · have h4' : (pos : Int) < (s.size : Int) - 1 := by omega
                have e : fmS s.size pos m false 47 = some (m + 1, false) := by simp [fmS, h3, h4]
                rw [e] at HE
                clear HL HD
                go_wp2_with fail
                go_roundw
                case rel => exact ⟨pos2, m + 1, false, hpp.2, by omega, by go_num, rfl, HI1, HE, HB1⟩
                case measure => rw [hpos0.out, iterPos_at HI1.out]; omega
              · have h4' : ¬ (pos : Int) < (s.size : Int) - 1 := by omega
                have e : fmS s.size pos m false 47 = none := by simp [fmS, h4]; decide
                have q1 : isL 47 = false := by decide
                have q2 : isD 47 = false := by decide
                rw [q1] at HL
                rw [q2] at HD
                go_wp2_with fail
                refine (HL.out _).mono ?_
                rintro e1 w2 ⟨rfl, hw2⟩
                obtain rfl := hw2.symm
                clear hw2
                go_wp2_with fail
                refine (HD.out _).mono ?_
                rintro e1 w2 ⟨rfl, hw2⟩
                obtain rfl := hw2.symm
                clear hw2
                rw [e] at HE
                have HE2 : G = (⟨#[]⟩, false) := HE.out.symm
                subst HE2
                clear HE
                go_wp2_with fail
                go_ret2
                exact ⟨rfl, HB1.out⟩
            · have h3' : ¬ (0 : Int) < (pos : Int) := by omega
              have e : fmS s.size pos m false 47 = none := by simp [fmS, h3]; decide
              have q1 : isL 47 = false := by decide
              have q2 : isD 47 = false := by decide
              rw [q1] at HL
              rw [q2] at HD
              go_wp2_with fail
              refine (HL.out _).mono ?_
              rintro e1 w2 ⟨rfl, hw2⟩
              obtain rfl := hw2.symm
              clear hw2
              go_wp2_with fail
              refine (HD.out _).mono ?_
              rintro e1 w2 ⟨rfl, hw2⟩
              obtain rfl := hw2.symm
              clear hw2
              rw [e] at HE
              have HE2 : G = (⟨#[]⟩, false) := HE.out.symm
              subst HE2
              clear HE
              go_wp2_with fail
              go_ret2
              exact ⟨rfl, HB1.out⟩
          · have h2' : (R == 47) = false := by simp [h2]
            have e0 : fmS s.size pos m false R = if isL R = true ∨ isD R = true ∨ R = 43 ∨ R = 45 then some (m, false) else none := by simp [fmS, h1, h2]
            rw [e0] at HE
            generalize isL R = b1 at *
            generalize isD R = b2 at *
            cases b1 with
            | true =>
              rw [if_pos (.inl rfl)] at HE
              go_wp2_with fail
              refine (HL.out _).mono ?_
              rintro e1 w2 ⟨rfl, hw2⟩
              obtain rfl := hw2.symm
              clear hw2
              clear HL HD
              go_wp2_with fail
              go_roundw
              case rel => exact ⟨pos2, m, false, hpp.2, by omega, by go_num, rfl, HI1, HE, HB1⟩
              case measure => rw [hpos0.out, iterPos_at HI1.out]; omega
            | false =>
              go_wp2_with fail
              refine (HL.out _).mono ?_
              rintro e1 w2 ⟨rfl, hw2⟩
              obtain rfl := hw2.symm
              clear hw2
              cases b2 with
              | true =>
                rw [if_pos (.inr (.inl rfl))] at HE
                go_wp2_with fail
                refine (HD.out _).mono ?_
                rintro e1 w2 ⟨rfl, hw2⟩
                obtain rfl := hw2.symm
                clear hw2
                clear HL HD
                go_wp2_with fail
                go_roundw
                case rel => exact ⟨pos2, m, false, hpp.2, by omega, by go_num, rfl, HI1, HE, HB1⟩
                case measure => rw [hpos0.out, iterPos_at HI1.out]; omega
              | false =>
                go_wp2_with fail
                refine (HD.out _).mono ?_
                rintro e1 w2 ⟨rfl, hw2⟩
                obtain rfl := hw2.symm
                clear hw2
                by_cases h5 : R = 43
                · rw [if_pos (.inr (.inr (.inl h5)))] at HE
                  subst h5
                  clear HL HD
                  go_wp2_with fail
                  go_roundw
                  case rel => exact ⟨pos2, m, false, hpp.2, by omega, by go_num, rfl, HI1, HE, HB1⟩
                  case measure => rw [hpos0.out, iterPos_at HI1.out]; omega
                · have h5' : (R != 43) = true := by simp [h5]
                  by_cases h6 : R = 45
                  · rw [if_pos (.inr (.inr (.inr h6)))] at HE
                    subst h6
                    clear HL HD
                    go_wp2_with fail
                    go_roundw
                    case rel => exact ⟨pos2, m, false, hpp.2, by omega, by go_num, rfl, HI1, HE, HB1⟩
                    case measure => rw [hpos0.out, iterPos_at HI1.out]; omega
                  · have h6' : (R != 45) = true := by simp [h6]
                    rw [if_neg (by simp [h5, h6])] at HE
                    have HE2 : G = (⟨#[]⟩, false) := HE.out.symm
                    subst HE2
                    clear HE
                    go_wp2_with fail
                    go_ret2
                    exact ⟨rfl, HB1.out⟩
    · have hnx : ∀ ty, (Instr.next (.pointer (some ⟨w.heap.size + 1, 0, none⟩)) true ty).run Tryz.prog wr = _ := fun ty => Lib.run_next_end_at wr (w.heap.size + 1) s pos ty HI.out hp
      have HE : G = (s, decide (s.size ≠ 0) && decide (s.size ≤ 24) && !pc && decide (m ≤ 1)) := by
        rw [← HG.out, List.drop_of_length_le (by simp; omega)]; rfl
      subst HE
      clear HG HI
      by_cases h0 : s.size = 0
      · have hs0 : s = ⟨#[]⟩ := by apply ByteArray.ext; exact Array.eq_empty_of_size_eq_zero h0
        subst hs0
        go_wp2_with fail
        go_ret2
        exact ⟨rfl, HB.out⟩
      · have hs0 : s.toList.isEmpty = false := by rw [ByteArray.toList_eq s, List.isEmpty_eq_false_iff]; intro e; exact h0 (by show s.data.size = 0; rw [← Array.length_toList, e]; rfl)
        have fin : ∀ b : Bool, b = (decide (s.size ≠ 0) && decide (s.size ≤ 24) && !pc && decide (m ≤ 1)) → Ending.returned (.tuple #[.iface 9 (.string s), .bool b]) = .returned (.tuple #[.iface 9 (.string s), .bool (decide (s.size ≠ 0) && decide (s.size ≤ 24) && !pc && decide (m ≤ 1))]) := fun b h => by rw [h]
        by_cases h24 : s.size ≤ 24
        · have h24' : (s.size : Int) ≤ 24 := by omega
          cases pc with
          | true =>
            go_wp2_with fail
            go_ret2
            exact ⟨fin _ (by simp), HB.out⟩
          | false =>
            go_wp2_with fail
            go_ret2
            exact ⟨fin _ (by simp [h0, h24]; omega), HB.out⟩
        · have h24' : ¬ (s.size : Int) ≤ 24 := by omega
          go_wp2_with fail
          go_ret2
          exact ⟨fin _ (by simp [h24]), HB.out⟩

end Go.Proofs.YthhpdjjfbfkgiaaGreatDoor
/- Contracts: shiftReader.read; each reader as a row of readAll. -/
namespace Go.Proofs.YthhpdjjfbfkgiaaGreatDoor
open Go.RowKit Lin
set_option linter.unusedVariables false

set_option maxRecDepth 100000 in
set_option maxHeartbeats 4000000 in
theorem shiftR_dash (w : World) :
    Calls Tryz.prog 94 #[.agg #[], .string ⟨#[45]⟩] w fun e w' => e = .returned (.tuple #[.iface 132 (.agg #[.string ⟨#[]⟩, .int .i64 0]), .bool true]) ∧ Below w.heap.size w w' := by
  go_enter Tryz.func94, Tryz.ntmps94
  go_wp2
  go_ret2
  exact ⟨rfl, NBs (Below.refl _ _)⟩

theorem ta_int (U : Int) (w : World) : (Instr.typeAssert (.iface 2 (.int .i64 U)) 20 2 false).run Tryz.prog w = .ok (.int .i64 U) w := by kernel_rfl
theorem ta_str (s : ByteArray) (w : World) : (Instr.typeAssert (.iface 9 (.string s)) 20 9 false).run Tryz.prog w = .ok (.string s) w := by kernel_rfl
theorem ta_on (a b c : Int) (w : World) : (Instr.typeAssert (.iface 60 (.agg #[.int .i64 a, .int .i64 b, .int .i64 c])) 20 60 false).run Tryz.prog w = .ok (.agg #[.int .i64 a, .int .i64 b, .int .i64 c]) w := by kernel_rfl
theorem ta_at (a b : Int) (w : World) : (Instr.typeAssert (.iface 61 (.agg #[.int .i64 a, .int .u8 b])) 20 61 false).run Tryz.prog w = .ok (.agg #[.int .i64 a, .int .u8 b]) w := by kernel_rfl
theorem ta_shift (s : ByteArray) (U : Int) (w : World) : (Instr.typeAssert (.iface 132 (.agg #[.string s, .int .i64 U])) 20 132 false).run Tryz.prog w = .ok (.agg #[.string s, .int .i64 U]) w := by kernel_rfl
theorem meth_save (w : World) : (method 335 152 (.agg #[.int .i64 0, .int .i64 7200]) "computus/src.read").run Tryz.prog w = .ok (140, .agg #[.int .i64 0, .int .i64 7200]) w := by kernel_rfl

set_option maxRecDepth 100000 in
set_option maxHeartbeats 4000000 in
theorem shiftR_dig (s : ByteArray) (h0 : 0 < s.size) (h45 : s.toList ≠ [45]) (hd : isD ((s[0]'h0).toNat : Int) = true) (U : Int) (b : Bool)
    (SP : Hid (∀ w : World, Calls Tryz.prog 140 #[.agg #[.int .i64 0, .int .i64 7200], .string s] w fun e w' => e = .returned (.tuple #[.iface 2 (.int .i64 U), .bool b]) ∧ Below w.heap.size w w')) (w : World) :
    Calls Tryz.prog 94 #[.agg #[], .string s] w fun e w' => e = .returned (.tuple #[.iface 132 (.agg #[.string ⟨#[]⟩, .int .i64 U]), .bool b]) ∧ Below w.heap.size w w' := by
  have h45' : (s.toList == [45]) = false := beq_eq_false_iff_ne.2 h45
  have hs0 : s.toList.isEmpty = false := by rw [ByteArray.toList_eq s, List.isEmpty_eq_false_iff]; intro e; exact absurd (show s.data.size = 0 by rw [← Array.length_toList, e]; rfl) (Nat.ne_of_gt h0)
  have hz : (0 : Int) < (s.size : Int) := by omega
  have hw : wrap32 ((s[0]'h0).toNat : Int) = ((s[0]'h0).toNat : Int) := by have := (s[0]'h0).toNat_lt; unfold wrap32; omega
  have HD : Hid (∀ w : World, Calls Tryz.prog 95 #[.int .i32 (wrap32 ((s[0]'h0).toNat : Int))] w fun e w' => e = .returned (.bool true) ∧ w' = w) := fun w => by
    have := srDigit_any ((s[0]'h0).toNat : Int) w
    rw [hd] at this
    rw [hw]
    exact this
  clear h45 hd hw
  have HS : Hid (∀ w : World, Calls Tryz.prog 46 #[] w fun e w' => e = .returned (.iface 152 (.agg #[.int .i64 0, .int .i64 7200])) ∧ Below w.heap.size w w') := saveR
  have hm := meth_save
  have ht := ta_int U
  go_enter Tryz.func94, Tryz.ntmps94
  go_wp2_with fail
  refine (HD.out _).mono ?_
  rintro e w2 ⟨rfl, hw2⟩
  obtain rfl := hw2.symm
  clear hw2
  go_wp2_with fail
  refine (HS.out _).mono ?_
  rintro e w3 ⟨rfl, hb3⟩
  go_wp2_with fail
  refine (SP.out _).mono ?_
  rintro e w4 ⟨rfl, hb4⟩
  have HB : Hid (Below w.heap.size w w4) := NBs hb4 (NBs hb3)
  clear hb3 hb4
  go_wp2
  go_ret2
  exact ⟨rfl, HB.out⟩

set_option maxRecDepth 100000 in
set_option maxHeartbeats 4000000 in
theorem shiftR_name (s : ByteArray) (h0 : 0 < s.size) (h45 : s.toList ≠ [45]) (hd : isD ((s[0]'h0).toNat : Int) = false) (b : Bool)
    (NA : Hid (∀ w : World, Calls Tryz.prog 96 #[.string s] w fun e w' => e = .returned (.bool b) ∧ Below w.heap.size w w')) (w : World) :
    Calls Tryz.prog 94 #[.agg #[], .string s] w fun e w' => e = .returned (.tuple #[.iface 132 (.agg #[.string s, .int .i64 0]), .bool b]) ∧ Below w.heap.size w w' := by
  have h45' : (s.toList == [45]) = false := beq_eq_false_iff_ne.2 h45
  have hs0 : s.toList.isEmpty = false := by rw [ByteArray.toList_eq s, List.isEmpty_eq_false_iff]; intro e; exact absurd (show s.data.size = 0 by rw [← Array.length_toList, e]; rfl) (Nat.ne_of_gt h0)
  have hz : (0 : Int) < (s.size : Int) := by omega
  have hw : wrap32 ((s[0]'h0).toNat : Int) = ((s[0]'h0).toNat : Int) := by have := (s[0]'h0).toNat_lt; unfold wrap32; omega
  have HD : Hid (∀ w : World, Calls Tryz.prog 95 #[.int .i32 (wrap32 ((s[0]'h0).toNat : Int))] w fun e w' => e = .returned (.bool false) ∧ w' = w) := fun w => by
    have := srDigit_any ((s[0]'h0).toNat : Int) w
    rw [hd] at this
    rw [hw]
    exact this
  clear h45 hd hw
  go_enter Tryz.func94, Tryz.ntmps94
  go_wp2_with fail
  refine (HD.out _).mono ?_
  rintro e w2 ⟨rfl, hw2⟩
  obtain rfl := hw2.symm
  clear hw2
  go_wp2_with fail
  refine (NA.out _).mono ?_
  rintro e w3 ⟨rfl, hb3⟩
  have HB : Hid (Below w.heap.size w w3) := NBs hb3
  clear hb3
  go_wp2
  go_ret2
  exact ⟨rfl, HB.out⟩

theorem rdr_name (f : ByteArray) (xT : TypeId) (xv : Value) (b : Bool) (C : ∀ w : World, Calls Tryz.prog 103 #[.agg #[], .string f] w fun e w' => e = .returned (.tuple #[.iface xT xv, .bool b]) ∧ Below w.heap.size w w') :
    Rdr.ok ⟨134, .agg #[], 103, f, xT, xv, b⟩ :=
  ⟨fun w => by kernel_rfl, fun w => by kernel_rfl, C, fun a w => by kernel_rfl⟩

theorem rdr_none (f : ByteArray) (xT : TypeId) (xv : Value) (b : Bool) (C : ∀ w : World, Calls Tryz.prog 114 #[.agg #[], .string f] w fun e w' => e = .returned (.tuple #[.iface xT xv, .bool b]) ∧ Below w.heap.size w w') :
    Rdr.ok ⟨137, .agg #[], 114, f, xT, xv, b⟩ :=
  ⟨fun w => by kernel_rfl, fun w => by kernel_rfl, C, fun a w => by kernel_rfl⟩

theorem rdr_year (f : ByteArray) (xT : TypeId) (xv : Value) (b : Bool) (C : ∀ w : World, Calls Tryz.prog 104 #[.agg #[], .string f] w fun e w' => e = .returned (.tuple #[.iface xT xv, .bool b]) ∧ Below w.heap.size w w') :
    Rdr.ok ⟨135, .agg #[], 104, f, xT, xv, b⟩ :=
  ⟨fun w => by kernel_rfl, fun w => by kernel_rfl, C, fun a w => by kernel_rfl⟩

theorem rdr_to (f : ByteArray) (xT : TypeId) (xv : Value) (b : Bool) (C : ∀ w : World, Calls Tryz.prog 113 #[.agg #[], .string f] w fun e w' => e = .returned (.tuple #[.iface xT xv, .bool b]) ∧ Below w.heap.size w w') :
    Rdr.ok ⟨136, .agg #[], 113, f, xT, xv, b⟩ :=
  ⟨fun w => by kernel_rfl, fun w => by kernel_rfl, C, fun a w => by kernel_rfl⟩

theorem rdr_month (f : ByteArray) (xT : TypeId) (xv : Value) (b : Bool) (C : ∀ w : World, Calls Tryz.prog 115 #[.agg #[], .string f] w fun e w' => e = .returned (.tuple #[.iface xT xv, .bool b]) ∧ Below w.heap.size w w') :
    Rdr.ok ⟨138, .agg #[], 115, f, xT, xv, b⟩ :=
  ⟨fun w => by kernel_rfl, fun w => by kernel_rfl, C, fun a w => by kernel_rfl⟩

theorem rdr_on (f : ByteArray) (xT : TypeId) (xv : Value) (b : Bool) (C : ∀ w : World, Calls Tryz.prog 120 #[.agg #[], .string f] w fun e w' => e = .returned (.tuple #[.iface xT xv, .bool b]) ∧ Below w.heap.size w w') :
    Rdr.ok ⟨139, .agg #[], 120, f, xT, xv, b⟩ :=
  ⟨fun w => by kernel_rfl, fun w => by kernel_rfl, C, fun a w => by kernel_rfl⟩

theorem rdr_at (f : ByteArray) (xT : TypeId) (xv : Value) (b : Bool) (C : ∀ w : World, Calls Tryz.prog 128 #[.agg #[], .string f] w fun e w' => e = .returned (.tuple #[.iface xT xv, .bool b]) ∧ Below w.heap.size w w') :
    Rdr.ok ⟨140, .agg #[], 128, f, xT, xv, b⟩ :=
  ⟨fun w => by kernel_rfl, fun w => by kernel_rfl, C, fun a w => by kernel_rfl⟩

theorem rdr_letter (f : ByteArray) (xT : TypeId) (xv : Value) (b : Bool) (C : ∀ w : World, Calls Tryz.prog 139 #[.agg #[], .string f] w fun e w' => e = .returned (.tuple #[.iface xT xv, .bool b]) ∧ Below w.heap.size w w') :
    Rdr.ok ⟨141, .agg #[], 139, f, xT, xv, b⟩ :=
  ⟨fun w => by kernel_rfl, fun w => by kernel_rfl, C, fun a w => by kernel_rfl⟩

theorem rdr_format (f : ByteArray) (xT : TypeId) (xv : Value) (b : Bool) (C : ∀ w : World, Calls Tryz.prog 102 #[.agg #[], .string f] w fun e w' => e = .returned (.tuple #[.iface xT xv, .bool b]) ∧ Below w.heap.size w w') :
    Rdr.ok ⟨128, .agg #[], 102, f, xT, xv, b⟩ :=
  ⟨fun w => by kernel_rfl, fun w => by kernel_rfl, C, fun a w => by kernel_rfl⟩

theorem rdr_shift (f : ByteArray) (xT : TypeId) (xv : Value) (b : Bool) (C : ∀ w : World, Calls Tryz.prog 94 #[.agg #[], .string f] w fun e w' => e = .returned (.tuple #[.iface xT xv, .bool b]) ∧ Below w.heap.size w w') :
    Rdr.ok ⟨127, .agg #[], 94, f, xT, xv, b⟩ :=
  ⟨fun w => by kernel_rfl, fun w => by kernel_rfl, C, fun a w => by kernel_rfl⟩

theorem rdr_save (f : ByteArray) (xT : TypeId) (xv : Value) (b : Bool) (C : ∀ w : World, Calls Tryz.prog 140 #[.agg #[.int .i64 0, .int .i64 7200], .string f] w fun e w' => e = .returned (.tuple #[.iface xT xv, .bool b]) ∧ Below w.heap.size w w') :
    Rdr.ok ⟨152, .agg #[.int .i64 0, .int .i64 7200], 140, f, xT, xv, b⟩ :=
  ⟨fun w => by kernel_rfl, fun w => by kernel_rfl, C, fun a w => by kernel_rfl⟩

theorem rdr_offset (f : ByteArray) (xT : TypeId) (xv : Value) (b : Bool) (C : ∀ w : World, Calls Tryz.prog 140 #[.agg #[.int .i64 (-50400), .int .i64 50400], .string f] w fun e w' => e = .returned (.tuple #[.iface xT xv, .bool b]) ∧ Below w.heap.size w w') :
    Rdr.ok ⟨152, .agg #[.int .i64 (-50400), .int .i64 50400], 140, f, xT, xv, b⟩ :=
  ⟨fun w => by kernel_rfl, fun w => by kernel_rfl, C, fun a w => by kernel_rfl⟩

end Go.Proofs.YthhpdjjfbfkgiaaGreatDoor
/- Blocks of cells, read and written whole. -/
namespace Go.Proofs.YthhpdjjfbfkgiaaGreatDoor
open Go.RowKit
set_option linter.unusedVariables false
namespace Sr

def Bx (W : World) (b : Nat) (l : List Value) : Prop := b < W.heap.size ∧ ∀ i v, l[i]? = some v → W.cell? ⟨b, i, none⟩ = some v ∧ W.frozen? ⟨b, i, none⟩ = false
theorem Bx.below {W W' : World} {b : Nat} {l : List Value} (h : Bx W b l) (hb : Below W.heap.size W W') : Bx W' b l :=
  ⟨Nat.lt_of_lt_of_le h.1 hb.size, fun i v e => ⟨(hb.cell (p := ⟨b, i, none⟩) h.1).trans (h.2 i v e).1, (hb.frozen (p := ⟨b, i, none⟩) h.1).trans (h.2 i v e).2⟩⟩
theorem Bx.alloc {W : World} {b : Nat} {l : List Value} (h : Bx W b l) (o : Obj) : Bx (W.alloc o) b l := h.below ((Below.refl _ W).alloc (Nat.le_refl _) o)
theorem Bx.new (w : World) (l : List Value) (t : TypeId) : Bx (w.alloc (.cells l.toArray t)) w.heap.size l :=
  ⟨by simp, fun i v e => ⟨by rw [World.cell?_alloc_at _ _ _ _ rfl]; simpa using e, by rw [World.frozen?_alloc_at _ _ _ _ rfl]⟩⟩
theorem Bx.newAt (w : World) (l : List Value) (t : TypeId) (b : Nat) (hb : w.heap.size = b) : Bx (w.alloc (.cells l.toArray t)) b l := hb ▸ Bx.new w l t
theorem Bx.c {W : World} {b : Nat} {l : List Value} (h : Bx W b l) (i : Nat) {v : Value} (e : l[i]? = some v) : W.cell? ⟨b, i, none⟩ = some v := (h.2 i v e).1
theorem Bx.f {W : World} {b : Nat} {l : List Value} (h : Bx W b l) (i : Nat) {v : Value} (e : l[i]? = some v) : W.frozen? ⟨b, i, none⟩ = false := (h.2 i v e).2
theorem below_setCells {w : World} {b : Nat} (hb : w.heap.size ≤ b) : ∀ (vs : List Value) (W : World) (i : Nat), Below w.heap.size w W → Below w.heap.size w (W.setCells b i vs)
  | [], _, _, h => h
  | v :: vs, W, i, h => below_setCells hb vs _ _ (h.setCell (p := ⟨b, i, none⟩) hb v)
theorem setCells_size (b : Nat) : ∀ (vs : List Value) (W : World) (i : Nat), (W.setCells b i vs).heap.size = W.heap.size
  | [], _, _ => rfl
  | v :: vs, W, i => by rw [World.setCells, setCells_size b vs]; simp
theorem setCells_off (b : Nat) (vs : List Value) (W : World) (i : Nat) (p : Addr) (h : p.block ≠ b) : (W.setCells b i vs).cell? p = W.cell? p :=
  World.cell?_setCells_out b vs i W p (fun e _ => absurd e h)
theorem Bx.there {W : World} {b : Nat} {l : List Value} (h : Bx W b l) : W.there b 0 l.length := fun j hj => by
  have := h.2 j l[j] (List.getElem?_eq_getElem hj)
  rw [Nat.zero_add]
  exact ⟨by rw [this.1]; rfl, this.2⟩
theorem Bx.all {W : World} {b : Nat} {l : List Value} (h : Bx W b l) : W.rangeAt b 0 l := fun j v hv => by rw [Nat.zero_add]; exact (h.2 j v hv).1
theorem Bx.setAll {W : World} {b : Nat} {l : List Value} (h : Bx W b l) (vs : List Value) (hl : l.length = vs.length) : Bx (W.setCells b 0 vs) b vs :=
  ⟨by rw [setCells_size]; exact h.1, fun i v e => by
    have hi := (List.getElem?_eq_some_iff.1 e).1
    refine ⟨?_, ?_⟩
    · have := World.rangeAt_setCells_same W b 0 vs (hl ▸ h.there) i v e
      rwa [Nat.zero_add] at this
    · rw [World.frozen?_setCells]; exact (h.2 i l[i] (List.getElem?_eq_getElem (by omega))).2⟩
theorem Bx.setOther {W : World} {b' b : Nat} {l : List Value} (h : Bx W b' l) (hb : b' ≠ b) (vs : List Value) (j : Nat := 0) : Bx (W.setCells b j vs) b' l :=
  ⟨by rw [setCells_size]; exact h.1, fun i v e => ⟨by rw [setCells_off b vs _ _ _ hb]; exact (h.2 i v e).1, by rw [World.frozen?_setCells]; exact (h.2 i v e).2⟩⟩
theorem gen_any {P : Program} {md : Region.Mode} {ops : Array Oper} {Q : Exit → Act → World → Prop} {S : World → Prop} {fuel : Nat} {listed : Array Bool} {a : Act} {w1 : World} (T : World → Prop) (h : T w1)
    (k : ∀ w2, T w2 → wpAnyH P md ops Q S fuel listed a w2) : wpAnyH P md ops Q S fuel listed a w1 := k _ h

theorem gen_list {P : Program} {ops : Array Oper} {Q : Exit → Act → World → Prop} {rest : List Oper} {a : Act} {w1 : World} (T : World → Prop) (h : T w1) (k : ∀ w2, T w2 → wpList P ops Q rest a w2) : wpList P ops Q rest a w1 := k _ h
theorem gen_code {P : Program} {c : Code} {Q : Exit → Act → World → Prop} {a : Act} {w1 : World} (T : World → Prop) (h : T w1) (k : ∀ w2, T w2 → Code.wp P c Q a w2) : Code.wp P c Q a w1 := k _ h
end Sr
end Go.Proofs.YthhpdjjfbfkgiaaGreatDoor
/- Contract: src.readRule. -/
namespace Go.Proofs.YthhpdjjfbfkgiaaGreatDoor
open Go.RowKit Lin Sr
set_option linter.unusedVariables false

/-- the nine rows of a rule. -/
abbrev ruleRs (f0 f1 f2 f3 f4 f5 f6 f7 f8 : ByteArray) (y t mo oa ob oc ta tz U : Int) (lt : ByteArray) (b0 b1 b2 b3 b4 b5 b6 b7 b8 : Bool) : List Rdr :=
  [⟨134, .agg #[], 103, f0, 9, .string f0, b0⟩,
   ⟨135, .agg #[], 104, f1, 2, .int .i64 y, b1⟩,
   ⟨136, .agg #[], 113, f2, 2, .int .i64 t, b2⟩,
   ⟨137, .agg #[], 114, f3, 9, .string f3, b3⟩,
   ⟨138, .agg #[], 115, f4, 2, .int .i64 mo, b4⟩,
   ⟨139, .agg #[], 120, f5, 60, .agg #[.int .i64 oa, .int .i64 ob, .int .i64 oc], b5⟩,
   ⟨140, .agg #[], 128, f6, 61, .agg #[.int .i64 ta, .int .u8 tz], b6⟩,
   ⟨152, .agg #[.int .i64 0, .int .i64 7200], 140, f7, 2, .int .i64 U, b7⟩,
   ⟨141, .agg #[], 139, f8, 9, .string lt, b8⟩]

theorem ruleRs_row {rs : List Rdr} {f0 f1 f2 f3 f4 f5 f6 f7 f8 : ByteArray} {y t mo oa ob oc ta tz U : Int} {lt : ByteArray} {b0 b1 b2 b3 b4 b5 b6 b7 b8 : Bool}
    (hrs : rs = ruleRs f0 f1 f2 f3 f4 f5 f6 f7 f8 y t mo oa ob oc ta tz U lt b0 b1 b2 b3 b4 b5 b6 b7 b8) (w : World) :
    ∀ j r, rs[j]? = some r → (w.alloc (.cells #[.iface 134 (.agg #[]), .iface 135 (.agg #[]), .iface 136 (.agg #[]), .iface 137 (.agg #[]), .iface 138 (.agg #[]), .iface 139 (.agg #[]), .iface 140 (.agg #[]), .iface 152 (.agg #[.int .i64 0, .int .i64 7200]), .iface 141 (.agg #[])] 124)).cell? ⟨w.heap.size, 0 + j, none⟩ = some (.iface r.T r.v) := by
  intro j r hj
  subst hrs
  have := (Bx.new w ((ruleRs f0 f1 f2 f3 f4 f5 f6 f7 f8 y t mo oa ob oc ta tz U lt b0 b1 b2 b3 b4 b5 b6 b7 b8).map fun r => Value.iface r.T r.v) 124).c j (v := .iface r.T r.v) (by rw [List.getElem?_map, hj]; rfl)
  rw [Nat.zero_add]
  exact this
/-- a rule's cells, nothing said. -/
def zRule : List Value := [.string ⟨#[]⟩, .int .i64 0, .int .i64 0, .int .i64 0, .int .i64 0, .int .i64 0, .int .i64 0, .int .i64 0, .int .u8 0, .int .i64 0, .string ⟨#[]⟩]
theorem zRule_one : (#[.string ⟨#[]⟩, .int .i64 0, .int .i64 0, .int .i64 0, .int .i64 0, .int .i64 0, .int .i64 0, .int .i64 0, .int .u8 0, .int .i64 0, .string ⟨#[]⟩] : Array Value).all (·.oneCell') = true := all_oneCell_toArray (cs := zRule) (by intro v hv; simp [zRule] at hv; rcases hv with rfl | rfl | rfl | rfl | rfl <;> rfl)

set_option maxRecDepth 100000 in
set_option maxHeartbeats 4000000 in
theorem readRule_no (rs : List Rdr) (f0 f1 f2 f3 f4 f5 f6 f7 f8 : ByteArray) (y t mo oa ob oc ta tz U : Int) (lt : ByteArray) (b0 b1 b2 b3 b4 b5 b6 b7 b8 : Bool)
    (hrs : Hid (rs = ruleRs f0 f1 f2 f3 f4 f5 f6 f7 f8 y t mo oa ob oc ta tz U lt b0 b1 b2 b3 b4 b5 b6 b7 b8)) (HK : Hid (∀ r ∈ rs, r.ok)) (hno : Hid (rdL rs [] = none))
    (g o c : Nat) (w : World) (hg : g < w.heap.size) (hc : 9 ≤ c) (HF : Hid (∀ j r, rs[j]? = some r → w.cell? ⟨g, o + j, none⟩ = some (.string r.f))) :
    Calls Tryz.prog 30 #[.slice (some ⟨g, o, none⟩) 9 c] w fun e w' => e = .returned (.tuple #[.agg #[.string ⟨#[]⟩, .int .i64 0, .int .i64 0, .int .i64 0, .int .i64 0, .int .i64 0, .int .i64 0, .int .i64 0, .int .u8 0, .int .i64 0, .string ⟨#[]⟩], .bool false]) ∧ Below w.heap.size w w' := by
  have HS : Hid (∀ w : World, Calls Tryz.prog 46 #[] w fun e w' => e = .returned (.iface 152 (.agg #[.int .i64 0, .int .i64 7200])) ∧ Below w.heap.size w w') := saveR
  go_enter Tryz.func30, Tryz.ntmps30
  go_wp2_with fail
  refine (HS.out _).mono ?_
  rintro e w2 ⟨rfl, hb2⟩
  go_wp2_with fail
  have X2 : Hid (Bx w2 w.heap.size zRule) := (Bx.new w zRule 63).below hb2
  have B2 : Hid (Below w.heap.size w w2) := NBs hb2 ((Below.refl _ _).alloc (Nat.le_refl _) _)
  clear hb2
  have hlen : rs.length = 9 := by rw [hrs.out]; rfl
  have hg2 : g < w2.heap.size := Nat.lt_of_lt_of_le hg B2.out.size
  refine (readAll_any rs 9 hlen g o w2.heap.size 0 c 9 _ HK (by simp; omega) (by simp) (by decide) (fun j r hj => ?_) (ruleRs_row hrs.out w2) hc (Nat.le_refl _)).mono ?_
  · exact ((Below.refl _ w2).alloc (Nat.le_refl _) _ |>.cell hg2).trans ((B2.out.cell hg).trans (HF.out j r hj))
  rintro e w3 ⟨hb3, hR⟩
  rw [hno.out] at hR
  have hR' : e = .returned (.tuple #[.slice none 0 0, .bool false]) := hR
  subst hR'
  have X3 : Hid (Bx w3 w.heap.size zRule) := (X2.out.alloc _).below hb3
  have B3 : Hid (Below w.heap.size w w3) := (B2.out.alloc B2.out.size _).trans (hb3.mono (B2.out.alloc B2.out.size _).size)
  clear hR hb3 X2 B2 HK HF hrs hno HS hlen
  go_wp2_with (refine wpList_store_mid rfl 63 _ _ rfl w.heap.size 0 #[.string ⟨#[]⟩, .int .i64 0, .int .i64 0, .int .i64 0, .int .i64 0, .int .i64 0, .int .i64 0, .int .i64 0, .int .u8 0, .int .i64 0, .string ⟨#[]⟩] rfl rfl X3.out.there (by kernel_rfl) zRule_one ?_; refine gen_list (fun V => Bx V w.heap.size zRule ∧ Below w.heap.size w V) ⟨X3.out.setAll zRule rfl, below_setCells (Nat.le_refl _) zRule w3 0 B3.out⟩ ?_; clear X3 B3; rintro w4 ⟨X4, B4⟩)
  have y0 := X4.c 0 rfl
  have y1 := X4.c 1 rfl
  have y2 := X4.c 2 rfl
  have y3 := X4.c 3 rfl
  have y4 := X4.c 4 rfl
  have y5 := X4.c 5 rfl
  have y6 := X4.c 6 rfl
  have y7 := X4.c 7 rfl
  have y8 := X4.c 8 rfl
  have y9 := X4.c 9 rfl
  have y10 := X4.c 10 rfl
  have HB : Hid (Below w.heap.size w w4) := B4
  clear X4 B4
  refine bodyPost_ret (v := .tuple #[.agg #[.string ⟨#[]⟩, .int .i64 0, .int .i64 0, .int .i64 0, .int .i64 0, .int .i64 0, .int .i64 0, .int .i64 0, .int .u8 0, .int .i64 0, .string ⟨#[]⟩], .bool false]) (by simp [results, Tryz.results30, go_sem, y0, y1, y2, y3, y4, y5, y6, y7, y8, y9, y10]) rfl ⟨rfl, HB.out⟩

end Go.Proofs.YthhpdjjfbfkgiaaGreatDoor
