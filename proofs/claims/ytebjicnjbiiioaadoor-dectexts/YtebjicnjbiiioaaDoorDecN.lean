/- Contract of dec.number: what digits tell, if it is an int64. -/
import Derived.Test.YtebjicnjbiiioaaDoorDecG
namespace Go.Proofs.YtebjicnjbiiioaaDoor
open Go.RowKit
set_option linter.unusedVariables false

/-- the number that digits are. -/
def valL (l : List UInt8) : Nat := l.foldl (fun a c => a * 10 + (c.toNat - 48)) 0
theorem fold_ge (l : List UInt8) : ∀ a : Nat, a ≤ l.foldl (fun a c => a * 10 + (c.toNat - 48)) a := by
  induction l with
  | nil => intro a; exact Nat.le_refl _
  | cons c l ih => intro a; rw [List.foldl_cons]; exact Nat.le_trans (by omega) (ih _)
theorem valL_take_le (l : List UInt8) (i : Nat) : valL (l.take i) ≤ valL l := by
  unfold valL
  conv => rhs; rw [← List.take_append_drop i l, List.foldl_append]
  exact fold_ge _ _
theorem valL_succ {s : ByteArray} {i : Nat} (hi : i < s.size) : valL (s.data.toList.take (i + 1)) = valL (s.data.toList.take i) * 10 + (byteAt s i - 48) := by
  have hl : i < s.data.toList.length := by simpa using hi
  have e : byteAt s i = (s.data.toList[i]'hl).toNat := by unfold byteAt; rw [List.getD_eq_getElem?_getD, List.getElem?_eq_getElem hl]; rfl
  unfold valL
  rw [List.take_add_one, List.getElem?_eq_getElem hl, List.foldl_append, e]
  rfl
theorem byteAt_digit {s : ByteArray} (h : allD s = true) {i : Nat} (hi : i < s.size) : 48 ≤ byteAt s i ∧ byteAt s i ≤ 57 := by
  have hl : i < s.data.toList.length := by simpa using hi
  have e : byteAt s i = (s.data.toList[i]'hl).toNat := by unfold byteAt; rw [List.getD_eq_getElem?_getD, List.getElem?_eq_getElem hl]; rfl
  rw [e]
  exact of_decide_eq_true (List.all_eq_true.1 h _ (List.getElem_mem hl))

/-- a number, below nought or not. -/
def sg (b : Bool) (n : Nat) : Int := if b then -(n : Int) else n
theorem sg_out {b : Bool} {n m : Nat} (h : n ≤ m) (ho : sg b n < -9223372036854775808 ∨ 9223372036854775807 < sg b n) : sg b m < -9223372036854775808 ∨ 9223372036854775807 < sg b m := by
  cases b <;> simp [sg] at * <;> omega

theorem iterPos_of {w : World} {k : Nat} {s : ByteArray} {p : Nat} (h : w.heap[k]? = some (.stringIter s p)) : w.iterPos k = p := by simp [World.iterPos, h]

set_option maxRecDepth 1000000 in
set_option maxHeartbeats 2000000 in
theorem number_any (s : ByteArray) (b : Bool) (hs : allD s = true) (w : World) :
    Calls Tryd.prog 32 #[.string s, .bool b] w fun e w' => e = .returned (.tuple #[.int .i64 (smV (sg b (valL s.data.toList))), .int .i64 (smE (sg b (valL s.data.toList)))]) ∧ Below w.heap.size w w' := by
  go_enter Tryd.func32, Tryd.ntmps32
  go_wp2_with fail
  go_loopw [6] (fun n wr => ∃ pos : Nat, wr.heap[w.heap.size]? = some (.stringIter s pos) ∧ Below w.heap.size w wr ∧ n = .int .i64 (sg b (valL (s.data.toList.take pos))) ∧ -9223372036854775808 ≤ sg b (valL (s.data.toList.take pos)) ∧ sg b (valL (s.data.toList.take pos)) ≤ 9223372036854775807) (fun _ wr => s.size - wr.iterPos w.heap.size)
  case atStart => exact ⟨0, World.iter_heap w s 0, (Below.refl _ _).alloc (Nat.le_refl _) _, by cases b <;> rfl, by cases b <;> simp [sg, valL], by cases b <;> simp [sg, valL]⟩
  case round =>
    obtain ⟨pos, hit, hbw, rfl, n1, n2⟩ := hrel
    have hpos0 := iterPos_of hit
    by_cases hp : pos < s.size
    · obtain ⟨b1, b2⟩ := byteAt_digit hs hp
      have ha : (s[pos]'hp).toNat < 128 := by rw [byteAt_lt]; omega
      have hnx : ∀ ty, (Instr.next (.pointer (some ⟨w.heap.size, 0, none⟩)) true ty).run Tryd.prog wr = _ := fun ty => Lib.run_next_any_at wr w.heap.size s pos ty hit hp
      rw [decode_ascii s pos hp ha, byteAt_lt] at hnx
      have hit2 := Lib.iterAt_heap wr w.heap.size s pos (pos + 1) hit
      have hbw2 := Lib.below_iterAt hbw (k := w.heap.size) (Nat.le_refl _) s (pos + 1)
      have hbl : w.heap.size < (wr.iterAt w.heap.size s (pos + 1)).heap.size := by rw [Lib.iterAt_size]; exact (Array.getElem?_eq_some_iff.1 hit).1
      obtain ⟨W1, hW1⟩ : ∃ W1, W1 = wr.iterAt w.heap.size s (pos + 1) := ⟨_, rfl⟩
      simp only [← hW1] at hnx hit2 hbw2 hbl
      have HI : Hid (W1.heap[w.heap.size]? = some (.stringIter s (pos + 1))) := hit2
      have HB : Hid (Below w.heap.size w W1) := hbw2
      have HL : Hid (w.heap.size < W1.heap.size) := hbl
      have HS : Hid (valL (s.data.toList.take (pos + 1)) = valL (s.data.toList.take pos) * 10 + (byteAt s pos - 48)) := valL_succ hp
      have HM : Hid (valL (s.data.toList.take (pos + 1)) ≤ valL s.data.toList) := valL_take_le _ _
      clear hW1 hit hbw hit2 hbw2 hbl
      have C1 := mul_any (sg b (valL (s.data.toList.take pos))) 10 n1 n2 (by decide) (by decide)
      generalize hv : valL (s.data.toList.take pos) = v at *
      generalize hd : byteAt s pos = B at *
      have eT : sg b v * 10 = sg b (v * 10) := by cases b <;> simp [sg]; omega
      rw [eT] at C1
      by_cases ho : -9223372036854775808 ≤ sg b (v * 10) ∧ sg b (v * 10) ≤ 9223372036854775807
      · rw [smV_in ho.1 ho.2, smE_in ho.1 ho.2] at C1
        have C2 := add_any (sg b (v * 10)) (sg b (B - 48)) ho.1 ho.2 (by cases b <;> simp [sg] <;> omega) (by cases b <;> simp [sg] <;> omega)
        have eA : sg b (v * 10) + sg b (B - 48) = sg b (v * 10 + (B - 48)) := by cases b <;> simp [sg]; omega
        rw [eA, ← HS.out] at C2
        have H1 : Hid (∀ w : World, Calls Tryd.prog 57 #[.int .i64 (sg b v), .int .i64 10] w fun e w' => e = .returned (.tuple #[.int .i64 (sg b (v * 10)), .int .i64 0]) ∧ Below w.heap.size w w') := C1
        clear C1
        have c1 : (48 : Int) ≤ (B : Int) := by omega
        have c2 : (B : Int) ≤ 57 := by omega
        have eD : ((B - 48 : Nat) : Int) = (B : Int) - 48 := by omega
        by_cases hin : -9223372036854775808 ≤ sg b (valL (s.data.toList.take (pos + 1))) ∧ sg b (valL (s.data.toList.take (pos + 1))) ≤ 9223372036854775807
        · rw [smV_in hin.1 hin.2, smE_in hin.1 hin.2] at C2
          cases b
          · have H2 : Hid (∀ w : World, Calls Tryd.prog 58 #[.int .i64 (sg false (v * 10)), .int .i64 ((B : Int) - 48)] w fun e w' => e = .returned (.tuple #[.int .i64 (sg false (valL (s.data.toList.take (pos + 1)))), .int .i64 0]) ∧ w' = w) := by
              intro w; rw [← eD]; exact C2 w
            clear C2 ho eA eT n1 n2 b1 b2
            generalize sg false v = N at *
            generalize sg false (v * 10) = T at *
            go_wp2_with fail
            refine (H1.out _).mono ?_
            rintro e w2 ⟨rfl, hb2⟩
            go_wp2_with fail
            refine (H2.out _).mono ?_
            rintro e w3 ⟨rfl, rfl⟩
            go_wp2_with fail
            go_roundw
            case rel => exact ⟨pos + 1, (hb2.block _ HL.out).trans HI.out, HB.out.trans (hb2.mono (Nat.le_of_lt HL.out)), rfl, hin.1, hin.2⟩
            case measure =>
              rw [iterPos_of ((hb2.block _ HL.out).trans HI.out), hpos0]; omega
          · have H2 : Hid (∀ w : World, Calls Tryd.prog 58 #[.int .i64 (sg true (v * 10)), .int .i64 (-((B : Int) - 48))] w fun e w' => e = .returned (.tuple #[.int .i64 (sg true (valL (s.data.toList.take (pos + 1)))), .int .i64 0]) ∧ w' = w) := by
              intro w; rw [← eD]; exact C2 w
            clear C2 ho eA eT n1 n2 b1 b2
            generalize sg true v = N at *
            generalize sg true (v * 10) = T at *
            go_wp2_with fail
            refine (H1.out _).mono ?_
            rintro e w2 ⟨rfl, hb2⟩
            go_wp2_with fail
            refine (H2.out _).mono ?_
            rintro e w3 ⟨rfl, rfl⟩
            go_wp2_with fail
            go_roundw
            case rel => exact ⟨pos + 1, (hb2.block _ HL.out).trans HI.out, HB.out.trans (hb2.mono (Nat.le_of_lt HL.out)), rfl, hin.1, hin.2⟩
            case measure =>
              rw [iterPos_of ((hb2.block _ HL.out).trans HI.out), hpos0]; omega
        · have ho2 : sg b (valL (s.data.toList.take (pos + 1))) < -9223372036854775808 ∨ 9223372036854775807 < sg b (valL (s.data.toList.take (pos + 1))) := by omega
          have HO : Hid (smV (sg b (valL s.data.toList)) = 0 ∧ smE (sg b (valL s.data.toList)) = 10) := ⟨smV_out (sg_out HM.out ho2), smE_out (sg_out HM.out ho2)⟩
          rw [smV_out ho2, smE_out ho2] at C2
          clear hin ho2
          cases b
          · have H2 : Hid (∀ w : World, Calls Tryd.prog 58 #[.int .i64 (sg false (v * 10)), .int .i64 ((B : Int) - 48)] w fun e w' => e = .returned (.tuple #[.int .i64 0, .int .i64 10]) ∧ w' = w) := by
              intro w; rw [← eD]; exact C2 w
            clear C2 ho eA eT n1 n2 b1 b2
            generalize sg false v = N at *
            generalize sg false (v * 10) = T at *
            go_wp2_with fail
            refine (H1.out _).mono ?_
            rintro e w2 ⟨rfl, hb2⟩
            go_wp2_with fail
            refine (H2.out _).mono ?_
            rintro e w3 ⟨rfl, rfl⟩
            go_wp2_with fail
            go_ret2
            exact ⟨ret_two HO.out.1.symm HO.out.2.symm, HB.out.trans (hb2.mono (Nat.le_of_lt HL.out))⟩
          · have H2 : Hid (∀ w : World, Calls Tryd.prog 58 #[.int .i64 (sg true (v * 10)), .int .i64 (-((B : Int) - 48))] w fun e w' => e = .returned (.tuple #[.int .i64 0, .int .i64 10]) ∧ w' = w) := by
              intro w; rw [← eD]; exact C2 w
            clear C2 ho eA eT n1 n2 b1 b2
            generalize sg true v = N at *
            generalize sg true (v * 10) = T at *
            go_wp2_with fail
            refine (H1.out _).mono ?_
            rintro e w2 ⟨rfl, hb2⟩
            go_wp2_with fail
            refine (H2.out _).mono ?_
            rintro e w3 ⟨rfl, rfl⟩
            go_wp2_with fail
            go_ret2
            exact ⟨ret_two HO.out.1.symm HO.out.2.symm, HB.out.trans (hb2.mono (Nat.le_of_lt HL.out))⟩
      · have ho2 : sg b (v * 10) < -9223372036854775808 ∨ 9223372036854775807 < sg b (v * 10) := by omega
        have hle : v * 10 ≤ valL s.data.toList := by have := HS.out; have := HM.out; omega
        have HO : Hid (smV (sg b (valL s.data.toList)) = 0 ∧ smE (sg b (valL s.data.toList)) = 10) := ⟨smV_out (sg_out hle ho2), smE_out (sg_out hle ho2)⟩
        rw [smV_out ho2, smE_out ho2] at C1
        have H1 : Hid (∀ w : World, Calls Tryd.prog 57 #[.int .i64 (sg b v), .int .i64 10] w fun e w' => e = .returned (.tuple #[.int .i64 0, .int .i64 10]) ∧ Below w.heap.size w w') := C1
        have c1 : (48 : Int) ≤ (B : Int) := by omega
        have c2 : (B : Int) ≤ 57 := by omega
        clear C1 ho ho2 hle eT n1 n2 b1 b2
        generalize sg b v = N at *
        cases b
        all_goals
          go_wp2_with fail
          refine (H1.out _).mono ?_
          rintro e w2 ⟨rfl, hb2⟩
          go_wp2_with fail
          go_ret2
          exact ⟨ret_two HO.out.1.symm HO.out.2.symm, HB.out.trans (hb2.mono (Nat.le_of_lt HL.out))⟩
    · have hnx : ∀ ty, (Instr.next (.pointer (some ⟨w.heap.size, 0, none⟩)) true ty).run Tryd.prog wr = _ := fun ty => Lib.run_next_end_at wr w.heap.size s pos ty hit hp
      have e : s.data.toList.take pos = s.data.toList := List.take_of_length_le (by simp; omega)
      rw [e] at n1 n2
      have HE : Hid (smV (sg b (valL s.data.toList)) = sg b (valL (s.data.toList.take pos)) ∧ smE (sg b (valL s.data.toList)) = 0) := by rw [e]; exact ⟨smV_in n1 n2, smE_in n1 n2⟩
      have HB : Hid (Below w.heap.size w wr) := hbw
      clear e n1 n2 hit hbw
      generalize sg b (valL (s.data.toList.take pos)) = N at *
      go_wp2_with fail
      go_ret2
      exact ⟨ret_two HE.out.1.symm HE.out.2.symm, HB.out⟩

end Go.Proofs.YtebjicnjbiiioaaDoor
