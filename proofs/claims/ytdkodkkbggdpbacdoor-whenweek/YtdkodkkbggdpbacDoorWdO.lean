/- Contracts of word.Number and of the reference's Number. -/
import Derived.Test.YtdkodkkbggdpbacDoorWdN
namespace Go.Proofs.YtdkodkkbggdpbacDoor.Wrd
open Go.RowKit
set_option linter.unusedVariables false

set_option maxRecDepth 1000000 in
set_option maxHeartbeats 4000000 in
theorem wnumber_any (s : ByteArray) (V E : Int) (hV : Hid (numV s = V)) (hE : Hid (numE s = E)) (hs : s.size ≤ maxLen) (w : World) :
    Calls Tryd.prog 39 #[.string s] w fun e w' => e = .returned (.tuple #[.int .i64 V, .int .i64 E]) ∧ Below w.heap.size w w' := by
  by_cases hD : digs s = true ∧ s.size ≠ 0
  · obtain ⟨hd, h0⟩ := hD
    have HA : Hid (∀ w : World, Calls Tryd.prog 52 #[.string s] w fun e w' => e = .returned (.bool true) ∧ Below w.heap.size w w') := fun w => adigits_any s true (by show _ = _; rw [hd, decide_eq_true h0]; rfl) hs w
    have HD : Hid (digs s = true) := hd
    unfold maxLen at hs
    clear hd
    go_enter Tryd.func39, Tryd.ntmps39
    go_wp2_with fail
    refine (HA.out _).mono ?_
    rintro e w1 ⟨rfl, B1⟩
    have HB1 : Hid (Below w.heap.size w w1) := B1
    clear B1 HA
    go_wp2_with fail
    go_loopw [4] (fun n wr => ∃ (pos : Nat) (x : Int), pos ≤ s.size ∧ n = .int .i64 x ∧ Hid (x = valTo s pos) ∧ 0 ≤ x ∧ x ≤ 9223372036854775807 ∧ wr.heap[w1.heap.size]? = some (.stringIter s pos) ∧ Below w1.heap.size w1 wr) (fun _ wr => s.size - wr.iterPos w1.heap.size)
    case atStart => exact ⟨0, 0, Nat.zero_le _, rfl, rfl, by omega, by omega, World.iter_heap w1 s 0, (Below.refl _ _).alloc (Nat.le_refl _) _⟩
    case round =>
      obtain ⟨pos, x, hle, rfl, HX, x0, x1, hit, B0⟩ := hrel
      have hpos0 : Hid (wr.iterPos w1.heap.size = pos) := iterPos_eq hit
      by_cases hp : pos < s.size
      · have hnx : ∀ ty, (Instr.next (.pointer (some ⟨w1.heap.size, 0, none⟩)) true ty).run Tryd.prog wr = _ := fun ty => Lib.run_next_any_at wr w1.heap.size s pos ty hit hp
        have hit2 := Lib.iterAt_heap wr w1.heap.size s pos (pos + (Utf8.decode s pos).2) hit
        have B2 := Lib.below_iterAt B0 (k := w1.heap.size) (by omega) s (pos + (Utf8.decode s pos).2)
        obtain ⟨rd1, rd2⟩ := rune_digit s pos hp
        have hq := digs_at HD.out pos hp
        have hw := rd2 hq
        obtain ⟨c, hc⟩ : ∃ c, bt s pos = c := ⟨_, rfl⟩
        have hdr := (digit_iff _).1 hq
        rw [hc] at hdr hw
        rw [hw] at hnx hit2 B2
        obtain ⟨W1, hW1⟩ : ∃ W1, W1 = wr.iterAt w1.heap.size s (pos + 1) := ⟨_, rfl⟩
        rw [← hW1] at hnx hit2 B2
        have HI : Hid (W1.heap[w1.heap.size]? = some (.stringIter s (pos + 1))) := hit2
        have HB : Hid (Below w1.heap.size w1 W1) := B2
        have HVn : Hid (valTo s (pos + 1) = x * 10 + ((c : Int) - 48)) := by show _ = _; rw [valTo, ← HX.out, hc]
        have hm := mul_any x 10 (by omega) (by omega) (by omega) (by omega)
        obtain ⟨c1, c2⟩ : (48 : Int) ≤ (c : Int) ∧ (c : Int) ≤ 57 := by omega
        clear hit2 B2 B0 hit hW1 rd1 rd2 hw hq hc
        by_cases hbig : x * 10 ≤ 9223372036854775807
        · have HM : Hid (∀ w : World, Calls Tryd.prog 53 #[.int .i64 x, .int .i64 10] w fun e w' => e = .returned (.tuple #[.int .i64 (x * 10), .int .i64 0]) ∧ Below w.heap.size w w') := fun w => by
            have := hm w
            rw [smV_in (by omega) hbig, smE_in (by omega) hbig] at this
            exact this
          have ha := add_any (x * 10) ((c : Int) - 48) (by omega) (by omega) (by omega) (by omega)
          clear hm
          by_cases hbig2 : x * 10 + ((c : Int) - 48) ≤ 9223372036854775807
          · have HAd : Hid (∀ w : World, Calls Tryd.prog 54 #[.int .i64 (x * 10), .int .i64 ((c : Int) - 48)] w fun e w' => e = .returned (.tuple #[.int .i64 (x * 10 + ((c : Int) - 48)), .int .i64 0]) ∧ w' = w) := fun w => by
              have := ha w
              rw [smV_in (by omega) hbig2, smE_in (by omega) hbig2] at this
              exact this
            clear ha
            go_wp2_with fail
            refine (HM.out _).mono ?_
            rintro e w2 ⟨rfl, b2⟩
            have HI2 : Hid (w2.heap[w1.heap.size]? = some (.stringIter s (pos + 1))) := (b2.block _ (Array.getElem?_eq_some_iff.1 HI.out).1).trans HI.out
            have HB2 : Hid (Below w1.heap.size w1 w2) := HB.out.trans (b2.mono HB.out.size)
            clear b2 HI HB hnx
            go_wp2_with fail
            refine (HAd.out _).mono ?_
            rintro e w3 ⟨rfl, rfl⟩
            go_wp2_with fail
            go_roundw
            case rel => exact ⟨pos + 1, _, by omega, rfl, HVn.out.symm, by omega, by omega, HI2.out, HB2.out⟩
            case measure => rw [hpos0.out, iterPos_eq HI2.out]; omega
          · have HAd : Hid (∀ w : World, Calls Tryd.prog 54 #[.int .i64 (x * 10), .int .i64 ((c : Int) - 48)] w fun e w' => e = .returned (.tuple #[.int .i64 0, .int .i64 10]) ∧ w' = w) := fun w => by
              have := ha w
              rw [smV_out (by omega), smE_out (by omega)] at this
              exact this
            obtain ⟨q1, q2⟩ := num_big HD.out h0 (pos + 1) (by omega) (by rw [HVn.out]; unfold lastN; omega)
            obtain rfl : V = 0 := by rw [← hV.out, q1]
            obtain rfl : E = 10 := by rw [← hE.out, q2]
            clear ha q1 q2
            go_wp2_with fail
            refine (HM.out _).mono ?_
            rintro e w2 ⟨rfl, b2⟩
            have HB2 : Hid (Below w1.heap.size w1 w2) := HB.out.trans (b2.mono HB.out.size)
            clear b2 HI HB hnx
            go_wp2_with fail
            refine (HAd.out _).mono ?_
            rintro e w3 ⟨rfl, rfl⟩
            go_wp2_with fail
            go_ret2
            exact ⟨rfl, HB1.out.trans (HB2.out.mono HB1.out.size)⟩
        · have HM : Hid (∀ w : World, Calls Tryd.prog 53 #[.int .i64 x, .int .i64 10] w fun e w' => e = .returned (.tuple #[.int .i64 0, .int .i64 10]) ∧ Below w.heap.size w w') := fun w => by
            have := hm w
            rw [smV_out (by omega), smE_out (by omega)] at this
            exact this
          obtain ⟨q1, q2⟩ := num_big HD.out h0 (pos + 1) (by omega) (by rw [HVn.out]; unfold lastN; omega)
          obtain rfl : V = 0 := by rw [← hV.out, q1]
          obtain rfl : E = 10 := by rw [← hE.out, q2]
          clear hm q1 q2
          go_wp2_with fail
          refine (HM.out _).mono ?_
          rintro e w2 ⟨rfl, b2⟩
          have HB2 : Hid (Below w1.heap.size w1 w2) := HB.out.trans (b2.mono HB.out.size)
          clear b2 HI HB hnx
          go_wp2_with fail
          go_ret2
          exact ⟨rfl, HB1.out.trans (HB2.out.mono HB1.out.size)⟩
      · have hnx : ∀ ty, (Instr.next (.pointer (some ⟨w1.heap.size, 0, none⟩)) true ty).run Tryd.prog wr = _ := fun ty => Lib.run_next_end_at wr w1.heap.size s pos ty hit hp
        obtain rfl : pos = s.size := by omega
        obtain ⟨q1, q2⟩ := num_ok HD.out h0 (by rw [← HX.out]; exact x1)
        obtain rfl : V = x := by rw [← hV.out, q1, HX.out]
        obtain rfl : E = 0 := by rw [← hE.out, q2]
        have HB : Hid (Below w1.heap.size w1 wr) := B0
        clear B0 hit q1 q2
        go_wp2_with fail
        go_ret2
        exact ⟨rfl, HB1.out.trans (HB.out.mono HB1.out.size)⟩
  · have HA : Hid (∀ w : World, Calls Tryd.prog 52 #[.string s] w fun e w' => e = .returned (.bool false) ∧ Below w.heap.size w w') := fun w => adigits_any s false (by
      show _ = _
      symm
      rw [Bool.and_eq_false_iff]
      by_cases z : digs s = true
      · right; exact decide_eq_false (fun q => hD ⟨z, q⟩)
      · left; simpa using z) hs w
    obtain ⟨q1, q2⟩ := num_lit hD
    obtain rfl : V = 0 := by rw [← hV.out, q1]
    obtain rfl : E = 13 := by rw [← hE.out, q2]
    clear q1 q2
    unfold maxLen at hs
    go_enter Tryd.func39, Tryd.ntmps39
    go_wp2_with fail
    refine (HA.out _).mono ?_
    rintro e w1 ⟨rfl, B1⟩
    go_wp2_with fail
    go_ret2
    exact ⟨rfl, B1⟩

/-- what the reference keeps: the number so far, or that it is too great. -/
def NumAt (s : ByteArray) (i : Nat) (x e : Int) : Prop := digF s s.size 0 = digF s (s.size - i) i ∧ ((e = 0 ∧ x = valTo s i ∧ 0 ≤ x ∧ x ≤ 9223372036854775807) ∨ (e = 10 ∧ (digs s = true → lastN < valTo s i)))

end Go.Proofs.YtdkodkkbggdpbacDoor.Wrd
