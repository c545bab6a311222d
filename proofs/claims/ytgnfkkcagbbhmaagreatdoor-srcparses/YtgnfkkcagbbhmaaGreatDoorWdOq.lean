/- Contracts of word.Number and of the reference's Number. -/
import Derived.Test.YtgnfkkcagbbhmaaGreatDoorWdNq
namespace Go.Proofs.YtgnfkkcagbbhmaaGreatDoor.Wrd
open Go.RowKit
set_option linter.unusedVariables false

set_option maxRecDepth 1000000 in
set_option maxHeartbeats 4000000 in
theorem wnumber_any (s : ByteArray) (V E : Int) (hV : Hid (numV s = V)) (hE : Hid (numE s = E)) (hs : s.size ≤ maxLen) (w : World) :
    Calls Tryz.prog 170 #[.string s] w fun e w' => e = .returned (.tuple #[.int .i64 V, .int .i64 E]) ∧ Below w.heap.size w w' := by
  by_cases hD : digs s = true ∧ s.size ≠ 0
  · obtain ⟨hd, h0⟩ := hD
    have HA : Hid (∀ w : World, Calls Tryz.prog 171 #[.string s] w fun e w' => e = .returned (.bool true) ∧ Below w.heap.size w w') := fun w => adigits_any s true (by show _ = _; rw [hd, decide_eq_true h0]; rfl) hs w
    have HD : Hid (digs s = true) := hd
    unfold maxLen at hs
    clear hd
    go_enter Tryz.func170, Tryz.ntmps170
    go_wp2_with fail
    refine (HA.out _).mono ?_
    rintro e w1 ⟨rfl, B1⟩
    have HB1 : Hid (Below w.heap.size w w1) := B1
    clear B1 HA
    go_wp2_with fail
    go_loopw [4] (fun n wr => ∃ (pos : Nat) (x : Int), pos ≤ s.size ∧ n = .int .i64 x ∧ Hid (x = valTo s pos) ∧ 0 ≤ x ∧ x ≤ 9223372036854775807 ∧ wr.heap[w1.heap.size]? = some (.stringIter s pos) ∧ Below w1.heap.size w1 wr) (fun _ wr => s.size - wr.iterPos w1.heap.size)
    case atStart => exact ⟨0, 0, Nat.zero_le _, rfl, rfl, by omega, by omega, World.iter_heap w1 s 0, (Below.refl _ _).alloc (Nat.le_refl _) _⟩
    case round =>
      obtain ⟨pos, x, hle, rfl, HX, x0, x1, hit, B0⟩ := hrel
      have hpos0 : Hid (wr.iterPos w1.heap.size = pos) := iterPos_eq hit
      by_cases hp : pos < s.size
      · have hnx : ∀ ty, (Instr.next (.pointer (some ⟨w1.heap.size, 0, none⟩)) true ty).run Tryz.prog wr = _ := fun ty => Lib.run_next_any_at wr w1.heap.size s pos ty hit hp
        have hit2 := Lib.iterAt_heap wr w1.heap.size s pos (pos + (Utf8.decode s pos).2) hit
        have B2 := Lib.below_iterAt B0 (k := w1.heap.size) (by omega) s (pos + (Utf8.decode s pos).2)
        obtain ⟨rd1, rd2⟩ := rune_digit s pos hp
        have hq := digs_at HD.out pos hp
        have hw := rd2 hq
        obtain ⟨c, hc⟩ : ∃ c, bt s pos = c := ⟨_, rfl⟩
        have hdr := (digit_iff _).1 hq
        rw [hc] at hdr hw
        rw [hw] at hnx hit2 B2
        obtain ⟨W1, hW1⟩ : ∃ W1, W1 = wr.iterAt w1.heap.size s (pos + 1) := ⟨_, rfl⟩
        rw [← hW1] at hnx hit2 B2
        have HI : Hid (W1.heap[w1.heap.size]? = some (.stringIter s (pos + 1))) := hit2
        have HB : Hid (Below w1.heap.size w1 W1) := B2
        have HVn : Hid (valTo s (pos + 1) = x * 10 + ((c : Int) - 48)) := by show _ = _; rw [valTo, ← HX.out, hc]
        have hm := mul_any x 10 (by omega) (by omega) (by omega) (by omega)
        obtain ⟨c1, c2⟩ : (48 : Int) ≤ (c : Int) ∧ (c : Int) ≤ 57 := by omega
        clear hit2 B2 B0 hit hW1 rd1 rd2 hw hq hc
        by_cases hbig : x * 10 ≤ 9223372036854775807
        · have HM : Hid (∀ w : World, Calls Tryz.prog 172 #[.int .i64 x, .int .i64 10] w fun e w' => e = .returned (.tuple #[.int .i64 (x * 10), .int .i64 0]) ∧ Below w.heap.size w w') := fun w => by
            have := hm w
            rw [smV_in (by omega) hbig, smE_in (by omega) hbig] at this
            exact this
          have ha := add_any (x * 10) ((c : Int) - 48) (by omega) (by omega) (by omega) (by omega)
          clear hm
          by_cases hbig2 : x * 10 + ((c : Int) - 48) ≤ 9223372036854775807
          · have HAd : Hid (∀ w : World, Calls Tryz.prog 173 #[.int .i64 (x * 10), .int .i64 ((c : Int) - 48)] w fun e w' => e = .returned (.tuple #[.int .i64 (x * 10 + ((c : Int) - 48)), .int .i64 0]) ∧ w' = w) := fun w => by
              have := ha w
              rw [smV_in (by omega) hbig2, smE_in (by omega) hbig2] at this
              exact this
            clear ha
            go_wp2_with fail
            refine (HM.out _).mono ?_
            rintro e w2 ⟨rfl, b2⟩
            have HI2 : Hid (w2.heap[w1.heap.size]? = some (.stringIter s (pos + 1))) := (b2.block _ (Array.getElem?_eq_some_iff.1 HI.out).1).trans HI.out
            have HB2 : Hid (Below w1.heap.size w1 w2) := HB.out.trans (b2.mono HB.out.size)
            clear b2 HI HB hnx
            go_wp2_with fail
            refine (HAd.out _).mono ?_
            rintro e w3 ⟨rfl, rfl⟩
            go_wp2_with fail
            go_roundw
            case rel => exact ⟨pos + 1, _, by omega, rfl, HVn.out.symm, by omega, by omega, HI2.out, HB2.out⟩
            case measure => rw [hpos0.out, iterPos_eq HI2.out]; omega
          · have HAd : Hid (∀ w : World, Calls Tryz.prog 173 #[.int .i64 (x * 10), .int .i64 ((c : Int) - 48)] w fun e w' => e = .returned (.tuple #[.int .i64 0, .int .i64 10]) ∧ w' = w) := fun w => by
              have := ha w
              rw [smV_out (by omega), smE_out (by omega)] at this
              exact this
            obtain ⟨q1, q2⟩ := num_big HD.out h0 (pos + 1) (by omega) (by rw [HVn.out]; unfold lastN; omega)
            obtain rfl : V = 0 := by rw [← hV.out, q1]
            obtain rfl : E = 10 := by rw [← hE.out, q2]
            clear ha q1 q2
            go_wp2_with fail
            refine (HM.out _).mono ?_
            rintro e w2 ⟨rfl, b2⟩
            have HB2 : Hid (Below w1.heap.size w1 w2) := HB.out.trans (b2.mono HB.out.size)
            clear b2 HI HB hnx
            go_wp2_with fail
            refine (HAd.out _).mono ?_
            rintro e w3 ⟨rfl, rfl⟩
            go_wp2_with fail
            go_ret2
            exact ⟨rfl, HB1.out.trans (HB2.out.mono HB1.out.size)⟩
        · have HM : Hid (∀ w : World, Calls Tryz.prog 172 #[.int .i64 x, .int .i64 10] w fun e w' => e = .returned (.tuple #[.int .i64 0, .int .i64 10]) ∧ Below w.heap.size w w') := fun w => by
            have := hm w
            rw [smV_out (by omega), smE_out (by omega)] at this
            exact this
          obtain ⟨q1, q2⟩ := num_big HD.out h0 (pos + 1) (by omega) (by rw [HVn.out]; unfold lastN; omega)
          obtain rfl : V = 0 := by rw [← hV.out, q1]
          obtain rfl : E = 10 := by rw [← hE.out, q2]
          clear hm q1 q2
          go_wp2_with fail
          refine (HM.out _).mono ?_
          rintro e w2 ⟨rfl, b2⟩
          have HB2 : Hid (Below w1.heap.size w1 w2) := HB.out.trans (b2.mono HB.out.size)
          clear b2 HI HB hnx
          go_wp2_with fail
          go_ret2
          exact ⟨rfl, HB1.out.trans (HB2.out.mono HB1.out.size)⟩
      · have hnx : ∀ ty, (Instr.next (.pointer (some ⟨w1.heap.size, 0, none⟩)) true ty).run Tryz.prog wr = _ := fun ty => Lib.run_next_end_at wr w1.heap.size s pos ty hit hp
        obtain rfl : pos = s.size := by omega
        obtain ⟨q1, q2⟩ := num_ok HD.out h0 (by rw [← HX.out]; exact x1)
        obtain rfl : V = x := by rw [← hV.out, q1, HX.out]
        obtain rfl : E = 0 := by rw [← hE.out, q2]
        have HB : Hid (Below w1.heap.size w1 wr) := B0
        clear B0 hit q1 q2
        go_wp2_with fail
        go_ret2
        exact ⟨rfl, HB1.out.trans (HB.out.mono HB1.out.size)⟩
  · have HA : Hid (∀ w : World, Calls Tryz.prog 171 #[.string s] w fun e w' => e = .returned (.bool false) ∧ Below w.heap.size w w') := fun w => adigits_any s false (by
      show _ = _
      symm
      rw [Bool.and_eq_false_iff]
      by_cases z : digs s = true
      · right; exact decide_eq_false (fun q => hD ⟨z, q⟩)
      · left; simpa using z) hs w
    obtain ⟨q1, q2⟩ := num_lit hD
    obtain rfl : V = 0 := by rw [← hV.out, q1]
    obtain rfl : E = 13 := by rw [← hE.out, q2]
    clear q1 q2
    unfold maxLen at hs
    go_enter Tryz.func170, Tryz.ntmps170
    go_wp2_with fail
    refine (HA.out _).mono ?_
    rintro e w1 ⟨rfl, B1⟩
    go_wp2_with fail
    go_ret2
    exact ⟨rfl, B1⟩

/-- what the reference keeps: the number so far, or that it is too great. -/
def NumAt (s : ByteArray) (i : Nat) (x e : Int) : Prop := digF s s.size 0 = digF s (s.size - i) i ∧ ((e = 0 ∧ x = valTo s i ∧ 0 ≤ x ∧ x ≤ 9223372036854775807) ∨ (e = 10 ∧ (digs s = true → lastN < valTo s i)))

set_option maxRecDepth 1000000 in
set_option maxHeartbeats 4000000 in
theorem rnumber_any (s : ByteArray) (V E : Int) (hV : Hid (numV s = V)) (hE : Hid (numE s = E)) (hs : s.size ≤ maxLen) (w : World) :
    Calls Tryz.prog 116 #[.string s] w fun e w' => e = .returned (.tuple #[.int .i64 V, .int .i64 E]) ∧ w' = w := by
  unfold maxLen at hs
  go_enter Tryz.func116, Tryz.ntmps116
  go_wp2_with fail
  go_loop [4, 5, 6] (fun n er iv => ∃ (i : Nat) (x e : Int), i ≤ s.size ∧ n = .int .i64 x ∧ er = .int .i64 e ∧ iv = .int .i64 (i : Int) ∧ Hid (NumAt s i x e) ∧ 0 ≤ x ∧ x ≤ 9223372036854775807) (fun _ _ iv => s.size - (intOf iv).toNat)
  case atStart => exact ⟨0, 0, 0, Nat.zero_le _, rfl, rfl, rfl, ⟨rfl, .inl ⟨rfl, rfl, by omega, by omega⟩⟩, by omega, by omega⟩
  case round =>
    obtain ⟨i, x, e, hil, rfl, rfl, rfl, HX, x0, x1⟩ := hrel
    by_cases hp : i < s.size
    · have hp' : (i : Int) < (s.size : Int) := by omega
      have hp0 : (0 : Int) ≤ (i : Int) := by omega
      have hb := byte_eq s i hp
      obtain ⟨c, hc⟩ : ∃ c, bt s i = c := ⟨_, rfl⟩
      rw [hc] at hb
      have hc2 : c < 256 := by rw [← hc]; exact UInt8.toNat_lt _
      have hdg := digit_any c hc2
      have HC : Hid (bt s i = c) := hc
      have hst : digF s (s.size - i) i = (digitN (bt s i) && digF s (s.size - (i + 1)) (i + 1)) := by rw [show s.size - i = (s.size - (i + 1)) + 1 by omega, digF_step hp]
      cases hq : digitN c with
      | false =>
        have hno : digs s = false := by show digF s s.size 0 = false; rw [HX.out.1, hst, hc, hq]; rfl
        obtain ⟨q1, q2⟩ := num_lit (s := s) (fun z => by rw [hno] at z; exact absurd z.1 (by decide))
        obtain rfl : V = 0 := by rw [← hV.out, q1]
        obtain rfl : E = 13 := by rw [← hE.out, q2]
        rw [hq] at hdg
        have HDG : Hid (∀ w : World, Calls Tryz.prog 131 #[.int .u8 (c : Int)] w fun e w' => e = .returned (.bool false) ∧ w' = w) := hdg
        clear hdg hst hc hq hno q1 q2
        go_wp2_with fail
        refine (HDG.out _).mono ?_
        rintro e w' ⟨rfl, rfl⟩
        go_wp2_with fail
        go_ret2
        exact ⟨rfl, rfl⟩
      | true =>
        have H1 : Hid (digF s s.size 0 = digF s (s.size - (i + 1)) (i + 1)) := by show _ = _; rw [HX.out.1, hst, hc, hq, Bool.true_and]
        have hdr := (digit_iff c).1 hq
        have HVn : Hid (valTo s (i + 1) = valTo s i * 10 + ((c : Int) - 48)) := by show _ = _; rw [valTo, hc]
        rw [hq] at hdg
        have HDG : Hid (∀ w : World, Calls Tryz.prog 131 #[.int .u8 (c : Int)] w fun e w' => e = .returned (.bool true) ∧ w' = w) := hdg
        obtain ⟨c1, c2⟩ : (48 : Int) ≤ (c : Int) ∧ (c : Int) ≤ 57 := by omega
        clear hdg hst hc hq
        rcases HX.out.2 with ⟨rfl, hx, _, _⟩ | ⟨rfl, hx⟩
        · have HXv : Hid (x = valTo s i) := hx
          clear hx
          by_cases g1 : 922337203685477580 < x
          · have HF : Hid (digs s = true → lastN < valTo s (i + 1)) := fun _ => by rw [HVn.out, ← HXv.out]; unfold lastN; omega
            go_wp2_with fail
            refine (HDG.out _).mono ?_
            rintro e w' ⟨rfl, rfl⟩
            go_wp2_with fail
            go_round
            case rel => exact ⟨i + 1, x, 10, by omega, rfl, rfl, by go_num, ⟨H1.out, .inr ⟨rfl, HF.out⟩⟩, x0, x1⟩
            case measure => simp [intOf]; omega
          · by_cases g2 : 9223372036854775807 - ((c : Int) - 48) < 10 * x
            · have HF : Hid (digs s = true → lastN < valTo s (i + 1)) := fun _ => by rw [HVn.out, ← HXv.out]; unfold lastN; omega
              go_wp2_with fail
              refine (HDG.out _).mono ?_
              rintro e w' ⟨rfl, rfl⟩
              go_wp2_with fail
              go_round
              case rel => exact ⟨i + 1, x, 10, by omega, rfl, rfl, by go_num, ⟨H1.out, .inr ⟨rfl, HF.out⟩⟩, x0, x1⟩
              case measure => simp [intOf]; omega
            · have HF : Hid (10 * x + ((c : Int) - 48) = valTo s (i + 1)) := by show _ = _; rw [HVn.out, ← HXv.out]; omega
              go_wp2_with fail
              refine (HDG.out _).mono ?_
              rintro e w' ⟨rfl, rfl⟩
              go_wp2_with fail
              go_round
              case rel => exact ⟨i + 1, 10 * x + ((c : Int) - 48), 0, by omega, rfl, rfl, by go_num, ⟨H1.out, .inl ⟨rfl, HF.out, by omega, by omega⟩⟩, by omega, by omega⟩
              case measure => simp [intOf]; omega
        · have HF : Hid (digs s = true → lastN < valTo s (i + 1)) := fun z => by
            have a := hx z
            have b := valTo_nonneg z i (by omega)
            rw [HVn.out]; unfold lastN at *; omega
          clear hx
          go_wp2_with fail
          refine (HDG.out _).mono ?_
          rintro e w' ⟨rfl, rfl⟩
          go_wp2_with fail
          go_round
          case rel => exact ⟨i + 1, x, 10, by omega, rfl, rfl, by go_num, ⟨H1.out, .inr ⟨rfl, HF.out⟩⟩, x0, x1⟩
          case measure => simp [intOf]; omega
    · have hp' : ¬ (i : Int) < (s.size : Int) := by omega
      obtain rfl : i = s.size := by omega
      have hd : digs s = true := by show digF s s.size 0 = true; rw [HX.out.1, digF_end _ _ _ hp]
      by_cases h0 : s.size = 0
      · obtain ⟨q1, q2⟩ := num_lit (s := s) (fun z => z.2 h0)
        obtain rfl : V = 0 := by rw [← hV.out, q1]
        obtain rfl : E = 13 := by rw [← hE.out, q2]
        have h0' : ((s.size : Int) == 0) = true := beq_iff_eq.2 (by omega)
        clear q1 q2
        go_wp2_with fail
        all_goals first
          | (go_ret2; exact ⟨rfl, rfl⟩)
          | (exfalso; omega)
      · have h0' : ((s.size : Int) == 0) = false := beq_eq_false_iff_ne.2 (by omega)
        rcases HX.out.2 with ⟨rfl, hx, _, _⟩ | ⟨rfl, hx⟩
        · obtain ⟨q1, q2⟩ := num_ok hd h0 (by rw [← hx]; exact x1)
          obtain rfl : V = x := by rw [← hV.out, q1, hx]
          obtain rfl : E = 0 := by rw [← hE.out, q2]
          clear q1 q2 hx
          go_wp2_with fail
          go_ret2
          exact ⟨rfl, rfl⟩
        · obtain ⟨q1, q2⟩ := num_big hd h0 s.size (Nat.le_refl _) (hx hd)
          obtain rfl : V = 0 := by rw [← hV.out, q1]
          obtain rfl : E = 10 := by rw [← hE.out, q2]
          clear q1 q2 hx
          go_wp2_with fail
          go_ret2
          exact ⟨rfl, rfl⟩

end Go.Proofs.YtgnfkkcagbbhmaaGreatDoor.Wrd
