/- Contracts of Known and Short, the program's and the reference's, at any slice of texts. -/
import Derived.Test.YtgnfkkcagbbhmaaGreatDoorWdPq
namespace Go.Proofs.YtgnfkkcagbbhmaaGreatDoor.Wrd
open Go.RowKit
set_option linter.unusedVariables false

/-- texts in memory, from an address on. -/
def TxtA (w : World) (a : Addr) (L : List ByteArray) : Prop := True ∧ ∀ j t, L[j]? = some t → w.cell? (a.add j) = some (.string t)
theorem TxtA.below {w w1 : World} {a : Addr} {L : List ByteArray} (h : TxtA w a L) (hb : Below w.heap.size w w1) : TxtA w1 a L :=
  ⟨trivial, fun j t hj => (hb.cell (World.block_lt_of_cell? w _ (h.2 j t hj))).trans (h.2 j t hj)⟩

set_option maxRecDepth 100000 in
set_option maxHeartbeats 2000000 in
theorem knownA_any (s : ByteArray) (L : List ByteArray) (a : Addr) (cap : Nat) (w : World) (hs : s.size ≤ maxLen) (hL : ∀ (j : Nat) (t : ByteArray), L[j]? = some t → t.size ≤ maxLen) (hcap : L.length ≤ cap) (hcap2 : cap ≤ maxLen) (hT : TxtA w a L) :
    Calls Tryz.prog 48 #[.string s, .slice (some a) L.length cap] w fun e w' => e = .returned (.int .i64 (knownB s L)) ∧ Below w.heap.size w w' := by
  have hs' := hs
  unfold maxLen at hs hcap2
  obtain ⟨G, hG⟩ : ∃ G, knownB s L = G := ⟨_, rfl⟩
  have HG : Hid (findF (fun t => sameB s t) 0 (L.drop 0) = G) := by show _ = _; rw [List.drop_zero, ← hG]; rfl
  rw [hG]
  clear hG
  go_enter Tryz.func48, Tryz.ntmps48
  go_wp2_with fail
  refine (lower_any s hs' _).mono ?_
  rintro e w1 ⟨rfl, B1⟩
  have T1 := hT.below B1
  have HB1 : Hid (Below w.heap.size w w1) := B1
  have HT1 : Hid (TxtA w1 a L) := T1
  clear B1 T1 hT
  go_wp2_with fail
  go_loopw [12] (fun k wr => ∃ i : Nat, i ≤ L.length ∧ k = .int .i64 (i : Int) ∧ Below w.heap.size w wr ∧ TxtA wr a L ∧ Hid (findF (fun t => sameB s t) i (L.drop i) = G)) (fun k _ => L.length - (intOf k).toNat)
  case atStart => exact ⟨0, Nat.zero_le _, rfl, HB1.out, HT1.out, HG⟩
  case round =>
    obtain ⟨i, hi, rfl, B, T, HS⟩ := hrel
    have HB : Hid (Below w.heap.size w wr) := B
    have HT : Hid (TxtA wr a L) := T
    clear HB1 HT1
    by_cases hlt : i < L.length
    · have hlt' : (i : Int) < (L.length : Int) := by omega
      obtain ⟨t, ht⟩ : ∃ t, L[i]? = some t := ⟨L[i]'hlt, List.getElem?_eq_getElem hlt⟩
      have hc : wr.cell? (a.add i) = some (.string t) := T.2 i t ht
      have hts := hL i t ht
      have HE : Hid ((if sameB s t = true then (i : Int) else findF (fun t => sameB s t) (i + 1) (L.drop (i + 1))) = G) := by show _ = _; rw [← HS.out, findF_step ht]
      have i0 : (0 : Int) ≤ (i : Int) := by omega
      have i1 : (i : Int) < 9223372036854775807 := by omega
      clear HS B T ht
      go_wp2_with fail
      refine (lower_any t hts _).mono ?_
      rintro e w2 ⟨rfl, b2⟩
      have HB2 : Hid (Below w.heap.size w w2) := HB.out.trans (b2.mono HB.out.size)
      have HT2 : Hid (TxtA w2 a L) := HT.out.below b2
      clear b2 HB HT hc
      have hse : ((lowB t).toList == (lowB s).toList) = sameB s t := by rw [toList_eq]; unfold sameB; rw [Bool.eq_iff_iff, decide_eq_true_eq, decide_eq_true_eq]; exact ⟨fun h => h.symm, fun h => h.symm⟩
      cases hq : sameB s t with
      | true =>
        have e1 : G = (i : Int) := by rw [← HE.out, if_pos hq]
        rw [hq] at hse
        subst e1
        clear hq
        go_wp2_with fail
        go_ret
        exact ⟨rfl, HB2.out⟩
      | false =>
        have HF : Hid (findF (fun t => sameB s t) (i + 1) (L.drop (i + 1)) = G) := by show _ = _; rw [← HE.out, if_neg (by rw [hq]; decide)]
        rw [hq] at hse
        clear hq
        go_wp2_with fail
        go_roundw
        case rel => exact ⟨i + 1, by omega, by go_num, HB2.out, HT2.out, HF⟩
        case measure => simp [intOf]; omega
    · have hlt' : ¬ (i : Int) < (L.length : Int) := by omega
      have e1 : G = -1 := by rw [← HS.out, findF_end hlt]
      subst e1
      clear B T
      go_wp2_with fail
      go_ret
      exact ⟨rfl, HB.out⟩

end Go.Proofs.YtgnfkkcagbbhmaaGreatDoor.Wrd
