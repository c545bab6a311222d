/- Contracts of word.Short, word.Month and word.Day: names, whole or cut short. -/
import Derived.Test.YtgnfkkcagbbhmaaGreatDoorWdAq
import Derived.Test.YtgnfkkcagbbhmaaGreatDoorShelfq
namespace Go.Proofs.YtgnfkkcagbbhmaaGreatDoor.Wrd
open Go.RowKit
set_option linter.unusedVariables false

def monthsL : List ByteArray := [⟨#[74, 97, 110, 117, 97, 114, 121]⟩, ⟨#[70, 101, 98, 114, 117, 97, 114, 121]⟩, ⟨#[77, 97, 114, 99, 104]⟩, ⟨#[65, 112, 114, 105, 108]⟩, ⟨#[77, 97, 121]⟩, ⟨#[74, 117, 110, 101]⟩, ⟨#[74, 117, 108, 121]⟩, ⟨#[65, 117, 103, 117, 115, 116]⟩, ⟨#[83, 101, 112, 116, 101, 109, 98, 101, 114]⟩, ⟨#[79, 99, 116, 111, 98, 101, 114]⟩, ⟨#[78, 111, 118, 101, 109, 98, 101, 114]⟩, ⟨#[68, 101, 99, 101, 109, 98, 101, 114]⟩]
def daysL : List ByteArray := [⟨#[83, 117, 110, 100, 97, 121]⟩, ⟨#[77, 111, 110, 100, 97, 121]⟩, ⟨#[84, 117, 101, 115, 100, 97, 121]⟩, ⟨#[87, 101, 100, 110, 101, 115, 100, 97, 121]⟩, ⟨#[84, 104, 117, 114, 115, 100, 97, 121]⟩, ⟨#[70, 114, 105, 100, 97, 121]⟩, ⟨#[83, 97, 116, 117, 114, 100, 97, 121]⟩]
/-- texts in a block. -/
def Txt (w : World) (g : Nat) (L : List ByteArray) : Prop := g < w.heap.size ∧ ∀ j t, L[j]? = some t → w.cell? ⟨g, j, none⟩ = some (.string t)
theorem Txt.below {w w1 : World} {g : Nat} {L : List ByteArray} (h : Txt w g L) (hb : Below w.heap.size w w1) : Txt w1 g L :=
  ⟨Nat.lt_of_lt_of_le h.1 hb.size, fun j t hj => (hb.cell (p := ⟨g, j, none⟩) h.1).trans (h.2 j t hj)⟩
theorem Txt.new (w : World) (L : List ByteArray) (t : TypeId) : Txt (w.alloc (.cells (L.map Value.string).toArray t)) w.heap.size L := by
  refine ⟨by simp, fun j x hx => ?_⟩
  rw [World.cell?_alloc_at _ _ _ _ rfl]
  simp [hx]

set_option maxRecDepth 100000 in
set_option maxHeartbeats 1000000 in
theorem months_any (w : World) : Calls Tryz.prog 183 #[] w fun e w' => e = .returned (.slice (some ⟨w.heap.size, 0, none⟩) 12 12) ∧ Below w.heap.size w w' ∧ Txt w' w.heap.size monthsL := by
  go_enter Tryz.func183, Tryz.ntmps183
  go_wp2_with fail
  go_ret
  exact ⟨rfl, (Below.refl _ _).alloc (Nat.le_refl _) _, Txt.new w monthsL _⟩

set_option maxRecDepth 100000 in
set_option maxHeartbeats 1000000 in
theorem weekdays_any (w : World) : Calls Tryz.prog 192 #[] w fun e w' => e = .returned (.slice (some ⟨w.heap.size, 0, none⟩) 7 7) ∧ Below w.heap.size w w' ∧ Txt w' w.heap.size daysL := by
  go_enter Tryz.func192, Tryz.ntmps192
  go_wp2_with fail
  go_ret
  exact ⟨rfl, (Below.refl _ _).alloc (Nat.le_refl _) _, Txt.new w daysL _⟩

theorem short_few (s : ByteArray) (L : List ByteArray) (h : s.size < 3) : shortB s L = -1 := by unfold shortB; rw [if_pos h]
theorem short_many (s : ByteArray) (L : List ByteArray) (h : ¬ s.size < 3) : shortB s L = findF (fun t => beginsB s t) 0 L := by unfold shortB; rw [if_neg h]

set_option maxRecDepth 100000 in
set_option maxHeartbeats 2000000 in
theorem short_any (s : ByteArray) (L : List ByteArray) (g cap : Nat) (w : World) (hs : s.size ≤ maxLen) (hL : ∀ (j : Nat) (t : ByteArray), L[j]? = some t → t.size ≤ maxLen) (hcap : L.length ≤ cap) (hcap2 : cap ≤ maxLen) (hT : Txt w g L) :
    Calls Tryz.prog 182 #[.string s, .slice (some ⟨g, 0, none⟩) L.length cap] w fun e w' => e = .returned (.int .i64 (shortB s L)) ∧ Below w.heap.size w w' := by
  have hs' := hs
  unfold maxLen at hs hcap2
  by_cases h3 : s.size < 3
  · rw [short_few s L h3]
    have h3' : (s.size : Int) < 3 := by omega
    go_enter Tryz.func182, Tryz.ntmps182
    go_wp2_with fail
    go_ret
    exact ⟨rfl, Below.refl _ _⟩
  · have h3' : ¬ (s.size : Int) < 3 := by omega
    obtain ⟨G, hG⟩ : ∃ G, shortB s L = G := ⟨_, rfl⟩
    have HG : Hid (findF (fun t => beginsB s t) 0 (L.drop 0) = G) := by show _ = _; rw [List.drop_zero, ← hG, short_many s L h3]
    rw [hG]
    clear hG h3
    go_enter Tryz.func182, Tryz.ntmps182
    go_wp2_with fail
    refine (lower_any s hs' _).mono ?_
    rintro e w1 ⟨rfl, B1⟩
    have T1 := hT.below B1
    have HB1 : Hid (Below w.heap.size w w1) := B1
    have HT1 : Hid (Txt w1 g L) := T1
    clear B1 T1 hT
    go_wp2_with fail
    go_loopw [15] (fun k wr => ∃ i : Nat, i ≤ L.length ∧ k = .int .i64 (i : Int) ∧ Below w.heap.size w wr ∧ Txt wr g L ∧ Hid (findF (fun t => beginsB s t) i (L.drop i) = G)) (fun k _ => L.length - (intOf k).toNat)
    case atStart => exact ⟨0, Nat.zero_le _, rfl, HB1.out, HT1.out, HG⟩
    case round =>
      obtain ⟨i, hi, rfl, B, T, HS⟩ := hrel
      have HB : Hid (Below w.heap.size w wr) := B
      have HT : Hid (Txt wr g L) := T
      clear HB1 HT1
      by_cases hlt : i < L.length
      · have hlt' : (i : Int) < (L.length : Int) := by omega
        obtain ⟨t, ht⟩ : ∃ t, L[i]? = some t := ⟨L[i]'hlt, List.getElem?_eq_getElem hlt⟩
        have hc : wr.cell? ⟨g, i, none⟩ = some (.string t) := T.2 i t ht
        have hts := hL i t ht
        have HE : Hid ((if beginsB s t = true then (i : Int) else findF (fun t => beginsB s t) (i + 1) (L.drop (i + 1))) = G) := by show _ = _; rw [← HS.out, findF_step ht]
        have i0 : (0 : Int) ≤ (i : Int) := by omega
        have i1 : (i : Int) < 9223372036854775807 := by omega
        clear HS B T ht
        go_wp2_with fail
        refine (lower_any t hts _).mono ?_
        rintro e w2 ⟨rfl, b2⟩
        have HB2 : Hid (Below w.heap.size w w2) := HB.out.trans (b2.mono HB.out.size)
        have HT2 : Hid (Txt w2 g L) := HT.out.below b2
        clear b2 HB HT hc
        go_wp2_with fail
        refine (Tryz.strings_HasPrefix _ _ _).mono ?_
        rintro e w3 ⟨rfl, rfl⟩
        cases hq : beginsB s t with
        | true =>
          have hq' : Lib.hasPrefix (lowB t).data.toList (lowB s).data.toList = true := hq
          have e1 : G = (i : Int) := by rw [← HE.out, if_pos hq]
          subst e1
          go_wp2_with fail
          go_ret
          exact ⟨rfl, HB2.out⟩
        | false =>
          have hq' : Lib.hasPrefix (lowB t).data.toList (lowB s).data.toList = false := hq
          have HF : Hid (findF (fun t => beginsB s t) (i + 1) (L.drop (i + 1)) = G) := by show _ = _; rw [← HE.out, if_neg (by rw [hq]; decide)]
          clear hq
          go_wp2_with fail
          go_roundw
          case rel => exact ⟨i + 1, by omega, by go_num, HB2.out, HT2.out, HF⟩
          case measure => simp [intOf]; omega
      · have hlt' : ¬ (i : Int) < (L.length : Int) := by omega
        have e1 : G = -1 := by rw [← HS.out, findF_end hlt]
        subst e1
        clear B T
        go_wp2_with fail
        go_ret
        exact ⟨rfl, HB.out⟩

theorem short_lo (s : ByteArray) (L : List ByteArray) : -1 ≤ shortB s L ∧ shortB s L ≤ L.length := by
  unfold shortB
  split
  · omega
  · rcases findF_range (fun t => beginsB s t) L 0 with h | h <;> omega
theorem months_small : ∀ (j : Nat) (t : ByteArray), monthsL[j]? = some t → t.size ≤ maxLen := by
  intro j t h
  have : ∀ t ∈ monthsL, t.size ≤ 20 := by decide
  have := this t (List.mem_of_getElem? h)
  unfold maxLen; omega
theorem days_small : ∀ (j : Nat) (t : ByteArray), daysL[j]? = some t → t.size ≤ maxLen := by
  intro j t h
  have : ∀ t ∈ daysL, t.size ≤ 20 := by decide
  have := this t (List.mem_of_getElem? h)
  unfold maxLen; omega

set_option maxRecDepth 100000 in
set_option maxHeartbeats 1000000 in
theorem month_any (s : ByteArray) (hs : s.size ≤ maxLen) (w : World) :
    Calls Tryz.prog 181 #[.string s] w fun e w' => e = .returned (.int .i64 (shortB s monthsL + 1)) ∧ Below w.heap.size w w' := by
  obtain ⟨q1, q2⟩ := short_lo s monthsL
  have q3 : (monthsL.length : Int) = 12 := rfl
  have hc := fun g w => short_any s monthsL g 12 w hs months_small (by decide) (by decide)
  obtain ⟨V, hV⟩ : ∃ V, shortB s monthsL = V := ⟨_, rfl⟩
  rw [hV] at q1 q2 hc ⊢
  have HC : Hid (∀ (g : Nat) (w : World), Txt w g monthsL → Calls Tryz.prog 182 #[.string s, .slice (some ⟨g, 0, none⟩) 12 12] w fun e w' => e = .returned (.int .i64 V) ∧ Below w.heap.size w w') := hc
  clear hc hV
  go_enter Tryz.func181, Tryz.ntmps181
  go_wp2_with fail
  refine (months_any _).mono ?_
  rintro e w1 ⟨rfl, B1, T1⟩
  go_wp2_with fail
  refine (HC.out _ _ T1).mono ?_
  rintro e w2 ⟨rfl, b2⟩
  have B2 := B1.trans (b2.mono B1.size)
  clear b2 B1 T1
  go_wp2_with fail
  go_ret
  exact ⟨rfl, B2⟩

set_option maxRecDepth 100000 in
set_option maxHeartbeats 1000000 in
theorem day_any (s : ByteArray) (hs : s.size ≤ maxLen) (w : World) :
    Calls Tryz.prog 191 #[.string s] w fun e w' => e = .returned (.int .i64 (shortB s daysL)) ∧ Below w.heap.size w w' := by
  obtain ⟨q1, q2⟩ := short_lo s daysL
  have q3 : (daysL.length : Int) = 7 := rfl
  have hc := fun g w => short_any s daysL g 7 w hs days_small (by decide) (by decide)
  obtain ⟨V, hV⟩ : ∃ V, shortB s daysL = V := ⟨_, rfl⟩
  rw [hV] at q1 q2 hc ⊢
  have HC : Hid (∀ (g : Nat) (w : World), Txt w g daysL → Calls Tryz.prog 182 #[.string s, .slice (some ⟨g, 0, none⟩) 7 7] w fun e w' => e = .returned (.int .i64 V) ∧ Below w.heap.size w w') := hc
  clear hc hV
  go_enter Tryz.func191, Tryz.ntmps191
  go_wp2_with fail
  refine (weekdays_any _).mono ?_
  rintro e w1 ⟨rfl, B1, T1⟩
  go_wp2_with fail
  refine (HC.out _ _ T1).mono ?_
  rintro e w2 ⟨rfl, b2⟩
  have B2 := B1.trans (b2.mono B1.size)
  clear b2 B1 T1
  go_wp2_with fail
  go_ret
  exact ⟨rfl, B2⟩

end Go.Proofs.YtgnfkkcagbbhmaaGreatDoor.Wrd
