import Derived.Test.YthhpdjjfbfkgiaaGreatDoorS9
import Derived.Test.YthhpdjjfbfkgiaaGreatDoorS7
import Derived.Test.YthhpdjjfbfkgiaaGreatDoorRows
import Derived.Test.YthhpdjjfbfkgiaaGreatDoorS0
import Derived.WalkKit
import Derived.WalkSpells
import Derived.WalkLawsBesides
import Derived.Lib.Strings
import Derived.Lib.Slices
import Derived.Lib.Small
import Derived.Lib.Walk
import Derived.Lib.BitFns
import Derived.Lib.Mul64
import Derived.Laws.Bits64b
/- Contracts of word.Short, word.Month and word.Day: names, whole or cut short. -/
namespace Go.Proofs.YthhpdjjfbfkgiaaGreatDoor.Wrd
open Go.RowKit
set_option linter.unusedVariables false

def monthsL : List ByteArray := [⟨#[74, 97, 110, 117, 97, 114, 121]⟩, ⟨#[70, 101, 98, 114, 117, 97, 114, 121]⟩, ⟨#[77, 97, 114, 99, 104]⟩, ⟨#[65, 112, 114, 105, 108]⟩, ⟨#[77, 97, 121]⟩, ⟨#[74, 117, 110, 101]⟩, ⟨#[74, 117, 108, 121]⟩, ⟨#[65, 117, 103, 117, 115, 116]⟩, ⟨#[83, 101, 112, 116, 101, 109, 98, 101, 114]⟩, ⟨#[79, 99, 116, 111, 98, 101, 114]⟩, ⟨#[78, 111, 118, 101, 109, 98, 101, 114]⟩, ⟨#[68, 101, 99, 101, 109, 98, 101, 114]⟩]
def daysL : List ByteArray := [⟨#[83, 117, 110, 100, 97, 121]⟩, ⟨#[77, 111, 110, 100, 97, 121]⟩, ⟨#[84, 117, 101, 115, 100, 97, 121]⟩, ⟨#[87, 101, 100, 110, 101, 115, 100, 97, 121]⟩, ⟨#[84, 104, 117, 114, 115, 100, 97, 121]⟩, ⟨#[70, 114, 105, 100, 97, 121]⟩, ⟨#[83, 97, 116, 117, 114, 100, 97, 121]⟩]
/-- texts in a block. -/
def Txt (w : World) (g : Nat) (L : List ByteArray) : Prop := g < w.heap.size ∧ ∀ j t, L[j]? = some t → w.cell? ⟨g, j, none⟩ = some (.string t)
theorem Txt.below {w w1 : World} {g : Nat} {L : List ByteArray} (h : Txt w g L) (hb : Below w.heap.size w w1) : Txt w1 g L :=
  ⟨Nat.lt_of_lt_of_le h.1 hb.size, fun j t hj => (hb.cell (p := ⟨g, j, none⟩) h.1).trans (h.2 j t hj)⟩
theorem Txt.new (w : World) (L : List ByteArray) (t : TypeId) : Txt (w.alloc (.cells (L.map Value.string).toArray t)) w.heap.size L := by
  refine ⟨by simp, fun j x hx => ?_⟩
  rw [World.cell?_alloc_at _ _ _ _ rfl]
  simp [hx]

set_option maxRecDepth 100000 in
set_option maxHeartbeats 1000000 in
theorem months_any (w : World) : Calls Tryz.prog 118 #[] w fun e w' => e = .returned (.slice (some ⟨w.heap.size, 0, none⟩) 12 12) ∧ Below w.heap.size w w' ∧ Txt w' w.heap.size monthsL := by
  go_enter Tryz.func118, Tryz.ntmps118
  go_wp2_with fail
  go_ret
  exact ⟨rfl, (Below.refl _ _).alloc (Nat.le_refl _) _, Txt.new w monthsL _⟩

set_option maxRecDepth 100000 in
set_option maxHeartbeats 1000000 in
theorem weekdays_any (w : World) : Calls Tryz.prog 127 #[] w fun e w' => e = .returned (.slice (some ⟨w.heap.size, 0, none⟩) 7 7) ∧ Below w.heap.size w w' ∧ Txt w' w.heap.size daysL := by
  go_enter Tryz.func127, Tryz.ntmps127
  go_wp2_with fail
  go_ret
  exact ⟨rfl, (Below.refl _ _).alloc (Nat.le_refl _) _, Txt.new w daysL _⟩

theorem short_few (s : ByteArray) (L : List ByteArray) (h : s.size < 3) : shortB s L = -1 := by unfold shortB; rw [if_pos h]
theorem short_many (s : ByteArray) (L : List ByteArray) (h : ¬ s.size < 3) : shortB s L = findF (fun t => beginsB s t) 0 L := by unfold shortB; rw [if_neg h]

set_option maxRecDepth 100000 in
set_option maxHeartbeats 2000000 in
theorem short_any (s : ByteArray) (L : List ByteArray) (g cap : Nat) (w : World) (hs : s.size ≤ maxLen) (hL : ∀ (j : Nat) (t : ByteArray), L[j]? = some t → t.size ≤ maxLen) (hcap : L.length ≤ cap) (hcap2 : cap ≤ maxLen) (hT : Txt w g L) :
    Calls Tryz.prog 117 #[.string s, .slice (some ⟨g, 0, none⟩) L.length cap] w fun e w' => e = .returned (.int .i64 (shortB s L)) ∧ Below w.heap.size w w' := by
  have hs' := hs
  unfold maxLen at hs hcap2
  by_cases h3 : s.size < 3
  · rw [short_few s L h3]
    have h3' : (s.size : Int) < 3 := by omega
    go_enter Tryz.func117, Tryz.ntmps117
    go_wp2_with fail
    go_ret
    exact ⟨rfl, Below.refl _ _⟩
  · have h3' : ¬ (s.size : Int) < 3 := by omega
    obtain ⟨G, hG⟩ : ∃ G, shortB s L = G := ⟨_, rfl⟩
    have HG : Hid (findF (fun t => beginsB s t) 0 (L.drop 0) = G) := by show _ = _; rw [List.drop_zero, ← hG, short_many s L h3]
    rw [hG]
    clear hG h3
    go_enter Tryz.func117, Tryz.ntmps117
    go_wp2_with fail
    refine (lower_any s hs' _).mono ?_
    rintro e w1 ⟨rfl, B1⟩
    have T1 := hT.below B1
    have HB1 : Hid (Below w.heap.size w w1) := B1
    have HT1 : Hid (Txt w1 g L) := T1
    clear B1 T1 hT
    go_wp2_with fail
    go_loopw [15] (fun k wr => ∃ i : Nat, i ≤ L.length ∧ k = .int .i64 (i : Int) ∧ Below w.heap.size w wr ∧ Txt wr g L ∧ Hid (findF (fun t => beginsB s t) i (L.drop i) = G)) (fun k _ => L.length - (intOf k).toNat)
    case atStart => exact ⟨0, Nat.zero_le _, rfl, HB1.out, HT1.out, HG⟩
    case round =>
      obtain ⟨i, hi, rfl, B, T, HS⟩ := hrel
      have HB : Hid (Below w.heap.size w wr) := B
      have HT : Hid (Txt wr g L) := T
      clear HB1 HT1
      by_cases hlt : i < L.length
      · have hlt' : (i : Int) < (L.length : Int) := by omega
        obtain ⟨t, ht⟩ : ∃ t, L[i]? = some t := ⟨L[i]'hlt, List.getElem?_eq_getElem hlt⟩
        have hc : wr.cell? ⟨g, i, none⟩ = some (.string t) := T.2 i t ht
        have hts := hL i t ht
        have HE : Hid ((if beginsB s t = true then (i : Int) else findF (fun t => beginsB s t) (i + 1) (L.drop (i + 1))) = G) := by show _ = _; rw [← HS.out, findF_step ht]
        have i0 : (0 : Int) ≤ (i : Int) := by omega
        have i1 : (i : Int) < 9223372036854775807 := by omega
        clear HS B T ht
        go_wp2_with fail
        refine (lower_any t hts _).mono ?_
        rintro e w2 ⟨rfl, b2⟩
        have HB2 : Hid (Below w.heap.size w w2) := HB.out.trans (b2.mono HB.out.size)
        have HT2 : Hid (Txt w2 g L) := HT.out.below b2
        clear b2 HB HT hc
        go_wp2_with fail
        refine (Tryz.strings_HasPrefix _ _ _).mono ?_
        rintro e w3 ⟨rfl, rfl⟩
        cases hq : beginsB s t with
        | true =>
          have hq' : Lib.hasPrefix (lowB t).data.toList (lowB s).data.toList = true := hq
          have e1 : G = (i : Int) := by rw [← HE.out, if_pos hq]
          subst e1
          go_wp2_with fail
          go_ret
          exact ⟨rfl, HB2.out⟩
        | false =>
          have hq' : Lib.hasPrefix (lowB t).data.toList (lowB s).data.toList = false := hq
          have HF : Hid (findF (fun t => beginsB s t) (i + 1) (L.drop (i + 1)) = G) := by show _ = _; rw [← HE.out, if_neg (by rw [hq]; decide)]
          clear hq
          go_wp2_with fail
          go_roundw
          case rel => exact ⟨i + 1, by omega, by go_num, HB2.out, HT2.out, HF⟩
          case measure => simp [intOf]; omega
      · have hlt' : ¬ (i : Int) < (L.length : Int) := by omega
        have e1 : G = -1 := by rw [← HS.out, findF_end hlt]
        subst e1
        clear B T
        go_wp2_with fail
        go_ret
        exact ⟨rfl, HB.out⟩

theorem short_lo (s : ByteArray) (L : List ByteArray) : -1 ≤ shortB s L ∧ shortB s L ≤ L.length := by
  unfold shortB
  split
  · omega
  · rcases findF_range (fun t => beginsB s t) L 0 with h | h <;> omega
theorem months_small : ∀ (j : Nat) (t : ByteArray), monthsL[j]? = some t → t.size ≤ maxLen := by
  intro j t h
  have : ∀ t ∈ monthsL, t.size ≤ 20 := by decide
  have := this t (List.mem_of_getElem? h)
  unfold maxLen; omega
theorem days_small : ∀ (j : Nat) (t : ByteArray), daysL[j]? = some t → t.size ≤ maxLen := by
  intro j t h
  have : ∀ t ∈ daysL, t.size ≤ 20 := by decide
  have := this t (List.mem_of_getElem? h)
  unfold maxLen; omega

set_option maxRecDepth 100000 in
set_option maxHeartbeats 1000000 in
theorem month_any (s : ByteArray) (hs : s.size ≤ maxLen) (w : World) :
    Calls Tryz.prog 116 #[.string s] w fun e w' => e = .returned (.int .i64 (shortB s monthsL + 1)) ∧ Below w.heap.size w w' := by
  obtain ⟨q1, q2⟩ := short_lo s monthsL
  have q3 : (monthsL.length : Int) = 12 := rfl
  have hc := fun g w => short_any s monthsL g 12 w hs months_small (by decide) (by decide)
  obtain ⟨V, hV⟩ : ∃ V, shortB s monthsL = V := ⟨_, rfl⟩
  rw [hV] at q1 q2 hc ⊢
  have HC : Hid (∀ (g : Nat) (w : World), Txt w g monthsL → Calls Tryz.prog 117 #[.string s, .slice (some ⟨g, 0, none⟩) 12 12] w fun e w' => e = .returned (.int .i64 V) ∧ Below w.heap.size w w') := hc
  clear hc hV
  go_enter Tryz.func116, Tryz.ntmps116
  go_wp2_with fail
  refine (months_any _).mono ?_
  rintro e w1 ⟨rfl, B1, T1⟩
  go_wp2_with fail
  refine (HC.out _ _ T1).mono ?_
  rintro e w2 ⟨rfl, b2⟩
  have B2 := B1.trans (b2.mono B1.size)
  clear b2 B1 T1
  go_wp2_with fail
  go_ret
  exact ⟨rfl, B2⟩

set_option maxRecDepth 100000 in
set_option maxHeartbeats 1000000 in
theorem day_any (s : ByteArray) (hs : s.size ≤ maxLen) (w : World) :
    Calls Tryz.prog 126 #[.string s] w fun e w' => e = .returned (.int .i64 (shortB s daysL)) ∧ Below w.heap.size w w' := by
  obtain ⟨q1, q2⟩ := short_lo s daysL
  have q3 : (daysL.length : Int) = 7 := rfl
  have hc := fun g w => short_any s daysL g 7 w hs days_small (by decide) (by decide)
  obtain ⟨V, hV⟩ : ∃ V, shortB s daysL = V := ⟨_, rfl⟩
  rw [hV] at q1 q2 hc ⊢
  have HC : Hid (∀ (g : Nat) (w : World), Txt w g daysL → Calls Tryz.prog 117 #[.string s, .slice (some ⟨g, 0, none⟩) 7 7] w fun e w' => e = .returned (.int .i64 V) ∧ Below w.heap.size w w') := hc
  clear hc hV
  go_enter Tryz.func126, Tryz.ntmps126
  go_wp2_with fail
  refine (weekdays_any _).mono ?_
  rintro e w1 ⟨rfl, B1, T1⟩
  go_wp2_with fail
  refine (HC.out _ _ T1).mono ?_
  rintro e w2 ⟨rfl, b2⟩
  have B2 := B1.trans (b2.mono B1.size)
  clear b2 B1 T1
  go_wp2_with fail
  go_ret
  exact ⟨rfl, B2⟩

end Go.Proofs.YthhpdjjfbfkgiaaGreatDoor.Wrd
/- Contracts of the reference's small functions on bytes: blank, digit, letter, long. -/
namespace Go.Proofs.YthhpdjjfbfkgiaaGreatDoor.Wrd
open Go.RowKit
set_option linter.unusedVariables false

/-- the classes of a first byte. -/
def Cls (c n lo hh : Nat) : Prop :=
  (194 ≤ c ∧ c ≤ 223 ∧ n = 2 ∧ lo = 128 ∧ hh = 191) ∨ (c = 224 ∧ n = 3 ∧ lo = 160 ∧ hh = 191) ∨ (c = 237 ∧ n = 3 ∧ lo = 128 ∧ hh = 159) ∨ ((225 ≤ c ∧ c ≤ 239 ∧ c ≠ 237) ∧ n = 3 ∧ lo = 128 ∧ hh = 191) ∨
  (c = 240 ∧ n = 4 ∧ lo = 144 ∧ hh = 191) ∨ (c = 244 ∧ n = 4 ∧ lo = 128 ∧ hh = 143) ∨ ((241 ≤ c ∧ c ≤ 243) ∧ n = 4 ∧ lo = 128 ∧ hh = 191)
instance (c n lo hh : Nat) : Decidable (Cls c n lo hh) := by unfold Cls; infer_instance
end Go.Proofs.YthhpdjjfbfkgiaaGreatDoor.Wrd
/- Contracts of num.size, num.signed, num.Add, num.Sub, num.Div, num.Mod: each answers what the plain number says, for every argument of its type. -/
namespace Go.Proofs.YthhpdjjfbfkgiaaGreatDoor
open Go.RowKit
set_option linter.unusedVariables false

theorem ret_int {k : IntKind} {a b : Int} (h : a = b) : Ending.returned (.int k a) = .returned (.int k b) := by rw [h]
theorem ret_two {k l : IntKind} {a b c d : Int} (h : a = b) (g : c = d) : Ending.returned (.tuple #[.int k a, .int l c]) = .returned (.tuple #[.int k b, .int l d]) := by rw [h, g]

/-- what a whole number is as an answer: itself, or 0 and the error 10. -/
def smV (x : Int) : Int := if -9223372036854775808 ≤ x ∧ x ≤ 9223372036854775807 then x else 0
def smE (x : Int) : Int := if -9223372036854775808 ≤ x ∧ x ≤ 9223372036854775807 then 0 else 10
theorem smV_in {x : Int} (h1 : -9223372036854775808 ≤ x) (h2 : x ≤ 9223372036854775807) : smV x = x := if_pos ⟨h1, h2⟩
theorem smE_in {x : Int} (h1 : -9223372036854775808 ≤ x) (h2 : x ≤ 9223372036854775807) : smE x = 0 := if_pos ⟨h1, h2⟩
theorem smV_out {x : Int} (h : x < -9223372036854775808 ∨ 9223372036854775807 < x) : smV x = 0 := if_neg (by omega)
theorem smE_out {x : Int} (h : x < -9223372036854775808 ∨ 9223372036854775807 < x) : smE x = 10 := if_neg (by omega)

set_option maxHeartbeats 400000 in
theorem size_any (a : Int) (h1 : -9223372036854775808 ≤ a) (h2 : a ≤ 9223372036854775807) (w : World) :
    Calls Tryz.prog 112 #[.int .i64 a] w fun e w' => e = .returned (.int .u64 (a.natAbs : Int)) ∧ w' = w := by
  by_cases h : a < 0
  · go_enter Tryz.func112, Tryz.ntmps112
    go_wp2
    go_ret
    exact ⟨ret_int (by simp only [IntKind.wrap_u64]; omega), rfl⟩
  · go_enter Tryz.func112, Tryz.ntmps112
    go_wp2
    go_ret
    exact ⟨ret_int (by omega), rfl⟩

set_option maxHeartbeats 400000 in
theorem add_in (a b : Int) (h1 : -9223372036854775808 ≤ a) (h2 : a ≤ 9223372036854775807) (h3 : -9223372036854775808 ≤ b) (h4 : b ≤ 9223372036854775807)
    (l1 : -9223372036854775808 ≤ a + b) (l2 : a + b ≤ 9223372036854775807) (w : World) :
    Calls Tryz.prog 108 #[.int .i64 a, .int .i64 b] w fun e w' => e = .returned (.tuple #[.int .i64 (a + b), .int .i64 0]) ∧ w' = w := by
  by_cases h : b < 0
  · have hs : a + b < a := by omega
    go_enter Tryz.func108, Tryz.ntmps108
    go_wp2
    go_ret2
    exact ⟨rfl, rfl⟩
  · have hs : ¬ a + b < a := by omega
    go_enter Tryz.func108, Tryz.ntmps108
    go_wp2
    go_ret2
    exact ⟨rfl, rfl⟩

set_option maxHeartbeats 400000 in
theorem add_out (a b : Int) (h1 : -9223372036854775808 ≤ a) (h2 : a ≤ 9223372036854775807) (h3 : -9223372036854775808 ≤ b) (h4 : b ≤ 9223372036854775807)
    (l : a + b < -9223372036854775808 ∨ 9223372036854775807 < a + b) (w : World) :
    Calls Tryz.prog 108 #[.int .i64 a, .int .i64 b] w fun e w' => e = .returned (.tuple #[.int .i64 0, .int .i64 10]) ∧ w' = w := by
  rcases l with l | l
  · have h : b < 0 := by omega
    have hs : ¬ wrap64 (a + b) < a := by unfold wrap64; omega
    clear l
    go_enter Tryz.func108, Tryz.ntmps108
    go_wp2
    go_ret2
    exact ⟨rfl, rfl⟩
  · have h : ¬ b < 0 := by omega
    have hs : wrap64 (a + b) < a := by unfold wrap64; omega
    clear l
    go_enter Tryz.func108, Tryz.ntmps108
    go_wp2
    go_ret2
    exact ⟨rfl, rfl⟩

theorem add_any (a b : Int) (h1 : -9223372036854775808 ≤ a) (h2 : a ≤ 9223372036854775807) (h3 : -9223372036854775808 ≤ b) (h4 : b ≤ 9223372036854775807) (w : World) :
    Calls Tryz.prog 108 #[.int .i64 a, .int .i64 b] w fun e w' => e = .returned (.tuple #[.int .i64 (smV (a + b)), .int .i64 (smE (a + b))]) ∧ w' = w := by
  by_cases l : -9223372036854775808 ≤ a + b ∧ a + b ≤ 9223372036854775807
  · rw [smV_in l.1 l.2, smE_in l.1 l.2]; exact add_in a b h1 h2 h3 h4 l.1 l.2 w
  · rw [smV_out (by omega), smE_out (by omega)]; exact add_out a b h1 h2 h3 h4 (by omega) w

/-- num.signed: the number of that size, below nought or not. -/
def sgn (b : Bool) (n : Nat) : Int := if b then -(n : Int) else n

set_option maxHeartbeats 400000 in
theorem signed_big (b : Bool) (n : Nat) (hn : n < 18446744073709551616) (h : 9223372036854775808 < n) (w : World) :
    Calls Tryz.prog 110 #[.bool b, .int .u64 n] w fun e w' => e = .returned (.tuple #[.int .i64 0, .int .i64 10]) ∧ w' = w := by
  have h' : (9223372036854775808 : Int) < n := by omega
  clear h
  go_enter Tryz.func110, Tryz.ntmps110
  go_wp2
  go_ret2
  exact ⟨rfl, rfl⟩

set_option maxHeartbeats 400000 in
theorem signed_small (b : Bool) (n : Nat) (h : n < 9223372036854775808) (w : World) :
    Calls Tryz.prog 110 #[.bool b, .int .u64 n] w fun e w' => e = .returned (.tuple #[.int .i64 (sgn b n), .int .i64 0]) ∧ w' = w := by
  have h' : ¬ (9223372036854775808 : Int) < n := by omega
  have h2 : ((n : Int) == 9223372036854775808) = false := by rw [beq_eq_false_iff_ne]; omega
  cases b
  · go_enter Tryz.func110, Tryz.ntmps110
    go_wp2
    go_ret2
    exact ⟨ret_two (by unfold sgn; simp) rfl, rfl⟩
  · go_enter Tryz.func110, Tryz.ntmps110
    go_wp2
    go_ret2
    exact ⟨ret_two (by unfold sgn; simp only [IntKind.wrap_u64, wrap64]; simp; omega) rfl, rfl⟩

set_option maxHeartbeats 400000 in
theorem signed_edge (b : Bool) (n : Nat) (h : n = 9223372036854775808) (w : World) :
    Calls Tryz.prog 110 #[.bool b, .int .u64 n] w fun e w' => e = .returned (.tuple #[.int .i64 (smV (sgn b n)), .int .i64 (smE (sgn b n))]) ∧ w' = w := by
  have h' : ¬ (9223372036854775808 : Int) < n := by omega
  have h2 : ((n : Int) == 9223372036854775808) = true := by rw [beq_iff_eq]; omega
  cases b
  · rw [show sgn false n = (n : Int) from rfl, smV_out (by omega), smE_out (by omega)]
    clear h
    go_enter Tryz.func110, Tryz.ntmps110
    go_wp2
    go_ret2
    exact ⟨rfl, rfl⟩
  · have hs : sgn true n = -(n : Int) := rfl
    have e : IntKind.i64.wrap (IntKind.u64.wrap (-(n : Int))) = -(n : Int) := by simp only [IntKind.wrap_u64, IntKind.wrap_i64]; omega
    have e' : wrap64 (IntKind.u64.wrap (-(n : Int))) = -(n : Int) := by simp only [IntKind.wrap_u64, wrap64]; omega
    rw [hs, smV_in (by omega) (by omega), smE_in (by omega) (by omega)]
    clear h hs
    go_enter Tryz.func110, Tryz.ntmps110
    go_wp2
    go_ret2
    exact ⟨rfl, rfl⟩

theorem signed_any (b : Bool) (n : Nat) (hn : n < 18446744073709551616) (w : World) :
    Calls Tryz.prog 110 #[.bool b, .int .u64 n] w fun e w' => e = .returned (.tuple #[.int .i64 (smV (sgn b n)), .int .i64 (smE (sgn b n))]) ∧ w' = w := by
  by_cases h : n < 9223372036854775808
  · have l : -9223372036854775808 ≤ sgn b n ∧ sgn b n ≤ 9223372036854775807 := by unfold sgn; cases b <;> simp <;> omega
    rw [smV_in l.1 l.2, smE_in l.1 l.2]; exact signed_small b n h w
  · by_cases g : n = 9223372036854775808
    · exact signed_edge b n g w
    · have l : sgn b n < -9223372036854775808 ∨ 9223372036854775807 < sgn b n := by unfold sgn; cases b <;> simp <;> omega
      rw [smV_out l, smE_out l]; exact signed_big b n hn (by omega) w

end Go.Proofs.YthhpdjjfbfkgiaaGreatDoor
/- Contracts of math/bits.Len64, LeadingZeros64, Mul64, as this program's own translation has them. -/
namespace Go.Proofs.YthhpdjjfbfkgiaaGreatDoor
open Go.RowKit
set_option linter.unusedVariables false

end Go.Proofs.YthhpdjjfbfkgiaaGreatDoor
/- Contracts of math/bits.Mul64, num.product, num.Mul, num.Mod, num.Split, num.Neg's kin: the product's two halves, the product, what is left, days and microseconds. -/
namespace Go.Proofs.YthhpdjjfbfkgiaaGreatDoor
open Go.RowKit
set_option linter.unusedVariables false

theorem andLow (a : Nat) (ha : a < 18446744073709551616) : bits .and .u64 (a : Int) 4294967295 = ((a % 4294967296 : Nat) : Int) := by
  have h := bits_and_u64_nat a 4294967295 ha (by omega)
  rw [show a &&& 4294967295 = a % 4294967296 from Nat.and_two_pow_sub_one_eq_mod a 32] at h
  exact h
theorem castDiv (a : Nat) : (a : Int) / 4294967296 = ((a / 4294967296 : Nat) : Int) := by omega
theorem castMul (a b : Nat) : (a : Int) * (b : Int) = ((a * b : Nat) : Int) := (Int.natCast_mul a b).symm
theorem castAdd (a b : Nat) : (a : Int) + (b : Int) = ((a + b : Nat) : Int) := (Int.natCast_add a b).symm
theorem castWrap (a : Nat) (ha : a < 18446744073709551616) : IntKind.u64.wrap (a : Int) = (a : Int) := by rw [IntKind.wrap_u64]; omega
theorem castMod (a : Nat) : IntKind.u64.wrap (a : Int) = ((a % 18446744073709551616 : Nat) : Int) := by rw [IntKind.wrap_u64]; omega

set_option maxHeartbeats 1000000 in
theorem mul64_any (x y : Nat) (hx : x < 18446744073709551616) (hy : y < 18446744073709551616) (w : World) :
    Calls Tryz.prog 111 #[.int .u64 x, .int .u64 y] w fun e w' => e = .returned (.tuple #[.int .u64 ((x * y / 18446744073709551616 : Nat) : Int), .int .u64 ((x * y % 18446744073709551616 : Nat) : Int)]) ∧ w' = w := by
  obtain ⟨bd, bt, bw, hhi⟩ := Lib.mul64_hi x y hx hy
  have ba := Lib.half_mul_le (a := x / 4294967296) (b := y / 4294967296) (by omega) (by omega)
  have bb := Lib.half_mul_le (a := x / 4294967296) (b := y % 4294967296) (by omega) (by omega)
  have bc := Lib.half_mul_le (a := x % 4294967296) (b := y / 4294967296) (by omega) (by omega)
  have ba' : x / 4294967296 * (y / 4294967296) < 18446744073709551616 := by omega
  have bb' : x / 4294967296 * (y % 4294967296) < 18446744073709551616 := by omega
  have bc' : x % 4294967296 * (y / 4294967296) < 18446744073709551616 := by omega
  have b1 : x / 4294967296 * (y / 4294967296) + (x / 4294967296 * (y % 4294967296) + x % 4294967296 * (y % 4294967296) / 4294967296) / 4294967296 < 18446744073709551616 := by omega
  have b2 : x / 4294967296 * (y / 4294967296) + (x / 4294967296 * (y % 4294967296) + x % 4294967296 * (y % 4294967296) / 4294967296) / 4294967296 + ((x / 4294967296 * (y % 4294967296) + x % 4294967296 * (y % 4294967296) / 4294967296) % 4294967296 + x % 4294967296 * (y / 4294967296)) / 4294967296 < 18446744073709551616 := by omega
  go_enter Tryz.func111, Tryz.ntmps111
  go_wp2
  simp only [andLow x hx, andLow y hy, castDiv, castMul, castAdd, castWrap _ bd, castWrap _ bb', castWrap _ bt, andLow _ bt, castWrap _ bc', castWrap _ bw, castWrap _ ba', castWrap _ b1, castWrap _ b2, castMod (x * y)]
  rw [hhi]
  go_ret2
  exact ⟨rfl, rfl⟩

theorem halves (p H L : Nat) (he : (p : Int) = (H : Int) * 18446744073709551616 + L) (hL : L < 18446744073709551616) : p / 18446744073709551616 = H ∧ p % 18446744073709551616 = L := by omega

/-- the halves under names. -/
theorem mul64_hl (x y H L : Nat) (hx : x < 18446744073709551616) (hy : y < 18446744073709551616) (he : ((x * y : Nat) : Int) = (H : Int) * 18446744073709551616 + L) (hL : L < 18446744073709551616) (w : World) :
    Calls Tryz.prog 111 #[.int .u64 x, .int .u64 y] w fun e w' => e = .returned (.tuple #[.int .u64 (H : Int), .int .u64 (L : Int)]) ∧ w' = w := by
  obtain ⟨e1, e2⟩ := halves (x * y) H L he hL
  have := mul64_any x y hx hy w
  rw [e1, e2] at this
  exact this

set_option maxHeartbeats 1000000 in
theorem product_any (a b : Int) (H L : Nat) (h1 : -9223372036854775808 ≤ a) (h2 : a ≤ 9223372036854775807) (h3 : -9223372036854775808 ≤ b) (h4 : b ≤ 9223372036854775807)
    (he : ((a.natAbs * b.natAbs : Nat) : Int) = (H : Int) * 18446744073709551616 + L) (hL : L < 18446744073709551616) (w : World) :
    Calls Tryz.prog 109 #[.int .i64 a, .int .i64 b] w fun e w' => e = .returned (.agg #[.int .u64 (H : Int), .int .u64 (L : Int)]) ∧ Below w.heap.size w w' := by
  have C1 := size_any a h1 h2
  have C2 := size_any b h3 h4
  have C3 := mul64_hl a.natAbs b.natAbs H L (by omega) (by omega) he hL
  generalize a.natAbs = x at *
  generalize b.natAbs = y at *
  have H1 : Hid (∀ w : World, Calls Tryz.prog 112 #[.int .i64 a] w fun e w' => e = .returned (.int .u64 (x : Int)) ∧ w' = w) := C1
  have H2 : Hid (∀ w : World, Calls Tryz.prog 112 #[.int .i64 b] w fun e w' => e = .returned (.int .u64 (y : Int)) ∧ w' = w) := C2
  have H3 : Hid (∀ w : World, Calls Tryz.prog 111 #[.int .u64 x, .int .u64 y] w fun e w' => e = .returned (.tuple #[.int .u64 (H : Int), .int .u64 (L : Int)]) ∧ w' = w) := C3
  clear C1 C2 C3 he
  go_enter Tryz.func109, Tryz.ntmps109
  go_wp2_with fail
  refine (H1.out _).mono ?_
  rintro e w1 ⟨rfl, rfl⟩
  go_wp2_with fail
  refine (H2.out _).mono ?_
  rintro e w1 ⟨rfl, rfl⟩
  go_wp2_with fail
  refine (H3.out _).mono ?_
  rintro e w1 ⟨rfl, rfl⟩
  go_wp2
  exact bodyPost_ret (v := .agg #[.int .u64 (H : Int), .int .u64 (L : Int)]) (by simp [results, Tryz.results109, go_sem]) rfl ⟨rfl, ((Below.refl _ _).alloc (Nat.le_refl _) _).alloc (by simp) _⟩

theorem halves_of (p : Nat) : (p : Int) = ((p / 18446744073709551616 : Nat) : Int) * 18446744073709551616 + (p % 18446744073709551616 : Nat) ∧ p % 18446744073709551616 < 18446744073709551616 := by omega

theorem sgn_of (a b : Int) : sgn (decide (a < 0) != decide (b < 0)) (a.natAbs * b.natAbs) = a * b := by
  have e : ((a.natAbs * b.natAbs : Nat) : Int) = (a.natAbs : Int) * (b.natAbs : Int) := Int.natCast_mul _ _
  unfold sgn
  rw [e]
  by_cases ha : a < 0
  · have ea : (a.natAbs : Int) = -a := by omega
    by_cases hb : b < 0
    · have eb : (b.natAbs : Int) = -b := by omega
      simp [ha, hb, ea, eb, Int.neg_mul, Int.mul_neg]
    · have eb : (b.natAbs : Int) = b := by omega
      simp [ha, hb, ea, eb, Int.neg_mul]
  · have ea : (a.natAbs : Int) = a := by omega
    by_cases hb : b < 0
    · have eb : (b.natAbs : Int) = -b := by omega
      simp [ha, hb, ea, eb, Int.mul_neg]
    · have eb : (b.natAbs : Int) = b := by omega
      simp [ha, hb, ea, eb]

set_option maxHeartbeats 1000000 in
theorem mul_hl (a b : Int) (H L : Nat) (h1 : -9223372036854775808 ≤ a) (h2 : a ≤ 9223372036854775807) (h3 : -9223372036854775808 ≤ b) (h4 : b ≤ 9223372036854775807)
    (he : ((a.natAbs * b.natAbs : Nat) : Int) = (H : Int) * 18446744073709551616 + L) (hL : L < 18446744073709551616) (w : World) :
    Calls Tryz.prog 107 #[.int .i64 a, .int .i64 b] w fun e w' => e = .returned (.tuple #[.int .i64 (smV (a * b)), .int .i64 (smE (a * b))]) ∧ Below w.heap.size w w' := by
  have C1 := product_any a b H L h1 h2 h3 h4 he hL
  have H1 : Hid (∀ w : World, Calls Tryz.prog 109 #[.int .i64 a, .int .i64 b] w fun e w' => e = .returned (.agg #[.int .u64 (H : Int), .int .u64 (L : Int)]) ∧ Below w.heap.size w w') := C1
  clear C1
  have hs := sgn_of a b
  by_cases hz : H = 0
  · have e1 : a.natAbs * b.natAbs = L := by omega
    rw [e1] at hs
    have H2 : Hid (∀ w : World, Calls Tryz.prog 110 #[.bool (decide (a < 0) != decide (b < 0)), .int .u64 L] w fun e w' => e = .returned (.tuple #[.int .i64 (smV (a * b)), .int .i64 (smE (a * b))]) ∧ w' = w) := by
      intro w
      rw [← hs]
      exact signed_any _ L hL w
    have hn : ((H : Int) != 0) = false := by rw [hz]; rfl
    clear he hs e1 hz
    go_enter Tryz.func107, Tryz.ntmps107
    go_wp2_with fail
    refine (H1.out _).mono ?_
    rintro e w1 ⟨rfl, hb1⟩
    have hz1 := hb1.size
    go_wp2_with fail
    refine (H2.out _).mono ?_
    rintro e w2 ⟨rfl, rfl⟩
    go_wp2
    go_ret2
    exact ⟨rfl, hb1.alloc (Nat.le_trans hz1 (Nat.le_refl _)) _⟩
  · have hn : ((H : Int) != 0) = true := by rw [bne_iff_ne]; omega
    have ho : a * b < -9223372036854775808 ∨ 9223372036854775807 < a * b := by
      rw [← hs]
      have : 18446744073709551616 ≤ a.natAbs * b.natAbs := by omega
      unfold sgn
      split <;> omega
    rw [smV_out ho, smE_out ho]
    clear he hs ho hz
    go_enter Tryz.func107, Tryz.ntmps107
    go_wp2_with fail
    refine (H1.out _).mono ?_
    rintro e w1 ⟨rfl, hb1⟩
    have hz1 := hb1.size
    go_wp2_with fail
    go_ret2
    exact ⟨rfl, hb1.alloc (Nat.le_trans hz1 (Nat.le_refl _)) _⟩

theorem mul_any (a b : Int) (h1 : -9223372036854775808 ≤ a) (h2 : a ≤ 9223372036854775807) (h3 : -9223372036854775808 ≤ b) (h4 : b ≤ 9223372036854775807) (w : World) :
    Calls Tryz.prog 107 #[.int .i64 a, .int .i64 b] w fun e w' => e = .returned (.tuple #[.int .i64 (smV (a * b)), .int .i64 (smE (a * b))]) ∧ Below w.heap.size w w' :=
  mul_hl a b _ _ h1 h2 h3 h4 (halves_of _).1 (halves_of _).2 w

end Go.Proofs.YthhpdjjfbfkgiaaGreatDoor
/- Contracts of word.areDigits and word.Number: digits as a number. -/
namespace Go.Proofs.YthhpdjjfbfkgiaaGreatDoor.Wrd
open Go.RowKit
set_option linter.unusedVariables false

theorem empty_of {s : ByteArray} (h : s.size = 0) : s = ⟨#[]⟩ := by
  cases s with
  | mk d => congr; exact Array.eq_empty_of_size_eq_zero h
theorem toList_ne {s : ByteArray} (h : s.size ≠ 0) : s.toList.isEmpty = false ∧ (s.toList == []) = false := by
  rw [Lib.toList_data]
  cases hl : s.data.toList with
  | nil => exact absurd (by rw [← sz, hl]; rfl) h
  | cons a b => exact ⟨rfl, rfl⟩

set_option maxRecDepth 1000000 in
set_option maxHeartbeats 4000000 in
theorem adigits_any (s : ByteArray) (B : Bool) (hB : Hid (B = (digs s && decide (s.size ≠ 0)))) (hs : s.size ≤ maxLen) (w : World) :
    Calls Tryz.prog 106 #[.string s] w fun e w' => e = .returned (.bool B) ∧ Below w.heap.size w w' := by
  unfold maxLen at hs
  go_enter Tryz.func106, Tryz.ntmps106
  go_wp2_with fail
  go_loopw [] (fun wr => ∃ pos fuel : Nat, pos ≤ s.size ∧ wr.heap[w.heap.size]? = some (.stringIter s pos) ∧ Below w.heap.size w wr ∧ Hid (digF s fuel pos = digs s) ∧ s.size ≤ pos + fuel) (fun wr => s.size - wr.iterPos w.heap.size)
  case atStart => exact ⟨0, s.size, Nat.zero_le _, World.iter_heap w s 0, (Below.refl _ _).alloc (Nat.le_refl _) _, rfl, by omega⟩
  case round =>
    obtain ⟨pos, fuel, hle, hit, B0, HS, hf⟩ := hrel
    have hpos0 : Hid (wr.iterPos w.heap.size = pos) := iterPos_eq hit
    by_cases hp : pos < s.size
    · have hnx : ∀ ty, (Instr.next (.pointer (some ⟨w.heap.size, 0, none⟩)) true ty).run Tryz.prog wr = _ := fun ty => Lib.run_next_any_at wr w.heap.size s pos ty hit hp
      obtain ⟨fuel, rfl⟩ : ∃ f', fuel = f' + 1 := ⟨fuel - 1, by omega⟩
      have hit2 := Lib.iterAt_heap wr w.heap.size s pos (pos + (Utf8.decode s pos).2) hit
      have B2 := Lib.below_iterAt B0 (k := w.heap.size) (by omega) s (pos + (Utf8.decode s pos).2)
      obtain ⟨rd1, rd2⟩ := rune_digit s pos hp
      obtain ⟨R, hR⟩ : ∃ R : Int, ((Utf8.decode s pos).1 : Int) = R := ⟨_, rfl⟩
      obtain ⟨W1, hW1⟩ : ∃ W1, W1 = wr.iterAt w.heap.size s (pos + (Utf8.decode s pos).2) := ⟨_, rfl⟩
      rw [hR] at hnx
      rw [← hW1] at hnx hit2 B2
      have R0 : 0 ≤ R := by omega
      have R1 : R ≤ 2147483647 := by have := decode_le s pos; omega
      have HI : Hid (W1.heap[w.heap.size]? = some (.stringIter s (pos + (Utf8.decode s pos).2))) := hit2
      have HB : Hid (Below w.heap.size w W1) := B2
      clear hit2 B2 B0 hit hW1
      by_cases hd : 48 ≤ R ∧ R ≤ 57
      · have hq : digitN (bt s pos) = true := rd1.1 (by omega)
        have hw := rd2 hq
        rw [hw] at HI
        have HE : Hid (digF s fuel (pos + 1) = digs s) := by show _ = _; rw [← HS.out, digF_step hp, hq, Bool.true_and]
        obtain ⟨d1, d2⟩ := hd
        have d1' : ¬ R < 48 := by omega
        have d2' : ¬ 57 < R := by omega
        clear hR rd1 rd2 hw hq
        go_wp2_with fail
        go_roundw
        case rel => exact ⟨pos + 1, fuel, by omega, HI.out, HB.out, HE, by omega⟩
        case measure => rw [hpos0.out, iterPos_eq HI.out]; omega
      · have hq : digitN (bt s pos) = false := by
          cases z : digitN (bt s pos) with
          | false => rfl
          | true => exfalso; have := rd1.2 z; omega
        have e : B = false := by rw [hB.out, ← HS.out, digF_step hp, hq]; rfl
        subst e
        clear hR rd1 rd2 hq
        go_wp2_with fail
        all_goals first
          | (exfalso; omega)
          | (go_ret; exact ⟨rfl, HB.out⟩)
    · have hnx : ∀ ty, (Instr.next (.pointer (some ⟨w.heap.size, 0, none⟩)) true ty).run Tryz.prog wr = _ := fun ty => Lib.run_next_end_at wr w.heap.size s pos ty hit hp
      have hdg : digs s = true := by rw [← HS.out, digF_end s fuel pos hp]
      have HB : Hid (Below w.heap.size w wr) := B0
      clear B0 hit
      by_cases h0 : s.size = 0
      · have e : B = false := by rw [hB.out, h0]; simp
        subst e
        have e2 := empty_of h0
        subst e2
        go_wp2_with fail
        go_ret
        exact ⟨rfl, HB.out⟩
      · have e : B = true := by rw [hB.out, hdg, decide_eq_true h0]; rfl
        subst e
        obtain ⟨z1, z2⟩ := toList_ne h0
        go_wp2_with fail
        go_ret
        exact ⟨rfl, HB.out⟩

end Go.Proofs.YthhpdjjfbfkgiaaGreatDoor.Wrd
/- Contracts of word.Number and of the reference's Number. -/
namespace Go.Proofs.YthhpdjjfbfkgiaaGreatDoor.Wrd
open Go.RowKit
set_option linter.unusedVariables false

set_option maxRecDepth 1000000 in
set_option maxHeartbeats 4000000 in
theorem wnumber_any (s : ByteArray) (V E : Int) (hV : Hid (numV s = V)) (hE : Hid (numE s = E)) (hs : s.size ≤ maxLen) (w : World) :
    Calls Tryz.prog 105 #[.string s] w fun e w' => e = .returned (.tuple #[.int .i64 V, .int .i64 E]) ∧ Below w.heap.size w w' := by
  by_cases hD : digs s = true ∧ s.size ≠ 0
  · obtain ⟨hd, h0⟩ := hD
    have HA : Hid (∀ w : World, Calls Tryz.prog 106 #[.string s] w fun e w' => e = .returned (.bool true) ∧ Below w.heap.size w w') := fun w => adigits_any s true (by show _ = _; rw [hd, decide_eq_true h0]; rfl) hs w
    have HD : Hid (digs s = true) := hd
    unfold maxLen at hs
    clear hd
    go_enter Tryz.func105, Tryz.ntmps105
    go_wp2_with fail
    refine (HA.out _).mono ?_
    rintro e w1 ⟨rfl, B1⟩
    have HB1 : Hid (Below w.heap.size w w1) := B1
    clear B1 HA
    go_wp2_with fail
    go_loopw [4] (fun n wr => ∃ (pos : Nat) (x : Int), pos ≤ s.size ∧ n = .int .i64 x ∧ Hid (x = valTo s pos) ∧ 0 ≤ x ∧ x ≤ 9223372036854775807 ∧ wr.heap[w1.heap.size]? = some (.stringIter s pos) ∧ Below w1.heap.size w1 wr) (fun _ wr => s.size - wr.iterPos w1.heap.size)
    case atStart => exact ⟨0, 0, Nat.zero_le _, rfl, rfl, by omega, by omega, World.iter_heap w1 s 0, (Below.refl _ _).alloc (Nat.le_refl _) _⟩
    case round =>
      obtain ⟨pos, x, hle, rfl, HX, x0, x1, hit, B0⟩ := hrel
      have hpos0 : Hid (wr.iterPos w1.heap.size = pos) := iterPos_eq hit
      by_cases hp : pos < s.size
      · have hnx : ∀ ty, (Instr.next (.pointer (some ⟨w1.heap.size, 0, none⟩)) true ty).run Tryz.prog wr = _ := fun ty => Lib.run_next_any_at wr w1.heap.size s pos ty hit hp
        have hit2 := Lib.iterAt_heap wr w1.heap.size s pos (pos + (Utf8.decode s pos).2) hit
        have B2 := Lib.below_iterAt B0 (k := w1.heap.size) (by omega) s (pos + (Utf8.decode s pos).2)
        obtain ⟨rd1, rd2⟩ := rune_digit s pos hp
        have hq := digs_at HD.out pos hp
        have hw := rd2 hq
        obtain ⟨c, hc⟩ : ∃ c, bt s pos = c := ⟨_, rfl⟩
        have hdr := (digit_iff _).1 hq
        rw [hc] at hdr hw
        rw [hw] at hnx hit2 B2
        obtain ⟨W1, hW1⟩ : ∃ W1, W1 = wr.iterAt w1.heap.size s (pos + 1) := ⟨_, rfl⟩
        rw [← hW1] at hnx hit2 B2
        have HI : Hid (W1.heap[w1.heap.size]? = some (.stringIter s (pos + 1))) := hit2
        have HB : Hid (Below w1.heap.size w1 W1) := B2
        have HVn : Hid (valTo s (pos + 1) = x * 10 + ((c : Int) - 48)) := by show _ = _; rw [valTo, ← HX.out, hc]
        have hm := mul_any x 10 (by omega) (by omega) (by omega) (by omega)
        obtain ⟨c1, c2⟩ : (48 : Int) ≤ (c : Int) ∧ (c : Int) ≤ 57 := by omega
        clear hit2 B2 B0 hit hW1 rd1 rd2 hw hq hc
        by_cases hbig : x * 10 ≤ 9223372036854775807
        · have HM : Hid (∀ w : World, Calls Tryz.prog 107 #[.int .i64 x, .int .i64 10] w fun e w' => e = .returned (.tuple #[.int .i64 (x * 10), .int .i64 0]) ∧ Below w.heap.size w w') := fun w => by
            have := hm w
            rw [smV_in (by omega) hbig, smE_in (by omega) hbig] at this
            exact this
          have ha := add_any (x * 10) ((c : Int) - 48) (by omega) (by omega) (by omega) (by omega)
          clear hm
          by_cases hbig2 : x * 10 + ((c : Int) - 48) ≤ 9223372036854775807
          · have HAd : Hid (∀ w : World, Calls Tryz.prog 108 #[.int .i64 (x * 10), .int .i64 ((c : Int) - 48)] w fun e w' => e = .returned (.tuple #[.int .i64 (x * 10 + ((c : Int) - 48)), .int .i64 0]) ∧ w' = w) := fun w => by
              have := ha w
              rw [smV_in (by omega) hbig2, smE_in (by omega) hbig2] at this
              exact this
            clear ha
            go_wp2_with fail
            refine (HM.out _).mono ?_
            rintro e w2 ⟨rfl, b2⟩
            have HI2 : Hid (w2.heap[w1.heap.size]? = some (.stringIter s (pos + 1))) := (b2.block _ (Array.getElem?_eq_some_iff.1 HI.out).1).trans HI.out
            have HB2 : Hid (Below w1.heap.size w1 w2) := HB.out.trans (b2.mono HB.out.size)
            clear b2 HI HB hnx
            go_wp2_with fail
            refine (HAd.out _).mono ?_
            rintro e w3 ⟨rfl, rfl⟩
            go_wp2_with fail
            go_roundw
            case rel => exact ⟨pos + 1, _, by omega, rfl, HVn.out.symm, by omega, by omega, HI2.out, HB2.out⟩
            case measure => rw [hpos0.out, iterPos_eq HI2.out]; omega
          · have HAd : Hid (∀ w : World, Calls Tryz.prog 108 #[.int .i64 (x * 10), .int .i64 ((c : Int) - 48)] w fun e w' => e = .returned (.tuple #[.int .i64 0, .int .i64 10]) ∧ w' = w) := fun w => by
              have := ha w
              rw [smV_out (by omega), smE_out (by omega)] at this
              exact this
            obtain ⟨q1, q2⟩ := num_big HD.out h0 (pos + 1) (by omega) (by rw [HVn.out]; unfold lastN; omega)
            obtain rfl : V = 0 := by rw [← hV.out, q1]
            obtain rfl : E = 10 := by rw [← hE.out, q2]
            clear ha q1 q2
            go_wp2_with fail
            refine (HM.out _).mono ?_
            rintro e w2 ⟨rfl, b2⟩
            have HB2 : Hid (Below w1.heap.size w1 w2) := HB.out.trans (b2.mono HB.out.size)
            clear b2 HI HB hnx
            go_wp2_with fail
            refine (HAd.out _).mono ?_
            rintro e w3 ⟨rfl, rfl⟩
            go_wp2_with fail
            go_ret2
            exact ⟨rfl, HB1.out.trans (HB2.out.mono HB1.out.size)⟩
        · have HM : Hid (∀ w : World, Calls Tryz.prog 107 #[.int .i64 x, .int .i64 10] w fun e w' => e = .returned (.tuple #[.int .i64 0, .int .i64 10]) ∧ Below w.heap.size w w') := fun w => by
            have := hm w
            rw [smV_out (by omega), smE_out (by omega)] at this
            exact this
          obtain ⟨q1, q2⟩ := num_big HD.out h0 (pos + 1) (by omega) (by rw [HVn.out]; unfold lastN; omega)
          obtain rfl : V = 0 := by rw [← hV.out, q1]
          obtain rfl : E = 10 := by rw [← hE.out, q2]
          clear hm q1 q2
          go_wp2_with fail
          refine (HM.out _).mono ?_
          rintro e w2 ⟨rfl, b2⟩
          have HB2 : Hid (Below w1.heap.size w1 w2) := HB.out.trans (b2.mono HB.out.size)
          clear b2 HI HB hnx
          go_wp2_with fail
          go_ret2
          exact ⟨rfl, HB1.out.trans (HB2.out.mono HB1.out.size)⟩
      · have hnx : ∀ ty, (Instr.next (.pointer (some ⟨w1.heap.size, 0, none⟩)) true ty).run Tryz.prog wr = _ := fun ty => Lib.run_next_end_at wr w1.heap.size s pos ty hit hp
        obtain rfl : pos = s.size := by omega
        obtain ⟨q1, q2⟩ := num_ok HD.out h0 (by rw [← HX.out]; exact x1)
        obtain rfl : V = x := by rw [← hV.out, q1, HX.out]
        obtain rfl : E = 0 := by rw [← hE.out, q2]
        have HB : Hid (Below w1.heap.size w1 wr) := B0
        clear B0 hit q1 q2
        go_wp2_with fail
        go_ret2
        exact ⟨rfl, HB1.out.trans (HB.out.mono HB1.out.size)⟩
  · have HA : Hid (∀ w : World, Calls Tryz.prog 106 #[.string s] w fun e w' => e = .returned (.bool false) ∧ Below w.heap.size w w') := fun w => adigits_any s false (by
      show _ = _
      symm
      rw [Bool.and_eq_false_iff]
      by_cases z : digs s = true
      · right; exact decide_eq_false (fun q => hD ⟨z, q⟩)
      · left; simpa using z) hs w
    obtain ⟨q1, q2⟩ := num_lit hD
    obtain rfl : V = 0 := by rw [← hV.out, q1]
    obtain rfl : E = 13 := by rw [← hE.out, q2]
    clear q1 q2
    unfold maxLen at hs
    go_enter Tryz.func105, Tryz.ntmps105
    go_wp2_with fail
    refine (HA.out _).mono ?_
    rintro e w1 ⟨rfl, B1⟩
    go_wp2_with fail
    go_ret2
    exact ⟨rfl, B1⟩

end Go.Proofs.YthhpdjjfbfkgiaaGreatDoor.Wrd
