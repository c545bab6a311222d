/- ReadAt, ReadSave of any text; what each reader of src tells of any field; rules, links as functions of their fields. -/
import Derived.Test.YtgnfkkcagbbhmaaGreatDoorSrMq
import Derived.Test.YtgnfkkcagbbhmaaGreatDoorNmCq
import Derived.Test.YtgnfkkcagbbhmaaGreatDoorWhnLq
import Derived.Test.YtgnfkkcagbbhmaaGreatDoorWhnIq
namespace Go.Proofs.YtgnfkkcagbbhmaaGreatDoor
open Go.RowKit Lin Sr
set_option linter.unusedVariables false

def atF (l : List UInt8) : (Int × Int) × Bool :=
  if l = [45] then ((0, 119), true)
  else if sOk l = true then (if clkV (l.dropWhile faceC) = 0 then ((0, 0), false) else ((sV l, clkV (l.dropWhile faceC)), true)) else ((0, 0), false)
def svD (l : List UInt8) : List UInt8 := Lib.trimPrefix l [45]
def svF (l : List UInt8) : Int × Bool :=
  if l = [45] then (0, true)
  else if sOk (svD l) = true ∧ (svD l).dropWhile faceC = [] then (if Lib.hasPrefix l [45] = true then -(sV (svD l)) else sV (svD l), true) else (0, false)
theorem svD_length (l : List UInt8) : (svD l).length ≤ l.length := by unfold svD Lib.trimPrefix; split <;> simp
theorem arr_toList (l : List UInt8) : (⟨l.toArray⟩ : ByteArray).toList = l := by rw [Lib.toList_data]
theorem arr_of (s : ByteArray) : (⟨s.data.toList.toArray⟩ : ByteArray) = s := by simp

theorem readAt_any (l : List UInt8) (hl : l.length ≤ 140737488351232) (w : World) :
    Calls Tryz.prog 194 #[.string ⟨l.toArray⟩] w fun e w' => e = .returned (.tuple #[.agg #[.int .i64 (atF l).1.1, .int .u8 (atF l).1.2], .int .i64 (if (atF l).2 = true then 0 else 21)]) ∧ Below w.heap.size w w' := by
  unfold atF
  by_cases h : l = [45]
  · subst h; exact rat_dash _ rfl w
  · rw [if_neg h]
    have h' : (⟨l.toArray⟩ : ByteArray).toList ≠ [45] := by rw [arr_toList]; exact h
    have SE : Hid (∀ w : World, Calls Tryz.prog 195 #[.string ⟨l.toArray⟩] w fun e w' => e = .returned (.tuple #[.int .i64 (sV l), .string ⟨(l.dropWhile faceC).toArray⟩, .bool (sOk l)]) ∧ Below w.heap.size w w') := fun w => seconds_any l hl w
    have CK : Hid (∀ w : World, Calls Tryz.prog 196 #[.string ⟨(l.dropWhile faceC).toArray⟩] w fun e w' => e = .returned (.int .u8 (clkV (l.dropWhile faceC))) ∧ Below w.heap.size w w') := fun w => by
      have := clockOf_any ⟨(l.dropWhile faceC).toArray⟩ w
      rw [arr_toList] at this
      exact this
    by_cases h2 : sOk l = true
    · rw [if_pos h2]
      rw [h2] at SE
      by_cases h3 : clkV (l.dropWhile faceC) = 0
      · rw [if_pos h3]
        rw [h3] at CK
        exact rat_no2 _ _ _ h' SE CK w
      · rw [if_neg h3]
        exact rat_yes _ _ _ _ h' h3 SE CK w
    · rw [if_neg h2]
      rw [show sOk l = false by simpa using h2] at SE
      exact rat_no1 _ _ _ _ h' SE CK w

theorem sV_bd (l : List UInt8) : 0 ≤ sV l ∧ sV l ≤ 9000000000000000000 := by
  have := ansV_bd (Clk.cForm (fc l))
  unfold sV
  constructor
  · exact Int.tdiv_nonneg this.1 (by decide)
  · have := Int.tdiv_le_self (b := 1000000) this.1; omega
theorem readSave_any (l : List UInt8) (hl : l.length ≤ 140737488351232) (w : World) :
    Calls Tryz.prog 206 #[.string ⟨l.toArray⟩] w fun e w' => e = .returned (.tuple #[.int .i64 (svF l).1, .int .i64 (if (svF l).2 = true then 0 else 21)]) ∧ Below w.heap.size w w' := by
  have hD := svD_length l
  unfold svF
  by_cases h : l = [45]
  · subst h; exact rsv_dash _ rfl w
  · rw [if_neg h]
    have h' : (⟨l.toArray⟩ : ByteArray).toList ≠ [45] := by rw [arr_toList]; exact h
    have CP : Hid (∀ w : World, Calls Tryz.prog 103 #[.string ⟨l.toArray⟩, .string ⟨#[45]⟩] w fun e w' => e = .returned (.tuple #[.string ⟨(svD l).toArray⟩, .bool (Lib.hasPrefix l [45])]) ∧ w' = w) := fun w => Tryz.strings_CutPrefix ⟨l.toArray⟩ ⟨#[45]⟩ w
    have SE : Hid (∀ w : World, Calls Tryz.prog 195 #[.string ⟨(svD l).toArray⟩] w fun e w' => e = .returned (.tuple #[.int .i64 (sV (svD l)), .string ⟨((svD l).dropWhile faceC).toArray⟩, .bool (sOk (svD l))]) ∧ Below w.heap.size w w') := fun w => seconds_any (svD l) (by omega) w
    obtain ⟨b1, b2⟩ := sV_bd (svD l)
    by_cases h2 : sOk (svD l) = true
    · rw [h2] at SE
      by_cases h3 : (svD l).dropWhile faceC = []
      · rw [if_pos ⟨h2, h3⟩]
        rw [h3] at SE
        by_cases h4 : Lib.hasPrefix l [45] = true
        · rw [if_pos h4]
          rw [h4] at CP
          exact rsv_neg _ _ _ _ h' rfl b1 b2 CP SE w
        · rw [if_neg h4]
          rw [show Lib.hasPrefix l [45] = false by simpa using h4] at CP
          exact rsv_pos _ _ _ _ h' rfl b1 b2 CP SE w
      · rw [if_neg (fun q => h3 q.2)]
        have hz : (⟨((svD l).dropWhile faceC).toArray⟩ : ByteArray).size ≠ 0 := sizeL0 h3
        by_cases h4 : Lib.hasPrefix l [45] = true
        · rw [h4] at CP; exact rsv_no2_true _ _ _ _ h' hz CP SE w
        · rw [show Lib.hasPrefix l [45] = false by simpa using h4] at CP; exact rsv_no2_false _ _ _ _ h' hz CP SE w
    · rw [if_neg (fun q => h2 q.1)]
      rw [show sOk (svD l) = false by simpa using h2] at SE
      by_cases h4 : Lib.hasPrefix l [45] = true
      · rw [h4] at CP; exact rsv_no1_true _ _ _ _ h' CP SE w
      · rw [show Lib.hasPrefix l [45] = false by simpa using h4] at CP; exact rsv_no1_false _ _ _ _ h' CP SE w

/-- a field that is read: no longer than a source. -/
def Few (s : ByteArray) : Prop := s.size ≤ 8192
theorem Few.max {s : ByteArray} (h : Few s) : s.size ≤ maxLen := by unfold Few at h; unfold maxLen; omega
theorem Few.len {s : ByteArray} (h : Few s) : s.data.toList.length ≤ 8192 := by unfold Few at h; simpa using h

def yrF (s : ByteArray) : Int × Bool := (Wrd.numV s, yearB s (Wrd.numV s) (Wrd.numE s))
def onlyT : ByteArray := ⟨#[111, 110, 108, 121]⟩
def maxT : ByteArray := ⟨#[109, 97, 120]⟩
def toF (s : ByteArray) : Int × Bool := if Wrd.sameB s onlyT = true then (0, true) else if Wrd.sameB s maxT = true then (1073741824, true) else yrF s
def moF (s : ByteArray) : Int × Bool := (Wrd.shortB s Wrd.monthsL + 1, Wrd.shortB s Wrd.monthsL + 1 != 0)
def onF (s : ByteArray) : (Int × Int × Int) × Bool := match rfO s.data.toList with
  | some (k, d, n) => if okOn k d n then ((k, d, n), true) else ((0, 0, 0), false)
  | none => ((0, 0, 0), false)
def spF (lo hi : Int) (s : ByteArray) : Int × Bool := ((svF s.data.toList).1, (svF s.data.toList).2 && decide (lo ≤ (svF s.data.toList).1) && decide ((svF s.data.toList).1 ≤ hi))
def shF (s : ByteArray) : (ByteArray × Int) × Bool :=
  if s.toList = [45] then ((⟨#[]⟩, 0), true) else if isD (s.data.toList.head?.map (·.toNat) |>.getD 0 : Nat) = true then ((⟨#[]⟩, (spF 0 7200 s).1), (spF 0 7200 s).2) else ((s, 0), nameB s)

abbrev rdNm (s : ByteArray) : Rdr := ⟨185, .agg #[], 168, s, 9, .string s, nameB s⟩
abbrev rdYr (s : ByteArray) : Rdr := ⟨186, .agg #[], 169, s, 2, .int .i64 (yrF s).1, (yrF s).2⟩
abbrev rdTo (s : ByteArray) : Rdr := ⟨187, .agg #[], 178, s, 2, .int .i64 (toF s).1, (toF s).2⟩
abbrev rdNo (s : ByteArray) : Rdr := ⟨188, .agg #[], 179, s, 9, .string s, s.toList == [45]⟩
abbrev rdMo (s : ByteArray) : Rdr := ⟨189, .agg #[], 180, s, 2, .int .i64 (moF s).1, (moF s).2⟩
abbrev rdOn (s : ByteArray) : Rdr := ⟨190, .agg #[], 185, s, 82, .agg #[.int .i64 (onF s).1.1, .int .i64 (onF s).1.2.1, .int .i64 (onF s).1.2.2], (onF s).2⟩
abbrev rdAt (s : ByteArray) : Rdr := ⟨191, .agg #[], 193, s, 83, .agg #[.int .i64 (atF s.data.toList).1.1, .int .u8 (atF s.data.toList).1.2], (atF s.data.toList).2⟩
abbrev rdSv (s : ByteArray) : Rdr := ⟨212, .agg #[.int .i64 0, .int .i64 7200], 205, s, 2, .int .i64 (spF 0 7200 s).1, (spF 0 7200 s).2⟩
abbrev rdOf (s : ByteArray) : Rdr := ⟨212, .agg #[.int .i64 (-50400), .int .i64 50400], 205, s, 2, .int .i64 (spF (-50400) 50400 s).1, (spF (-50400) 50400 s).2⟩
abbrev rdLt (s : ByteArray) : Rdr := ⟨192, .agg #[], 204, s, 9, .string (ltrO s).1, (ltrO s).2⟩
abbrev rdFm (s : ByteArray) : Rdr := ⟨179, .agg #[], 167, s, 9, .string (fmtO s).1, (fmtO s).2⟩
abbrev rdSh (s : ByteArray) : Rdr := ⟨178, .agg #[], 166, s, 183, .agg #[.string (shF s).1.1, .int .i64 (shF s).1.2], (shF s).2⟩

theorem rdNm_ok {s : ByteArray} (hs : Few s) : (rdNm s).ok := rdr_name _ _ _ _ (nameR s _ (fun w => name_full s hs.max w))
theorem year_ok {s : ByteArray} (hs : Few s) (w : World) : Calls Tryz.prog 169 #[.agg #[], .string s] w fun e w' => e = .returned (.tuple #[.iface 2 (.int .i64 (yrF s).1), .bool (yrF s).2]) ∧ Below w.heap.size w w' :=
  yearR s _ _ (fun w => Wrd.wnumber_any s _ _ rfl rfl hs.max w) w
theorem rdYr_ok {s : ByteArray} (hs : Few s) : (rdYr s).ok := rdr_year _ _ _ _ (year_ok hs)
theorem rdTo_ok {s : ByteArray} (hs : Few s) : (rdTo s).ok := rdr_to _ _ _ _ (fun w => by
  have C : Hid (∀ w : World, Calls Tryz.prog 113 #[.string s, .string ⟨#[111, 110, 108, 121]⟩] w fun e w' => e = .returned (.bool (Wrd.sameB s onlyT)) ∧ Below w.heap.size w w') := fun w => Wrd.same_any s onlyT hs.max (by unfold maxLen onlyT; decide) w
  have D : Hid (∀ w : World, Calls Tryz.prog 113 #[.string s, .string ⟨#[109, 97, 120]⟩] w fun e w' => e = .returned (.bool (Wrd.sameB s maxT)) ∧ Below w.heap.size w w') := fun w => Wrd.same_any s maxT hs.max (by unfold maxLen maxT; decide) w
  unfold toF
  by_cases h : Wrd.sameB s onlyT = true
  · rw [if_pos h]; rw [h] at C; exact toR_only s C w
  · rw [if_neg h]
    rw [show Wrd.sameB s onlyT = false by simpa using h] at C
    by_cases h2 : Wrd.sameB s maxT = true
    · rw [if_pos h2]; rw [h2] at D; exact toR_max s C D w
    · rw [if_neg h2]
      rw [show Wrd.sameB s maxT = false by simpa using h2] at D
      exact toR_year s _ _ C D (fun w => year_ok hs w) w)
theorem rdNo_ok (s : ByteArray) : (rdNo s).ok := rdr_none _ _ _ _ (noneR s)
theorem rdMo_ok {s : ByteArray} (hs : Few s) : (rdMo s).ok := rdr_month _ _ _ _ (monthR s _ (fun w => Wrd.month_any s hs.max w))
theorem rdOn_ok {s : ByteArray} (hs : Few s) : (rdOn s).ok := rdr_on _ _ _ _ (fun w => by
  have R : ∀ w : World, Calls Tryz.prog 186 #[.string s] w fun e w' => e = .returned (.tuple #[rdV s.data.toList, .int .i64 (rdE s.data.toList)]) ∧ Below w.heap.size w w' := fun w => by
    have := readOn_any s.data.toList (by have := hs.len; unfold maxLen; omega) w
    rw [arr_of] at this; exact this
  have e1 : rdV s.data.toList = .agg #[.int .i64 (onF s).1.1, .int .i64 (onF s).1.2.1, .int .i64 (onF s).1.2.2] := by
    unfold rdV onF
    cases rfO s.data.toList with
    | none => rfl
    | some t => obtain ⟨k, d, n⟩ := t; dsimp only; unfold roV; by_cases h : okOn k d n <;> simp [h, onV]
  have e2 : (rdE s.data.toList == 0) = (onF s).2 := by
    unfold rdE onF
    cases rfO s.data.toList with
    | none => rfl
    | some t => obtain ⟨k, d, n⟩ := t; dsimp only; unfold roE; by_cases h : okOn k d n <;> simp [h]
  rw [e1] at R
  have := onR s _ _ _ _ R w
  rw [e2] at this
  exact this)
theorem rdAt_ok {s : ByteArray} (hs : Few s) : (rdAt s).ok := rdr_at _ _ _ _ (fun w => by
  have R : ∀ w : World, Calls Tryz.prog 194 #[.string s] w fun e w' => e = .returned (.tuple #[.agg #[.int .i64 (atF s.data.toList).1.1, .int .u8 (atF s.data.toList).1.2], .int .i64 (if (atF s.data.toList).2 = true then 0 else 21)]) ∧ Below w.heap.size w w' := fun w => by
    have := readAt_any s.data.toList (by have := hs.len; omega) w
    rw [arr_of] at this; exact this
  have := atR s _ _ _ R w
  rw [show ((if (atF s.data.toList).2 = true then (0 : Int) else 21) == 0) = (atF s.data.toList).2 by cases (atF s.data.toList).2 <;> rfl] at this
  exact this)
theorem span_ok {s : ByteArray} (hs : Few s) (lo hi : Int) (w : World) : Calls Tryz.prog 205 #[.agg #[.int .i64 lo, .int .i64 hi], .string s] w fun e w' => e = .returned (.tuple #[.iface 2 (.int .i64 (spF lo hi s).1), .bool (spF lo hi s).2]) ∧ Below w.heap.size w w' := by
  have R : Hid (∀ w : World, Calls Tryz.prog 206 #[.string s] w fun e w' => e = .returned (.tuple #[.int .i64 (svF s.data.toList).1, .int .i64 (if (svF s.data.toList).2 = true then 0 else 21)]) ∧ Below w.heap.size w w') := fun w => by
    have := readSave_any s.data.toList (by have := hs.len; omega) w
    rw [arr_of] at this; exact this
  unfold spF
  by_cases h : (svF s.data.toList).2 = true
  · rw [if_pos h] at R
    by_cases h1 : lo ≤ (svF s.data.toList).1
    · by_cases h2 : (svF s.data.toList).1 ≤ hi
      · rw [h, decide_eq_true h1, decide_eq_true h2]; exact spanR_yes s lo hi _ 0 rfl h1 h2 R w
      · rw [h, decide_eq_true h1, decide_eq_false h2]; exact spanR_high s lo hi _ 0 rfl h1 (by omega) R w
    · rw [h, decide_eq_false h1]; exact spanR_low s lo hi _ 0 rfl (by omega) R w
  · rw [if_neg h] at R
    rw [show (svF s.data.toList).2 = false by simpa using h]
    exact spanR_err s lo hi _ 21 (by decide) R w
theorem rdSv_ok {s : ByteArray} (hs : Few s) : (rdSv s).ok := rdr_save _ _ _ _ (span_ok hs 0 7200)
theorem rdOf_ok {s : ByteArray} (hs : Few s) : (rdOf s).ok := rdr_offset _ _ _ _ (span_ok hs (-50400) 50400)
theorem rdLt_ok (s : ByteArray) : (rdLt s).ok := rdr_letter _ _ _ _ (letterR s)
theorem rdFm_ok {s : ByteArray} (hs : Few s) : (rdFm s).ok := rdr_format _ _ _ _ (formatR s hs.max)

set_option maxRecDepth 100000 in
set_option maxHeartbeats 4000000 in
theorem shiftR_empty (NA : Hid (∀ w : World, Calls Tryz.prog 15 #[.string ⟨#[]⟩] w fun e w' => e = .returned (.bool false) ∧ Below w.heap.size w w')) (w : World) :
    Calls Tryz.prog 166 #[.agg #[], .string ⟨#[]⟩] w fun e w' => e = .returned (.tuple #[.iface 183 (.agg #[.string ⟨#[]⟩, .int .i64 0]), .bool false]) ∧ Below w.heap.size w w' := by
  have h0 : ((⟨#[]⟩ : ByteArray).toList == [45]) = false := by rw [Lib.toList_data]; rfl
  have h1 : ((⟨#[]⟩ : ByteArray).toList == ([] : List UInt8)) = true := by rw [Lib.toList_data]; rfl
  have h2 : ((⟨#[]⟩ : ByteArray).toList != ([] : List UInt8)) = false := by rw [Lib.toList_data]; rfl
  go_enter Tryz.func166, Tryz.ntmps166
  go_wp2_with fail
  refine (NA.out _).mono ?_
  rintro e w1 ⟨rfl, hb⟩
  go_wp2
  go_ret2
  exact ⟨rfl, NBs hb⟩
theorem rdSh_ok {s : ByteArray} (hs : Few s) : (rdSh s).ok := rdr_shift _ _ _ _ (fun w => by
  have NA : Hid (∀ w : World, Calls Tryz.prog 15 #[.string s] w fun e w' => e = .returned (.bool (nameB s)) ∧ Below w.heap.size w w') := fun w => name_full s hs.max w
  unfold shF
  by_cases h : s.toList = [45]
  · rw [if_pos h]
    have : s = ⟨#[45]⟩ := by rw [Lib.toList_data] at h; exact ByteArray.ext (by apply Array.toList_inj.1; exact h)
    subst this
    exact shiftR_dash w
  · rw [if_neg h]
    by_cases h0 : 0 < s.size
    · have hh : (s.data.toList.head?.map (·.toNat) |>.getD 0) = (s[0]'h0).toNat := by
        have hl : 0 < s.data.toList.length := by simpa using h0
        rw [List.head?_eq_getElem?, List.getElem?_eq_getElem hl]; simp [ByteArray.getElem_eq_getElem_data]
      rw [hh]
      by_cases h1 : isD ((s[0]'h0).toNat : Int) = true
      · rw [if_pos h1]
        exact shiftR_dig s h0 h h1 _ _ (fun w => span_ok hs 0 7200 w) w
      · rw [if_neg h1]
        exact shiftR_name s h0 h (by simpa using h1) _ NA w
    · have : s = ⟨#[]⟩ := by
        apply ByteArray.ext
        apply Array.toList_inj.1
        have : s.data.toList.length = 0 := by rw [Array.length_toList]; show s.size = 0; omega
        exact List.eq_nil_of_length_eq_zero this
      subst this
      rw [if_neg (by decide)]
      have hb : nameB (⟨#[]⟩ : ByteArray) = false := by decide
      rw [hb] at NA ⊢
      exact shiftR_empty NA w)

end Go.Proofs.YtgnfkkcagbbhmaaGreatDoor
