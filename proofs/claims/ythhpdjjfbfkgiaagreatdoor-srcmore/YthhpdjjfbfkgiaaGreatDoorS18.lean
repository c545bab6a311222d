import Derived.Test.YthhpdjjfbfkgiaaGreatDoorS15
import Derived.Test.YthhpdjjfbfkgiaaGreatDoorS6
import Derived.Test.YthhpdjjfbfkgiaaGreatDoorS17
import Derived.Test.YthhpdjjfbfkgiaaGreatDoorProg
import Derived.OwnWalk
import Derived.Laws.OwnMore
import Derived.WalkKit
import Derived.Maps.OwnIn
import Derived.Maps.AppendAt
import Derived.RangeFuncNested
/- What a source's lines say, as a function of their fields: rules, eras, zones, links, and the parser's state line by line. -/
namespace Go.Proofs.YthhpdjjfbfkgiaaGreatDoor
open Go.RowKit Lin Sr
set_option linter.unusedVariables false

/-- a rule; its eleven cells. -/
structure RuleT where
  nm : ByteArray
  fr : Int
  tt : Int
  mo : Int
  oa : Int
  ob : Int
  oc : Int
  ta : Int
  tz : Int
  sv : Int
  lt : ByteArray
def RuleT.cs (r : RuleT) : List Value := [.string r.nm, .int .i64 r.fr, .int .i64 r.tt, .int .i64 r.mo, .int .i64 r.oa, .int .i64 r.ob, .int .i64 r.oc, .int .i64 r.ta, .int .u8 r.tz, .int .i64 r.sv, .string r.lt]
/-- an UNTIL; its seven cells. -/
structure UntT where
  y : Int
  mo : Int
  oa : Int
  ob : Int
  oc : Int
  ta : Int
  tz : Int
def UntT.cs (u : UntT) : List Value := [.int .i64 u.y, .int .i64 u.mo, .int .i64 u.oa, .int .i64 u.ob, .int .i64 u.oc, .int .i64 u.ta, .int .u8 u.tz]
/-- an era; its eleven cells. -/
structure EraT where
  off : Int
  rl : ByteArray
  sv : Int
  fm : ByteArray
  u : UntT
def EraT.cs (e : EraT) : List Value := [.int .i64 e.off, .string e.rl, .int .i64 e.sv, .string e.fm, .int .i64 e.u.y, .int .i64 e.u.mo, .int .i64 e.u.oa, .int .i64 e.u.ob, .int .i64 e.u.oc, .int .i64 e.u.ta, .int .u8 e.u.tz]

def janT : ByteArray := ⟨#[74, 97, 110]⟩
def oneT' : ByteArray := ⟨#[49]⟩
def zeroT : ByteArray := ⟨#[48]⟩

def ruleOf (f0 f1 f2 f5' f5 f6 f7 f8 : ByteArray) : RuleT :=
  ⟨f0, (yrF f1).1, (if (toF f2).1 = 0 then (yrF f1).1 else (toF f2).1), (moF f5').1, (onF f5).1.1, (onF f5).1.2.1, (onF f5).1.2.2, (atF f6.data.toList).1.1, (atF f6.data.toList).1.2, (spF 0 7200 f7).1, (ltrO f8).1⟩
def ruleOk (f0 f1 f2 f3 f4 f5 f6 f7 f8 : ByteArray) : Bool := nameB f0 && (yrF f1).2 && (toF f2).2 && (f3.toList == [45]) && (moF f4).2 && (onF f5).2 && (atF f6.data.toList).2 && (spF 0 7200 f7).2 && (ltrO f8).2
def ruleF : List ByteArray → Option RuleT
  | [f0, f1, f2, f3, f4, f5, f6, f7, f8] =>
    if ruleOk f0 f1 f2 f3 f4 f5 f6 f7 f8 = true then
      (if (yrF f1).1 ≤ (if (toF f2).1 = 0 then (yrF f1).1 else (toF f2).1) then some (ruleOf f0 f1 f2 f4 f5 f6 f7 f8) else none)
    else none
  | _ => none
def zUnt : UntT := ⟨0, 0, 0, 0, 0, 0, 0⟩
def untOk (a b c d : ByteArray) : Bool := (yrF a).2 && (moF b).2 && (onF c).2 && (atF d.data.toList).2
def untOf (a b c d : ByteArray) : UntT := ⟨(yrF a).1, (moF b).1, (onF c).1.1, (onF c).1.2.1, (onF c).1.2.2, (atF d.data.toList).1.1, (atF d.data.toList).1.2⟩
def unt4 (a b c d : ByteArray) : Option UntT := if untOk a b c d = true then some (untOf a b c d) else none
def untF : List ByteArray → Option UntT
  | [] => some zUnt
  | [a] => unt4 a janT oneT' zeroT
  | [a, b] => unt4 a b oneT' zeroT
  | [a, b, c] => unt4 a b c zeroT
  | [a, b, c, d] => unt4 a b c d
  | _ => none
def eraOk (f0 f1 f2 : ByteArray) : Bool := (spF (-50400) 50400 f0).2 && (shF f1).2 && (fmtO f2).2
def eraOf (f0 f1 f2 : ByteArray) (u : UntT) : EraT := ⟨(spF (-50400) 50400 f0).1, (shF f1).1.1, (shF f1).1.2, (fmtO f2).1, u⟩
def eraF : List ByteArray → Option EraT
  | f0 :: f1 :: f2 :: r => match untF r with
    | none => none
    | some u => if eraOk f0 f1 f2 = true then some (eraOf f0 f1 f2 u) else none
  | _ => none
def zoneF : List ByteArray → Option (ByteArray × EraT)
  | [] => none
  | f :: r => match eraF r with
    | none => none
    | some e => if nameB f = true then some (f, e) else none
def linkF : List ByteArray → Option (ByteArray × ByteArray)
  | [a, b] => if (nameB a && nameB b) = true then some (a, b) else none
  | _ => none

/-- what is read so far. -/
structure PSt where
  rules : List RuleT
  zones : List (ByteArray × List EraT)
  links : List (ByteArray × ByteArray)
  eras : List (Int × ByteArray)
  op : Bool
  dn : Nat
  cnt : ByteArray → Int
def pst0 : PSt := ⟨[], [], [], [], false, 0, fun _ => 0⟩
def takenB (S : PSt) (s : ByteArray) : Bool := S.zones.any (fun z => Wrd.sameB z.1 s) || S.links.any (fun l => Wrd.sameB l.2 s)
def addE : List (ByteArray × List EraT) → EraT → List (ByteArray × List EraT)
  | [], _ => []
  | [z], e => [(z.1, z.2 ++ [e])]
  | z :: l, e => z :: addE l e
def addF (S : PSt) (n : Int) (e : EraT) : PSt := { S with zones := addE S.zones e, eras := S.eras ++ [(n, e.rl)], op := e.u.y != 0 }
def tkRule (S : PSt) (F : List ByteArray) : Sum Int PSt := match ruleF F with
  | none => .inl 21
  | some r => if S.cnt r.nm = 16 ∨ (S.cnt r.nm = 0 ∧ S.dn = 16) then .inl 3
    else .inr { S with rules := S.rules ++ [r], dn := if S.cnt r.nm = 0 then S.dn + 1 else S.dn, cnt := fun k => if k = r.nm then S.cnt r.nm + 1 else S.cnt k }
def tkZone (S : PSt) (n : Int) (F : List ByteArray) : Sum Int PSt := match zoneF F with
  | none => .inl 21
  | some (nm, e) => if S.zones.length = 16 then .inl 3 else if takenB S nm = true then .inl 23 else .inr (addF { S with zones := S.zones ++ [(nm, [])] } n e)
def tkOn (S : PSt) (n : Int) (F : List ByteArray) : Sum Int PSt := match eraF F with
  | none => .inl 21
  | some e => if (S.zones.getLast?.map (·.2.length)).getD 0 = 12 then .inl 3 else .inr (addF S n e)
def tkLink (S : PSt) (F : List ByteArray) : Sum Int PSt := match linkF F with
  | none => .inl 21
  | some k => if S.links.length = 16 then .inl 3 else if takenB S k.2 = true then .inl 23 else .inr { S with links := S.links ++ [k] }
def ruleT' : ByteArray := ⟨#[82, 117, 108, 101]⟩
def zoneT' : ByteArray := ⟨#[90, 111, 110, 101]⟩
def linkT' : ByteArray := ⟨#[76, 105, 110, 107]⟩
def tkF (S : PSt) (n : Int) (F : List ByteArray) : Sum Int PSt :=
  if S.op = true then tkOn S n F
  else match F with
    | [] => .inl 21
    | f :: r => if Wrd.sameB f ruleT' = true then tkRule S r else if Wrd.sameB f zoneT' = true then tkZone S n r else if Wrd.sameB f linkT' = true then tkLink S r else .inl 21
/-- all lines. -/
def runP : PSt → List Lne → Sum (Int × Int) PSt
  | S, [] => .inr S
  | S, l :: L => match tkF S l.1 l.2 with
    | .inl e => .inl (l.1, e)
    | .inr S' => runP S' L
def lostF (S : PSt) : Int := match S.eras.find? (fun e => e.2.size != 0 && (S.cnt e.2 == 0)) with
  | none => 0
  | some e => e.1
/-- what Parse answers: the line and the error, or all that was read. -/
def parseP (s : ByteArray) : Sum (Int × Int) PSt := match lnsS s with
  | .inl a => .inl a
  | .inr L => match runP pst0 L with
    | .inl a => .inl a
    | .inr S => if S.op = true then .inl ((L.getLast?.map (·.1)).getD 0, 21) else if 0 < lostF S then .inl (lostF S, 23) else .inr S

end Go.Proofs.YthhpdjjfbfkgiaaGreatDoor
/- Contracts put together: readRule, readLink, readUntil, readEra of any fields. -/
namespace Go.Proofs.YthhpdjjfbfkgiaaGreatDoor
open Go.RowKit Sr
set_option linter.unusedVariables false

theorem rdL_none : ∀ (rs : List Rdr) (acc : List Value), rs.all (·.b) = false → rdL rs acc = none
  | [], acc, h => by simp at h
  | r :: l, acc, h => by
    unfold rdL
    by_cases hb : r.b = true
    · rw [if_pos hb]
      exact rdL_none l _ (by simpa [List.all_cons, hb] using h)
    · rw [if_neg hb]
/-- fields as they lie in memory, from an address on. -/
def FdAt (w : World) (g o : Nat) (F : List ByteArray) : Prop := ∀ j x, F[j]? = some x → w.cell? ⟨g, o + j, none⟩ = some (.string x)
theorem FdAt.below {w w1 : World} {g o : Nat} {F : List ByteArray} (h : FdAt w g o F) (hg : g < w.heap.size) (hb : Below w.heap.size w w1) : FdAt w1 g o F := fun j x hj => (hb.cell (p := ⟨g, o + j, none⟩) hg).trans (h j x hj)
theorem FdAt.tail {w : World} {g o : Nat} {f : ByteArray} {F : List ByteArray} (h : FdAt w g o (f :: F)) : FdAt w g (o + 1) F := fun j x hj => by
  have := h (j + 1) x (by simpa using hj)
  rwa [show o + (j + 1) = o + 1 + j by omega] at this
/-- the same, where there is a field at all. -/
def FdA (w : World) (a : Option Addr) (F : List ByteArray) : Prop := F ≠ [] → ∃ g o, a = some ⟨g, o, none⟩ ∧ g < w.heap.size ∧ FdAt w g o F
theorem FdA.below {w w1 : World} {a : Option Addr} {F : List ByteArray} (h : FdA w a F) (hb : Below w.heap.size w w1) : FdA w1 a F := fun hn => by
  obtain ⟨g, o, e, hg, H⟩ := h hn
  exact ⟨g, o, e, Nat.lt_of_lt_of_le hg hb.size, H.below hg hb⟩
theorem FdAt.drop {w : World} {g o : Nat} : ∀ (n : Nat) {F : List ByteArray}, FdAt w g o F → FdAt w g (o + n) (F.drop n) := fun n F h j x hj => by
  rw [List.getElem?_drop] at hj
  have := h (n + j) x hj
  rwa [show o + (n + j) = o + n + j by omega] at this
/-- the fields behind the first n. -/
theorem FdAt.cut {w : World} {g o : Nat} {F : List ByteArray} (h : FdAt w g o F) (hg : g < w.heap.size) (n c : Nat) (hc : F.length ≤ c) {A : Option Addr} (hA : (if c = n then some (⟨g, o, none⟩ : Addr) else some ⟨g, o + n, none⟩) = A) : FdA w A (F.drop n) := fun hn => by
  have hl : n < F.length := by
    by_cases q : n < F.length
    · exact q
    · exact absurd (List.drop_eq_nil_of_le (by omega)) hn
  rw [if_neg (by omega)] at hA
  exact ⟨g, o + n, hA.symm, hg, h.drop n⟩
theorem FdAt.rd {w : World} {g o : Nat} {F : List ByteArray} (h : FdAt w g o F) (rs : List Rdr) (hm : F = rs.map (·.f)) : ∀ j r, rs[j]? = some r → w.cell? ⟨g, o + j, none⟩ = some (.string r.f) := fun j r hj => h j r.f (by rw [hm, List.getElem?_map, hj]; rfl)

def zRuleT : RuleT := ⟨⟨#[]⟩, 0, 0, 0, 0, 0, 0, 0, 0, 0, ⟨#[]⟩⟩
theorem ruleF_len {F : List ByteArray} (h : F.length ≠ 9) : ruleF F = none := by
  unfold ruleF
  split
  · exact absurd rfl h
  · rfl
theorem nine {F : List ByteArray} (h : F.length = 9) : ∃ f0 f1 f2 f3 f4 f5 f6 f7 f8, F = [f0, f1, f2, f3, f4, f5, f6, f7, f8] := by
  match F, h with
  | [f0, f1, f2, f3, f4, f5, f6, f7, f8], _ => exact ⟨_, _, _, _, _, _, _, _, _, rfl⟩
theorem readRule_any (F : List ByteArray) (hF : ∀ f ∈ F, Few f) : ∃ (r : RuleT) (b : Bool), ruleF F = (if b = true then some r else none) ∧
    ∀ (a : Option Addr) (c : Nat) (w : World), F.length ≤ c → FdA w a F →
      Calls Tryz.prog 30 #[.slice a F.length c] w fun e w' => e = .returned (.tuple #[.agg #[.string r.nm, .int .i64 r.fr, .int .i64 r.tt, .int .i64 r.mo, .int .i64 r.oa, .int .i64 r.ob, .int .i64 r.oc, .int .i64 r.ta, .int .u8 r.tz, .int .i64 r.sv, .string r.lt], .bool b]) ∧ Below w.heap.size w w' := by
  by_cases h9 : F.length = 9
  · obtain ⟨f0, f1, f2, f3, f4, f5, f6, f7, f8, rfl⟩ := nine h9
    simp only [List.forall_mem_cons] at hF
    obtain ⟨h0, h1, h2, h3, h4, h5, h6, h7, h8, -⟩ := hF
    have HK : ∀ r ∈ [rdNm f0, rdYr f1, rdTo f2, rdNo f3, rdMo f4, rdOn f5, rdAt f6, rdSv f7, rdLt f8], r.ok := by
      simp only [List.forall_mem_cons]
      exact ⟨rdNm_ok h0, rdYr_ok h1, rdTo_ok h2, rdNo_ok f3, rdMo_ok h4, rdOn_ok h5, rdAt_ok h6, rdSv_ok h7, rdLt_ok f8, fun r hr => by cases hr⟩
    have hm : [f0, f1, f2, f3, f4, f5, f6, f7, f8] = [rdNm f0, rdYr f1, rdTo f2, rdNo f3, rdMo f4, rdOn f5, rdAt f6, rdSv f7, rdLt f8].map (·.f) := rfl
    by_cases hok : ruleOk f0 f1 f2 f3 f4 f5 f6 f7 f8 = true
    · refine ⟨ruleOf f0 f1 f2 f4 f5 f6 f7 f8, decide ((yrF f1).1 ≤ (if (toF f2).1 = 0 then (yrF f1).1 else (toF f2).1)), ?_, fun a c w hc HA => ?_⟩
      · simp only [ruleF, if_pos hok, decide_eq_true_eq]
      · obtain ⟨g, o, rfl, hg, H⟩ := HA (by simp)
        have hok2 := hok
        simp only [ruleOk, Bool.and_eq_true] at hok2
        obtain ⟨⟨⟨⟨⟨⟨⟨⟨b0, b1⟩, b2⟩, b3⟩, b4⟩, b5⟩, b6⟩, b7⟩, b8⟩ := hok2
        refine readRule_yes _ f0 f1 f2 f3 f4 f5 f6 f7 f8 (yrF f1).1 (toF f2).1 (moF f4).1 (onF f5).1.1 (onF f5).1.2.1 (onF f5).1.2.2 (atF f6.data.toList).1.1 (atF f6.data.toList).1.2 (spF 0 7200 f7).1 (ltrO f8).1 (?_ : Hid (_ = _)) HK g o c w hg hc (H.rd _ hm)
        show [rdNm f0, rdYr f1, rdTo f2, rdNo f3, rdMo f4, rdOn f5, rdAt f6, rdSv f7, rdLt f8] = _
        simp only [rdNm, rdYr, rdTo, rdNo, rdMo, rdOn, rdAt, rdSv, rdLt, b0, b1, b2, b3, b4, b5, b6, b7, b8]
    · refine ⟨zRuleT, false, ?_, fun a c w hc HA => ?_⟩
      · simp only [ruleF, if_neg hok]; rfl
      · obtain ⟨g, o, rfl, hg, H⟩ := HA (by simp)
        exact readRule_no _ f0 f1 f2 f3 f4 f5 f6 f7 f8 (yrF f1).1 (toF f2).1 (moF f4).1 (onF f5).1.1 (onF f5).1.2.1 (onF f5).1.2.2 (atF f6.data.toList).1.1 (atF f6.data.toList).1.2 (spF 0 7200 f7).1 (ltrO f8).1 (nameB f0) (yrF f1).2 (toF f2).2 (f3.toList == [45]) (moF f4).2 (onF f5).2 (atF f6.data.toList).2 (spF 0 7200 f7).2 (ltrO f8).2 rfl HK
          (rdL_none _ _ (by simp only [List.all_cons, List.all_nil, Bool.and_true]; rw [Bool.not_eq_true] at hok; rw [← hok]; simp only [ruleOk, Bool.and_assoc])) g o c w hg hc (H.rd _ hm)
  · refine ⟨zRuleT, false, by rw [ruleF_len h9]; rfl, fun a c w hc HA => ?_⟩
    exact readRule_len _ _ c h9 w

theorem linkF_len {F : List ByteArray} (h : F.length ≠ 2) : linkF F = none := by
  unfold linkF
  split
  · exact absurd rfl h
  · rfl
theorem readLink_any (F : List ByteArray) (hF : ∀ f ∈ F, Few f) : ∃ (r : ByteArray × ByteArray) (b : Bool), linkF F = (if b = true then some r else none) ∧
    ∀ (a : Option Addr) (c : Nat) (w : World), F.length ≤ c → FdA w a F →
      Calls Tryz.prog 33 #[.slice a F.length c] w fun e w' => e = .returned (.tuple #[.agg #[.string r.1, .string r.2], .bool b]) ∧ Below w.heap.size w w' := by
  by_cases h2 : F.length = 2
  · obtain ⟨f0, f1, rfl⟩ : ∃ f0 f1, F = [f0, f1] := by
      match F, h2 with
      | [f0, f1], _ => exact ⟨_, _, rfl⟩
    simp only [List.forall_mem_cons] at hF
    obtain ⟨h0, h1, -⟩ := hF
    have HK : ∀ r ∈ [rdNm f0, rdNm f1], r.ok := by
      simp only [List.forall_mem_cons]
      exact ⟨rdNm_ok h0, rdNm_ok h1, fun r hr => by cases hr⟩
    have hm : [f0, f1] = [rdNm f0, rdNm f1].map (·.f) := rfl
    by_cases hok : (nameB f0 && nameB f1) = true
    · refine ⟨(f0, f1), true, by simp only [linkF, if_pos hok]; rfl, fun a c w hc HA => ?_⟩
      obtain ⟨g, o, rfl, hg, H⟩ := HA (by simp)
      have hok2 := hok
      simp only [Bool.and_eq_true] at hok2
      refine readLink_yes _ f0 f1 (?_ : Hid (_ = _)) HK g o c w hg hc (H.rd _ hm)
      show [rdNm f0, rdNm f1] = _
      simp only [rdNm, hok2.1, hok2.2]
    · refine ⟨(⟨#[]⟩, ⟨#[]⟩), false, by simp only [linkF, if_neg hok]; rfl, fun a c w hc HA => ?_⟩
      obtain ⟨g, o, rfl, hg, H⟩ := HA (by simp)
      exact readLink_no _ f0 f1 (nameB f0) (nameB f1) rfl (rdL_none _ _ (by simp only [List.all_cons, List.all_nil, Bool.and_true]; rw [Bool.not_eq_true] at hok; exact hok)) HK g o c w hg hc (H.rd _ hm)
  · exact ⟨(⟨#[]⟩, ⟨#[]⟩), false, by rw [linkF_len h2]; rfl, fun a c w hc HA => readLink_len _ _ c h2 w⟩

theorem unt_four {F : List ByteArray} {a b c d : ByteArray} (h1 : 1 ≤ F.length) (h4 : F.length ≤ 4) (hfill : F ++ ([⟨#[]⟩, ⟨#[74, 97, 110]⟩, ⟨#[49]⟩, ⟨#[48]⟩] : List ByteArray).drop F.length = [a, b, c, d]) (ha : Few a) (hb : Few b) (hc : Few c) (hd : Few d) (hu : untF F = unt4 a b c d) :
    ∃ (u : UntT) (b : Bool), untF F = (if b = true then some u else none) ∧ (b = false → u = zUnt) ∧
    ∀ (a : Option Addr) (c : Nat) (w : World), F.length ≤ c → FdA w a F →
      Calls Tryz.prog 45 #[.slice a F.length c] w fun e w' => e = .returned (.tuple #[.agg #[.int .i64 u.y, .int .i64 u.mo, .int .i64 u.oa, .int .i64 u.ob, .int .i64 u.oc, .int .i64 u.ta, .int .u8 u.tz], .bool b]) ∧ Below w.heap.size w w' := by
  have HK : ∀ r ∈ [rdYr a, rdMo b, rdOn c, rdAt d], r.ok := by
    simp only [List.forall_mem_cons]
    exact ⟨rdYr_ok ha, rdMo_ok hb, rdOn_ok hc, rdAt_ok hd, fun r hr => by cases hr⟩
  by_cases hok : untOk a b c d = true
  · refine ⟨untOf a b c d, true, by rw [hu, unt4, if_pos hok]; rfl, (fun h => by cases h), fun a' cp w hcp HA => ?_⟩
    obtain ⟨g, o, rfl, hg, H⟩ := HA (fun e => by rw [e] at h1; simp at h1)
    have hok2 := hok
    simp only [untOk, Bool.and_eq_true] at hok2
    obtain ⟨⟨⟨b0, b1⟩, b2⟩, b3⟩ := hok2
    refine readUntil_yes F a b c d (yrF a).1 (moF b).1 (onF c).1.1 (onF c).1.2.1 (onF c).1.2.2 (atF d.data.toList).1.1 (atF d.data.toList).1.2 [rdYr a, rdMo b, rdOn c, rdAt d] (?_ : Hid (_ = _)) HK h1 h4 hfill g o cp w hg hcp H
    show [rdYr a, rdMo b, rdOn c, rdAt d] = _
    simp only [rdYr, rdMo, rdOn, rdAt, b0, b1, b2, b3]
  · refine ⟨zUnt, false, by rw [hu, unt4, if_neg hok]; rfl, fun _ => rfl, fun a' cp w hcp HA => ?_⟩
    obtain ⟨g, o, rfl, hg, H⟩ := HA (fun e => by rw [e] at h1; simp at h1)
    exact readUntil_no F a b c d (yrF a).1 (moF b).1 (onF c).1.1 (onF c).1.2.1 (onF c).1.2.2 (atF d.data.toList).1.1 (atF d.data.toList).1.2 (yrF a).2 (moF b).2 (onF c).2 (atF d.data.toList).2 _ rfl HK
      (rdL_none _ _ (by simp only [List.all_cons, List.all_nil, Bool.and_true]; rw [Bool.not_eq_true] at hok; rw [← hok]; simp only [untOk, Bool.and_assoc])) h1 h4 hfill g o cp w hg hcp H
theorem few_jan : Few janT := by unfold Few janT; decide
theorem few_one : Few oneT' := by unfold Few oneT'; decide
theorem few_zero : Few zeroT := by unfold Few zeroT; decide
theorem readUntil_any (F : List ByteArray) (hF : ∀ f ∈ F, Few f) : ∃ (u : UntT) (b : Bool), untF F = (if b = true then some u else none) ∧ (b = false → u = zUnt) ∧
    ∀ (a : Option Addr) (c : Nat) (w : World), F.length ≤ c → FdA w a F →
      Calls Tryz.prog 45 #[.slice a F.length c] w fun e w' => e = .returned (.tuple #[.agg #[.int .i64 u.y, .int .i64 u.mo, .int .i64 u.oa, .int .i64 u.ob, .int .i64 u.oc, .int .i64 u.ta, .int .u8 u.tz], .bool b]) ∧ Below w.heap.size w w' := by
  match F, hF with
  | [], _ => exact ⟨zUnt, true, rfl, (fun h => by cases h), fun a c w hc HA => readUntil_none _ c w⟩
  | [a], hF => exact unt_four (b := janT) (c := oneT') (d := zeroT) (by simp) (by simp) rfl (hF a (by simp)) few_jan few_one few_zero rfl
  | [a, b], hF => exact unt_four (c := oneT') (d := zeroT) (by simp) (by simp) rfl (hF a (by simp)) (hF b (by simp)) few_one few_zero rfl
  | [a, b, c], hF => exact unt_four (d := zeroT) (by simp) (by simp) rfl (hF a (by simp)) (hF b (by simp)) (hF c (by simp)) few_zero rfl
  | [a, b, c, d], hF => exact unt_four (by simp) (by simp) rfl (hF a (by simp)) (hF b (by simp)) (hF c (by simp)) (hF d (by simp)) rfl
  | a :: b :: c :: d :: x :: l, hF => exact ⟨zUnt, false, rfl, fun _ => rfl, fun a' cp w hc HA => readUntil_many _ _ cp (by simp) w⟩

def zEraT : EraT := ⟨0, ⟨#[]⟩, 0, ⟨#[]⟩, zUnt⟩
theorem readEra_any (F : List ByteArray) (hF : ∀ f ∈ F, Few f) : ∃ (r : EraT) (b : Bool), eraF F = (if b = true then some r else none) ∧ (b = false → r = zEraT) ∧
    ∀ (a : Option Addr) (c : Nat) (w : World), F.length ≤ c → FdA w a F →
      Calls Tryz.prog 27 #[.slice a F.length c] w fun e w' => e = .returned (.tuple #[.agg #[.int .i64 r.off, .string r.rl, .int .i64 r.sv, .string r.fm, .int .i64 r.u.y, .int .i64 r.u.mo, .int .i64 r.u.oa, .int .i64 r.u.ob, .int .i64 r.u.oc, .int .i64 r.u.ta, .int .u8 r.u.tz], .bool b]) ∧ Below w.heap.size w w' := by
  match F, hF with
  | [], _ => exact ⟨zEraT, false, rfl, fun _ => rfl, fun a c w hc HA => readEra_len _ _ c (by simp) w⟩
  | [a], hF => exact ⟨zEraT, false, rfl, fun _ => rfl, fun a c w hc HA => readEra_len _ _ c (by simp) w⟩
  | [a, b], hF => exact ⟨zEraT, false, rfl, fun _ => rfl, fun a c w hc HA => readEra_len _ _ c (by simp) w⟩
  | f0 :: f1 :: f2 :: R, hF =>
    simp only [List.forall_mem_cons] at hF
    obtain ⟨h0, h1, h2, hR⟩ := hF
    obtain ⟨u, bu, hu, hz, HU⟩ := readUntil_any R hR
    have HK : ∀ r ∈ [rdOf f0, rdSh f1, rdFm f2], r.ok := by
      simp only [List.forall_mem_cons]
      exact ⟨rdOf_ok h0, rdSh_ok h1, rdFm_ok h2, fun r hr => by cases hr⟩
    have UR : ∀ (A : Option Addr) (cp : Nat) (w : World), R.length + 3 ≤ cp → FdA w A R → ∀ W : World, Below w.heap.size w W → Calls Tryz.prog 45 #[.slice A R.length (cp - 3)] W fun e W' => e = .returned (.tuple #[.agg #[.int .i64 u.y, .int .i64 u.mo, .int .i64 u.oa, .int .i64 u.ob, .int .i64 u.oc, .int .i64 u.ta, .int .u8 u.tz], .bool bu]) ∧ Below W.heap.size W W' :=
      fun A cp w hc H W hb => HU A (cp - 3) W (by omega) (H.below hb)
    have HD : ∀ (g o : Nat) (w : World), FdAt w g o (f0 :: f1 :: f2 :: R) → ∀ j r, [rdOf f0, rdSh f1, rdFm f2][j]? = some r → w.cell? ⟨g, o + j, none⟩ = some (.string r.f) := fun g o w H j r hj => H j r.f (by
      match j, hj with
      | 0, hj => cases hj; rfl
      | 1, hj => cases hj; rfl
      | 2, hj => cases hj; rfl
      | j + 3, hj => simp at hj)
    by_cases hok : eraOk f0 f1 f2 = true
    · have hok2 := hok
      simp only [eraOk, Bool.and_eq_true] at hok2
      obtain ⟨⟨b0, b1⟩, b2⟩ := hok2
      have hrs : [rdOf f0, rdSh f1, rdFm f2] = [⟨152, .agg #[.int .i64 (-50400), .int .i64 50400], 140, f0, 2, .int .i64 (spF (-50400) 50400 f0).1, true⟩, ⟨127, .agg #[], 94, f1, 132, .agg #[.string (shF f1).1.1, .int .i64 (shF f1).1.2], true⟩, ⟨128, .agg #[], 102, f2, 9, .string (fmtO f2).1, true⟩] := by
        simp only [rdOf, rdSh, rdFm, b0, b1, b2]
      cases bu with
      | true =>
        refine ⟨eraOf f0 f1 f2 u, true, by simp only [eraF, hu, if_pos hok]; rfl, (fun h => by cases h), fun a cp w hc HA => ?_⟩
        obtain ⟨g, o, rfl, hg, H⟩ := HA (by simp)
        exact readEra_yes f0 f1 f2 (shF f1).1.1 (fmtO f2).1 (spF (-50400) 50400 f0).1 (shF f1).1.2 u.y u.mo u.oa u.ob u.oc u.ta u.tz _ hrs HK R.length g o cp w hg hc (HD g o w H) _ rfl (UR _ cp w hc (H.cut hg 3 cp hc rfl))
      | false =>
        refine ⟨zEraT, false, by simp only [eraF, hu]; rfl, fun _ => rfl, fun a cp w hc HA => ?_⟩
        obtain ⟨g, o, rfl, hg, H⟩ := HA (by simp)
        exact readEra_no2 f0 f1 f2 (shF f1).1.1 (fmtO f2).1 (spF (-50400) 50400 f0).1 (shF f1).1.2 u.y u.mo u.oa u.ob u.oc u.ta u.tz _ hrs HK R.length g o cp w hg hc (HD g o w H) _ rfl (UR _ cp w hc (H.cut hg 3 cp hc rfl))
    · refine ⟨zEraT, false, ?_, fun _ => rfl, fun a cp w hc HA => ?_⟩
      · cases bu <;> simp [eraF, hu, hok]
      · obtain ⟨g, o, rfl, hg, H⟩ := HA (by simp)
        exact readEra_no1 f0 f1 f2 (shF f1).1.1 (fmtO f2).1 (spF (-50400) 50400 f0).1 (shF f1).1.2 u.y u.mo u.oa u.ob u.oc u.ta u.tz (spF (-50400) 50400 f0).2 (shF f1).2 (fmtO f2).2 bu _ rfl HK
          (rdL_none _ _ (by simp only [List.all_cons, List.all_nil, Bool.and_true]; rw [Bool.not_eq_true] at hok; rw [← hok]; simp only [eraOk, Bool.and_assoc])) R.length g o cp w hg hc (HD g o w H) _ rfl (UR _ cp w hc (H.cut hg 3 cp hc rfl))

end Go.Proofs.YthhpdjjfbfkgiaaGreatDoor
/- A family of rows of a call's own, each apart from the others: one grows, one is more, a cell is written. -/
namespace Go.Proofs.YthhpdjjfbfkgiaaGreatDoor
open Go.RowKit
set_option linter.unusedVariables false

/-- a row: its elements' type, an element's cells, the slice, how many, all cells. -/
structure PRow where
  t : TypeId
  z : Nat
  v : Value
  n : Nat
  xs : List Value
abbrev PRow.new (t : TypeId) (z : Nat) : PRow := ⟨t, z, .slice none 0 0, 0, []⟩

/-- all these rows lie in blocks from B on, each in one of its own. -/
def Fam (B : Nat) (V : World) (L : List PRow) : Prop :=
  (∀ r ∈ L, V.ownsRow B r.t r.z r.v r.n r.xs) ∧ ∀ (i j : Nat) (r s : PRow), L[i]? = some r → L[j]? = some s → i ≠ j → ∀ c, r.v.ownBlock = some c → s.v.ownBlock ≠ some c

theorem own_ltP {w : World} {base : Nat} {e : TypeId} {size : Nat} {v : Value} {n : Nat} {xs : List Value} (h : w.ownsRow base e size v n xs) {c : Nat} (hc : v.ownBlock = some c) : base ≤ c ∧ c < w.heap.size := by
  rcases h.2 with ⟨rfl, _⟩ | ⟨g, cap, cur, rfl, h1, h2, _⟩
  · cases hc
  · cases hc; exact ⟨h1, (Array.getElem?_eq_some_iff.1 h2).1⟩
theorem own_keepP {w W : World} {base : Nat} {e : TypeId} {size : Nat} {v : Value} {n : Nat} {xs : List Value} (h : w.ownsRow base e size v n xs) (hk : ∀ c, v.ownBlock = some c → c < w.heap.size → W.heap[c]? = w.heap[c]?) : W.ownsRow base e size v n xs := by
  obtain ⟨h1, h2⟩ := h
  refine ⟨h1, ?_⟩
  rcases h2 with h2 | ⟨g, cap, cur, a, b, c, d⟩
  · exact .inl h2
  · exact .inr ⟨g, cap, cur, a, b, (hk g (by rw [a]; rfl) (Array.getElem?_eq_some_iff.1 c).1).trans c, d⟩

theorem Fam.get {B : Nat} {V : World} {L : List PRow} (h : Fam B V L) (i : Nat) {r : PRow} (hi : L[i]? = some r) : V.ownsRow B r.t r.z r.v r.n r.xs := h.1 r (List.mem_of_getElem? hi)
theorem Fam.lt {B : Nat} {V : World} {L : List PRow} (h : Fam B V L) {r : PRow} (hr : r ∈ L) {c : Nat} (hc : r.v.ownBlock = some c) : B ≤ c ∧ c < V.heap.size := own_ltP (h.1 r hr) hc
/-- what has nothing to do with the rows leaves them. -/
theorem Fam.keep {B : Nat} {V V' : World} {L : List PRow} (h : Fam B V L) (hk : ∀ c, B ≤ c → c < V.heap.size → (∃ r ∈ L, r.v.ownBlock = some c) → V'.heap[c]? = V.heap[c]?) : Fam B V' L :=
  ⟨fun r hr => own_keepP (h.1 r hr) (fun c hc hl => hk c (h.lt hr hc).1 hl ⟨r, hr, hc⟩), h.2⟩
theorem Fam.below {B : Nat} {V V' : World} {L : List PRow} (h : Fam B V L) (hb : Below V.heap.size V V') : Fam B V' L := h.keep fun c _ hl _ => hb.block c hl
theorem Fam.zero (B : Nat) (V : World) : Fam B V [] := by
  refine ⟨fun r hr => by simp at hr, fun i j r s hi => by simp at hi⟩
/-- a row more. -/
theorem Fam.push {B : Nat} {V : World} {L : List PRow} (h : Fam B V L) (t : TypeId) (z : Nat) : Fam B V (L ++ [PRow.new t z]) := by
  refine ⟨fun r hr => ?_, fun i j r s hi hj hij c hc => ?_⟩
  · rcases List.mem_append.1 hr with hr | hr
    · exact h.1 r hr
    · rw [List.mem_singleton.1 hr]; exact World.ownsRow_nil _ _ _ _
  · have hii := (List.getElem?_eq_some_iff.1 hi).1
    have hjj := (List.getElem?_eq_some_iff.1 hj).1
    rw [List.length_append] at hii hjj
    simp only [List.length_singleton] at hii hjj
    by_cases h1 : i < L.length
    · rw [List.getElem?_append_left h1] at hi
      by_cases h2 : j < L.length
      · rw [List.getElem?_append_left h2] at hj
        exact h.2 i j r s hi hj hij c hc
      · rw [List.getElem?_append_right (by omega), show j - L.length = 0 by omega] at hj
        simp at hj; rw [← hj]; intro q; cases q
    · rw [List.getElem?_append_right (by omega), show i - L.length = 0 by omega] at hi
      simp at hi; rw [← hi] at hc; cases hc
/-- the i-th row has grown. -/
theorem Fam.grow {B : Nat} {V V' : World} {L : List PRow} (h : Fam B V L) (i : Nat) {r : PRow} (hi : L[i]? = some r) {v' : Value} {n' : Nat} {xs' : List Value} (hg : V.grownBy V' r.v.ownBlock)
    (hnew : ∀ c, v'.ownBlock = some c → r.v.ownBlock = some c ∨ c = V.heap.size) (hown : V'.ownsRow B r.t r.z v' n' xs') : Fam B V' (L.set i ⟨r.t, r.z, v', n', xs'⟩) := by
  have hil := (List.getElem?_eq_some_iff.1 hi).1
  have at_ : ∀ (j : Nat) (s : PRow), (L.set i ⟨r.t, r.z, v', n', xs'⟩)[j]? = some s → (j = i ∧ s = ⟨r.t, r.z, v', n', xs'⟩) ∨ (j ≠ i ∧ L[j]? = some s) := fun j s hj => by
    by_cases e : i = j
    · subst e
      rw [List.getElem?_set_self hil] at hj
      exact .inl ⟨rfl, (Option.some.inj hj).symm⟩
    · rw [List.getElem?_set_ne e] at hj
      exact .inr ⟨fun q => e q.symm, hj⟩
  refine ⟨fun s hs => ?_, fun j k s u hj hk hjk c hc => ?_⟩
  · obtain ⟨j, hj⟩ := List.getElem?_of_mem hs
    rcases at_ j s hj with ⟨_, rfl⟩ | ⟨hne, hj⟩
    · exact hown
    · exact own_keepP (h.get j hj) (fun c hc hl => hg.block c hl (fun e => h.2 i j r s hi hj (fun q => hne q.symm) c e.symm hc))
  · rcases at_ j s hj with ⟨rfl, rfl⟩ | ⟨hne, hj'⟩
    · rcases at_ k u hk with ⟨rfl, rfl⟩ | ⟨hne2, hk'⟩
      · exact absurd rfl hjk
      · intro e
        rcases hnew c hc with q | q
        · exact h.2 j k r u hi hk' hjk c q e
        · have := (h.lt (List.mem_of_getElem? hk') e).2; omega
    · rcases at_ k u hk with ⟨rfl, rfl⟩ | ⟨hne2, hk'⟩
      · intro e
        rcases hnew c e with q | q
        · exact h.2 j k s r hj' hi hjk c hc q
        · have := (h.lt (List.mem_of_getElem? hj') hc).2; omega
      · exact h.2 j k s u hj' hk' hjk c hc
/-- a cell of the i-th row is written. -/
theorem Fam.put {B : Nat} {V : World} {L : List PRow} (h : Fam B V L) (i : Nat) {r : PRow} (hi : L[i]? = some r) {g cap : Nat} (hv : r.v = .slice (some ⟨g, 0, none⟩) r.n cap) (j : Nat) (u : Value) :
    Fam B (V.setCell ⟨g, j, none⟩ u) (L.set i ⟨r.t, r.z, r.v, r.n, r.xs.set j u⟩) := by
  have ho := h.get i hi
  rw [hv] at ho
  obtain ⟨h1, h2⟩ := ho.stored j u
  exact h.grow i hi (by rw [hv]; exact h2) (fun c hc => .inl hc) (by rw [hv]; exact h1)
/-- how many rows there are. -/
theorem Fam.cell {B : Nat} {V : World} {L : List PRow} (h : Fam B V L) (i : Nat) {r : PRow} (hi : L[i]? = some r) {g cap : Nat} (hv : r.v = .slice (some ⟨g, 0, none⟩) r.n cap) {j : Nat} {u : Value} (hj : r.xs[j]? = some u) : V.cell? ⟨g, j, none⟩ = some u := by
  have ho := h.get i hi
  have hl : j < r.n * r.z := by rw [← ho.1]; exact (List.getElem?_eq_some_iff.1 hj).1
  rw [hv] at ho
  exact (ho.cellAt j hl).trans hj

end Go.Proofs.YthhpdjjfbfkgiaaGreatDoor
/- A map of counts by texts, which is nought where there is no entry: looked up, written, how many it has. -/
namespace Go.Proofs.YthhpdjjfbfkgiaaGreatDoor
open Go Go.RowKit
open Go.ChangeMaps (setBlock heap_setBlock_same heap_setBlock_other)
set_option linter.unusedVariables false

/-- Block b is a map of n entries: of key k there is f k, which is more than nought, or no entry, and f k is nought. -/
def MapS (W : World) (b n : Nat) (f : ByteArray → Int) : Prop :=
  ∃ es clock, W.heap[b]? = some (.map es clock) ∧ es.size = n ∧ (∀ e ∈ es.toList, ∃ k : ByteArray, e.key = .string k ∧ e.val = .int .i64 (f k) ∧ 0 < f k) ∧ (∀ k : ByteArray, (∀ e ∈ es.toList, e.key ≠ .string k) → f k = 0) ∧ (es.toList.map (·.key)).Nodup

theorem bytes_beqS (a b : ByteArray) : (a == b) = true ↔ a = b := MapKept.bytes_beq a b

theorem findNow_S {f : ByteArray → Int} (y : ByteArray) : ∀ (es : List MapEntry) (i : Nat), (∀ e ∈ es, ∃ k : ByteArray, e.key = .string k ∧ e.val = .int .i64 (f k) ∧ 0 < f k) →
    (Instr.findNow .string (.string y) es i = some none ∧ ∀ e ∈ es, e.key ≠ .string y) ∨ ∃ j, Instr.findNow .string (.string y) es i = some (some (j, .int .i64 (f y))) ∧ 0 < f y ∧ j - i < es.length ∧ i ≤ j ∧ (es[j - i]?).map (·.key) = some (.string y)
  | [], i, _ => .inl ⟨rfl, by simp⟩
  | e :: es, i, h => by
    obtain ⟨k, hk, hv, h0⟩ := h e (by simp)
    by_cases hy : y = k
    · subst hy
      exact .inr ⟨i, by simp [Instr.findNow, Instr.sameNow, hk, hv, (bytes_beqS y y).2 rfl], h0, by simp, Nat.le_refl _, by simp [hk]⟩
    · have hyb : (y == k) = false := by cases hh : (y == k) with | false => rfl | true => exact absurd ((bytes_beqS y k).1 hh) hy
      rcases findNow_S y es (i + 1) (fun e' he' => h e' (by simp [he'])) with ⟨h1, h2⟩ | ⟨j, h1, h5, h2, h3, h4⟩
      · refine .inl ⟨by simp [Instr.findNow, Instr.sameNow, hk, hyb, h1], ?_⟩
        intro e' he'
        rcases List.mem_cons.1 he' with rfl | he'
        · rw [hk]; intro q; injection q with q; exact hy q.symm
        · exact h2 e' he'
      · refine .inr ⟨j, by simp [Instr.findNow, Instr.sameNow, hk, hyb, h1], h5, ?_, by omega, ?_⟩
        · simp; omega
        · have : j - i = (j - (i + 1)) + 1 := by omega
          rw [this]; simpa using h4

theorem lookup_S {P : Program} {t K E : TypeId} (ht : P.underlying t = some (.map K E)) (hK : P.underlying K = some .string) {W : World} (hz : (zeroValue E).run P W = .ok (.int .i64 0) W)
    {b n : Nat} {f : ByteArray → Int} (h : MapS W b n f) (y : ByteArray) :
    (Instr.lookup t (.map (some b)) (.string y) false).run P W = .ok (.int .i64 (f y)) W := by
  obtain ⟨es, clock, hb, hsz, hes, hno, _⟩ := h
  have hc : ∀ e, (Instr.checkKey e 10000 K (.string y)).run P W = .ok () W := fun e => MapKept.run_checkKey hK (by trivial) e 9999
  rcases findNow_S y es.toList 0 hes with ⟨h1, h2⟩ | ⟨j, h1, _⟩
  · rw [hno y h2]
    simp [Instr.lookup, Instr.findKey, run_underlying ht, run_underlying hK, MapKept.run_getObj_map hb, hc, h1, hz, Result.andThen]
  · simp [Instr.lookup, Instr.findKey, run_underlying ht, run_underlying hK, MapKept.run_getObj_map hb, hc, h1, Result.andThen]

theorem sameBits_s (y : ByteArray) : Instr.sameBits 10000 (.string y) (.string y) = true := by
  unfold Instr.sameBits; exact (bytes_beqS y y).2 rfl

theorem nodup_atS {l : List Value} (h : l.Nodup) {i j : Nat} {v : Value} (hi : l[i]? = some v) (hj : l[j]? = some v) : i = j := by
  obtain ⟨a, ha⟩ := List.getElem?_eq_some_iff.1 hi
  obtain ⟨b, hb⟩ := List.getElem?_eq_some_iff.1 hj
  exact (List.getElem_inj h).1 (ha.trans hb.symm)

theorem update_S {P : Program} {t K E : TypeId} (ht : P.underlying t = some (.map K E)) (hK : P.underlying K = some .string) {W : World}
    {b n : Nat} {f : ByteArray → Int} (h : MapS W b n f) (y : ByteArray) (v : Int) (hv0 : 0 < v) :
    ∃ W', (Instr.mapUpdate t (.map (some b)) (.string y) (.int .i64 v)).run P W = .ok () W' ∧ MapS W' b (if f y = 0 then n + 1 else n) (fun k => if k = y then v else f k) ∧ W.grownBy W' (some b) := by
  obtain ⟨es, clock, hb, hsz, hes, hno, hnd⟩ := h
  have hc : ∀ e, (Instr.checkKey e 10000 K (.string y)).run P W = .ok () W := fun e => MapKept.run_checkKey hK (by trivial) e 9999
  rcases findNow_S y es.toList 0 hes with ⟨h1, hn⟩ | ⟨j, h1, h5, h2, h3, h4⟩
  · rw [if_pos (hno y hn)]
    refine ⟨setBlock W b (.map (es.push ⟨.string y, .int .i64 v, clock⟩) (clock + 1)), ?_, ⟨_, _, heap_setBlock_same hb _, by simp [hsz], ?_, ?_, ?_⟩, ⟨rfl, rfl, rfl, by simp [setBlock], fun i _ hi => heap_setBlock_other hb _ (fun e => hi (by rw [e]))⟩⟩
    · simp [Instr.mapUpdate, Instr.findKey, run_underlying ht, run_underlying hK, MapKept.run_getObj_map hb, hc, h1, MapKept.run_setObj_map _ hb, Result.andThen, setBlock]
    · intro e he
      simp only [Array.toList_push, List.mem_append, List.mem_singleton] at he
      rcases he with he | rfl
      · obtain ⟨k, hk, hv, h0⟩ := hes e he
        have hky : k ≠ y := fun q => hn e he (by rw [hk, q])
        exact ⟨k, hk, by simp only [if_neg hky]; exact hv, by simp only [if_neg hky]; exact h0⟩
      · exact ⟨y, rfl, by simp, by simpa using hv0⟩
    · intro k hk
      have hky : k ≠ y := fun q => hk ⟨.string y, .int .i64 v, clock⟩ (by simp) (by rw [q])
      simp only [if_neg hky]
      exact hno k (fun e he => hk e (by simp only [Array.toList_push, List.mem_append]; exact .inl he))
    · simp only [Array.toList_push, List.map_append, List.map_cons, List.map_nil]
      rw [List.nodup_append]
      refine ⟨hnd, by simp, ?_⟩
      intro a ha c hc2
      simp only [List.mem_singleton] at hc2
      subst hc2
      obtain ⟨e, he, rfl⟩ := List.mem_map.1 ha
      exact hn e he
  · rw [if_neg (by omega)]
    have hk : ((es[j]?).map (·.key)).getD (.string y) = .string y := by
      rw [Nat.sub_zero, Array.getElem?_toList] at h4; rw [h4]; rfl
    have hkeys : (es.modify j fun e => { e with key := .string y, val := .int .i64 v }).toList.map (·.key) = es.toList.map (·.key) := by
      apply List.ext_getElem?
      intro i
      rw [Array.toList_modify, List.getElem?_map, List.getElem?_map, List.getElem?_modify]
      by_cases hij : j = i
      · subst hij
        rw [Nat.sub_zero] at h4
        cases hx : es.toList[j]? with
        | none => simp
        | some e => rw [hx] at h4; simp at h4; simp [h4]
      · cases hx : es.toList[i]? <;> simp [hij]
    refine ⟨setBlock W b (.map (es.modify j fun e => { e with key := .string y, val := .int .i64 v }) clock), ?_, ⟨_, _, heap_setBlock_same hb _, by simp [hsz], ?_, ?_, ?_⟩, ⟨rfl, rfl, rfl, by simp [setBlock], fun i _ hi => heap_setBlock_other hb _ (fun e => hi (by rw [e]))⟩⟩
    · simp [Instr.mapUpdate, Instr.findKey, run_underlying ht, run_underlying hK, MapKept.run_getObj_map hb, hc, h1, hk, Instr.keyThatStays, sameBits_s, MapKept.run_setObj_map _ hb, Result.andThen, setBlock]
    · intro e he
      rw [Array.toList_modify] at he
      obtain ⟨i, hi, rfl⟩ := List.mem_iff_getElem.1 he
      have hi0 : i < es.toList.length := by rw [List.length_modify] at hi; exact hi
      rw [List.getElem_modify]
      split
      · exact ⟨y, rfl, by simp, by simpa using hv0⟩
      · rename_i hij
        obtain ⟨k, hk2, hv2, h02⟩ := hes _ (List.getElem_mem hi0)
        have hky : k ≠ y := by
          intro q
          subst q
          rw [Nat.sub_zero] at h4
          have e1 : (es.toList.map (·.key))[j]? = some (.string k) := by rw [List.getElem?_map]; exact h4
          have e2 : (es.toList.map (·.key))[i]? = some (.string k) := by rw [List.getElem?_map, List.getElem?_eq_getElem hi0]; exact congrArg some hk2
          exact hij (nodup_atS hnd e1 e2)
        exact ⟨k, hk2, by simp only [if_neg hky]; exact hv2, by simp only [if_neg hky]; exact h02⟩
    · intro k hk2
      have hh : ∀ e ∈ es.toList, e.key ≠ .string k := fun e he q => by
        have m1 : e.key ∈ es.toList.map (·.key) := List.mem_map_of_mem he
        rw [← hkeys] at m1
        obtain ⟨e', he', hq⟩ := List.mem_map.1 m1
        exact hk2 e' he' (hq.trans q)
      have hky : k ≠ y := fun q => by
        subst q
        rw [Nat.sub_zero] at h4
        cases hx : es.toList[j]? with
        | none => rw [hx] at h4; simp at h4
        | some e => rw [hx] at h4; simp at h4; exact hh e (List.mem_of_getElem? hx) h4
      simp only [if_neg hky]
      exact hno k hh
    · rw [hkeys]; exact hnd

theorem MapS.kept {W W' : World} {row : Option Nat} {b n : Nat} {f : ByteArray → Int} (h : MapS W b n f) (hg : W.grownBy W' row) (hne : row ≠ some b) : MapS W' b n f := by
  obtain ⟨es, clock, hb, hes⟩ := h
  exact ⟨es, clock, (hg.block b (Array.getElem?_eq_some_iff.1 hb).1 (fun e => hne e.symm)).trans hb, hes⟩

theorem MapS.same {W W' : World} {b n : Nat} {f : ByteArray → Int} (h : MapS W b n f) (hg : W'.heap[b]? = W.heap[b]?) : MapS W' b n f := by
  obtain ⟨es, clock, hb, hes⟩ := h
  exact ⟨es, clock, hg.trans hb, hes⟩

theorem MapS.lt {W : World} {b n : Nat} {f : ByteArray → Int} (h : MapS W b n f) : b < W.heap.size := by
  obtain ⟨es, clock, hb, _⟩ := h
  exact (Array.getElem?_eq_some_iff.1 hb).1

theorem MapS.made (W : World) : MapS (W.alloc (.map #[] 0)) W.heap.size 0 (fun _ => 0) :=
  ⟨#[], 0, World.alloc_heap_new W _, rfl, by simp, fun _ _ => rfl, by simp⟩

end Go.Proofs.YthhpdjjfbfkgiaaGreatDoor
