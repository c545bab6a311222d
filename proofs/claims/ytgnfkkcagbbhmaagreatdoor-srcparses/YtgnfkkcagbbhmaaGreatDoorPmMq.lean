/- What a source's lines say, as a function of their fields: rules, eras, zones, links, and the parser's state line by line. -/
import Derived.Test.YtgnfkkcagbbhmaaGreatDoorSrNq
import Derived.Test.YtgnfkkcagbbhmaaGreatDoorLnCq
namespace Go.Proofs.YtgnfkkcagbbhmaaGreatDoor
open Go.RowKit Lin Sr
set_option linter.unusedVariables false

/-- a rule; its eleven cells. -/
structure RuleT where
  nm : ByteArray
  fr : Int
  tt : Int
  mo : Int
  oa : Int
  ob : Int
  oc : Int
  ta : Int
  tz : Int
  sv : Int
  lt : ByteArray
def RuleT.cs (r : RuleT) : List Value := [.string r.nm, .int .i64 r.fr, .int .i64 r.tt, .int .i64 r.mo, .int .i64 r.oa, .int .i64 r.ob, .int .i64 r.oc, .int .i64 r.ta, .int .u8 r.tz, .int .i64 r.sv, .string r.lt]
/-- an UNTIL; its seven cells. -/
structure UntT where
  y : Int
  mo : Int
  oa : Int
  ob : Int
  oc : Int
  ta : Int
  tz : Int
def UntT.cs (u : UntT) : List Value := [.int .i64 u.y, .int .i64 u.mo, .int .i64 u.oa, .int .i64 u.ob, .int .i64 u.oc, .int .i64 u.ta, .int .u8 u.tz]
/-- an era; its eleven cells. -/
structure EraT where
  off : Int
  rl : ByteArray
  sv : Int
  fm : ByteArray
  u : UntT
def EraT.cs (e : EraT) : List Value := [.int .i64 e.off, .string e.rl, .int .i64 e.sv, .string e.fm, .int .i64 e.u.y, .int .i64 e.u.mo, .int .i64 e.u.oa, .int .i64 e.u.ob, .int .i64 e.u.oc, .int .i64 e.u.ta, .int .u8 e.u.tz]

def janT : ByteArray := ⟨#[74, 97, 110]⟩
def oneT' : ByteArray := ⟨#[49]⟩
def zeroT : ByteArray := ⟨#[48]⟩

def ruleOf (f0 f1 f2 f5' f5 f6 f7 f8 : ByteArray) : RuleT :=
  ⟨f0, (yrF f1).1, (if (toF f2).1 = 0 then (yrF f1).1 else (toF f2).1), (moF f5').1, (onF f5).1.1, (onF f5).1.2.1, (onF f5).1.2.2, (atF f6.data.toList).1.1, (atF f6.data.toList).1.2, (spF 0 7200 f7).1, (ltrO f8).1⟩
def ruleOk (f0 f1 f2 f3 f4 f5 f6 f7 f8 : ByteArray) : Bool := nameB f0 && (yrF f1).2 && (toF f2).2 && (f3.toList == [45]) && (moF f4).2 && (onF f5).2 && (atF f6.data.toList).2 && (spF 0 7200 f7).2 && (ltrO f8).2
def ruleF : List ByteArray → Option RuleT
  | [f0, f1, f2, f3, f4, f5, f6, f7, f8] =>
    if ruleOk f0 f1 f2 f3 f4 f5 f6 f7 f8 = true then
      (if (yrF f1).1 ≤ (if (toF f2).1 = 0 then (yrF f1).1 else (toF f2).1) then some (ruleOf f0 f1 f2 f4 f5 f6 f7 f8) else none)
    else none
  | _ => none
def zUnt : UntT := ⟨0, 0, 0, 0, 0, 0, 0⟩
def untOk (a b c d : ByteArray) : Bool := (yrF a).2 && (moF b).2 && (onF c).2 && (atF d.data.toList).2
def untOf (a b c d : ByteArray) : UntT := ⟨(yrF a).1, (moF b).1, (onF c).1.1, (onF c).1.2.1, (onF c).1.2.2, (atF d.data.toList).1.1, (atF d.data.toList).1.2⟩
def unt4 (a b c d : ByteArray) : Option UntT := if untOk a b c d = true then some (untOf a b c d) else none
def untF : List ByteArray → Option UntT
  | [] => some zUnt
  | [a] => unt4 a janT oneT' zeroT
  | [a, b] => unt4 a b oneT' zeroT
  | [a, b, c] => unt4 a b c zeroT
  | [a, b, c, d] => unt4 a b c d
  | _ => none
def eraOk (f0 f1 f2 : ByteArray) : Bool := (spF (-50400) 50400 f0).2 && (shF f1).2 && (fmtO f2).2
def eraOf (f0 f1 f2 : ByteArray) (u : UntT) : EraT := ⟨(spF (-50400) 50400 f0).1, (shF f1).1.1, (shF f1).1.2, (fmtO f2).1, u⟩
def eraF : List ByteArray → Option EraT
  | f0 :: f1 :: f2 :: r => match untF r with
    | none => none
    | some u => if eraOk f0 f1 f2 = true then some (eraOf f0 f1 f2 u) else none
  | _ => none
def zoneF : List ByteArray → Option (ByteArray × EraT)
  | [] => none
  | f :: r => match eraF r with
    | none => none
    | some e => if nameB f = true then some (f, e) else none
def linkF : List ByteArray → Option (ByteArray × ByteArray)
  | [a, b] => if (nameB a && nameB b) = true then some (a, b) else none
  | _ => none

/-- what is read so far. -/
structure PSt where
  rules : List RuleT
  zones : List (ByteArray × List EraT)
  links : List (ByteArray × ByteArray)
  eras : List (Int × ByteArray)
  op : Bool
  dn : Nat
  cnt : ByteArray → Int
def pst0 : PSt := ⟨[], [], [], [], false, 0, fun _ => 0⟩
def takenB (S : PSt) (s : ByteArray) : Bool := S.zones.any (fun z => Wrd.sameB z.1 s) || S.links.any (fun l => Wrd.sameB l.2 s)
def addE : List (ByteArray × List EraT) → EraT → List (ByteArray × List EraT)
  | [], _ => []
  | [z], e => [(z.1, z.2 ++ [e])]
  | z :: l, e => z :: addE l e
def addF (S : PSt) (n : Int) (e : EraT) : PSt := { S with zones := addE S.zones e, eras := S.eras ++ [(n, e.rl)], op := e.u.y != 0 }
def tkRule (S : PSt) (F : List ByteArray) : Sum Int PSt := match ruleF F with
  | none => .inl 21
  | some r => if S.cnt r.nm = 16 ∨ (S.cnt r.nm = 0 ∧ S.dn = 16) then .inl 3
    else .inr { S with rules := S.rules ++ [r], dn := if S.cnt r.nm = 0 then S.dn + 1 else S.dn, cnt := fun k => if k = r.nm then S.cnt r.nm + 1 else S.cnt k }
def tkZone (S : PSt) (n : Int) (F : List ByteArray) : Sum Int PSt := match zoneF F with
  | none => .inl 21
  | some (nm, e) => if S.zones.length = 16 then .inl 3 else if takenB S nm = true then .inl 23 else .inr (addF { S with zones := S.zones ++ [(nm, [])] } n e)
def tkOn (S : PSt) (n : Int) (F : List ByteArray) : Sum Int PSt := match eraF F with
  | none => .inl 21
  | some e => if (S.zones.getLast?.map (·.2.length)).getD 0 = 12 then .inl 3 else .inr (addF S n e)
def tkLink (S : PSt) (F : List ByteArray) : Sum Int PSt := match linkF F with
  | none => .inl 21
  | some k => if S.links.length = 16 then .inl 3 else if takenB S k.2 = true then .inl 23 else .inr { S with links := S.links ++ [k] }
def ruleT' : ByteArray := ⟨#[82, 117, 108, 101]⟩
def zoneT' : ByteArray := ⟨#[90, 111, 110, 101]⟩
def linkT' : ByteArray := ⟨#[76, 105, 110, 107]⟩
def tkF (S : PSt) (n : Int) (F : List ByteArray) : Sum Int PSt :=
  if S.op = true then tkOn S n F
  else match F with
    | [] => .inl 21
    | f :: r => if Wrd.sameB f ruleT' = true then tkRule S r else if Wrd.sameB f zoneT' = true then tkZone S n r else if Wrd.sameB f linkT' = true then tkLink S r else .inl 21
/-- all lines. -/
def runP : PSt → List Lne → Sum (Int × Int) PSt
  | S, [] => .inr S
  | S, l :: L => match tkF S l.1 l.2 with
    | .inl e => .inl (l.1, e)
    | .inr S' => runP S' L
def lostF (S : PSt) : Int := match S.eras.find? (fun e => e.2.size != 0 && (S.cnt e.2 == 0)) with
  | none => 0
  | some e => e.1
/-- what Parse answers: the line and the error, or all that was read. -/
def parseP (s : ByteArray) : Sum (Int × Int) PSt := match lnsS s with
  | .inl a => .inl a
  | .inr L => match runP pst0 L with
    | .inl a => .inl a
    | .inr S => if S.op = true then .inl ((L.getLast?.map (·.1)).getD 0, 21) else if 0 < lostF S then .inl (lostF S, 23) else .inr S

end Go.Proofs.YtgnfkkcagbbhmaaGreatDoor
