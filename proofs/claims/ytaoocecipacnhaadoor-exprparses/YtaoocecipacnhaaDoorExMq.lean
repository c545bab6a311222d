/- Plain mathematics of expressions: tokens of a text's parts, and what the grammar makes of tokens: a node, or a place and an error. -/
import Derived.Laws.RangeAny
namespace Go.Proofs.YtaoocecipacnhaaDoor
set_option linter.unusedVariables false

/-! ### tokens (kind, text, place; kinds: 0 the end, 1 digits, 2 with a point, 3 quoted, 4 a name, 5 a sign) -/
abbrev Tk := Int × ByteArray × Int
def qB : ByteArray := ⟨#[39]⟩
/-- just behind the one ahead. -/
def besT (p q : Tk) : Bool := decide (q.2.2 = p.2.2 + (p.2.1.size : Int))
def qt (p : Tk) : Bool := decide (p.2.1 = qB)
/-- from the i-th part on: behind the quote that ends a text; 0: none does. -/
def toQ : Nat → List Tk → Nat
  | _, [] => 0
  | i, [p] => if qt p then i + 1 else 0
  | i, p :: q :: l => if qt p then (if besT p q && qt q then toQ (i + 2) l else i + 1) else toQ (i + 1) (q :: l)
/-- up to a sign or a blank. -/
def toS : Nat → Tk → List Tk → Nat
  | m, _, [] => m
  | m, p, q :: l => if besT p q && decide (q.1 ≠ 3) then toS (m + 1) q l else m
def isPr (t : ByteArray) : Bool := decide (t = ⟨#[60, 61]⟩) || decide (t = ⟨#[62, 61]⟩) || decide (t = ⟨#[60, 62]⟩) || decide (t = ⟨#[58, 58]⟩)
def prT : Tk → List Tk → Bool
  | p, q :: _ => besT p q && isPr (p.2.1 ++ q.2.1)
  | _, [] => false
def dcT : Tk → List Tk → Bool
  | p, q :: r :: _ => besT p q && decide (q.2.1 = ⟨#[46]⟩) && besT q r && decide (r.1 = 1)
  | _, _ => false
/-- the kind of the first token, and how many parts it is. -/
def fstT (p : Tk) (l : List Tk) : Int × Nat :=
  if qt p then (3, toQ 1 l)
  else if p.1 = 2 then (4, toS 1 p l)
  else if p.1 = 3 then (5, if prT p l then 2 else 1)
  else if dcT p l then (2, 3) else (1, 1)

/-- of two quotes one. -/
def unq : List UInt8 → List UInt8
  | [] => []
  | [c] => [c]
  | a :: b :: l => if a = 39 ∧ b = 39 then 39 :: unq l else a :: unq (b :: l)

/-! ### nodes -/
inductive Nd where
  | mk (k : Int) (t : ByteArray) (ks : List Nd) (at_ : Int) : Nd
abbrev Nd.k : Nd → Int | .mk k _ _ _ => k
abbrev Nd.t : Nd → ByteArray | .mk _ t _ _ => t
abbrev Nd.ks : Nd → List Nd | .mk _ _ ks _ => ks
abbrev Nd.at_ : Nd → Int | .mk _ _ _ a => a

/-- what comes: a node and the tokens left, or a place and an error. -/
inductive PR where
  | ok (n : Nd) (l : List Tk) : PR
  | no (at_ : Int) (e : Int) : PR

def orB : ByteArray := ⟨#[111, 114]⟩
def andB : ByteArray := ⟨#[97, 110, 100]⟩
def notB : ByteArray := ⟨#[110, 111, 116]⟩
def atB : ByteArray := ⟨#[97, 116]⟩
def timeB : ByteArray := ⟨#[116, 105, 109, 101]⟩
def zoneB : ByteArray := ⟨#[122, 111, 110, 101]⟩
def atzB : ByteArray := ⟨#[97, 116, 32, 116, 105, 109, 101, 32, 122, 111, 110, 101]⟩
def trueB : ByteArray := ⟨#[116, 114, 117, 101]⟩
def falseB : ByteArray := ⟨#[102, 97, 108, 115, 101]⟩
def dateB : ByteArray := ⟨#[100, 97, 116, 101]⟩
def stampB : ByteArray := ⟨#[116, 105, 109, 101, 115, 116, 97, 109, 112]⟩
def tzB : ByteArray := ⟨#[116, 105, 109, 101, 115, 116, 97, 109, 112, 116, 122]⟩
def ivB : ByteArray := ⟨#[105, 110, 116, 101, 114, 118, 97, 108]⟩
def b1 (c : UInt8) : ByteArray := ⟨#[c]⟩
def b2 (c d : UInt8) : ByteArray := ⟨#[c, d]⟩

/-- is the token one of these? -/
def isT (p : Tk) (l : List (Int × ByteArray)) : Bool := l.any fun x => decide (p.1 = x.1 ∧ p.2.1 = x.2)
def sgs : Nat → List (Int × ByteArray)
  | 0 => [(4, orB)]
  | 1 => [(4, andB)]
  | 3 => [(5, b1 61), (5, b2 60 62), (5, b1 60), (5, b2 60 61), (5, b1 62), (5, b2 62 61)]
  | 4 => [(5, b1 43), (5, b1 45)]
  | _ => [(5, b1 42), (5, b1 47), (5, b1 37)]
def rsvd (t : ByteArray) : Bool := decide (t = trueB) || decide (t = falseB) || decide (t = notB) || decide (t = andB) || decide (t = orB) || decide (t = atB) || decide (t = timeB) || decide (t = zoneB)
def free (p : Tk) : Bool := !rsvd p.2.1 && decide (p.1 = 4)
def typB (t : ByteArray) : Bool := decide (t = dateB) || decide (t = stampB) || decide (t = tzB) || decide (t = ivB)

/-- what is under way: a line of the grammar (0 or, 1 and, 2 not, 3 cmp, 4 sum, 5 term, 6 unary, 7 zone, 8 cast, 9 prim), the rest of a chain, of zones, of casts, of a call's kids. -/
inductive Tg where
  | lv (l : Nat) : Tg
  | lp (l : Nat) (n : Nd) : Tg
  | zs (n : Nd) : Tg
  | cs (n : Nd) : Tg
  | ks (acc : List Nd) : Tg

/-- behind a sum: a sign, and another one, or nothing. -/
def cmpK (r : Tg → Nat → List Tk → PR) (d : Nat) (n : Nd) : List Tk → PR
  | [] => .no 0 0
  | q :: l1 =>
    if isT q (sgs 3) then
      match r (.lv 4) d l1 with
      | .ok m l2 => .ok (.mk 8 q.2.1 [n, m] q.2.2) l2
      | .no a e => .no a e
    else .ok n (q :: l1)
/-- one step of the grammar: r does the rest. -/
def pst (r : Tg → Nat → List Tk → PR) : Tg → Nat → List Tk → PR
  | _, _, [] => .no 0 0
  | .lv lev, d, p :: l =>
    if lev = 2 then
      if isT p [(4, notB)] then
        if d = 20 then .no p.2.2 31
        else match r (.lv 2) (d + 1) l with
          | .ok n l1 => .ok (.mk 7 ByteArray.empty [n] p.2.2) l1
          | .no a e => .no a e
      else r (.lv 3) d (p :: l)
    else if lev = 6 then
      if isT p [(5, b1 45)] then
        if d = 20 then .no p.2.2 31
        else match r (.lv 6) (d + 1) l with
          | .ok n l1 => .ok (.mk 6 ByteArray.empty [n] p.2.2) l1
          | .no a e => .no a e
      else r (.lv 7) d (p :: l)
    else if lev = 3 then
      match r (.lv 4) d (p :: l) with
      | .ok n l1 => cmpK r d n l1
      | .no a e => .no a e
    else if lev = 7 then
      match r (.lv 8) d (p :: l) with
      | .ok n l1 => r (.zs n) d l1
      | .no a e => .no a e
    else if lev = 8 then
      match r (.lv 9) d (p :: l) with
      | .ok n l1 => r (.cs n) d l1
      | .no a e => .no a e
    else if lev = 9 then
      if p.1 = 1 then .ok (.mk 1 p.2.1 [] p.2.2) l
      else if p.1 = 2 then .ok (.mk 2 p.2.1 [] p.2.2) l
      else if p.1 = 3 then .ok (.mk 3 p.2.1 [] p.2.2) l
      else if isT p [(4, trueB), (4, falseB)] then .ok (.mk 4 p.2.1 [] p.2.2) l
      else if isT p [(5, b1 40)] then
        if d = 20 then .no p.2.2 31
        else match r (.lv 0) (d + 1) l with
          | .no a e => .no a e
          | .ok n [] => .no 0 0
          | .ok n (q :: l1) => if isT q [(5, b1 41)] then .ok n l1 else .no q.2.2 30
      else if free p then
        match l with
        | [] => .no 0 0
        | q :: l1 =>
          if q.1 = 3 ∧ typB p.2.1 = true then .ok (.mk 5 p.2.1 [.mk 3 q.2.1 [] q.2.2] p.2.2) l1
          else if isT q [(5, b1 40)] then
            if d = 20 then .no p.2.2 31
            else match l1 with
              | [] => .no 0 0
              | u :: l2 =>
                if isT u [(5, b1 41)] then .ok (.mk 9 p.2.1 [] p.2.2) l2
                else match r (.ks []) (d + 1) (u :: l2) with
                  | .no a e => .no a e
                  | .ok n l3 => .ok (.mk 9 p.2.1 n.ks p.2.2) l3
          else .no q.2.2 30
      else .no p.2.2 30
    else
      match r (.lv (lev + 1)) d (p :: l) with
      | .ok n l1 => r (.lp lev n) d l1
      | .no a e => .no a e
  | .lp lev n, d, q :: l =>
    if isT q (sgs lev) then
      match r (.lv (lev + 1)) d l with
      | .ok m l1 => r (.lp lev (.mk 8 q.2.1 [n, m] q.2.2)) d l1
      | .no a e => .no a e
    else .ok n (q :: l)
  | .zs n, d, q :: l =>
    if isT q [(4, atB)] then
      match l with
      | [] => .no 0 0
      | t :: l1 =>
        if isT t [(4, timeB)] then
          match l1 with
          | [] => .no 0 0
          | z :: l2 =>
            if isT z [(4, zoneB)] then
              match r (.lv 8) d l2 with
              | .ok m l3 => r (.zs (.mk 8 atzB [n, m] q.2.2)) d l3
              | .no a e => .no a e
            else .no z.2.2 30
        else .no t.2.2 30
    else .ok n (q :: l)
  | .cs n, d, q :: l =>
    if isT q [(5, b2 58 58)] then
      match l with
      | [] => .no 0 0
      | t :: l1 => if free t then r (.cs (.mk 10 t.2.1 [n] q.2.2)) d l1 else .no t.2.2 30
    else .ok n (q :: l)
  | .ks acc, d, p :: l =>
    match r (.lv 0) d (p :: l) with
    | .no a e => .no a e
    | .ok n [] => .no 0 0
    | .ok n (q :: l1) =>
      if isT q [(5, b1 44)] then r (.ks (acc ++ [n])) d l1
      else if isT q [(5, b1 41)] then .ok (.mk 9 ByteArray.empty (acc ++ [n]) 0) l1
      else .no q.2.2 30

/-- the grammar, with fuel. -/
def par : Nat → Tg → Nat → List Tk → PR
  | 0 => fun _ _ _ => .no 0 0
  | f + 1 => pst (par f)
theorem par_succ (f : Nat) (g : Tg) (d : Nat) (l : List Tk) : par (f + 1) g d l = pst (par f) g d l := rfl

/-! ### what par gives, with enough fuel -/
/-- tokens with the end last of them, and nowhere else. -/
def EndL : List Tk → Prop
  | [] => False
  | [p] => p.1 = 0
  | p :: q :: l => p.1 ≠ 0 ∧ EndL (q :: l)
theorem EndL.tail {p : Tk} {l : List Tk} (h : EndL (p :: l)) (hp : p.1 ≠ 0) : EndL l := by
  cases l with
  | nil => exact absurd h hp
  | cons q l => exact h.2
theorem EndL.cons {l : List Tk} (h : EndL l) : ∃ p l', l = p :: l' := by
  cases l with
  | nil => exact h.elim
  | cons p l => exact ⟨p, l, rfl⟩
theorem isT_kind {p : Tk} {l : List (Int × ByteArray)} (h : isT p l = true) (hl : ∀ x ∈ l, x.1 ≠ 0) : p.1 ≠ 0 := by
  obtain ⟨x, hx, hd⟩ := List.any_eq_true.1 h
  have := of_decide_eq_true hd
  rw [this.1]; exact hl x hx
theorem free_kind {p : Tk} (h : free p = true) : p.1 ≠ 0 := by
  unfold free at h
  have := of_decide_eq_true (Bool.and_eq_true_iff.1 h).2
  omega
theorem sgs_kind (lev : Nat) : ∀ x ∈ sgs lev, x.1 ≠ 0 := by
  intro x hx
  unfold sgs at hx
  split at hx <;> simp at hx <;> (first | (rcases hx with rfl | rfl | rfl | rfl | rfl | rfl <;> decide) | (rcases hx with rfl | rfl | rfl <;> decide) | (rcases hx with rfl | rfl <;> decide) | (subst hx; decide))

/-- so much fuel is enough. -/
def need : Tg → List Tk → Nat
  | .lv lev, l => 10 * l.length + 10 - lev
  | .ks _, l => 10 * l.length + 11
  | _, l => 10 * l.length + 1
/-- how many tokens are left at most. -/
def most : Tg → List Tk → Nat
  | .lv _, l => l.length - 1
  | .ks _, l => l.length - 1
  | _, l => l.length
def okTg : Tg → Prop
  | .lv lev => lev ≤ 9
  | .lp lev _ => lev ≤ 5
  | _ => True
/-- a node whose places all are ones of these. -/
inductive PlN (S : Int → Prop) : Nd → Prop where
  | mk (k : Int) (t : ByteArray) (ks : List Nd) (a : Int) (ha : S a) (hk : ∀ n ∈ ks, PlN S n) : PlN S (.mk k t ks a)
def PlT (S : Int → Prop) : Tg → Prop
  | .lv _ => True
  | .lp _ n => PlN S n
  | .zs n => PlN S n
  | .cs n => PlN S n
  | .ks l => ∀ n ∈ l, PlN S n
/-- of a call's kids, which have no place of their own yet. -/
def PlK (S : Int → Prop) : Tg → Nd → Prop
  | .ks _, n => ∀ m ∈ n.ks, PlN S m
  | _, n => PlN S n
def GoodR (S E : Int → Prop) (g : Tg) (l : List Tk) : PR → Prop
  | .ok n l1 => EndL l1 ∧ l1.length ≤ most g l ∧ (∃ pre, l = pre ++ l1) ∧ PlK S g n
  | .no a e => (e = 30 ∨ e = 31) ∧ E a

end Go.Proofs.YtaoocecipacnhaaDoor
