/- Plain mathematics: what the grammar makes of tokens it makes of the same tokens elsewhere with a bracket behind them, but for places, unless that is too deep. -/
import Derived.Test.YtaoocecipacnhaaDoorExNq
namespace Go.Proofs.YtaoocecipacnhaaDoor
set_option linter.unusedVariables false

/-- the same but for its place. -/
def AlT (p q : Tk) : Prop := p.1 = q.1 ∧ p.2.1 = q.2.1
/-- two lists, one by one. -/
inductive F2 {α β : Type} (R : α → β → Prop) : List α → List β → Prop where
  | nil : F2 R [] []
  | cons {a : α} {b : β} {l : List α} {m : List β} (h : R a b) (hl : F2 R l m) : F2 R (a :: l) (b :: m)
theorem F2.snoc {α β : Type} {R : α → β → Prop} {l : List α} {m : List β} (h : F2 R l m) {x : α} {y : β} (hx : R x y) : F2 R (l ++ [x]) (m ++ [y]) := by
  induction h with
  | nil => exact .cons hx .nil
  | cons h1 h2 i => exact .cons h1 i
/-- the same but for places. -/
inductive AlN : Nd → Nd → Prop where
  | mk (k : Int) (t : ByteArray) (ks ls : List Nd) (a b : Int) (h : F2 AlN ks ls) : AlN (.mk k t ks a) (.mk k t ls b)
theorem AlN.leaf {k : Int} {t : ByteArray} {a b : Int} : AlN (.mk k t [] a) (.mk k t [] b) := .mk _ _ _ _ _ _ .nil
theorem AlN.one {k : Int} {t : ByteArray} {a b : Int} {n m : Nd} (h : AlN n m) : AlN (.mk k t [n] a) (.mk k t [m] b) := .mk _ _ _ _ _ _ (.cons h .nil)
theorem AlN.two {k : Int} {t : ByteArray} {a b : Int} {n m x y : Nd} (h : AlN n m) (h2 : AlN x y) : AlN (.mk k t [n, x] a) (.mk k t [m, y] b) := .mk _ _ _ _ _ _ (.cons h (.cons h2 .nil))
theorem AlN.ks {n m : Nd} (h : AlN n m) : F2 AlN n.ks m.ks := by cases h; assumption

/-- tokens up to the end, and the same ones, with a bracket and others in the end's place. -/
inductive RL (c : Tk) (R : List Tk) : List Tk → List Tk → Prop where
  | last (e : Tk) (h : e.1 = 0) : RL c R [e] (c :: R)
  | cons (p q : Tk) (l m : List Tk) (hp : p.1 ≠ 0) (h : AlT p q) (hl : RL c R l m) : RL c R (p :: l) (q :: m)
/-- what comes of the same tokens. -/
def InR (c : Tk) (R : List Tk) (n : Nd) (l : List Tk) : PR → Prop
  | .ok n' l' => AlN n n' ∧ RL c R l l'
  | .no _ e => e = 31
theorem InR.case {c : Tk} {R : List Tk} {n : Nd} {l : List Tk} {r : PR} (h : InR c R n l r) : (∃ n' l', r = .ok n' l' ∧ AlN n n' ∧ RL c R l l') ∨ ∃ a, r = .no a 31 := by
  cases r with
  | ok n' l' => exact .inl ⟨n', l', rfl, h⟩
  | no a e => exact .inr ⟨a, by rw [show e = 31 from h]⟩

theorem tkOk_of {l : List Tk} (h : EndL l) : TkOk (fun _ => True) (fun _ => True) l := ⟨h, fun _ _ _ => trivial, fun _ _ => trivial⟩
theorem plT_any (g : Tg) : PlT (fun _ => True) g := by
  have A : ∀ n : Nd, PlN (fun _ => True) n := by
    intro n
    induction n using Nd.rec (motive_2 := fun l => ∀ n ∈ l, PlN (fun _ => True) n) with
    | mk k t ks a ih => exact .mk _ _ _ _ trivial ih
    | nil => contradiction
    | cons x l hx hl => rename_i n h; rcases List.mem_cons.1 h with rfl | h; exact hx; exact hl _ h
  cases g with
  | lv l => trivial
  | lp l n => exact A n
  | zs n => exact A n
  | cs n => exact A n
  | ks l => exact fun n _ => A n
/-- fewer tokens are left. -/
theorem par_less {f : Nat} {g : Tg} {d : Nat} {l : List Tk} {n : Nd} {l1 : List Tk} (hg : okTg g) (hl : EndL l) (hf : need g l ≤ f) (h : par f g d l = .ok n l1) : EndL l1 ∧ l1.length ≤ most g l := by
  have q := par_good (fun _ => True) (fun _ => True) f g d l hg (tkOk_of hl) (plT_any g) hf
  rw [h] at q
  exact ⟨q.1, q.2.1⟩
end Go.Proofs.YtaoocecipacnhaaDoor
