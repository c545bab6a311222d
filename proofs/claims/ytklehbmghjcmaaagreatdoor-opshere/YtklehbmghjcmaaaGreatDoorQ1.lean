import Derived.Test.YtklehbmghjcmaaaGreatDoorQz
import Derived.Laws.AppendOwn
import Derived.Test.YtklehbmghjcmaaaGreatDoorQ0
import Derived.Deep.RegionHeld3
import Derived.Deep.MidRow
import Derived.Deep.Cut
import Derived.Deep.QuietTactic
import Derived.BigQuiet
import Derived.Deep.LoopGhost
import Derived.RangeFuncNested
import Derived.RangeFuncLeaves
import Derived.RangeFuncBox
import Derived.OrdersHeld
import Derived.OrdersIn
import Derived.Deep.RegionHeld
import Derived.Maps.OwnIn
import Derived.Maps.AppendAt
open Go.Value renaming int → vi
open Go.IntKind renaming i64 → ki
open List renaming setIfInBounds_toArray → zb, set_cons_zero → zc, set_cons_succ → zd
open Go.Act renaming put → za
open Go.Ending renaming returned → zr
set_option maxRecDepth 100000
set_option maxHeartbeats 16000000
set_option linter.unusedVariables false
namespace Go.Proofs.YtklehbmghjcmaaaGreatDoor
structure TrR where
 at_ : Int
 off : Int
 dst : Bool
 ab : ByteArray
def trC (x : TrR) : List Value := [vi ki x.at_, vi ki x.off, .bool x.dst, .string x.ab]
def trCs (l : List TrR) : List Value := l.flatMap trC
def zTr : TrR := ⟨0, 0, false, ⟨#[]⟩⟩
theorem trCs_app (a b : List TrR) : trCs (a ++ b) = trCs a ++ trCs b := by simp [trCs]
theorem trCs_cons (x : TrR) (b : List TrR) : trCs (x :: b) = trC x ++ trCs b := by simp [trCs]
theorem trCs_len (l : List TrR) : (trCs l).length = l.length * 4 := by
 induction l with
 | nil => rfl
 | cons x l ih => rw [trCs_cons, List.length_append, ih]; simp [trC]; omega
theorem trCs_one (l : List TrR) : ∀ u ∈ trCs l, u.oneCell' = true := by
 intro u hu
 simp only [trCs, List.mem_flatMap] at hu
 obtain ⟨x, _, hu⟩ := hu
 simp only [trC, List.mem_cons, List.not_mem_nil, or_false] at hu
 rcases hu with rfl | rfl | rfl | rfl <;> rfl
theorem trCs_get (D R : List TrR) (x : TrR) (i : Nat) (hi : i < 4) : (trCs (D ++ x :: R))[D.length * 4 + i]? = (trC x)[i]? := by
 rw [trCs_app, List.getElem?_append_right (by rw [trCs_len]; omega), trCs_len, show D.length * 4 + i - D.length * 4 = i by omega, trCs_cons, List.getElem?_append_left (by simpa [trC] using hi)]
end Go.Proofs.YtklehbmghjcmaaaGreatDoor
namespace Go.Proofs.YtklehbmghjcmaaaGreatDoor
namespace Zm
def Rises : List Int → Prop
 | [] => True
 | [_] => True
 | a :: b :: l => a < b ∧ Rises (b :: l)
theorem Rises.tail {a : Int} {l : List Int} (h : Rises (a :: l)) : Rises l := by
 cases l with
 | nil => trivial
 | cons b l => exact h.2
theorem Rises.head_lt {a : Int} {l : List Int} (h : Rises (a :: l)) : ∀ x ∈ l, a < x := by
 induction l generalizing a with
 | nil => intro x hx; cases hx
 | cons b l ih =>
  intro x hx
  rcases List.mem_cons.1 hx with rfl | hx
  ·exact h.1
  ·exact Int.lt_trans h.1 (ih h.2 x hx)
def cntLe (x : Int) : List Int → Nat
 | [] => 0
 | a :: l => if a ≤ x then cntLe x l + 1 else 0
theorem cntLe_le (x : Int) (l : List Int) : cntLe x l ≤ l.length := by
 induction l with
 | nil => exact Nat.le_refl _
 | cons a l ih => unfold cntLe; split; exact Nat.succ_le_succ ih; exact Nat.zero_le _
theorem cntLe_iff {x : Int} {l : List Int} (h : Rises l) : ∀ (k : Nat) (a : Int), l[k]? = some a → (a ≤ x ↔ k < cntLe x l) := by
 induction l with
 | nil => intro k a e; simp at e
 | cons b l ih =>
  intro k a e
  unfold cntLe
  cases k with
  | zero =>
   simp only [List.getElem?_cons_zero, Option.some.injEq] at e
   subst e
   split <;> omega
  | succ k =>
   simp only [List.getElem?_cons_succ] at e
   split
   ·rw [ih h.tail k a e]; omega
   ·have hm : a ∈ l := List.mem_of_getElem? e
    have := h.head_lt a hm
    omega
theorem all_behind {α : Type} (f : α → Int) (a : Int) : ∀ (l : List α), (∀ x ∈ l, a < f x) → ∀ b, Rises (l.map f) → l.takeWhile (fun x => decide (f x ≤ b)) = l.filter (fun x => decide (a < f x) && decide (f x ≤ b))
 | [], _, _, _ => rfl
 | x :: l, h, b, hr => by
  have hx := h x List.mem_cons_self
  have ih := all_behind f a l (fun y hy => h y (List.mem_cons_of_mem _ hy)) b hr.tail
  by_cases k : f x ≤ b
  ·rw [List.takeWhile_cons_of_pos (by simpa using k), List.filter_cons_of_pos (by simp [hx, k]), ih]
  ·rw [List.takeWhile_cons_of_neg (by simpa using k), List.filter_cons_of_neg (by simp [k])]
   symm
   rw [List.filter_eq_nil_iff]
   intro y hy
   have := hr.head_lt (f y) (List.mem_map_of_mem hy)
   simp
   omega
theorem drop_take {α : Type} (f : α → Int) (a b : Int) : ∀ (l : List α), Rises (l.map f) → (l.drop (cntLe a (l.map f))).takeWhile (fun x => decide (f x ≤ b)) = l.filter (fun x => decide (a < f x) && decide (f x ≤ b))
 | [], _ => rfl
 | x :: l, hr => by
  by_cases k : f x ≤ a
  ·rw [show cntLe a ((x :: l).map f) = cntLe a (l.map f) + 1 from if_pos k, List.drop_succ_cons, drop_take f a b l hr.tail, List.filter_cons_of_neg (by simp; omega)]
  ·rw [show cntLe a ((x :: l).map f) = 0 from if_neg k, List.drop_zero]
   refine all_behind f a (x :: l) (fun y hy => ?_) b hr
   rcases List.mem_cons.1 hy with rfl | hy
   ·omega
   ·have := hr.head_lt (f y) (List.mem_map_of_mem hy)
    omega
def lastLe {α : Type} (f : α → Int) (x : Int) (z : α) : List α → α
 | [] => z
 | a :: l => if f a ≤ x then lastLe f x a l else z
structure St where
 (a b o : Int)
def strs (a e o : Int) : List (Int × Int) → List St
 | [] => [⟨a, e, o⟩]
 | c :: l => ⟨a, c.1, o⟩ :: strs c.1 e c.2 l
def less (x : Int) (s : St) : Prop := s.b ≤ x - s.o
def says (x : Int) (s : St) : Prop := s.a ≤ x - s.o ∧ x - s.o < s.b
instance (x : Int) (s : St) : Decidable (less x s) := by unfold less; infer_instance
instance (x : Int) (s : St) : Decidable (says x s) := by unfold says; infer_instance
structure Gr where
 (n f l : Int)
def Gr.more (g : Gr) (at_ : Int) : Gr := ⟨g.n + 1, if g.n = 0 then at_ else g.f, at_⟩
def pGo (x : Int) : List St → Gr × Gr → Gr × Gr
 | [], g => g
 | s :: r, (gl, gs) => pGo x r (if less x s then (gl.more (x - s.o), gs) else if says x s then (gl, gs.more (x - s.o)) else (gl, gs))
def Chain (a : Int) : List St → Prop
 | [] => True
 | s :: l => s.a = a ∧ s.a < s.b ∧ Chain s.b l
theorem strs_chain {e : Int} : ∀ (l : List (Int × Int)) (a o : Int), a < e → (∀ c ∈ l, a < c.1 ∧ c.1 < e) → Rises (l.map (·.1)) → Chain a (strs a e o l)
 | [], a, o, h, _, _ => ⟨rfl, h, trivial⟩
 | c :: l, a, o, h, hl, hr => by
  have hc := hl c List.mem_cons_self
  refine ⟨rfl, hc.1, strs_chain l c.1 c.2 hc.2 (fun d hd => ⟨?_, (hl d (List.mem_cons_of_mem _ hd)).2⟩) hr.tail⟩
  exact hr.head_lt d.1 (List.mem_map_of_mem hd)
end Zm
end Go.Proofs.YtklehbmghjcmaaaGreatDoor
namespace Go.Proofs.YtklehbmghjcmaaaGreatDoor
namespace Zm
def rng (a : Int) : Nat → List Int
 | 0 => []
 | n + 1 => a :: rng (a + 1) n
def Up (A B : Int) (g : Int → Int) : Prop := ∀ i j, A ≤ i → i < j → j ≤ B → g i < g j
theorem Up.le {A B : Int} {g : Int → Int} (h : Up A B g) {i j : Int} (hi : A ≤ i) (k : i ≤ j) (hj : j ≤ B) : g i ≤ g j := by
 rcases Int.lt_or_eq_of_le k with k | k
 ·exact Int.le_of_lt (h i j hi k hj)
 ·rw [k]; exact Int.le_refl _
end Zm
end Go.Proofs.YtklehbmghjcmaaaGreatDoor
namespace Go.Proofs.YtklehbmghjcmaaaGreatDoor
open Go.RowKit
namespace Sr
def Bx (W : World) (b : Nat) (l : List Value) : Prop := b < W.heap.size ∧ ∀ i v, l[i]? = some v → W.cell? ⟨b, i, none⟩ = some v ∧ W.frozen? ⟨b, i, none⟩ = false
theorem Bx.below {W W' : World} {b : Nat} {l : List Value} (h : Bx W b l) (hb : Below W.heap.size W W') : Bx W' b l :=
 ⟨Nat.lt_of_lt_of_le h.1 hb.size, fun i v e => ⟨(hb.cell (p := ⟨b, i, none⟩) h.1).trans (h.2 i v e).1, (hb.frozen (p := ⟨b, i, none⟩) h.1).trans (h.2 i v e).2⟩⟩
theorem Bx.alloc {W : World} {b : Nat} {l : List Value} (h : Bx W b l) (o : Obj) : Bx (W.alloc o) b l := h.below ((Below.refl _ W).alloc (Nat.le_refl _) o)
theorem Bx.new (w : World) (l : List Value) (t : TypeId) : Bx (w.alloc (.cells l.toArray t)) w.heap.size l :=
 ⟨by simp, fun i v e => ⟨by rw [World.cell?_alloc_at _ _ _ _ rfl]; simpa using e, by rw [World.frozen?_alloc_at _ _ _ _ rfl]⟩⟩
theorem Bx.newAt (w : World) (l : List Value) (t : TypeId) (b : Nat) (hb : w.heap.size = b) : Bx (w.alloc (.cells l.toArray t)) b l := hb ▸ Bx.new w l t
theorem Bx.c {W : World} {b : Nat} {l : List Value} (h : Bx W b l) (i : Nat) {v : Value} (e : l[i]? = some v) : W.cell? ⟨b, i, none⟩ = some v := (h.2 i v e).1
theorem Bx.f {W : World} {b : Nat} {l : List Value} (h : Bx W b l) (i : Nat) {v : Value} (e : l[i]? = some v) : W.frozen? ⟨b, i, none⟩ = false := (h.2 i v e).2
theorem below_setCells {w : World} {b : Nat} (hb : w.heap.size ≤ b) : ∀ (vs : List Value) (W : World) (i : Nat), Below w.heap.size w W → Below w.heap.size w (W.setCells b i vs)
 | [], _, _, h => h
 | v :: vs, W, i, h => below_setCells hb vs _ _ (h.setCell (p := ⟨b, i, none⟩) hb v)
theorem setCells_size (b : Nat) : ∀ (vs : List Value) (W : World) (i : Nat), (W.setCells b i vs).heap.size = W.heap.size
 | [], _, _ => rfl
 | v :: vs, W, i => by rw [World.setCells, setCells_size b vs]; simp
theorem setCells_off (b : Nat) (vs : List Value) (W : World) (i : Nat) (p : Addr) (h : p.block ≠ b) : (W.setCells b i vs).cell? p = W.cell? p :=
 World.cell?_setCells_out b vs i W p (fun e _ => absurd e h)
theorem Bx.there {W : World} {b : Nat} {l : List Value} (h : Bx W b l) : W.there b 0 l.length := fun j hj => by
 have := h.2 j l[j] (List.getElem?_eq_getElem hj)
 rw [Nat.zero_add]
 exact ⟨by rw [this.1]; rfl, this.2⟩
theorem Bx.rng {W : World} {b : Nat} {l : List Value} (h : Bx W b l) (p cs q : List Value) (e : l = p ++ (cs ++ q)) : W.rangeAt b p.length cs := fun j v hv => by
 refine (h.2 (p.length + j) v ?_).1
 have hj : j < cs.length := (List.getElem?_eq_some_iff.1 hv).1
 rw [e, List.getElem?_append_right (by omega), show p.length + j - p.length = j by omega, List.getElem?_append_left hj]
 exact hv
theorem Bx.all {W : World} {b : Nat} {l : List Value} (h : Bx W b l) : W.rangeAt b 0 l := fun j v hv => by rw [Nat.zero_add]; exact (h.2 j v hv).1
theorem Bx.setAll {W : World} {b : Nat} {l : List Value} (h : Bx W b l) (vs : List Value) (hl : l.length = vs.length) : Bx (W.setCells b 0 vs) b vs :=
 ⟨by rw [setCells_size]; exact h.1, fun i v e => by
  have hi := (List.getElem?_eq_some_iff.1 e).1
  refine ⟨?_, ?_⟩
  ·have := World.rangeAt_setCells_same W b 0 vs (hl ▸ h.there) i v e
   rwa [Nat.zero_add] at this
  ·rw [World.frozen?_setCells]; exact (h.2 i l[i] (List.getElem?_eq_getElem (by omega))).2⟩
theorem Bx.setOther {W : World} {b' b : Nat} {l : List Value} (h : Bx W b' l) (hb : b' ≠ b) (vs : List Value) (j : Nat := 0) : Bx (W.setCells b j vs) b' l :=
 ⟨by rw [setCells_size]; exact h.1, fun i v e => ⟨by rw [setCells_off b vs _ _ _ hb]; exact (h.2 i v e).1, by rw [World.frozen?_setCells]; exact (h.2 i v e).2⟩⟩
theorem gen_any {P : Program} {md : Region.Mode} {ops : Array Oper} {Q : Exit → Act → World → Prop} {S : World → Prop} {fuel : Nat} {listed : Array Bool} {a : Act} {w1 : World} (T : World → Prop) (h : T w1)
  (k : ∀ w2, T w2 → wpAnyH P md ops Q S fuel listed a w2) : wpAnyH P md ops Q S fuel listed a w1 := k _ h
theorem gen_list {P : Program} {ops : Array Oper} {Q : Exit → Act → World → Prop} {rest : List Oper} {a : Act} {w1 : World} (T : World → Prop) (h : T w1) (k : ∀ w2, T w2 → wpList P ops Q rest a w2) : wpList P ops Q rest a w1 := k _ h
theorem gen_code {P : Program} {c : Code} {Q : Exit → Act → World → Prop} {a : Act} {w1 : World} (T : World → Prop) (h : T w1) (k : ∀ w2, T w2 → Code.wp P c Q a w2) : Code.wp P c Q a w1 := k _ h
end Sr
end Go.Proofs.YtklehbmghjcmaaaGreatDoor
namespace Go.Proofs.YtklehbmghjcmaaaGreatDoor
open Go.RowKit Sr
theorem tr_form {W : World} {base n : Nat} {v : Value} {L : List TrR} (h : W.ownsRow base 23 4 v n (trCs L)) (h0 : 0 < n) : ∃ g cap cur, v = .slice (some ⟨g, 0, none⟩) n cap ∧ base ≤ g ∧ W.heap[g]? = some (.cells cur 23 (0, 0)) ∧ n ≤ cap ∧ cap ≤ maxLen ∧ cur.size = cap * 4 ∧ cur.toList.take (n * 4) = trCs L := by
 rcases h.2 with ⟨_, z⟩ | ⟨g, cap, cur, a, b, c, d, e, f, i⟩
 ·omega
 ·exact ⟨g, cap, cur, a, b, c, d, e, f, i⟩
theorem tr_len {W : World} {base n : Nat} {v : Value} {xs : List Value} (h : W.ownsRow base 23 4 v n xs) : ∃ ao c, v = .slice ao n c := by
 rcases h.2 with ⟨a, z⟩ | ⟨g, cap, cur, a, _⟩
 ·subst z; exact ⟨none, 0, a⟩
 ·exact ⟨_, _, a⟩
theorem tr_cell {W : World} {b : Nat} {cs : Array Value} {t : TypeId} {fz : Nat × Nat} (h : W.heap[b]? = some (.cells cs t fz)) {i : Nat} {v : Value} (hi : cs[i]? = some v) : W.cell? ⟨b, i, none⟩ = some v := by simp [World.cell?, h, hi]
def TrAt (W : World) (sv : Value) (L : List TrR) : Prop := (∃ ao c, sv = .slice ao L.length c) ∧ L.length ≤ maxLen ∧ (L = [] ∨ ∃ g o c, sv = .slice (some ⟨g, o, none⟩) L.length c ∧ g < W.heap.size ∧ ∀ j u, (trCs L)[j]? = some u → W.cell? ⟨g, o + j, none⟩ = some u)
theorem TrAt.mv {W W' : World} {sv : Value} {L : List TrR} (h : TrAt W sv L) (k : Below W.heap.size W W') : TrAt W' sv L := by
 obtain ⟨h1, h2, h3⟩ := h
 refine ⟨h1, h2, h3.imp_right ?_⟩
 rintro ⟨g, o, c, e, hg, hc⟩
 exact ⟨g, o, c, e, Nat.lt_of_lt_of_le hg k.size, fun j u hj => (k.cell (p := ⟨g, o + j, none⟩) hg).trans (hc j u hj)⟩
theorem TrAt.of_own {W : World} {base : Nat} {sv : Value} {L : List TrR} (h : W.ownsRow base 23 4 sv L.length (trCs L)) : TrAt W sv L := by
 refine ⟨tr_len h, ?_, ?_⟩
 ·rcases h.2 with ⟨_, z⟩ | ⟨g, cap, cur, _, _, _, h1, h2, _⟩
  ·rw [z]; exact Nat.zero_le _
  ·omega
 ·rcases Nat.eq_zero_or_pos L.length with z | z
  ·exact .inl (List.eq_nil_of_length_eq_zero z)
  ·obtain ⟨g, cap, cur, rfl, _, hg, h1, h2, h3, h4⟩ := tr_form h z
   refine .inr ⟨g, 0, cap, rfl, (Array.getElem?_eq_some_iff.1 hg).1, fun j u hj => ?_⟩
   rw [Nat.zero_add]
   have hj9 := hj
   rw [← h4, List.getElem?_take] at hj9
   split at hj9
   ·exact tr_cell hg (by simpa using hj9)
   ·cases hj9
theorem TrAt.row {W : World} {sv : Value} {L : List TrR} (h : TrAt W sv L) {j : Nat} {x : TrR} (hj : L[j]? = some x) : ∃ g o c, sv = .slice (some ⟨g, o, none⟩) L.length c ∧ W.rangeAt g (o + j * 4) (trC x) := by
 have hlt := (List.getElem?_eq_some_iff.1 hj).1
 rcases h.2.2 with rfl | ⟨g, o, c, e, _, hc⟩
 ·simp at hlt
 ·refine ⟨g, o, c, e, fun i v hv => ?_⟩
  have hi : i < 4 := by have := (List.getElem?_eq_some_iff.1 hv).1; simpa [trC] using this
  have hsp : L = L.take j ++ x :: L.drop (j + 1) := by
   have h9 := List.take_append_drop j L
   rw [List.drop_eq_getElem_cons hlt, (List.getElem?_eq_some_iff.1 hj).2] at h9
   exact h9.symm
  have hg := trCs_get (L.take j) (L.drop (j + 1)) x i hi
  rw [← hsp, List.length_take, Nat.min_eq_left (by omega), hv] at hg
  have := hc _ _ hg
  rwa [← Nat.add_assoc] at this
theorem ret_b9 {a b : Bool} (h : a = b) : Ending.returned (.bool a) = zr (.bool b) := by rw [h]
end Go.Proofs.YtklehbmghjcmaaaGreatDoor
namespace Go.Proofs.YtklehbmghjcmaaaGreatDoor
open Go.RowKit Sr
theorem behind1_any (x : TrR) (t : Int) (w : World) :
  Calls Tryz.prog 174 #[.agg #[vi ki x.at_, vi ki x.off, .bool x.dst, .string x.ab], vi ki t] w fun r w' => r = zr (vi ki (if x.at_ ≤ t then -1 else 1)) ∧ Below w.heap.size w w' := by
 have HB : Hid (Below w.heap.size w (w.alloc (.cells #[vi ki x.at_, vi ki x.off, .bool x.dst, .string x.ab] 23))) := (Below.refl _ _).alloc (Nat.le_refl _) _
 by_cases h : x.at_ ≤ t
 ·rw [if_pos h]
  go_enter Tryz.func174, Tryz.ntmps174
  go_wp2
  go_ret
  exact ⟨rfl, HB.out⟩
 ·rw [if_neg h]
  go_enter Tryz.func174, Tryz.ntmps174
  go_wp2
  go_ret
  exact ⟨rfl, HB.out⟩
theorem bsearch_any (L : List TrR) (sv : Value) (t : Int) (hr : Zm.Rises (L.map (·.at_))) (h4 : L.length ≤ 4096) (w : World) (HT : Hid (TrAt w sv L)) :
  Calls Tryz.prog 173 #[sv, vi ki t, .func (.func 174) #[] #[]] w fun r w' => r = zr (.tuple #[vi ki (Zm.cntLe t (L.map (·.at_)) : Int), .bool false]) ∧ Below w.heap.size w w' := by
 obtain ⟨⟨ao, c, hsv⟩, hml, _⟩ := HT.out
 obtain ⟨n, hn⟩ : ∃ n, L.length = n := ⟨_, rfl⟩
 have hC := Zm.cntLe_iff (x := t) hr
 have hcl := Zm.cntLe_le t (L.map (·.at_))
 rw [List.length_map, hn] at hcl
 obtain ⟨C, hCd⟩ : ∃ C, C = Zm.cntLe t (L.map (·.at_)) := ⟨_, rfl⟩
 rw [← hCd] at hC hcl ⊢
 clear hCd hr
 rw [hn] at hsv hml h4
 subst hsv
 unfold maxLen at hml
 have HC : Hid (∀ (k : Nat) (x : TrR), L[k]? = some x → (x.at_ ≤ t ↔ k < C)) := fun k x hx => hC k x.at_ (by rw [List.getElem?_map, hx]; rfl)
 clear hC
 go_enter Tryz.func173, Tryz.ntmps173
 go_wp2_with fail
 go_loopw [9, 10] (fun iv jv wr => ∃ i j : Nat, i ≤ C ∧ C ≤ j ∧ j ≤ n ∧ iv = vi ki (i : Int) ∧ jv = vi ki (j : Int) ∧ Hid (Below w.heap.size w wr)) (fun iv jv _ => (intOf jv).toNat - (intOf iv).toNat)
 case atStart => exact ⟨0, n, Nat.zero_le _, hcl, Nat.le_refl _, rfl, rfl, Below.refl _ _⟩
 case round =>
  obtain ⟨i, j, hi, hj, hjn, rfl, rfl, HB⟩ := hrel
  by_cases hij : i < j
  ·obtain ⟨h, hh⟩ : ∃ h, h = (i + j) / 2 := ⟨_, rfl⟩
   have e1 : ((i : Int) + (j : Int)) / 2 = (h : Int) := by omega
   have b1 : i ≤ h := by omega
   have b2 : h < j := by omega
   obtain ⟨x, hx⟩ : ∃ x, L[h]? = some x := ⟨_, List.getElem?_eq_getElem (by omega)⟩
   obtain ⟨g, o, c', hsv, hrg⟩ := (HT.out.mv (HB.out.mono (Nat.le_refl _))).row hx
   rw [hn] at hsv
   simp only [Value.slice.injEq, true_and] at hsv
   obtain ⟨rfl, rfl⟩ := hsv
   have HRG : Hid (wr.rangeAt g (o + h * 4) (trC x)) := hrg
   have hx' := HC.out h x hx
   have CM : Hid (∀ w : World, Calls Tryz.prog 174 #[.agg #[vi ki x.at_, vi ki x.off, .bool x.dst, .string x.ab], vi ki t] w fun r w' => r = zr (vi ki (if x.at_ ≤ t then -1 else 1)) ∧ Below w.heap.size w w') := fun w => behind1_any x t w
   clear hrg hx hh
   by_cases hle : x.at_ ≤ t
   ·have hk := hx'.1 hle
    rw [if_pos hle] at CM
    clear hx'
    go_wp2_with (first | (refine wpList_load_mid rfl 23 _ rfl g (o + h * 4) rfl [vi ki x.at_, vi ki x.off, .bool x.dst, .string x.ab] _ HRG.out Tryz.underlying23 rfl (by kernel_rfl) ?_) | fail)
    refine (CM.out _).mono ?_
    rintro e v1 ⟨rfl, hb⟩
    have HB1 : Hid (Below w.heap.size w v1) := HB.out.trans (hb.mono HB.out.size)
    clear hb HRG CM
    go_wp2_with fail
    exact ⟨⟨h + 1, j, by omega, by omega, by omega, by simp, rfl, HB1⟩, by simp [intOf]; omega⟩
   ·have hk : ¬ h < C := fun k => hle (hx'.2 k)
    rw [if_neg hle] at CM
    clear hx'
    go_wp2_with (first | (refine wpList_load_mid rfl 23 _ rfl g (o + h * 4) rfl [vi ki x.at_, vi ki x.off, .bool x.dst, .string x.ab] _ HRG.out Tryz.underlying23 rfl (by kernel_rfl) ?_) | fail)
    refine (CM.out _).mono ?_
    rintro e v1 ⟨rfl, hb⟩
    have HB1 : Hid (Below w.heap.size w v1) := HB.out.trans (hb.mono HB.out.size)
    clear hb HRG CM
    go_wp2_with fail
    exact ⟨⟨i, h, by omega, by omega, by omega, rfl, rfl, HB1⟩, by simp [intOf]; omega⟩
  ·have e : i = C := by omega
   subst e
   by_cases hin : i < n
   ·obtain ⟨x, hx⟩ : ∃ x, L[i]? = some x := ⟨_, List.getElem?_eq_getElem (by omega)⟩
    obtain ⟨g, o, c', hsv, hrg⟩ := (HT.out.mv (HB.out.mono (Nat.le_refl _))).row hx
    rw [hn] at hsv
    simp only [Value.slice.injEq, true_and] at hsv
    obtain ⟨rfl, rfl⟩ := hsv
    have hx' := HC.out i x hx
    have hle : ¬ x.at_ ≤ t := fun k => by have := hx'.1 k; omega
    have CM : Hid (∀ w : World, Calls Tryz.prog 174 #[.agg #[vi ki x.at_, vi ki x.off, .bool x.dst, .string x.ab], vi ki t] w fun r w' => r = zr (vi ki 1) ∧ Below w.heap.size w w') := fun w => by
     have R := behind1_any x t w
     rw [if_neg hle] at R
     exact R
    have r0 : wr.cell? ⟨g, o + i * 4, none⟩ = some (vi ki x.at_) := hrg 0 (vi ki x.at_) rfl
    have r1 : wr.cell? ⟨g, o + i * 4 + 1, none⟩ = some (vi ki x.off) := hrg 1 (vi ki x.off) rfl
    have r2 : wr.cell? ⟨g, o + i * 4 + 2, none⟩ = some (.bool x.dst) := hrg 2 (.bool x.dst) rfl
    have r3 : wr.cell? ⟨g, o + i * 4 + 3, none⟩ = some (.string x.ab) := hrg 3 (.string x.ab) rfl
    clear hrg hx hx'
    go_wp2_with fail
    refine (CM.out _).mono ?_
    rintro e v1 ⟨rfl, hb⟩
    have HB1 : Hid (Below w.heap.size w v1) := HB.out.trans (hb.mono HB.out.size)
    clear hb CM r0 r1 r2 r3
    go_wp2_with fail
    go_ret2
    exact ⟨rfl, HB1.out⟩
   ·go_wp2_with fail
    go_ret2
    exact ⟨rfl, HB.out⟩
end Go.Proofs.YtklehbmghjcmaaaGreatDoor
namespace Go.Proofs.YtklehbmghjcmaaaGreatDoor
open Go.RowKit Sr
theorem behind_any (T : List Value) (hT : T.length = 25) (L : List TrR) (sv : Value) (h5 : T[5]? = some sv) (t : Int) (hr : Zm.Rises (L.map (·.at_))) (h4 : L.length ≤ 4096) (w : World) (HT : Hid (TrAt w sv L)) :
  Calls Tryz.prog 127 #[.agg T.toArray, vi ki t] w fun r w' => r = zr (vi ki (Zm.cntLe t (L.map (·.at_)) : Int)) ∧ Below w.heap.size w w' := by
 have X1 : Hid (Bx (w.alloc (.cells T.toArray 44)) w.heap.size T) := Bx.new w T 44
 have B1 : Hid (Below w.heap.size w (w.alloc (.cells T.toArray 44))) := (Below.refl _ _).alloc (Nat.le_refl _) _
 have BS1 : Hid (∀ W : World, TrAt W sv L → Calls Tryz.prog 173 #[sv, vi ki t, .func (.func 174) #[] #[]] W fun r w' => r = zr (.tuple #[vi ki (Zm.cntLe t (L.map (·.at_)) : Int), .bool false]) ∧ Below W.heap.size W w') := fun W h => bsearch_any L sv t hr h4 W h
 obtain ⟨⟨ao, c, hsv⟩, _, _⟩ := HT.out
 generalize (Zm.cntLe t (L.map (·.at_))) = C at *
 go_enter Tryz.func127, Tryz.ntmps127
 generalize hUA : T.toArray = UA at *
 go_upto_region 1 with fail
 refine gen_code (fun V => Bx V w.heap.size T ∧ Below w.heap.size w V) ⟨X1.out, B1.out⟩ ?_
 clear X1 B1
 rintro V ⟨XV, BV⟩
 have c5 := XV.c 5 h5
 have HB : Hid (Below w.heap.size w V) := BV
 have HV : Hid (TrAt V sv L) := HT.out.mv BV
 clear XV BV
 subst hsv
 go_wp2_with fail
 refine (BS1.out _ HV.out).mono ?_
 rintro e v1 ⟨rfl, hb⟩
 have HB1 : Hid (Below w.heap.size w v1) := HB.out.trans (hb.mono HB.out.size)
 clear hb
 go_wp2_with fail
 go_ret
 exact ⟨rfl, HB1.out⟩
def tbF (nm : ByteArray) (f : TrR) (sv : Value) (FL : List Value) : List Value := .string nm :: (trC f ++ (sv :: FL))
theorem tbF_len {nm : ByteArray} {f : TrR} {sv : Value} {FL : List Value} (h : FL.length = 19) : (tbF nm f sv FL).length = 25 := by simp [tbF, trC, h]
theorem tbF_foot {nm : ByteArray} {f : TrR} {sv : Value} {FL : List Value} (i : Nat) : (tbF nm f sv FL)[6 + i]? = FL[i]? := by
 unfold tbF trC
 rw [show 6 + i = i + 6 by omega]
 rfl
theorem stand_first_n (nm : ByteArray) (f : TrR) (sv : Value) (FL : List Value) (hF : FL.length = 19) (fr t : Int) (f0 : FL[0]? = some (.bool false)) (f1 : FL[1]? = some (vi ki fr))  (w : World) (BH : Hid (∀ W : World, Below w.heap.size w W → Calls Tryz.prog 127 #[.agg (tbF nm f sv FL).toArray, vi ki t] W fun r w' => r = zr (vi ki 0) ∧ Below W.heap.size W w')) :
  Calls Tryz.prog 79 #[.agg (tbF nm f sv FL).toArray, vi ki t] w fun r w' => r = zr (.agg #[vi ki f.at_, vi ki f.off, .bool f.dst, .string f.ab]) ∧ Below w.heap.size w w' := by
 have X1 : Hid (Bx ((w.alloc (.cells (tbF nm f sv FL).toArray 44)).alloc (.cells #[vi ki 0, vi ki 0, .bool false, .string ⟨#[]⟩] 23)) w.heap.size (tbF nm f sv FL)) := (Bx.new w _ _).alloc _
 have Y1 : Hid (Bx ((w.alloc (.cells (tbF nm f sv FL).toArray 44)).alloc (.cells #[vi ki 0, vi ki 0, .bool false, .string ⟨#[]⟩] 23)) (w.heap.size + 1) [vi ki 0, vi ki 0, .bool false, .string ⟨#[]⟩]) := Bx.newAt _ [vi ki 0, vi ki 0, .bool false, .string ⟨#[]⟩] _ _ (by simp)
 have B1 : Hid (Below w.heap.size w ((w.alloc (.cells (tbF nm f sv FL).toArray 44)).alloc (.cells #[vi ki 0, vi ki 0, .bool false, .string ⟨#[]⟩] 23))) := ((Below.refl _ _).alloc (Nat.le_refl _) _).alloc (by simp) _
 go_enter Tryz.func79, Tryz.ntmps79
 generalize hUA : (tbF nm f sv FL).toArray = UA at *
 go_upto_region 1 with fail
 refine gen_code (fun V => Bx V w.heap.size (tbF nm f sv FL) ∧ Bx V (w.heap.size + 1) [vi ki 0, vi ki 0, .bool false, .string ⟨#[]⟩] ∧ Below w.heap.size w V) ⟨X1.out, Y1.out, B1.out⟩ ?_
 clear X1 B1 Y1
 rintro V ⟨XV, YV, BV⟩
 have c6 : V.cell? ⟨w.heap.size, 6, none⟩ = some (.bool false) := XV.c 6 ((tbF_foot 0).trans f0)
 have c7 : V.cell? ⟨w.heap.size, 7, none⟩ = some (vi ki fr) := XV.c 7 ((tbF_foot 1).trans f1)
 have HX : Hid (Bx V w.heap.size (tbF nm f sv FL)) := XV
 have HY : Hid (Bx V (w.heap.size + 1) [vi ki 0, vi ki 0, .bool false, .string ⟨#[]⟩]) := YV
 have HB : Hid (Below w.heap.size w V) := BV
 clear XV YV BV
 go_wp2_with (first | (refine wpList_load_mid rfl 44 _ rfl w.heap.size 0 rfl (tbF nm f sv FL) _ HX.out.all Tryz.underlying44 rfl (by rw [tbF_len hF]; kernel_rfl) ?_; rw [hUA]) | fail)
 refine (BH.out _ HB.out).mono ?_
 rintro e v1 ⟨rfl, hb⟩
 have HX1 : Hid (Bx v1 w.heap.size (tbF nm f sv FL)) := HX.out.below hb
 have HY1 : Hid (Bx v1 (w.heap.size + 1) [vi ki 0, vi ki 0, .bool false, .string ⟨#[]⟩]) := HY.out.below hb
 have HB1 : Hid (Below w.heap.size w v1) := HB.out.trans (hb.mono HB.out.size)
 clear hb HX HY HB c6 c7 BH
 have r0 : v1.cell? ⟨w.heap.size, 1, none⟩ = some (vi ki f.at_) := HX1.out.c 1 rfl
 have r1 : v1.cell? ⟨w.heap.size, 2, none⟩ = some (vi ki f.off) := HX1.out.c 2 rfl
 have r2 : v1.cell? ⟨w.heap.size, 3, none⟩ = some (.bool f.dst) := HX1.out.c 3 rfl
 have r3 : v1.cell? ⟨w.heap.size, 4, none⟩ = some (.string f.ab) := HX1.out.c 4 rfl
 have l0 : v1.cell? ⟨w.heap.size + 1, 0, none⟩ = some (vi ki 0) := HY1.out.c 0 rfl
 have z0 : v1.frozen? ⟨w.heap.size + 1, 0, none⟩ = false := HY1.out.f 0 (v := vi ki 0) rfl
 have l1 : v1.cell? ⟨w.heap.size + 1, 1, none⟩ = some (vi ki 0) := HY1.out.c 1 rfl
 have z1 : v1.frozen? ⟨w.heap.size + 1, 1, none⟩ = false := HY1.out.f 1 (v := vi ki 0) rfl
 have l2 : v1.cell? ⟨w.heap.size + 1, 2, none⟩ = some (.bool false) := HY1.out.c 2 rfl
 have z2 : v1.frozen? ⟨w.heap.size + 1, 2, none⟩ = false := HY1.out.f 2 (v := .bool false) rfl
 have l3 : v1.cell? ⟨w.heap.size + 1, 3, none⟩ = some (.string ⟨#[]⟩) := HY1.out.c 3 rfl
 have z3 : v1.frozen? ⟨w.heap.size + 1, 3, none⟩ = false := HY1.out.f 3 (v := .string ⟨#[]⟩) rfl
 have XF : Hid (Bx (v1.setCells (w.heap.size + 1) 0 [vi ki f.at_, vi ki f.off, .bool f.dst, .string f.ab]) (w.heap.size + 1) [vi ki f.at_, vi ki f.off, .bool f.dst, .string f.ab]) := HY1.out.setAll _ rfl
 have BF : Hid (Below w.heap.size w (v1.setCells (w.heap.size + 1) 0 [vi ki f.at_, vi ki f.off, .bool f.dst, .string f.ab])) := below_setCells (by omega) _ _ _ HB1.out
 have y0 := XF.out.c 0 rfl
 have y1 := XF.out.c 1 rfl
 have y2 := XF.out.c 2 rfl
 have y3 := XF.out.c 3 rfl
 simp only [World.setCells, Nat.zero_add, Nat.reduceAdd] at y0 y1 y2 y3
 clear HX1 HY1 HB1 XF hUA
 go_wp2_with fail
 exact bodyPost_ret (v := .agg #[vi ki f.at_, vi ki f.off, .bool f.dst, .string f.ab]) (by simp [results, Tryz.results79, go_sem, y0, y1, y2, y3]) rfl ⟨rfl, BF.out⟩
theorem stand_tr_n (nm : ByteArray) (f : TrR) (sv : Value) (FL : List Value) (hF : FL.length = 19) (fr t : Int) (f0 : FL[0]? = some (.bool false)) (f1 : FL[1]? = some (vi ki fr))  (L : List TrR) (h4 : L.length ≤ 4096) (C : Nat) (x : TrR) (hx : L[C]? = some x) (w : World) (HT : Hid (TrAt w sv L)) (BH : Hid (∀ W : World, Below w.heap.size w W → Calls Tryz.prog 127 #[.agg (tbF nm f sv FL).toArray, vi ki t] W fun r w' => r = zr (vi ki ((C + 1 : Nat) : Int)) ∧ Below W.heap.size W w')) :
  Calls Tryz.prog 79 #[.agg (tbF nm f sv FL).toArray, vi ki t] w fun r w' => r = zr (.agg #[vi ki x.at_, vi ki x.off, .bool x.dst, .string x.ab]) ∧ Below w.heap.size w w' := by
 have X1 : Hid (Bx ((w.alloc (.cells (tbF nm f sv FL).toArray 44)).alloc (.cells #[vi ki 0, vi ki 0, .bool false, .string ⟨#[]⟩] 23)) w.heap.size (tbF nm f sv FL)) := (Bx.new w _ _).alloc _
 have Y1 : Hid (Bx ((w.alloc (.cells (tbF nm f sv FL).toArray 44)).alloc (.cells #[vi ki 0, vi ki 0, .bool false, .string ⟨#[]⟩] 23)) (w.heap.size + 1) [vi ki 0, vi ki 0, .bool false, .string ⟨#[]⟩]) := Bx.newAt _ [vi ki 0, vi ki 0, .bool false, .string ⟨#[]⟩] _ _ (by simp)
 have B1 : Hid (Below w.heap.size w ((w.alloc (.cells (tbF nm f sv FL).toArray 44)).alloc (.cells #[vi ki 0, vi ki 0, .bool false, .string ⟨#[]⟩] 23))) := ((Below.refl _ _).alloc (Nat.le_refl _) _).alloc (by simp) _
 go_enter Tryz.func79, Tryz.ntmps79
 generalize hUA : (tbF nm f sv FL).toArray = UA at *
 go_upto_region 1 with fail
 refine gen_code (fun V => Bx V w.heap.size (tbF nm f sv FL) ∧ Bx V (w.heap.size + 1) [vi ki 0, vi ki 0, .bool false, .string ⟨#[]⟩] ∧ Below w.heap.size w V) ⟨X1.out, Y1.out, B1.out⟩ ?_
 clear X1 B1 Y1
 rintro V ⟨XV, YV, BV⟩
 have c6 : V.cell? ⟨w.heap.size, 6, none⟩ = some (.bool false) := XV.c 6 ((tbF_foot 0).trans f0)
 have c7 : V.cell? ⟨w.heap.size, 7, none⟩ = some (vi ki fr) := XV.c 7 ((tbF_foot 1).trans f1)
 have HX : Hid (Bx V w.heap.size (tbF nm f sv FL)) := XV
 have HY : Hid (Bx V (w.heap.size + 1) [vi ki 0, vi ki 0, .bool false, .string ⟨#[]⟩]) := YV
 have HB : Hid (Below w.heap.size w V) := BV
 clear XV YV BV
 go_wp2_with (first | (refine wpList_load_mid rfl 44 _ rfl w.heap.size 0 rfl (tbF nm f sv FL) _ HX.out.all Tryz.underlying44 rfl (by rw [tbF_len hF]; kernel_rfl) ?_; rw [hUA]) | fail)
 refine (BH.out _ HB.out).mono ?_
 rintro e v1 ⟨rfl, hb⟩
 have HX1 : Hid (Bx v1 w.heap.size (tbF nm f sv FL)) := HX.out.below hb
 have HY1 : Hid (Bx v1 (w.heap.size + 1) [vi ki 0, vi ki 0, .bool false, .string ⟨#[]⟩]) := HY.out.below hb
 have HB1 : Hid (Below w.heap.size w v1) := HB.out.trans (hb.mono HB.out.size)
 clear hb HX HY HB c6 c7 BH
 obtain ⟨g, o, c', hsv, hrg⟩ := (HT.out.mv HB1.out).row hx
 have hlt : C < L.length := (List.getElem?_eq_some_iff.1 hx).1
 have r5 : v1.cell? ⟨w.heap.size, 5, none⟩ = some sv := HX1.out.c 5 rfl
 have HRG : Hid (v1.rangeAt g (o + C * 4) (trC x)) := hrg
 have e1 : ((C : Int) + 1) - 1 = (C : Int) := by omega
 clear hrg hx HT
 subst hsv
 have l0 : v1.cell? ⟨w.heap.size + 1, 0, none⟩ = some (vi ki 0) := HY1.out.c 0 rfl
 have z0 : v1.frozen? ⟨w.heap.size + 1, 0, none⟩ = false := HY1.out.f 0 (v := vi ki 0) rfl
 have l1 : v1.cell? ⟨w.heap.size + 1, 1, none⟩ = some (vi ki 0) := HY1.out.c 1 rfl
 have z1 : v1.frozen? ⟨w.heap.size + 1, 1, none⟩ = false := HY1.out.f 1 (v := vi ki 0) rfl
 have l2 : v1.cell? ⟨w.heap.size + 1, 2, none⟩ = some (.bool false) := HY1.out.c 2 rfl
 have z2 : v1.frozen? ⟨w.heap.size + 1, 2, none⟩ = false := HY1.out.f 2 (v := .bool false) rfl
 have l3 : v1.cell? ⟨w.heap.size + 1, 3, none⟩ = some (.string ⟨#[]⟩) := HY1.out.c 3 rfl
 have z3 : v1.frozen? ⟨w.heap.size + 1, 3, none⟩ = false := HY1.out.f 3 (v := .string ⟨#[]⟩) rfl
 have XF : Hid (Bx (v1.setCells (w.heap.size + 1) 0 [vi ki x.at_, vi ki x.off, .bool x.dst, .string x.ab]) (w.heap.size + 1) [vi ki x.at_, vi ki x.off, .bool x.dst, .string x.ab]) := HY1.out.setAll _ rfl
 have BF : Hid (Below w.heap.size w (v1.setCells (w.heap.size + 1) 0 [vi ki x.at_, vi ki x.off, .bool x.dst, .string x.ab])) := below_setCells (by omega) _ _ _ HB1.out
 have y0 := XF.out.c 0 rfl
 have y1 := XF.out.c 1 rfl
 have y2 := XF.out.c 2 rfl
 have y3 := XF.out.c 3 rfl
 simp only [World.setCells, Nat.zero_add, Nat.reduceAdd] at y0 y1 y2 y3
 clear HX1 HY1 HB1 XF hUA
 go_wp2_with (first | (refine wpList_load_mid rfl 23 _ rfl g (o + C * 4) rfl [vi ki x.at_, vi ki x.off, .bool x.dst, .string x.ab] _ HRG.out Tryz.underlying23 rfl (by kernel_rfl) ?_) | fail)
 exact bodyPost_ret (v := .agg #[vi ki x.at_, vi ki x.off, .bool x.dst, .string x.ab]) (by simp [results, Tryz.results79, go_sem, y0, y1, y2, y3]) rfl ⟨rfl, BF.out⟩
theorem stand_first_e (nm : ByteArray) (f : TrR) (sv : Value) (FL : List Value) (hF : FL.length = 19) (fr t : Int) (f0 : FL[0]? = some (.bool true)) (f1 : FL[1]? = some (vi ki fr)) (hno : ¬ fr ≤ t) (w : World) (BH : Hid (∀ W : World, Below w.heap.size w W → Calls Tryz.prog 127 #[.agg (tbF nm f sv FL).toArray, vi ki t] W fun r w' => r = zr (vi ki 0) ∧ Below W.heap.size W w')) :
  Calls Tryz.prog 79 #[.agg (tbF nm f sv FL).toArray, vi ki t] w fun r w' => r = zr (.agg #[vi ki f.at_, vi ki f.off, .bool f.dst, .string f.ab]) ∧ Below w.heap.size w w' := by
 have X1 : Hid (Bx ((w.alloc (.cells (tbF nm f sv FL).toArray 44)).alloc (.cells #[vi ki 0, vi ki 0, .bool false, .string ⟨#[]⟩] 23)) w.heap.size (tbF nm f sv FL)) := (Bx.new w _ _).alloc _
 have Y1 : Hid (Bx ((w.alloc (.cells (tbF nm f sv FL).toArray 44)).alloc (.cells #[vi ki 0, vi ki 0, .bool false, .string ⟨#[]⟩] 23)) (w.heap.size + 1) [vi ki 0, vi ki 0, .bool false, .string ⟨#[]⟩]) := Bx.newAt _ [vi ki 0, vi ki 0, .bool false, .string ⟨#[]⟩] _ _ (by simp)
 have B1 : Hid (Below w.heap.size w ((w.alloc (.cells (tbF nm f sv FL).toArray 44)).alloc (.cells #[vi ki 0, vi ki 0, .bool false, .string ⟨#[]⟩] 23))) := ((Below.refl _ _).alloc (Nat.le_refl _) _).alloc (by simp) _
 have hd : decide (fr ≤ t) = false := decide_eq_false hno
 go_enter Tryz.func79, Tryz.ntmps79
 generalize hUA : (tbF nm f sv FL).toArray = UA at *
 go_upto_region 1 with fail
 refine gen_code (fun V => Bx V w.heap.size (tbF nm f sv FL) ∧ Bx V (w.heap.size + 1) [vi ki 0, vi ki 0, .bool false, .string ⟨#[]⟩] ∧ Below w.heap.size w V) ⟨X1.out, Y1.out, B1.out⟩ ?_
 clear X1 B1 Y1
 rintro V ⟨XV, YV, BV⟩
 have c6 : V.cell? ⟨w.heap.size, 6, none⟩ = some (.bool true) := XV.c 6 ((tbF_foot 0).trans f0)
 have c7 : V.cell? ⟨w.heap.size, 7, none⟩ = some (vi ki fr) := XV.c 7 ((tbF_foot 1).trans f1)
 have HX : Hid (Bx V w.heap.size (tbF nm f sv FL)) := XV
 have HY : Hid (Bx V (w.heap.size + 1) [vi ki 0, vi ki 0, .bool false, .string ⟨#[]⟩]) := YV
 have HB : Hid (Below w.heap.size w V) := BV
 clear XV YV BV
 go_wp2_with (first | (refine wpList_load_mid rfl 44 _ rfl w.heap.size 0 rfl (tbF nm f sv FL) _ HX.out.all Tryz.underlying44 rfl (by rw [tbF_len hF]; kernel_rfl) ?_; rw [hUA]) | fail)
 refine (BH.out _ HB.out).mono ?_
 rintro e v1 ⟨rfl, hb⟩
 have HX1 : Hid (Bx v1 w.heap.size (tbF nm f sv FL)) := HX.out.below hb
 have HY1 : Hid (Bx v1 (w.heap.size + 1) [vi ki 0, vi ki 0, .bool false, .string ⟨#[]⟩]) := HY.out.below hb
 have HB1 : Hid (Below w.heap.size w v1) := HB.out.trans (hb.mono HB.out.size)
 clear hb HX HY HB c6 c7 BH
 have r0 : v1.cell? ⟨w.heap.size, 1, none⟩ = some (vi ki f.at_) := HX1.out.c 1 rfl
 have r1 : v1.cell? ⟨w.heap.size, 2, none⟩ = some (vi ki f.off) := HX1.out.c 2 rfl
 have r2 : v1.cell? ⟨w.heap.size, 3, none⟩ = some (.bool f.dst) := HX1.out.c 3 rfl
 have r3 : v1.cell? ⟨w.heap.size, 4, none⟩ = some (.string f.ab) := HX1.out.c 4 rfl
 have l0 : v1.cell? ⟨w.heap.size + 1, 0, none⟩ = some (vi ki 0) := HY1.out.c 0 rfl
 have z0 : v1.frozen? ⟨w.heap.size + 1, 0, none⟩ = false := HY1.out.f 0 (v := vi ki 0) rfl
 have l1 : v1.cell? ⟨w.heap.size + 1, 1, none⟩ = some (vi ki 0) := HY1.out.c 1 rfl
 have z1 : v1.frozen? ⟨w.heap.size + 1, 1, none⟩ = false := HY1.out.f 1 (v := vi ki 0) rfl
 have l2 : v1.cell? ⟨w.heap.size + 1, 2, none⟩ = some (.bool false) := HY1.out.c 2 rfl
 have z2 : v1.frozen? ⟨w.heap.size + 1, 2, none⟩ = false := HY1.out.f 2 (v := .bool false) rfl
 have l3 : v1.cell? ⟨w.heap.size + 1, 3, none⟩ = some (.string ⟨#[]⟩) := HY1.out.c 3 rfl
 have z3 : v1.frozen? ⟨w.heap.size + 1, 3, none⟩ = false := HY1.out.f 3 (v := .string ⟨#[]⟩) rfl
 have XF : Hid (Bx (v1.setCells (w.heap.size + 1) 0 [vi ki f.at_, vi ki f.off, .bool f.dst, .string f.ab]) (w.heap.size + 1) [vi ki f.at_, vi ki f.off, .bool f.dst, .string f.ab]) := HY1.out.setAll _ rfl
 have BF : Hid (Below w.heap.size w (v1.setCells (w.heap.size + 1) 0 [vi ki f.at_, vi ki f.off, .bool f.dst, .string f.ab])) := below_setCells (by omega) _ _ _ HB1.out
 have y0 := XF.out.c 0 rfl
 have y1 := XF.out.c 1 rfl
 have y2 := XF.out.c 2 rfl
 have y3 := XF.out.c 3 rfl
 simp only [World.setCells, Nat.zero_add, Nat.reduceAdd] at y0 y1 y2 y3
 clear HX1 HY1 HB1 XF hUA
 go_wp2_with fail
 exact bodyPost_ret (v := .agg #[vi ki f.at_, vi ki f.off, .bool f.dst, .string f.ab]) (by simp [results, Tryz.results79, go_sem, y0, y1, y2, y3]) rfl ⟨rfl, BF.out⟩
theorem stand_tr_e (nm : ByteArray) (f : TrR) (sv : Value) (FL : List Value) (hF : FL.length = 19) (fr t : Int) (f0 : FL[0]? = some (.bool true)) (f1 : FL[1]? = some (vi ki fr)) (hno : ¬ fr ≤ t) (L : List TrR) (h4 : L.length ≤ 4096) (C : Nat) (x : TrR) (hx : L[C]? = some x) (w : World) (HT : Hid (TrAt w sv L)) (BH : Hid (∀ W : World, Below w.heap.size w W → Calls Tryz.prog 127 #[.agg (tbF nm f sv FL).toArray, vi ki t] W fun r w' => r = zr (vi ki ((C + 1 : Nat) : Int)) ∧ Below W.heap.size W w')) :
  Calls Tryz.prog 79 #[.agg (tbF nm f sv FL).toArray, vi ki t] w fun r w' => r = zr (.agg #[vi ki x.at_, vi ki x.off, .bool x.dst, .string x.ab]) ∧ Below w.heap.size w w' := by
 have X1 : Hid (Bx ((w.alloc (.cells (tbF nm f sv FL).toArray 44)).alloc (.cells #[vi ki 0, vi ki 0, .bool false, .string ⟨#[]⟩] 23)) w.heap.size (tbF nm f sv FL)) := (Bx.new w _ _).alloc _
 have Y1 : Hid (Bx ((w.alloc (.cells (tbF nm f sv FL).toArray 44)).alloc (.cells #[vi ki 0, vi ki 0, .bool false, .string ⟨#[]⟩] 23)) (w.heap.size + 1) [vi ki 0, vi ki 0, .bool false, .string ⟨#[]⟩]) := Bx.newAt _ [vi ki 0, vi ki 0, .bool false, .string ⟨#[]⟩] _ _ (by simp)
 have B1 : Hid (Below w.heap.size w ((w.alloc (.cells (tbF nm f sv FL).toArray 44)).alloc (.cells #[vi ki 0, vi ki 0, .bool false, .string ⟨#[]⟩] 23))) := ((Below.refl _ _).alloc (Nat.le_refl _) _).alloc (by simp) _
 have hd : decide (fr ≤ t) = false := decide_eq_false hno
 go_enter Tryz.func79, Tryz.ntmps79
 generalize hUA : (tbF nm f sv FL).toArray = UA at *
 go_upto_region 1 with fail
 refine gen_code (fun V => Bx V w.heap.size (tbF nm f sv FL) ∧ Bx V (w.heap.size + 1) [vi ki 0, vi ki 0, .bool false, .string ⟨#[]⟩] ∧ Below w.heap.size w V) ⟨X1.out, Y1.out, B1.out⟩ ?_
 clear X1 B1 Y1
 rintro V ⟨XV, YV, BV⟩
 have c6 : V.cell? ⟨w.heap.size, 6, none⟩ = some (.bool true) := XV.c 6 ((tbF_foot 0).trans f0)
 have c7 : V.cell? ⟨w.heap.size, 7, none⟩ = some (vi ki fr) := XV.c 7 ((tbF_foot 1).trans f1)
 have HX : Hid (Bx V w.heap.size (tbF nm f sv FL)) := XV
 have HY : Hid (Bx V (w.heap.size + 1) [vi ki 0, vi ki 0, .bool false, .string ⟨#[]⟩]) := YV
 have HB : Hid (Below w.heap.size w V) := BV
 clear XV YV BV
 go_wp2_with (first | (refine wpList_load_mid rfl 44 _ rfl w.heap.size 0 rfl (tbF nm f sv FL) _ HX.out.all Tryz.underlying44 rfl (by rw [tbF_len hF]; kernel_rfl) ?_; rw [hUA]) | fail)
 refine (BH.out _ HB.out).mono ?_
 rintro e v1 ⟨rfl, hb⟩
 have HX1 : Hid (Bx v1 w.heap.size (tbF nm f sv FL)) := HX.out.below hb
 have HY1 : Hid (Bx v1 (w.heap.size + 1) [vi ki 0, vi ki 0, .bool false, .string ⟨#[]⟩]) := HY.out.below hb
 have HB1 : Hid (Below w.heap.size w v1) := HB.out.trans (hb.mono HB.out.size)
 clear hb HX HY HB c6 c7 BH
 obtain ⟨g, o, c', hsv, hrg⟩ := (HT.out.mv HB1.out).row hx
 have hlt : C < L.length := (List.getElem?_eq_some_iff.1 hx).1
 have r5 : v1.cell? ⟨w.heap.size, 5, none⟩ = some sv := HX1.out.c 5 rfl
 have HRG : Hid (v1.rangeAt g (o + C * 4) (trC x)) := hrg
 have e1 : ((C : Int) + 1) - 1 = (C : Int) := by omega
 clear hrg hx HT
 subst hsv
 have l0 : v1.cell? ⟨w.heap.size + 1, 0, none⟩ = some (vi ki 0) := HY1.out.c 0 rfl
 have z0 : v1.frozen? ⟨w.heap.size + 1, 0, none⟩ = false := HY1.out.f 0 (v := vi ki 0) rfl
 have l1 : v1.cell? ⟨w.heap.size + 1, 1, none⟩ = some (vi ki 0) := HY1.out.c 1 rfl
 have z1 : v1.frozen? ⟨w.heap.size + 1, 1, none⟩ = false := HY1.out.f 1 (v := vi ki 0) rfl
 have l2 : v1.cell? ⟨w.heap.size + 1, 2, none⟩ = some (.bool false) := HY1.out.c 2 rfl
 have z2 : v1.frozen? ⟨w.heap.size + 1, 2, none⟩ = false := HY1.out.f 2 (v := .bool false) rfl
 have l3 : v1.cell? ⟨w.heap.size + 1, 3, none⟩ = some (.string ⟨#[]⟩) := HY1.out.c 3 rfl
 have z3 : v1.frozen? ⟨w.heap.size + 1, 3, none⟩ = false := HY1.out.f 3 (v := .string ⟨#[]⟩) rfl
 have XF : Hid (Bx (v1.setCells (w.heap.size + 1) 0 [vi ki x.at_, vi ki x.off, .bool x.dst, .string x.ab]) (w.heap.size + 1) [vi ki x.at_, vi ki x.off, .bool x.dst, .string x.ab]) := HY1.out.setAll _ rfl
 have BF : Hid (Below w.heap.size w (v1.setCells (w.heap.size + 1) 0 [vi ki x.at_, vi ki x.off, .bool x.dst, .string x.ab])) := below_setCells (by omega) _ _ _ HB1.out
 have y0 := XF.out.c 0 rfl
 have y1 := XF.out.c 1 rfl
 have y2 := XF.out.c 2 rfl
 have y3 := XF.out.c 3 rfl
 simp only [World.setCells, Nat.zero_add, Nat.reduceAdd] at y0 y1 y2 y3
 clear HX1 HY1 HB1 XF hUA
 go_wp2_with (first | (refine wpList_load_mid rfl 23 _ rfl g (o + C * 4) rfl [vi ki x.at_, vi ki x.off, .bool x.dst, .string x.ab] _ HRG.out Tryz.underlying23 rfl (by kernel_rfl) ?_) | fail)
 exact bodyPost_ret (v := .agg #[vi ki x.at_, vi ki x.off, .bool x.dst, .string x.ab]) (by simp [results, Tryz.results79, go_sem, y0, y1, y2, y3]) rfl ⟨rfl, BF.out⟩
theorem stand_foot (nm : ByteArray) (f : TrR) (sv : Value) (FL : List Value) (hF : FL.length = 19) (fr t : Int) (f0 : FL[0]? = some (.bool true)) (f1 : FL[1]? = some (vi ki fr)) (hy : fr ≤ t) (x : TrR) (er : Int) (w : World) (FA : Hid (∀ W : World, Below w.heap.size w W → Calls Tryz.prog 125 #[.agg FL.toArray, vi ki t] W fun r w' => r = zr (.tuple #[.agg #[vi ki x.at_, vi ki x.off, .bool x.dst, .string x.ab], vi ki er]) ∧ Below W.heap.size W w')) :
  Calls Tryz.prog 79 #[.agg (tbF nm f sv FL).toArray, vi ki t] w fun r w' => r = zr (.agg #[vi ki x.at_, vi ki x.off, .bool x.dst, .string x.ab]) ∧ Below w.heap.size w w' := by
 have X1 : Hid (Bx ((w.alloc (.cells (tbF nm f sv FL).toArray 44)).alloc (.cells #[vi ki 0, vi ki 0, .bool false, .string ⟨#[]⟩] 23)) w.heap.size (tbF nm f sv FL)) := (Bx.new w _ _).alloc _
 have Y1 : Hid (Bx ((w.alloc (.cells (tbF nm f sv FL).toArray 44)).alloc (.cells #[vi ki 0, vi ki 0, .bool false, .string ⟨#[]⟩] 23)) (w.heap.size + 1) [vi ki 0, vi ki 0, .bool false, .string ⟨#[]⟩]) := Bx.newAt _ [vi ki 0, vi ki 0, .bool false, .string ⟨#[]⟩] _ _ (by simp)
 have B1 : Hid (Below w.heap.size w ((w.alloc (.cells (tbF nm f sv FL).toArray 44)).alloc (.cells #[vi ki 0, vi ki 0, .bool false, .string ⟨#[]⟩] 23))) := ((Below.refl _ _).alloc (Nat.le_refl _) _).alloc (by simp) _
 have hd : decide (fr ≤ t) = true := decide_eq_true hy
 go_enter Tryz.func79, Tryz.ntmps79
 generalize hUA : (tbF nm f sv FL).toArray = UA at *
 go_upto_region 1 with fail
 refine gen_code (fun V => Bx V w.heap.size (tbF nm f sv FL) ∧ Bx V (w.heap.size + 1) [vi ki 0, vi ki 0, .bool false, .string ⟨#[]⟩] ∧ Below w.heap.size w V) ⟨X1.out, Y1.out, B1.out⟩ ?_
 clear X1 B1 Y1
 rintro V ⟨XV, YV, BV⟩
 have c6 : V.cell? ⟨w.heap.size, 6, none⟩ = some (.bool true) := XV.c 6 ((tbF_foot 0).trans f0)
 have c7 : V.cell? ⟨w.heap.size, 7, none⟩ = some (vi ki fr) := XV.c 7 ((tbF_foot 1).trans f1)
 have HX : Hid (Bx V w.heap.size (tbF nm f sv FL)) := XV
 have HY : Hid (Bx V (w.heap.size + 1) [vi ki 0, vi ki 0, .bool false, .string ⟨#[]⟩]) := YV
 have HB : Hid (Below w.heap.size w V) := BV
 clear XV YV BV
 have HR : Hid (V.rangeAt w.heap.size 6 FL) := fun j v hv => (HX.out.2 (6 + j) v ((tbF_foot j).trans hv)).1
 go_wp2_with (first | (refine wpList_load_mid rfl 42 _ rfl w.heap.size 6 rfl FL _ HR.out Tryz.underlying42 rfl (by rw [hF]; kernel_rfl) ?_) | fail)
 refine (FA.out _ HB.out).mono ?_
 rintro e v1 ⟨rfl, hb⟩
 have HY1 : Hid (Bx (v1.alloc (.cells #[vi ki x.at_, vi ki x.off, .bool x.dst, .string x.ab] 23)) (w.heap.size + 1) [vi ki 0, vi ki 0, .bool false, .string ⟨#[]⟩]) := (HY.out.below hb).alloc _
 have HZ1 : Hid (Bx (v1.alloc (.cells #[vi ki x.at_, vi ki x.off, .bool x.dst, .string x.ab] 23)) v1.heap.size [vi ki x.at_, vi ki x.off, .bool x.dst, .string x.ab]) := Bx.new v1 [vi ki x.at_, vi ki x.off, .bool x.dst, .string x.ab] _
 have HB1 : Hid (Below w.heap.size w (v1.alloc (.cells #[vi ki x.at_, vi ki x.off, .bool x.dst, .string x.ab] 23))) := (HB.out.trans (hb.mono HB.out.size)).alloc (HB.out.trans (hb.mono HB.out.size)).size _
 clear hb HX HY HB c6 c7 FA HR
 go_upto_region 3 with fail
 refine gen_code (fun V => Bx V (w.heap.size + 1) [vi ki 0, vi ki 0, .bool false, .string ⟨#[]⟩] ∧ Bx V v1.heap.size [vi ki x.at_, vi ki x.off, .bool x.dst, .string x.ab] ∧ Below w.heap.size w V) ⟨HY1.out, HZ1.out, HB1.out⟩ ?_
 clear HY1 HZ1 HB1
 rintro v2 ⟨YV, ZV, BV⟩
 have HY1 : Hid (Bx v2 (w.heap.size + 1) [vi ki 0, vi ki 0, .bool false, .string ⟨#[]⟩]) := YV
 have HB1 : Hid (Below w.heap.size w v2) := BV
 have r0 : v2.cell? ⟨v1.heap.size, 0, none⟩ = some (vi ki x.at_) := ZV.c 0 rfl
 have r1 : v2.cell? ⟨v1.heap.size, 1, none⟩ = some (vi ki x.off) := ZV.c 1 rfl
 have r2 : v2.cell? ⟨v1.heap.size, 2, none⟩ = some (.bool x.dst) := ZV.c 2 rfl
 have r3 : v2.cell? ⟨v1.heap.size, 3, none⟩ = some (.string x.ab) := ZV.c 3 rfl
 clear YV ZV BV
 have l0 : v2.cell? ⟨w.heap.size + 1, 0, none⟩ = some (vi ki 0) := HY1.out.c 0 rfl
 have z0 : v2.frozen? ⟨w.heap.size + 1, 0, none⟩ = false := HY1.out.f 0 (v := vi ki 0) rfl
 have l1 : v2.cell? ⟨w.heap.size + 1, 1, none⟩ = some (vi ki 0) := HY1.out.c 1 rfl
 have z1 : v2.frozen? ⟨w.heap.size + 1, 1, none⟩ = false := HY1.out.f 1 (v := vi ki 0) rfl
 have l2 : v2.cell? ⟨w.heap.size + 1, 2, none⟩ = some (.bool false) := HY1.out.c 2 rfl
 have z2 : v2.frozen? ⟨w.heap.size + 1, 2, none⟩ = false := HY1.out.f 2 (v := .bool false) rfl
 have l3 : v2.cell? ⟨w.heap.size + 1, 3, none⟩ = some (.string ⟨#[]⟩) := HY1.out.c 3 rfl
 have z3 : v2.frozen? ⟨w.heap.size + 1, 3, none⟩ = false := HY1.out.f 3 (v := .string ⟨#[]⟩) rfl
 have XF : Hid (Bx (v2.setCells (w.heap.size + 1) 0 [vi ki x.at_, vi ki x.off, .bool x.dst, .string x.ab]) (w.heap.size + 1) [vi ki x.at_, vi ki x.off, .bool x.dst, .string x.ab]) := HY1.out.setAll _ rfl
 have BF : Hid (Below w.heap.size w (v2.setCells (w.heap.size + 1) 0 [vi ki x.at_, vi ki x.off, .bool x.dst, .string x.ab])) := below_setCells (by omega) _ _ _ HB1.out
 have y0 := XF.out.c 0 rfl
 have y1 := XF.out.c 1 rfl
 have y2 := XF.out.c 2 rfl
 have y3 := XF.out.c 3 rfl
 simp only [World.setCells, Nat.zero_add, Nat.reduceAdd] at y0 y1 y2 y3
 clear HY1 HB1 XF hUA
 go_wp2_with fail
 exact bodyPost_ret (v := .agg #[vi ki x.at_, vi ki x.off, .bool x.dst, .string x.ab]) (by simp [results, Tryz.results79, go_sem, y0, y1, y2, y3]) rfl ⟨rfl, BF.out⟩
end Go.Proofs.YtklehbmghjcmaaaGreatDoor
namespace Go.Proofs.YtklehbmghjcmaaaGreatDoor
open Go.RowKit Sr
def askY (y : Int) : Bool := decide (-4714 ≤ y ∧ y ≤ 294278)
theorem ret_bz {a b : Bool} (h : a = b) : Ending.returned (.bool a) = zr (.bool b) := by rw [h]
theorem asked_1 (t y : Int) (h : ¬ -4714 ≤ y) (w : World) (YA : Hid (Calls Tryz.prog 124 #[vi ki t] w fun r w' => r = zr (vi ki y) ∧ w' = w)) :
  Calls Tryz.prog 78 #[vi ki t] w fun r w' => r = zr (.bool false) ∧ w' = w := by
 go_enter Tryz.func78, Tryz.ntmps78
 go_wp2_with fail
 refine YA.out.mono ?_
 rintro e w1 ⟨rfl, rfl⟩
 go_wp2_with fail
 go_ret
 exact ⟨rfl, rfl⟩
theorem asked_2 (t y : Int) (h : -4714 ≤ y) (g : ¬ y ≤ 294278) (w : World) (YA : Hid (Calls Tryz.prog 124 #[vi ki t] w fun r w' => r = zr (vi ki y) ∧ w' = w)) :
  Calls Tryz.prog 78 #[vi ki t] w fun r w' => r = zr (.bool false) ∧ w' = w := by
 go_enter Tryz.func78, Tryz.ntmps78
 go_wp2_with fail
 refine YA.out.mono ?_
 rintro e w1 ⟨rfl, rfl⟩
 go_wp2_with fail
 go_ret
 exact ⟨ret_bz (by simp; omega), rfl⟩
theorem asked_3 (t y : Int) (h : -4714 ≤ y) (g : y ≤ 294278) (w : World) (YA : Hid (Calls Tryz.prog 124 #[vi ki t] w fun r w' => r = zr (vi ki y) ∧ w' = w)) :
  Calls Tryz.prog 78 #[vi ki t] w fun r w' => r = zr (.bool true) ∧ w' = w := by
 go_enter Tryz.func78, Tryz.ntmps78
 go_wp2_with fail
 refine YA.out.mono ?_
 rintro e w1 ⟨rfl, rfl⟩
 go_wp2_with fail
 go_ret
 exact ⟨rfl, rfl⟩
theorem asked_any (t y : Int) (w : World) (YA : Hid (Calls Tryz.prog 124 #[vi ki t] w fun r w' => r = zr (vi ki y) ∧ w' = w)) :
  Calls Tryz.prog 78 #[vi ki t] w fun r w' => r = zr (.bool (askY y)) ∧ w' = w := by
 unfold askY
 by_cases h : -4714 ≤ y
 ·by_cases g : y ≤ 294278
  ·rw [decide_eq_true ⟨h, g⟩]; exact asked_3 t y h g w YA
  ·rw [decide_eq_false (fun k => g k.2)]; exact asked_2 t y h g w YA
 ·rw [decide_eq_false (fun k => h k.1)]; exact asked_1 t y h w YA
theorem zat_no (T : List Value) (hT : T.length = 25) (t : Int) (w : World) (RT : Hid (∀ W : World, Below w.heap.size w W → Calls Tryz.prog 31 #[.agg T.toArray] W fun r w' => r = zr (.bool false) ∧ Below W.heap.size W w')) :
  Calls Tryz.prog 33 #[.agg T.toArray, vi ki t] w fun r w' => r = zr (.tuple #[.agg #[vi ki 0, vi ki 0, .bool false, .string ⟨#[]⟩], vi ki 1]) ∧ Below w.heap.size w w' := by
 have X1 : Hid (Bx ((w.alloc (.cells T.toArray 44)).alloc (.cells #[vi ki 0, vi ki 0, .bool false, .string ⟨#[]⟩] 23)) w.heap.size T) := (Bx.new w _ _).alloc _
 have Y1 : Hid (Bx ((w.alloc (.cells T.toArray 44)).alloc (.cells #[vi ki 0, vi ki 0, .bool false, .string ⟨#[]⟩] 23)) (w.heap.size + 1) [vi ki 0, vi ki 0, .bool false, .string ⟨#[]⟩]) := Bx.newAt _ [vi ki 0, vi ki 0, .bool false, .string ⟨#[]⟩] _ _ (by simp)
 have B1 : Hid (Below w.heap.size w ((w.alloc (.cells T.toArray 44)).alloc (.cells #[vi ki 0, vi ki 0, .bool false, .string ⟨#[]⟩] 23))) := ((Below.refl _ _).alloc (Nat.le_refl _) _).alloc (by simp) _
 go_enter Tryz.func33, Tryz.ntmps33
 generalize hUA : T.toArray = UA at *
 go_upto_region 1 with fail
 refine gen_code (fun V => Bx V w.heap.size T ∧ Bx V (w.heap.size + 1) [vi ki 0, vi ki 0, .bool false, .string ⟨#[]⟩] ∧ Below w.heap.size w V) ⟨X1.out, Y1.out, B1.out⟩ ?_
 clear X1 B1 Y1
 rintro V ⟨XV, YV, BV⟩
 have HX : Hid (Bx V w.heap.size T) := XV
 have HY : Hid (Bx V (w.heap.size + 1) [vi ki 0, vi ki 0, .bool false, .string ⟨#[]⟩]) := YV
 have HB : Hid (Below w.heap.size w V) := BV
 clear XV YV BV
 go_wp2_with (first | (refine wpList_load_mid rfl 44 _ rfl w.heap.size 0 rfl T _ HX.out.all Tryz.underlying44 rfl (by rw [hT]; kernel_rfl) ?_; rw [hUA]) | fail)
 refine (RT.out _ HB.out).mono ?_
 rintro e v1 ⟨rfl, hb⟩
 have HX1 : Hid (Bx v1 w.heap.size T) := HX.out.below hb
 have HY1 : Hid (Bx v1 (w.heap.size + 1) [vi ki 0, vi ki 0, .bool false, .string ⟨#[]⟩]) := HY.out.below hb
 have HB1 : Hid (Below w.heap.size w v1) := HB.out.trans (hb.mono HB.out.size)
 clear hb HX HY HB
 have l0 : v1.cell? ⟨w.heap.size + 1, 0, none⟩ = some (vi ki 0) := HY1.out.c 0 rfl
 have z0 : v1.frozen? ⟨w.heap.size + 1, 0, none⟩ = false := HY1.out.f 0 (v := vi ki 0) rfl
 have l1 : v1.cell? ⟨w.heap.size + 1, 1, none⟩ = some (vi ki 0) := HY1.out.c 1 rfl
 have z1 : v1.frozen? ⟨w.heap.size + 1, 1, none⟩ = false := HY1.out.f 1 (v := vi ki 0) rfl
 have l2 : v1.cell? ⟨w.heap.size + 1, 2, none⟩ = some (.bool false) := HY1.out.c 2 rfl
 have z2 : v1.frozen? ⟨w.heap.size + 1, 2, none⟩ = false := HY1.out.f 2 (v := .bool false) rfl
 have l3 : v1.cell? ⟨w.heap.size + 1, 3, none⟩ = some (.string ⟨#[]⟩) := HY1.out.c 3 rfl
 have z3 : v1.frozen? ⟨w.heap.size + 1, 3, none⟩ = false := HY1.out.f 3 (v := .string ⟨#[]⟩) rfl
 have XF : Hid (Bx (v1.setCells (w.heap.size + 1) 0 [vi ki 0, vi ki 0, .bool false, .string ⟨#[]⟩]) (w.heap.size + 1) [vi ki 0, vi ki 0, .bool false, .string ⟨#[]⟩]) := HY1.out.setAll _ rfl
 have BF : Hid (Below w.heap.size w (v1.setCells (w.heap.size + 1) 0 [vi ki 0, vi ki 0, .bool false, .string ⟨#[]⟩])) := below_setCells (by omega) _ _ _ HB1.out
 have y0 := XF.out.c 0 rfl
 have y1 := XF.out.c 1 rfl
 have y2 := XF.out.c 2 rfl
 have y3 := XF.out.c 3 rfl
 simp only [World.setCells, Nat.zero_add, Nat.reduceAdd] at y0 y1 y2 y3
 clear XF
 go_wp2_with fail
 exact bodyPost_ret (v := .tuple #[.agg #[vi ki 0, vi ki 0, .bool false, .string ⟨#[]⟩], vi ki 1]) (by simp [results, Tryz.results33, go_sem, y0, y1, y2, y3]) rfl ⟨rfl, BF.out⟩
theorem zat_range (T : List Value) (hT : T.length = 25) (t : Int) (w : World) (RT : Hid (∀ W : World, Below w.heap.size w W → Calls Tryz.prog 31 #[.agg T.toArray] W fun r w' => r = zr (.bool true) ∧ Below W.heap.size W w'))
  (AS : Hid (∀ W : World, Below w.heap.size w W → Calls Tryz.prog 78 #[vi ki t] W fun r w' => r = zr (.bool false) ∧ w' = W)) :
  Calls Tryz.prog 33 #[.agg T.toArray, vi ki t] w fun r w' => r = zr (.tuple #[.agg #[vi ki 0, vi ki 0, .bool false, .string ⟨#[]⟩], vi ki 10]) ∧ Below w.heap.size w w' := by
 have X1 : Hid (Bx ((w.alloc (.cells T.toArray 44)).alloc (.cells #[vi ki 0, vi ki 0, .bool false, .string ⟨#[]⟩] 23)) w.heap.size T) := (Bx.new w _ _).alloc _
 have Y1 : Hid (Bx ((w.alloc (.cells T.toArray 44)).alloc (.cells #[vi ki 0, vi ki 0, .bool false, .string ⟨#[]⟩] 23)) (w.heap.size + 1) [vi ki 0, vi ki 0, .bool false, .string ⟨#[]⟩]) := Bx.newAt _ [vi ki 0, vi ki 0, .bool false, .string ⟨#[]⟩] _ _ (by simp)
 have B1 : Hid (Below w.heap.size w ((w.alloc (.cells T.toArray 44)).alloc (.cells #[vi ki 0, vi ki 0, .bool false, .string ⟨#[]⟩] 23))) := ((Below.refl _ _).alloc (Nat.le_refl _) _).alloc (by simp) _
 go_enter Tryz.func33, Tryz.ntmps33
 generalize hUA : T.toArray = UA at *
 go_upto_region 1 with fail
 refine gen_code (fun V => Bx V w.heap.size T ∧ Bx V (w.heap.size + 1) [vi ki 0, vi ki 0, .bool false, .string ⟨#[]⟩] ∧ Below w.heap.size w V) ⟨X1.out, Y1.out, B1.out⟩ ?_
 clear X1 B1 Y1
 rintro V ⟨XV, YV, BV⟩
 have HX : Hid (Bx V w.heap.size T) := XV
 have HY : Hid (Bx V (w.heap.size + 1) [vi ki 0, vi ki 0, .bool false, .string ⟨#[]⟩]) := YV
 have HB : Hid (Below w.heap.size w V) := BV
 clear XV YV BV
 go_wp2_with (first | (refine wpList_load_mid rfl 44 _ rfl w.heap.size 0 rfl T _ HX.out.all Tryz.underlying44 rfl (by rw [hT]; kernel_rfl) ?_; rw [hUA]) | fail)
 refine (RT.out _ HB.out).mono ?_
 rintro e v1 ⟨rfl, hb⟩
 have HX1 : Hid (Bx v1 w.heap.size T) := HX.out.below hb
 have HY1 : Hid (Bx v1 (w.heap.size + 1) [vi ki 0, vi ki 0, .bool false, .string ⟨#[]⟩]) := HY.out.below hb
 have HB1 : Hid (Below w.heap.size w v1) := HB.out.trans (hb.mono HB.out.size)
 clear hb HX HY HB
 go_wp2_with fail
 refine (AS.out _ HB1.out).mono ?_
 rintro e v9 ⟨rfl, hw⟩
 rw [hw]
 clear hw v9
 have l0 : v1.cell? ⟨w.heap.size + 1, 0, none⟩ = some (vi ki 0) := HY1.out.c 0 rfl
 have z0 : v1.frozen? ⟨w.heap.size + 1, 0, none⟩ = false := HY1.out.f 0 (v := vi ki 0) rfl
 have l1 : v1.cell? ⟨w.heap.size + 1, 1, none⟩ = some (vi ki 0) := HY1.out.c 1 rfl
 have z1 : v1.frozen? ⟨w.heap.size + 1, 1, none⟩ = false := HY1.out.f 1 (v := vi ki 0) rfl
 have l2 : v1.cell? ⟨w.heap.size + 1, 2, none⟩ = some (.bool false) := HY1.out.c 2 rfl
 have z2 : v1.frozen? ⟨w.heap.size + 1, 2, none⟩ = false := HY1.out.f 2 (v := .bool false) rfl
 have l3 : v1.cell? ⟨w.heap.size + 1, 3, none⟩ = some (.string ⟨#[]⟩) := HY1.out.c 3 rfl
 have z3 : v1.frozen? ⟨w.heap.size + 1, 3, none⟩ = false := HY1.out.f 3 (v := .string ⟨#[]⟩) rfl
 have XF : Hid (Bx (v1.setCells (w.heap.size + 1) 0 [vi ki 0, vi ki 0, .bool false, .string ⟨#[]⟩]) (w.heap.size + 1) [vi ki 0, vi ki 0, .bool false, .string ⟨#[]⟩]) := HY1.out.setAll _ rfl
 have BF : Hid (Below w.heap.size w (v1.setCells (w.heap.size + 1) 0 [vi ki 0, vi ki 0, .bool false, .string ⟨#[]⟩])) := below_setCells (by omega) _ _ _ HB1.out
 have y0 := XF.out.c 0 rfl
 have y1 := XF.out.c 1 rfl
 have y2 := XF.out.c 2 rfl
 have y3 := XF.out.c 3 rfl
 simp only [World.setCells, Nat.zero_add, Nat.reduceAdd] at y0 y1 y2 y3
 clear XF
 go_wp2_with fail
 exact bodyPost_ret (v := .tuple #[.agg #[vi ki 0, vi ki 0, .bool false, .string ⟨#[]⟩], vi ki 10]) (by simp [results, Tryz.results33, go_sem, y0, y1, y2, y3]) rfl ⟨rfl, BF.out⟩
theorem zat_yes (T : List Value) (hT : T.length = 25) (t : Int) (x : TrR) (w : World) (RT : Hid (∀ W : World, Below w.heap.size w W → Calls Tryz.prog 31 #[.agg T.toArray] W fun r w' => r = zr (.bool true) ∧ Below W.heap.size W w'))
  (AS : Hid (∀ W : World, Below w.heap.size w W → Calls Tryz.prog 78 #[vi ki t] W fun r w' => r = zr (.bool true) ∧ w' = W))
  (SD : Hid (∀ W : World, Below w.heap.size w W → Calls Tryz.prog 79 #[.agg T.toArray, vi ki t] W fun r w' => r = zr (.agg #[vi ki x.at_, vi ki x.off, .bool x.dst, .string x.ab]) ∧ Below W.heap.size W w')) :
  Calls Tryz.prog 33 #[.agg T.toArray, vi ki t] w fun r w' => r = zr (.tuple #[.agg #[vi ki x.at_, vi ki x.off, .bool x.dst, .string x.ab], vi ki 0]) ∧ Below w.heap.size w w' := by
 have X1 : Hid (Bx ((w.alloc (.cells T.toArray 44)).alloc (.cells #[vi ki 0, vi ki 0, .bool false, .string ⟨#[]⟩] 23)) w.heap.size T) := (Bx.new w _ _).alloc _
 have Y1 : Hid (Bx ((w.alloc (.cells T.toArray 44)).alloc (.cells #[vi ki 0, vi ki 0, .bool false, .string ⟨#[]⟩] 23)) (w.heap.size + 1) [vi ki 0, vi ki 0, .bool false, .string ⟨#[]⟩]) := Bx.newAt _ [vi ki 0, vi ki 0, .bool false, .string ⟨#[]⟩] _ _ (by simp)
 have B1 : Hid (Below w.heap.size w ((w.alloc (.cells T.toArray 44)).alloc (.cells #[vi ki 0, vi ki 0, .bool false, .string ⟨#[]⟩] 23))) := ((Below.refl _ _).alloc (Nat.le_refl _) _).alloc (by simp) _
 go_enter Tryz.func33, Tryz.ntmps33
 generalize hUA : T.toArray = UA at *
 go_upto_region 1 with fail
 refine gen_code (fun V => Bx V w.heap.size T ∧ Bx V (w.heap.size + 1) [vi ki 0, vi ki 0, .bool false, .string ⟨#[]⟩] ∧ Below w.heap.size w V) ⟨X1.out, Y1.out, B1.out⟩ ?_
 clear X1 B1 Y1
 rintro V ⟨XV, YV, BV⟩
 have HX : Hid (Bx V w.heap.size T) := XV
 have HY : Hid (Bx V (w.heap.size + 1) [vi ki 0, vi ki 0, .bool false, .string ⟨#[]⟩]) := YV
 have HB : Hid (Below w.heap.size w V) := BV
 clear XV YV BV
 go_wp2_with (first | (refine wpList_load_mid rfl 44 _ rfl w.heap.size 0 rfl T _ HX.out.all Tryz.underlying44 rfl (by rw [hT]; kernel_rfl) ?_; rw [hUA]) | fail)
 refine (RT.out _ HB.out).mono ?_
 rintro e v1 ⟨rfl, hb⟩
 have HX1 : Hid (Bx v1 w.heap.size T) := HX.out.below hb
 have HY1 : Hid (Bx v1 (w.heap.size + 1) [vi ki 0, vi ki 0, .bool false, .string ⟨#[]⟩]) := HY.out.below hb
 have HB1 : Hid (Below w.heap.size w v1) := HB.out.trans (hb.mono HB.out.size)
 clear hb HX HY HB
 go_wp2_with fail
 refine (AS.out _ HB1.out).mono ?_
 rintro e v9 ⟨rfl, hw⟩
 rw [hw]
 clear hw v9
 go_wp2_with (first | (refine wpList_load_mid rfl 44 _ rfl w.heap.size 0 rfl T _ HX1.out.all Tryz.underlying44 rfl (by rw [hT]; kernel_rfl) ?_; rw [hUA]) | fail)
 refine (SD.out _ HB1.out).mono ?_
 rintro e v2 ⟨rfl, hb⟩
 have HY2 : Hid (Bx v2 (w.heap.size + 1) [vi ki 0, vi ki 0, .bool false, .string ⟨#[]⟩]) := HY1.out.below hb
 have HB2 : Hid (Below w.heap.size w v2) := HB1.out.trans (hb.mono HB1.out.size)
 clear hb HX1 HY1 HB1
 have l0 : v2.cell? ⟨w.heap.size + 1, 0, none⟩ = some (vi ki 0) := HY2.out.c 0 rfl
 have z0 : v2.frozen? ⟨w.heap.size + 1, 0, none⟩ = false := HY2.out.f 0 (v := vi ki 0) rfl
 have l1 : v2.cell? ⟨w.heap.size + 1, 1, none⟩ = some (vi ki 0) := HY2.out.c 1 rfl
 have z1 : v2.frozen? ⟨w.heap.size + 1, 1, none⟩ = false := HY2.out.f 1 (v := vi ki 0) rfl
 have l2 : v2.cell? ⟨w.heap.size + 1, 2, none⟩ = some (.bool false) := HY2.out.c 2 rfl
 have z2 : v2.frozen? ⟨w.heap.size + 1, 2, none⟩ = false := HY2.out.f 2 (v := .bool false) rfl
 have l3 : v2.cell? ⟨w.heap.size + 1, 3, none⟩ = some (.string ⟨#[]⟩) := HY2.out.c 3 rfl
 have z3 : v2.frozen? ⟨w.heap.size + 1, 3, none⟩ = false := HY2.out.f 3 (v := .string ⟨#[]⟩) rfl
 have XF : Hid (Bx (v2.setCells (w.heap.size + 1) 0 [vi ki x.at_, vi ki x.off, .bool x.dst, .string x.ab]) (w.heap.size + 1) [vi ki x.at_, vi ki x.off, .bool x.dst, .string x.ab]) := HY2.out.setAll _ rfl
 have BF : Hid (Below w.heap.size w (v2.setCells (w.heap.size + 1) 0 [vi ki x.at_, vi ki x.off, .bool x.dst, .string x.ab])) := below_setCells (by omega) _ _ _ HB2.out
 have y0 := XF.out.c 0 rfl
 have y1 := XF.out.c 1 rfl
 have y2 := XF.out.c 2 rfl
 have y3 := XF.out.c 3 rfl
 simp only [World.setCells, Nat.zero_add, Nat.reduceAdd] at y0 y1 y2 y3
 clear XF
 go_wp2_with fail
 exact bodyPost_ret (v := .tuple #[.agg #[vi ki x.at_, vi ki x.off, .bool x.dst, .string x.ab], vi ki 0]) (by simp [results, Tryz.results33, go_sem, y0, y1, y2, y3]) rfl ⟨rfl, BF.out⟩
end Go.Proofs.YtklehbmghjcmaaaGreatDoor
namespace Go.Proofs.YtklehbmghjcmaaaGreatDoor
open Go.RowKit Sr
theorem roff_run (x : TrR) (b : Bool) (hb : b = decide (-57600 ≤ x.off ∧ x.off ≤ 57600)) (w : World) :
  Calls Tryz.prog 53 #[.agg #[vi ki x.at_, vi ki x.off, .bool x.dst, .string x.ab]] w fun r w' => r = zr (.bool b) ∧ Below w.heap.size w w' := by
 have HB : Hid (Below w.heap.size w (w.alloc (.cells #[vi ki x.at_, vi ki x.off, .bool x.dst, .string x.ab] 23))) := (Below.refl _ _).alloc (Nat.le_refl _) _
 by_cases h : -57600 ≤ x.off
 ·by_cases g : x.off ≤ 57600
  ·rw [hb, decide_eq_true ⟨h, g⟩]
   go_enter Tryz.func53, Tryz.ntmps53
   go_wp2
   go_ret
   exact ⟨rfl, HB.out⟩
  ·rw [hb, decide_eq_false (fun k => g k.2)]
   go_enter Tryz.func53, Tryz.ntmps53
   go_wp2
   go_ret
   exact ⟨ret_bz (by first | (simp; done) | (simp; omega)), HB.out⟩
 ·rw [hb, decide_eq_false (fun k => h k.1)]
  go_enter Tryz.func53, Tryz.ntmps53
  go_wp2
  go_ret
  exact ⟨rfl, HB.out⟩
def curT (f : TrR) (L : List TrR) (i : Nat) : TrR := if i = 0 then f else L.getD (i - 1) f
theorem curT_succ {f x : TrR} {L : List TrR} {i : Nat} (h : L[i]? = some x) : curT f L (i + 1) = x := by
 unfold curT
 rw [if_neg (by omega), Nat.add_sub_cancel, List.getD_eq_getElem?_getD, h]; rfl
end Go.Proofs.YtklehbmghjcmaaaGreatDoor
namespace Go.Proofs.YtklehbmghjcmaaaGreatDoor
open Go.RowKit Sr
end Go.Proofs.YtklehbmghjcmaaaGreatDoor
namespace Go.Proofs.YtklehbmghjcmaaaGreatDoor
open Go.RowKit Sr
def offR (o : Int) : Bool := decide (-57600 ≤ o ∧ o ≤ 57600)
def lastA (L : List TrR) (i : Nat) : Int := if i = 0 then -1125899906842625 else (L.getD (i - 1) zTr).at_
theorem lastA_succ {L : List TrR} {i : Nat} {x : TrR} (h : L[i]? = some x) : lastA L (i + 1) = x.at_ := by
 unfold lastA
 rw [if_neg (by omega), Nat.add_sub_cancel, List.getD_eq_getElem?_getD, h]; rfl
def OkR (L : List TrR) (j : Nat) : Prop := ∃ x, L[j]? = some x ∧ offR x.off = true ∧ lastA L j < x.at_ ∧ x.at_ ≤ 1125899906842624
theorem rright_bad (nm : ByteArray) (f : TrR) (sv : Value) (FL : List Value) (hF : FL.length = 19) (L : List TrR) (h0 : f.at_ = 0) (h1 : offR f.off = true) (h4 : L.length ≤ 4096) (hbad : ∃ j, j < L.length ∧ ¬ OkR L j) (w : World) (HT : Hid (TrAt w sv L)) :
  Calls Tryz.prog 21 #[.agg (tbF nm f sv FL).toArray] w fun r w' => r = zr (.bool false) ∧ Below w.heap.size w w' := by
 have X1 : Hid (Bx (w.alloc (.cells (tbF nm f sv FL).toArray 34)) w.heap.size (tbF nm f sv FL)) := Bx.new w _ _
 have B1 : Hid (Below w.heap.size w (w.alloc (.cells (tbF nm f sv FL).toArray 34))) := (Below.refl _ _).alloc (Nat.le_refl _) _
 have OF : Hid (∀ W : World, Calls Tryz.prog 53 #[.agg #[vi ki 0, vi ki f.off, .bool f.dst, .string f.ab]] W fun r w' => r = zr (.bool true) ∧ Below W.heap.size W w') := fun W => roff_run ⟨0, f.off, f.dst, f.ab⟩ true h1.symm W
 have HBAD : Hid (∃ j, j < L.length ∧ ¬ OkR L j) := hbad
 obtain ⟨⟨ao, c, hsv⟩, hml, _⟩ := HT.out
 obtain ⟨n, hn⟩ : ∃ n, L.length = n := ⟨_, rfl⟩
 rw [hn] at hsv h4
 clear hml h1 hbad
 go_enter Tryz.func21, Tryz.ntmps21
 generalize hUA : (tbF nm f sv FL).toArray = UA at *
 go_upto_region 1 with fail
 refine gen_code (fun V => Bx V w.heap.size (tbF nm f sv FL) ∧ Below w.heap.size w V) ⟨X1.out, B1.out⟩ ?_
 clear X1 B1
 rintro V ⟨XV, BV⟩
 have r1 : V.cell? ⟨w.heap.size, 1, none⟩ = some (vi ki 0) := by have := XV.c 1 (v := vi ki f.at_) rfl; rw [h0] at this; exact this
 have r2 : V.cell? ⟨w.heap.size, 2, none⟩ = some (vi ki f.off) := XV.c 2 rfl
 have r3 : V.cell? ⟨w.heap.size, 3, none⟩ = some (.bool f.dst) := XV.c 3 rfl
 have r4 : V.cell? ⟨w.heap.size, 4, none⟩ = some (.string f.ab) := XV.c 4 rfl
 have HX : Hid (Bx V w.heap.size (tbF nm f sv FL)) := XV
 have HB : Hid (Below w.heap.size w V) := BV
 clear XV BV
 go_wp2_with fail
 refine (OF.out _).mono ?_
 rintro e v1 ⟨rfl, hb⟩
 have HX1 : Hid (Bx v1 w.heap.size (tbF nm f sv FL)) := HX.out.below hb
 have HB1 : Hid (Below w.heap.size w v1) := HB.out.trans (hb.mono HB.out.size)
 clear hb HX HB r1 r2 r3 r4 OF
 have q1 : v1.cell? ⟨w.heap.size, 1, none⟩ = some (vi ki 0) := by have := HX1.out.c 1 (v := vi ki f.at_) rfl; rw [h0] at this; exact this
 have q5 : v1.cell? ⟨w.heap.size, 5, none⟩ = some (.slice ao n c) := by have := HX1.out.c 5 (v := sv) rfl; rw [hsv] at this; exact this
 go_wp2_with fail
 go_loopw [3, 4] (fun lv iv wr => ∃ i : Nat, i ≤ n ∧ iv = vi ki (i : Int) ∧ lv = vi ki (lastA L i) ∧ Hid (∀ j, j < i → OkR L j) ∧ Hid (Bx wr w.heap.size (tbF nm f sv FL)) ∧ Hid (Below w.heap.size w wr)) (fun _ iv _ => n - (intOf iv).toNat)
 case atStart => exact ⟨0, Nat.zero_le _, rfl, rfl, fun j hj => absurd hj (Nat.not_lt_zero _), HX1, HB1⟩
 case round =>
  clear HX1 HB1 q1 q5
  obtain ⟨i, hi, rfl, rfl, HOK, HX, HB⟩ := hrel
  have q5 : wr.cell? ⟨w.heap.size, 5, none⟩ = some (.slice ao n c) := by have := HX.out.c 5 (v := sv) rfl; rw [hsv] at this; exact this
  by_cases hin : i < n
  ·obtain ⟨x, hx⟩ : ∃ x, L[i]? = some x := ⟨_, List.getElem?_eq_getElem (by omega)⟩
   obtain ⟨g, o, c', hsv', hrg⟩ := (HT.out.mv HB.out).row hx
   rw [hn, hsv] at hsv'
   simp only [Value.slice.injEq, true_and] at hsv'
   obtain ⟨rfl, rfl⟩ := hsv'
   have HRG : Hid (wr.rangeAt g (o + i * 4) (trC x)) := hrg
   have HXn : Hid (Bx (wr.alloc (.cells #[vi ki x.at_, vi ki x.off, .bool x.dst, .string x.ab] 23)) w.heap.size (tbF nm f sv FL)) := HX.out.alloc _
   have HZn : Hid (Bx (wr.alloc (.cells #[vi ki x.at_, vi ki x.off, .bool x.dst, .string x.ab] 23)) wr.heap.size [vi ki x.at_, vi ki x.off, .bool x.dst, .string x.ab]) := Bx.new wr [vi ki x.at_, vi ki x.off, .bool x.dst, .string x.ab] _
   have HBn : Hid (Below w.heap.size w (wr.alloc (.cells #[vi ki x.at_, vi ki x.off, .bool x.dst, .string x.ab] 23))) := HB.out.alloc HB.out.size _
   have HLS : Hid (lastA L (i + 1) = x.at_) := lastA_succ hx
   have HOX : Hid (offR x.off = true → lastA L i < x.at_ → x.at_ ≤ 1125899906842624 → OkR L i) := fun a b c => ⟨x, hx, a, b, c⟩
   obtain ⟨la, hla⟩ : ∃ la, la = lastA L i := ⟨_, rfl⟩
   rw [← hla] at HOX ⊢
   clear hrg hx HX HB hla
   go_upto_region 8 with (first | (refine wpList_load_mid rfl 23 _ rfl g (o + i * 4) rfl [vi ki x.at_, vi ki x.off, .bool x.dst, .string x.ab] _ HRG.out Tryz.underlying23 rfl (by kernel_rfl) ?_) | fail)
   refine gen_code (fun V => Bx V w.heap.size (tbF nm f sv FL) ∧ Bx V wr.heap.size [vi ki x.at_, vi ki x.off, .bool x.dst, .string x.ab] ∧ Below w.heap.size w V) ⟨HXn.out, HZn.out, HBn.out⟩ ?_
   clear HXn HZn HBn HRG q5
   rintro V9 ⟨XV, ZV, BV⟩
   have OX : Hid (∀ W : World, Calls Tryz.prog 53 #[.agg #[vi ki x.at_, vi ki x.off, .bool x.dst, .string x.ab]] W fun r w' => r = zr (.bool (offR x.off)) ∧ Below W.heap.size W w') := fun W => roff_run x _ rfl W
   have z0 : V9.cell? ⟨wr.heap.size, 0, none⟩ = some (vi ki x.at_) := ZV.c 0 rfl
   have z1 : V9.cell? ⟨wr.heap.size, 1, none⟩ = some (vi ki x.off) := ZV.c 1 rfl
   have z2 : V9.cell? ⟨wr.heap.size, 2, none⟩ = some (.bool x.dst) := ZV.c 2 rfl
   have z3 : V9.cell? ⟨wr.heap.size, 3, none⟩ = some (.string x.ab) := ZV.c 3 rfl
   have HX9 : Hid (Bx V9 w.heap.size (tbF nm f sv FL)) := XV
   have HZ9 : Hid (Bx V9 wr.heap.size [vi ki x.at_, vi ki x.off, .bool x.dst, .string x.ab]) := ZV
   have HB9 : Hid (Below w.heap.size w V9) := BV
   clear XV ZV BV
   go_wp2_with fail
   refine (OX.out _).mono ?_
   rintro e v2 ⟨rfl, hb⟩
   have HX2 : Hid (Bx v2 w.heap.size (tbF nm f sv FL)) := HX9.out.below hb
   have y0 : v2.cell? ⟨wr.heap.size, 0, none⟩ = some (vi ki x.at_) := (HZ9.out.below hb).c 0 rfl
   have HB2 : Hid (Below w.heap.size w v2) := HB9.out.trans (hb.mono HB9.out.size)
   clear hb HX9 HZ9 HB9 z0 z1 z2 z3 OX
   cases ho : offR x.off
   ·clear HOX HLS HOK HX2
    go_wp2_with fail
    go_ret
    exact ⟨rfl, HB2.out⟩
   ·by_cases h5 : x.at_ ≤ la
    ·clear HOX HLS HOK HX2
     go_wp2_with fail
     go_ret
     exact ⟨rfl, HB2.out⟩
    ·by_cases h6 : 1125899906842624 < x.at_
     ·clear HOX HLS HOK HX2
      go_wp2_with fail
      go_ret
      exact ⟨rfl, HB2.out⟩
     ·have HOK' : Hid (∀ j, j < i + 1 → OkR L j) := fun j hj => by
       by_cases e : j = i
       ·rw [e]; exact HOX.out ho (by omega) (by omega)
       ·exact HOK.out j (by omega)
      clear HOX HOK
      go_wp2_with fail
      exact ⟨⟨i + 1, by omega, by simp, by rw [HLS.out], HOK', HX2, HB2⟩, by simp [intOf]; omega⟩
  ·exfalso
   obtain ⟨j, hj, hk⟩ := HBAD.out
   exact hk (HOK.out j (by omega))
end Go.Proofs.YtklehbmghjcmaaaGreatDoor
namespace Go.Proofs.YtklehbmghjcmaaaGreatDoor
open Go.RowKit Sr
theorem rright_has (nm : ByteArray) (f : TrR) (sv : Value) (FL : List Value) (hF : FL.length = 19) (L : List TrR) (h0 : f.at_ = 0) (h1 : offR f.off = true) (h4 : L.length ≤ 4096) (hok : ∀ j, j < L.length → OkR L j) (fr y er : Int) (p : TrR) (b : Bool) (hb9 : b = decide (er = 0 ∧ p.at_ = fr ∧ lastA L L.length < fr ∧ 1800 ≤ y ∧ y ≤ 2110)) (f0 : FL[0]? = some (.bool true)) (f1 : FL[1]? = some (vi ki fr)) (w : World) (HT : Hid (TrAt w sv L))
  (YA : Hid (∀ W : World, Below w.heap.size w W → Calls Tryz.prog 54 #[vi ki fr] W fun r w' => r = zr (vi ki y) ∧ Below W.heap.size W w'))
  (FA : Hid (∀ W : World, Below w.heap.size w W → Calls Tryz.prog 55 #[.agg FL.toArray, vi ki fr] W fun r w' => r = zr (.tuple #[.agg #[vi ki p.at_, vi ki p.off, .bool p.dst, .string p.ab], vi ki er]) ∧ Below W.heap.size W w')) :
  Calls Tryz.prog 21 #[.agg (tbF nm f sv FL).toArray] w fun r w' => r = zr (.bool b) ∧ Below w.heap.size w w' := by
 have X1 : Hid (Bx (w.alloc (.cells (tbF nm f sv FL).toArray 34)) w.heap.size (tbF nm f sv FL)) := Bx.new w _ _
 have B1 : Hid (Below w.heap.size w (w.alloc (.cells (tbF nm f sv FL).toArray 34))) := (Below.refl _ _).alloc (Nat.le_refl _) _
 have OF : Hid (∀ W : World, Calls Tryz.prog 53 #[.agg #[vi ki 0, vi ki f.off, .bool f.dst, .string f.ab]] W fun r w' => r = zr (.bool true) ∧ Below W.heap.size W w') := fun W => roff_run ⟨0, f.off, f.dst, f.ab⟩ true h1.symm W
 have HALL : Hid (∀ j, j < L.length → OkR L j) := hok
 have HB9 : Hid (b = decide (er = 0 ∧ p.at_ = fr ∧ lastA L L.length < fr ∧ 1800 ≤ y ∧ y ≤ 2110)) := hb9
 obtain ⟨⟨ao, c, hsv⟩, hml, _⟩ := HT.out
 obtain ⟨n, hn⟩ : ∃ n, L.length = n := ⟨_, rfl⟩
 rw [hn] at hsv h4
 clear hml h1 hok hb9
 go_enter Tryz.func21, Tryz.ntmps21
 generalize hUA : (tbF nm f sv FL).toArray = UA at *
 go_upto_region 1 with fail
 refine gen_code (fun V => Bx V w.heap.size (tbF nm f sv FL) ∧ Below w.heap.size w V) ⟨X1.out, B1.out⟩ ?_
 clear X1 B1
 rintro V ⟨XV, BV⟩
 have r1 : V.cell? ⟨w.heap.size, 1, none⟩ = some (vi ki 0) := by have := XV.c 1 (v := vi ki f.at_) rfl; rw [h0] at this; exact this
 have r2 : V.cell? ⟨w.heap.size, 2, none⟩ = some (vi ki f.off) := XV.c 2 rfl
 have r3 : V.cell? ⟨w.heap.size, 3, none⟩ = some (.bool f.dst) := XV.c 3 rfl
 have r4 : V.cell? ⟨w.heap.size, 4, none⟩ = some (.string f.ab) := XV.c 4 rfl
 have HX : Hid (Bx V w.heap.size (tbF nm f sv FL)) := XV
 have HB : Hid (Below w.heap.size w V) := BV
 clear XV BV
 go_wp2_with fail
 refine (OF.out _).mono ?_
 rintro e v1 ⟨rfl, hb⟩
 have HX1 : Hid (Bx v1 w.heap.size (tbF nm f sv FL)) := HX.out.below hb
 have HB1 : Hid (Below w.heap.size w v1) := HB.out.trans (hb.mono HB.out.size)
 clear hb HX HB r1 r2 r3 r4 OF
 have q1 : v1.cell? ⟨w.heap.size, 1, none⟩ = some (vi ki 0) := by have := HX1.out.c 1 (v := vi ki f.at_) rfl; rw [h0] at this; exact this
 have q5 : v1.cell? ⟨w.heap.size, 5, none⟩ = some (.slice ao n c) := by have := HX1.out.c 5 (v := sv) rfl; rw [hsv] at this; exact this
 go_wp2_with fail
 go_loopw [3, 4] (fun lv iv wr => ∃ i : Nat, i ≤ n ∧ iv = vi ki (i : Int) ∧ lv = vi ki (lastA L i) ∧ Hid (∀ j, j < i → OkR L j) ∧ Hid (Bx wr w.heap.size (tbF nm f sv FL)) ∧ Hid (Below w.heap.size w wr)) (fun _ iv _ => n - (intOf iv).toNat)
 case atStart => exact ⟨0, Nat.zero_le _, rfl, rfl, fun j hj => absurd hj (Nat.not_lt_zero _), HX1, HB1⟩
 case round =>
  clear HX1 HB1 q1 q5
  obtain ⟨i, hi, rfl, rfl, HOK, HX, HB⟩ := hrel
  have q5 : wr.cell? ⟨w.heap.size, 5, none⟩ = some (.slice ao n c) := by have := HX.out.c 5 (v := sv) rfl; rw [hsv] at this; exact this
  by_cases hin : i < n
  ·obtain ⟨x, hx, ho, h5', h6⟩ := HALL.out i (by omega)
   obtain ⟨g, o, c', hsv', hrg⟩ := (HT.out.mv HB.out).row hx
   rw [hn, hsv] at hsv'
   simp only [Value.slice.injEq, true_and] at hsv'
   obtain ⟨rfl, rfl⟩ := hsv'
   have HRG : Hid (wr.rangeAt g (o + i * 4) (trC x)) := hrg
   have HXn : Hid (Bx (wr.alloc (.cells #[vi ki x.at_, vi ki x.off, .bool x.dst, .string x.ab] 23)) w.heap.size (tbF nm f sv FL)) := HX.out.alloc _
   have HZn : Hid (Bx (wr.alloc (.cells #[vi ki x.at_, vi ki x.off, .bool x.dst, .string x.ab] 23)) wr.heap.size [vi ki x.at_, vi ki x.off, .bool x.dst, .string x.ab]) := Bx.new wr [vi ki x.at_, vi ki x.off, .bool x.dst, .string x.ab] _
   have HBn : Hid (Below w.heap.size w (wr.alloc (.cells #[vi ki x.at_, vi ki x.off, .bool x.dst, .string x.ab] 23))) := HB.out.alloc HB.out.size _
   have HLS : Hid (lastA L (i + 1) = x.at_) := lastA_succ hx
   have HOI : Hid (OkR L i) := ⟨x, hx, ho, h5', h6⟩
   obtain ⟨la, hla⟩ : ∃ la, la = lastA L i := ⟨_, rfl⟩
   rw [← hla] at h5' ⊢
   clear hrg hx HX HB hla
   go_upto_region 8 with (first | (refine wpList_load_mid rfl 23 _ rfl g (o + i * 4) rfl [vi ki x.at_, vi ki x.off, .bool x.dst, .string x.ab] _ HRG.out Tryz.underlying23 rfl (by kernel_rfl) ?_) | fail)
   refine gen_code (fun V => Bx V w.heap.size (tbF nm f sv FL) ∧ Bx V wr.heap.size [vi ki x.at_, vi ki x.off, .bool x.dst, .string x.ab] ∧ Below w.heap.size w V) ⟨HXn.out, HZn.out, HBn.out⟩ ?_
   clear HXn HZn HBn HRG q5
   rintro V9 ⟨XV, ZV, BV⟩
   have OX : Hid (∀ W : World, Calls Tryz.prog 53 #[.agg #[vi ki x.at_, vi ki x.off, .bool x.dst, .string x.ab]] W fun r w' => r = zr (.bool true) ∧ Below W.heap.size W w') := fun W => roff_run x true ho.symm W
   have z0 : V9.cell? ⟨wr.heap.size, 0, none⟩ = some (vi ki x.at_) := ZV.c 0 rfl
   have z1 : V9.cell? ⟨wr.heap.size, 1, none⟩ = some (vi ki x.off) := ZV.c 1 rfl
   have z2 : V9.cell? ⟨wr.heap.size, 2, none⟩ = some (.bool x.dst) := ZV.c 2 rfl
   have z3 : V9.cell? ⟨wr.heap.size, 3, none⟩ = some (.string x.ab) := ZV.c 3 rfl
   have HX9 : Hid (Bx V9 w.heap.size (tbF nm f sv FL)) := XV
   have HZ9 : Hid (Bx V9 wr.heap.size [vi ki x.at_, vi ki x.off, .bool x.dst, .string x.ab]) := ZV
   have HB9 : Hid (Below w.heap.size w V9) := BV
   clear XV ZV BV
   go_wp2_with fail
   refine (OX.out _).mono ?_
   rintro e v2 ⟨rfl, hb⟩
   have HX2 : Hid (Bx v2 w.heap.size (tbF nm f sv FL)) := HX9.out.below hb
   have y0 : v2.cell? ⟨wr.heap.size, 0, none⟩ = some (vi ki x.at_) := (HZ9.out.below hb).c 0 rfl
   have HB2 : Hid (Below w.heap.size w v2) := HB9.out.trans (hb.mono HB9.out.size)
   clear hb HX9 HZ9 HB9 z0 z1 z2 z3 OX
   have h5 : ¬ x.at_ ≤ la := by omega
   have h7 : ¬ 1125899906842624 < x.at_ := by omega
   have HOK' : Hid (∀ j, j < i + 1 → OkR L j) := fun j hj => by
    by_cases e : j = i
    ·rw [e]; exact HOI.out
    ·exact HOK.out j (by omega)
   clear HOI HOK ho h5' h6
   go_wp2_with fail
   exact ⟨⟨i + 1, by omega, by simp, by rw [HLS.out], HOK', HX2, HB2⟩, by simp [intOf]; omega⟩
  ·have HLN : Hid (lastA L L.length = lastA L i) := by rw [hn, show i = n by omega]; rfl
   rw [HLN.out] at HB9
   obtain ⟨la, hla⟩ : ∃ la, la = lastA L i := ⟨_, rfl⟩
   rw [← hla] at HB9 ⊢
   have q6 : wr.cell? ⟨w.heap.size, 6, none⟩ = some (.bool true) := HX.out.c 6 ((tbF_foot 0).trans f0)
   have q7 : wr.cell? ⟨w.heap.size, 7, none⟩ = some (vi ki fr) := HX.out.c 7 ((tbF_foot 1).trans f1)
   clear HLN hla HOK HALL
   go_wp2_with fail
   refine (YA.out _ HB.out).mono ?_
   rintro e v3 ⟨rfl, hb⟩
   have HX3 : Hid (Bx v3 w.heap.size (tbF nm f sv FL)) := HX.out.below hb
   have HB3 : Hid (Below w.heap.size w v3) := HB.out.trans (hb.mono HB.out.size)
   have HR : Hid (v3.rangeAt w.heap.size 6 FL) := fun j v hv => (HX3.out.2 (6 + j) v ((tbF_foot j).trans hv)).1
   have u7 : v3.cell? ⟨w.heap.size, 7, none⟩ = some (vi ki fr) := HX3.out.c 7 ((tbF_foot 1).trans f1)
   clear hb HX HB q5 q6 q7 YA
   go_wp2_with (first | (refine wpList_load_mid rfl 32 _ rfl w.heap.size 6 rfl FL _ HR.out Tryz.underlying32 rfl (by rw [hF]; kernel_rfl) ?_) | fail)
   refine (FA.out _ HB3.out).mono ?_
   rintro e v4 ⟨rfl, hb⟩
   have HX4 : Hid (Bx (v4.alloc (.cells #[vi ki p.at_, vi ki p.off, .bool p.dst, .string p.ab] 23)) w.heap.size (tbF nm f sv FL)) := (HX3.out.below hb).alloc _
   have HZ4 : Hid (Bx (v4.alloc (.cells #[vi ki p.at_, vi ki p.off, .bool p.dst, .string p.ab] 23)) v4.heap.size [vi ki p.at_, vi ki p.off, .bool p.dst, .string p.ab]) := Bx.new v4 [vi ki p.at_, vi ki p.off, .bool p.dst, .string p.ab] _
   have HB4 : Hid (Below w.heap.size w (v4.alloc (.cells #[vi ki p.at_, vi ki p.off, .bool p.dst, .string p.ab] 23))) := (HB3.out.trans (hb.mono HB3.out.size)).alloc (HB3.out.trans (hb.mono HB3.out.size)).size _
   clear hb HX3 HB3 HR u7 FA
   go_upto_region 16 with fail
   refine gen_code (fun V => Bx V w.heap.size (tbF nm f sv FL) ∧ Bx V v4.heap.size [vi ki p.at_, vi ki p.off, .bool p.dst, .string p.ab] ∧ Below w.heap.size w V) ⟨HX4.out, HZ4.out, HB4.out⟩ ?_
   clear HX4 HZ4 HB4
   rintro V5 ⟨XV, ZV, BV⟩
   have s7 : V5.cell? ⟨w.heap.size, 7, none⟩ = some (vi ki fr) := XV.c 7 ((tbF_foot 1).trans f1)
   have s0 : V5.cell? ⟨v4.heap.size, 0, none⟩ = some (vi ki p.at_) := ZV.c 0 rfl
   have HB5 : Hid (Below w.heap.size w V5) := BV
   clear XV ZV BV
   by_cases k1 : er = 0
   ·by_cases k2 : p.at_ = fr
    ·by_cases k3 : la < fr
     ·by_cases k4 : 1800 ≤ y
      ·by_cases k5 : y ≤ 2110
       ·have HE : Hid (b = true) := HB9.out.trans (decide_eq_true ⟨k1, k2, k3, k4, k5⟩)
        have g1 : (er == 0) = true := by simpa using k1
        have g2 : (p.at_ == fr) = true := by simpa using k2
        clear HB9 k1 k2
        go_wp2_with fail
        go_ret
        exact ⟨ret_bz (by rw [HE.out]), HB5.out⟩
       ·have HE : Hid (b = false) := HB9.out.trans (decide_eq_false (fun q => k5 q.2.2.2.2))
        have g1 : (er == 0) = true := by simpa using k1
        have g2 : (p.at_ == fr) = true := by simpa using k2
        clear HB9 k1 k2
        go_wp2_with fail
        go_ret
        exact ⟨ret_bz (by rw [HE.out]), HB5.out⟩
      ·have HE : Hid (b = false) := HB9.out.trans (decide_eq_false (fun q => k4 q.2.2.2.1))
       have g1 : (er == 0) = true := by simpa using k1
       have g2 : (p.at_ == fr) = true := by simpa using k2
       clear HB9 k1 k2
       go_wp2_with fail
       go_ret
       exact ⟨ret_bz (by rw [HE.out]), HB5.out⟩
     ·have HE : Hid (b = false) := HB9.out.trans (decide_eq_false (fun q => k3 q.2.2.1))
      have g1 : (er == 0) = true := by simpa using k1
      have g2 : (p.at_ == fr) = true := by simpa using k2
      clear HB9 k1 k2
      go_wp2_with fail
      go_ret
      exact ⟨ret_bz (by rw [HE.out]), HB5.out⟩
    ·have HE : Hid (b = false) := HB9.out.trans (decide_eq_false (fun q => k2 q.2.1))
     have g1 : (er == 0) = true := by simpa using k1
     have g2 : (p.at_ == fr) = false := by simpa using k2
     clear HB9 k1 k2
     go_wp2_with fail
     go_ret
     exact ⟨ret_bz (by rw [HE.out]), HB5.out⟩
   ·have HE : Hid (b = false) := HB9.out.trans (decide_eq_false (fun q => k1 q.1))
    have g1 : (er == 0) = false := by simpa using k1
    clear HB9 k1
    go_wp2_with fail
    go_ret
    exact ⟨ret_bz (by rw [HE.out]), HB5.out⟩
end Go.Proofs.YtklehbmghjcmaaaGreatDoor
namespace Go.Proofs.YtklehbmghjcmaaaGreatDoor
open Go.RowKit Sr
theorem rright_no1 (nm : ByteArray) (f : TrR) (sv : Value) (FL : List Value) (hF : FL.length = 19) (h1 : offR f.off = false) (ao : Option Addr) (n c : Nat) (hsv : sv = .slice ao n c) (w : World) :
  Calls Tryz.prog 21 #[.agg (tbF nm f sv FL).toArray] w fun r w' => r = zr (.bool false) ∧ Below w.heap.size w w' := by
 have X1 : Hid (Bx (w.alloc (.cells (tbF nm f sv FL).toArray 34)) w.heap.size (tbF nm f sv FL)) := Bx.new w _ _
 have B1 : Hid (Below w.heap.size w (w.alloc (.cells (tbF nm f sv FL).toArray 34))) := (Below.refl _ _).alloc (Nat.le_refl _) _
 have OF : Hid (∀ W : World, Calls Tryz.prog 53 #[.agg #[vi ki f.at_, vi ki f.off, .bool f.dst, .string f.ab]] W fun r w' => r = zr (.bool false) ∧ Below W.heap.size W w') := fun W => roff_run f false h1.symm W
 clear h1
 go_enter Tryz.func21, Tryz.ntmps21
 generalize hUA : (tbF nm f sv FL).toArray = UA at *
 go_upto_region 1 with fail
 refine gen_code (fun V => Bx V w.heap.size (tbF nm f sv FL) ∧ Below w.heap.size w V) ⟨X1.out, B1.out⟩ ?_
 clear X1 B1
 rintro V ⟨XV, BV⟩
 have r1 : V.cell? ⟨w.heap.size, 1, none⟩ = some (vi ki f.at_) := XV.c 1 rfl
 have r2 : V.cell? ⟨w.heap.size, 2, none⟩ = some (vi ki f.off) := XV.c 2 rfl
 have r3 : V.cell? ⟨w.heap.size, 3, none⟩ = some (.bool f.dst) := XV.c 3 rfl
 have r4 : V.cell? ⟨w.heap.size, 4, none⟩ = some (.string f.ab) := XV.c 4 rfl
 have HX : Hid (Bx V w.heap.size (tbF nm f sv FL)) := XV
 have HB : Hid (Below w.heap.size w V) := BV
 clear XV BV
 go_wp2_with fail
 refine (OF.out _).mono ?_
 rintro e v1 ⟨rfl, hb⟩
 have q1 : v1.cell? ⟨w.heap.size, 1, none⟩ = some (vi ki f.at_) := (HX.out.below hb).c 1 rfl
 have q5 : v1.cell? ⟨w.heap.size, 5, none⟩ = some (.slice ao n c) := by have := (HX.out.below hb).c 5 (v := sv) rfl; rw [hsv] at this; exact this
 have HB1 : Hid (Below w.heap.size w v1) := HB.out.trans (hb.mono HB.out.size)
 clear hb HX HB r1 r2 r3 r4 OF
 go_wp2_with fail
 go_ret
 exact ⟨rfl, HB1.out⟩
theorem rright_no2 (nm : ByteArray) (f : TrR) (sv : Value) (FL : List Value) (hF : FL.length = 19) (h1 : offR f.off = true) (h0 : f.at_ ≠ 0) (ao : Option Addr) (n c : Nat) (hsv : sv = .slice ao n c) (w : World) :
  Calls Tryz.prog 21 #[.agg (tbF nm f sv FL).toArray] w fun r w' => r = zr (.bool false) ∧ Below w.heap.size w w' := by
 have X1 : Hid (Bx (w.alloc (.cells (tbF nm f sv FL).toArray 34)) w.heap.size (tbF nm f sv FL)) := Bx.new w _ _
 have B1 : Hid (Below w.heap.size w (w.alloc (.cells (tbF nm f sv FL).toArray 34))) := (Below.refl _ _).alloc (Nat.le_refl _) _
 have OF : Hid (∀ W : World, Calls Tryz.prog 53 #[.agg #[vi ki f.at_, vi ki f.off, .bool f.dst, .string f.ab]] W fun r w' => r = zr (.bool true) ∧ Below W.heap.size W w') := fun W => roff_run f true h1.symm W
 clear h1
 have g0 : (f.at_ != 0) = true := bne_iff_ne.2 h0
 go_enter Tryz.func21, Tryz.ntmps21
 generalize hUA : (tbF nm f sv FL).toArray = UA at *
 go_upto_region 1 with fail
 refine gen_code (fun V => Bx V w.heap.size (tbF nm f sv FL) ∧ Below w.heap.size w V) ⟨X1.out, B1.out⟩ ?_
 clear X1 B1
 rintro V ⟨XV, BV⟩
 have r1 : V.cell? ⟨w.heap.size, 1, none⟩ = some (vi ki f.at_) := XV.c 1 rfl
 have r2 : V.cell? ⟨w.heap.size, 2, none⟩ = some (vi ki f.off) := XV.c 2 rfl
 have r3 : V.cell? ⟨w.heap.size, 3, none⟩ = some (.bool f.dst) := XV.c 3 rfl
 have r4 : V.cell? ⟨w.heap.size, 4, none⟩ = some (.string f.ab) := XV.c 4 rfl
 have HX : Hid (Bx V w.heap.size (tbF nm f sv FL)) := XV
 have HB : Hid (Below w.heap.size w V) := BV
 clear XV BV
 go_wp2_with fail
 refine (OF.out _).mono ?_
 rintro e v1 ⟨rfl, hb⟩
 have q1 : v1.cell? ⟨w.heap.size, 1, none⟩ = some (vi ki f.at_) := (HX.out.below hb).c 1 rfl
 have q5 : v1.cell? ⟨w.heap.size, 5, none⟩ = some (.slice ao n c) := by have := (HX.out.below hb).c 5 (v := sv) rfl; rw [hsv] at this; exact this
 have HB1 : Hid (Below w.heap.size w v1) := HB.out.trans (hb.mono HB.out.size)
 clear hb HX HB r1 r2 r3 r4 OF
 go_wp2_with fail
 go_ret
 exact ⟨rfl, HB1.out⟩
theorem rright_no3 (nm : ByteArray) (f : TrR) (sv : Value) (FL : List Value) (hF : FL.length = 19) (h1 : offR f.off = true) (h0 : f.at_ = 0) (L : List TrR) (h4 : 4096 < L.length) (hm : L.length ≤ maxLen) (ao : Option Addr) (n c : Nat) (hsv : sv = .slice ao n c) (hn : L.length = n) (w : World) :
  Calls Tryz.prog 21 #[.agg (tbF nm f sv FL).toArray] w fun r w' => r = zr (.bool false) ∧ Below w.heap.size w w' := by
 have X1 : Hid (Bx (w.alloc (.cells (tbF nm f sv FL).toArray 34)) w.heap.size (tbF nm f sv FL)) := Bx.new w _ _
 have B1 : Hid (Below w.heap.size w (w.alloc (.cells (tbF nm f sv FL).toArray 34))) := (Below.refl _ _).alloc (Nat.le_refl _) _
 have OF : Hid (∀ W : World, Calls Tryz.prog 53 #[.agg #[vi ki f.at_, vi ki f.off, .bool f.dst, .string f.ab]] W fun r w' => r = zr (.bool true) ∧ Below W.heap.size W w') := fun W => roff_run f true h1.symm W
 clear h1
 unfold maxLen at hm
 rw [hn] at h4 hm
 have g0 : (f.at_ != 0) = false := by simpa using h0
 have g4 : (4096 : Int) < (n : Int) := by omega
 clear h0
 go_enter Tryz.func21, Tryz.ntmps21
 generalize hUA : (tbF nm f sv FL).toArray = UA at *
 go_upto_region 1 with fail
 refine gen_code (fun V => Bx V w.heap.size (tbF nm f sv FL) ∧ Below w.heap.size w V) ⟨X1.out, B1.out⟩ ?_
 clear X1 B1
 rintro V ⟨XV, BV⟩
 have r1 : V.cell? ⟨w.heap.size, 1, none⟩ = some (vi ki f.at_) := XV.c 1 rfl
 have r2 : V.cell? ⟨w.heap.size, 2, none⟩ = some (vi ki f.off) := XV.c 2 rfl
 have r3 : V.cell? ⟨w.heap.size, 3, none⟩ = some (.bool f.dst) := XV.c 3 rfl
 have r4 : V.cell? ⟨w.heap.size, 4, none⟩ = some (.string f.ab) := XV.c 4 rfl
 have HX : Hid (Bx V w.heap.size (tbF nm f sv FL)) := XV
 have HB : Hid (Below w.heap.size w V) := BV
 clear XV BV
 go_wp2_with fail
 refine (OF.out _).mono ?_
 rintro e v1 ⟨rfl, hb⟩
 have q1 : v1.cell? ⟨w.heap.size, 1, none⟩ = some (vi ki f.at_) := (HX.out.below hb).c 1 rfl
 have q5 : v1.cell? ⟨w.heap.size, 5, none⟩ = some (.slice ao n c) := by have := (HX.out.below hb).c 5 (v := sv) rfl; rw [hsv] at this; exact this
 have HB1 : Hid (Below w.heap.size w v1) := HB.out.trans (hb.mono HB.out.size)
 clear hb HX HB r1 r2 r3 r4 OF
 go_wp2_with fail
 go_ret
 exact ⟨rfl, HB1.out⟩
theorem rises_of : ∀ (L : List TrR), (∀ j p x, L[j]? = some p → L[j + 1]? = some x → p.at_ < x.at_) → Zm.Rises (L.map (·.at_))
 | [], _ => trivial
 | [_], _ => trivial
 | a :: b :: l, h => ⟨h 0 a b rfl rfl, rises_of (b :: l) (fun j p x hp hx => h (j + 1) p x hp hx)⟩
end Go.Proofs.YtklehbmghjcmaaaGreatDoor
namespace Go.Proofs.YtklehbmghjcmaaaGreatDoor
open Go.RowKit Sr
def atP (b : Bool) (y : Int) (has : Bool) (fr t : Int) (f : TrR) (L : List TrR) (px : TrR) : TrR := if b = true then (if askY y = true then (if has = true ∧ fr ≤ t then px else curT f L (Zm.cntLe t (L.map (·.at_)))) else zTr) else zTr
def atE (b : Bool) (y : Int) : Int := if b = true then (if askY y = true then 0 else 10) else 1
abbrev trV (x : TrR) : Value := .agg #[vi ki x.at_, vi ki x.off, .bool x.dst, .string x.ab]
theorem cnt_get {t : Int} {L : List TrR} {k : Nat} (h : Zm.cntLe t (L.map (·.at_)) = k + 1) : ∃ x, L[k]? = some x := by
 have := Zm.cntLe_le t (L.map (·.at_))
 rw [List.length_map, h] at this
 exact ⟨_, List.getElem?_eq_getElem (by omega)⟩
theorem stand_any (nm : ByteArray) (f : TrR) (sv : Value) (FL : List Value) (hF : FL.length = 19) (has : Bool) (fr t : Int) (f0 : FL[0]? = some (.bool has)) (f1 : FL[1]? = some (vi ki fr)) (L : List TrR) (hr : Zm.Rises (L.map (·.at_))) (h4 : L.length ≤ 4096) (px : TrR) (er : Int) (w : World) (HT : TrAt w sv L)
  (FA : has = true → fr ≤ t → ∀ W : World, Below w.heap.size w W → Calls Tryz.prog 125 #[.agg FL.toArray, vi ki t] W fun r w' => r = zr (.tuple #[trV px, vi ki er]) ∧ Below W.heap.size W w') :
  Calls Tryz.prog 79 #[.agg (tbF nm f sv FL).toArray, vi ki t] w fun r w' => r = zr (trV (if has = true ∧ fr ≤ t then px else curT f L (Zm.cntLe t (L.map (·.at_))))) ∧ Below w.heap.size w w' := by
 have BH : ∀ W : World, Below w.heap.size w W → Calls Tryz.prog 127 #[.agg (tbF nm f sv FL).toArray, vi ki t] W fun r w' => r = zr (vi ki (Zm.cntLe t (L.map (·.at_)) : Int)) ∧ Below W.heap.size W w' := fun W hb => behind_any _ (tbF_len hF) L sv rfl t hr h4 W (HT.mv hb)
 cases hc : Zm.cntLe t (L.map (·.at_)) with
 | zero =>
  rw [hc] at BH
  cases has with
  | false => rw [if_neg (fun q => absurd q.1 (by decide))]; exact stand_first_n nm f sv FL hF fr t f0 f1 w BH
  | true =>
   by_cases hy : fr ≤ t
   ·rw [if_pos ⟨rfl, hy⟩]; exact stand_foot nm f sv FL hF fr t f0 f1 hy px er w (FA rfl hy)
   ·rw [if_neg (fun q => hy q.2)]; exact stand_first_e nm f sv FL hF fr t f0 f1 hy w BH
 | succ k =>
  rw [hc] at BH
  obtain ⟨x, hx⟩ := cnt_get hc
  rw [curT_succ hx]
  cases has with
  | false => rw [if_neg (fun q => absurd q.1 (by decide))]; exact stand_tr_n nm f sv FL hF fr t f0 f1 L h4 k x hx w HT BH
  | true =>
   by_cases hy : fr ≤ t
   ·rw [if_pos ⟨rfl, hy⟩]; exact stand_foot nm f sv FL hF fr t f0 f1 hy px er w (FA rfl hy)
   ·rw [if_neg (fun q => hy q.2)]; exact stand_tr_e nm f sv FL hF fr t f0 f1 hy L h4 k x hx w HT BH
theorem zat_any (nm : ByteArray) (f : TrR) (sv : Value) (FL : List Value) (hF : FL.length = 19) (has : Bool) (fr t : Int) (f0 : FL[0]? = some (.bool has)) (f1 : FL[1]? = some (vi ki fr)) (L : List TrR) (b : Bool) (hr : b = true → Zm.Rises (L.map (·.at_)) ∧ L.length ≤ 4096) (y : Int) (px : TrR) (er : Int) (w : World) (HT : TrAt w sv L)
  (RT : ∀ W : World, Below w.heap.size w W → Calls Tryz.prog 31 #[.agg (tbF nm f sv FL).toArray] W fun r w' => r = zr (.bool b) ∧ Below W.heap.size W w')
  (YA : ∀ W : World, Below w.heap.size w W → Calls Tryz.prog 124 #[vi ki t] W fun r w' => r = zr (vi ki y) ∧ w' = W)
  (FA : b = true → askY y = true → has = true → fr ≤ t → ∀ W : World, Below w.heap.size w W → Calls Tryz.prog 125 #[.agg FL.toArray, vi ki t] W fun r w' => r = zr (.tuple #[trV px, vi ki er]) ∧ Below W.heap.size W w') :
  Calls Tryz.prog 33 #[.agg (tbF nm f sv FL).toArray, vi ki t] w fun r w' => r = zr (.tuple #[trV (atP b y has fr t f L px), vi ki (atE b y)]) ∧ Below w.heap.size w w' := by
 unfold atP atE
 cases b with
 | false => rw [if_neg (by decide), if_neg (by decide)]; exact zat_no _ (tbF_len hF) t w RT
 | true =>
  rw [if_pos rfl, if_pos rfl]
  have AS : ∀ W : World, Below w.heap.size w W → Calls Tryz.prog 78 #[vi ki t] W fun r w' => r = zr (.bool (askY y)) ∧ w' = W := fun W hb => asked_any t y W (YA W hb)
  cases ha : askY y with
  | false => rw [ha] at AS; rw [if_neg (by decide), if_neg (by decide)]; exact zat_range _ (tbF_len hF) t w RT AS
  | true =>
   rw [ha] at AS
   rw [if_pos rfl, if_pos rfl]
   obtain ⟨hr1, hr2⟩ := hr rfl
   exact zat_yes _ (tbF_len hF) t _ w RT AS (fun W hb => stand_any nm f sv FL hF has fr t f0 f1 L hr1 hr2 px er W (HT.mv hb) (fun h1 h2 W' hb' => FA rfl ha h1 h2 W' (hb.trans (hb'.mono hb.size))))
end Go.Proofs.YtklehbmghjcmaaaGreatDoor
namespace Go.Proofs.YtklehbmghjcmaaaGreatDoor
open Go Go.RowKit
structure Turns (M : List Nat) (W W' : World) : Prop where
 os : W'.os = W.os
 tape : W'.tape = W.tape
 output : W'.output = W.output
 size : W.heap.size ≤ W'.heap.size
 block : ∀ k, k < W.heap.size → k ∉ M → W'.heap[k]? = W.heap[k]?
theorem Turns.refl (M : List Nat) (W : World) : Turns M W W := ⟨rfl, rfl, rfl, Nat.le_refl _, fun _ _ _ => rfl⟩
theorem Turns.trans {M : List Nat} {A B C : World} (h : Turns M A B) (k : Turns M B C) : Turns M A C :=
 ⟨k.os.trans h.os, k.tape.trans h.tape, k.output.trans h.output, Nat.le_trans h.size k.size, fun i hi hm => (k.block i (Nat.lt_of_lt_of_le hi h.size) hm).trans (h.block i hi hm)⟩
theorem Turns.mono {M M' : List Nat} {A B : World} (h : Turns M A B) (hm : ∀ k ∈ M, k ∈ M') : Turns M' A B := ⟨h.os, h.tape, h.output, h.size, fun k hk h' => h.block k hk (fun q => h' (hm k q))⟩
theorem Turns.of_below {M : List Nat} {A B : World} (h : Below A.heap.size A B) : Turns M A B := ⟨h.os, h.tape, h.output, h.size, fun k hk _ => h.block k hk⟩
theorem Turns.grown {M : List Nat} {A B : World} {r : Nat} (h : A.grownBy B (some r)) (hr : r ∈ M) : Turns M A B := ⟨h.os, h.tape, h.output, h.size, fun k hk hm => h.block k hk (fun q => hm (by cases q; exact hr))⟩
theorem Turns.putObj {M : List Nat} (W : World) {l : Nat} (o : Obj) (hl : l ∈ M) : Turns M W (W.putObj l o) :=
 ⟨rfl, rfl, rfl, by simp, fun k _ hm => World.putObj_heap_other (by intro e; subst e; exact hm hl)⟩
theorem Turns.setCell {M : List Nat} (W : World) (a : Addr) (v : Value) (hl : a.block ∈ M) : Turns M W (W.setCell a v) :=
 ⟨rfl, rfl, rfl, by show W.heap.size ≤ (W.heap.modify _ _).size; rw [Array.size_modify]; exact Nat.le_refl _, fun k _ hm => Below.heap_setCell W a v k (by intro e; subst e; exact hm hl)⟩
theorem Turns.alloc (M : List Nat) (W : World) (o : Obj) : Turns M W (W.alloc o) := .of_below ((Below.refl _ W).alloc (Nat.le_refl _) o)
theorem Turns.below {M : List Nat} {A B : World} {n : Nat} (h : Turns M A B) (hn : n ≤ A.heap.size) (hm : ∀ k ∈ M, n ≤ k) : Below n A B :=
 ⟨h.os, h.tape, h.output, h.size, fun k hk => h.block k (by omega) (fun q => by have := hm k q; omega)⟩
def SeqB (n : Nat) (P : Program) (gf : Nat) (lb : Array Value) (S : List Nat) (vs : Nat → Value) (N : Nat) (w : World) : Prop :=
 ∀ (l : Nat) (M : List Nat) (J : Nat → World → Prop) (W : World), Below w.heap.size w W → (∀ k ∈ M, k < W.heap.size) → (∀ k ∈ S, k ∉ M) →
  (∀ k A A', J k A → Below W.heap.size A A' → J k A') →
  (∀ k W1, k < N → W.heap.size ≤ W1.heap.size → J k W1 → YieldAt Fence.wide (n - 1) P l #[vs k] W1 fun e W' => e = zr (.bool true) ∧ J (k + 1) W' ∧ Turns M W1 W') →
  J 0 W →
  CallsIn Fence.wide n P gf (#[.func (.yield l) #[] #[]] ++ lb) W fun e W' => (∃ v, e = .returned v) ∧ J N W'
def roundB (M : List Nat) (I : World → Prop) (W : World) : Exit → Act → World → Prop
 | .normal, _, W' => Turns M W W' ∧ I W'
 | _, _, _ => False
theorem rangeB {n : Nat} {P : Program} {g : Operand} {ps : Array Tmp} {assign body : Code} {Q : Exit → Act → World → Prop} {a : Act} {w : World}
  (h1 : 1 ≤ n) {gf : Nat} {lb : Array Value} (hg : a.eval g = .func (.func gf) #[] lb) (eg : ∀ args w, (callFunc gf args).run P w = .ok (.enter gf args) w)
  {S : List Nat} {vs : Nat → Value} {N : Nat} (hseq : SeqB (n - 1) P gf lb S vs N w) (M : List Nat) (hM : ∀ k ∈ M, k < w.heap.size) (hS : ∀ k ∈ S, k < w.heap.size) (hSM : ∀ k ∈ S, k ∉ M) (hps : ps.size = 1)
  (I : Nat → World → Prop) (hI : ∀ k A A', I k A → Below w.heap.size A A' → I k A') (h0 : I 0 w) (Ax : Nat → Act → World → Prop)
  (hAx : ∀ k a' W l o o', Ax k a' W → W.heap[l]? = some o → o.isCells = false → Ax k a' (W.putObj l o'))
  (hassign : ∀ (l k : Nat) (W : World) (K : Act → World → Prop), w.heap.size < W.heap.size → (∀ a' W', Below W.heap.size W W' → Ax k a' W' → K a' W') →
   assign.wpIn (Fence.wide.inRound l) (n - 1 - 1) P (Exit.then K (fun _ _ _ => False)) { tmps := (ps.zip #[vs k]).foldl (fun t (p, v) => t.setIfInBounds p v) a.tmps, defers := [] } W)
  (hbody : ∀ (l k : Nat) (a' : Act) (W : World), I k W → Ax k a' W → k < N → w.heap.size < W.heap.size → body.wpIn (Fence.wide.inRound l) (n - 1 - 1) P (roundB M (I (k + 1)) W) a' W)
  (hdone : ∀ (D : Nat) (W : World), w.heap.size ≤ D → I N W → W.heap[D]? = some (.deferred (some [])) → Q .normal { a with defers := { target := .collected D, args := #[] } :: a.defers } W) :
  (Code.rangeFunc g ps assign body).wpIn Fence.wide n P Q a w := by
 refine wpIn_rangeFunc ?_
 intro fn hfn
 rw [show Fence.wide.round = none from rfl]
 let rec' : LoopState → Option Code → Loop := fun st pe => { state := st, pending := pe, fn, tmps := a.tmps, params := ps, assign, body, defers := w.heap.size }
 obtain ⟨W1, hW1⟩ : ∃ W1, (w.alloc (.deferred (some []))).alloc (.loop (rec' .ready none)) = W1 := ⟨_, rfl⟩
 have hz1 : W1.heap.size = w.heap.size + 2 := by rw [← hW1]; simp
 have hL1 : W1.heap[w.heap.size + 1]? = some (.loop (rec' .ready none)) := by
  rw [← hW1]; have := World.alloc_heap_new (w.alloc (.deferred (some []))) (.loop (rec' .ready none)); rwa [World.size_alloc] at this
 have hK1 : W1.heap[w.heap.size]? = some (.deferred (some [])) := by
  rw [← hW1]; exact (Below.heap_alloc _ _ _ (by simp)).trans (World.alloc_heap_new w _)
 have hb1 : Below w.heap.size w W1 := by
  rw [← hW1]; exact ((Below.refl _ w).alloc (Nat.le_refl _) _).alloc (by simp) _
 have hI1 : I 0 W1 := hI _ _ _ h0 hb1
 refine ⟨w.heap.size + 1, [{ target := .collected w.heap.size, args := #[] }], W1, { target := .fn (.func gf) lb, args := #[.func (.yield (w.heap.size + 1)) #[] #[]] }, W1, gf,
  #[.func (.yield (w.heap.size + 1)) #[] #[]] ++ lb, W1, ?_, ?_, ?_, ?_, fun _ => h1, ?_⟩
 ·rw [← hW1]; exact run_enterLoop_outer _ _ _ _ _
 ·simp only [resolve, hg]
  simp [go_sem]
 ·intro f' hf'; simp [Target.leads] at hf'; subst hf'; trivial
 ·simp [invoke, go_sem, eg]
 ·refine (hseq (w.heap.size + 1) ((w.heap.size + 1) :: M)
   (fun k W => I k W ∧ W.heap[w.heap.size + 1]? = some (.loop (rec' .ready none)) ∧ W.heap[w.heap.size]? = some (.deferred (some [])))
   W1 hb1
   (fun k hk => by rcases List.mem_cons.1 hk with rfl | hk; omega; have := hM k hk; omega)
   (fun k hk q => by rcases List.mem_cons.1 q with e | q; have := hS k hk; omega; exact hSM k hk q)
   (fun k A B hs hb => ⟨hI _ _ _ hs.1 (hb.mono (by omega)), (hb.block _ (by omega)).trans hs.2.1, (hb.block _ (by omega)).trans hs.2.2⟩)
   ?_ ⟨hI1, hL1, hK1⟩).mono ?_
  ·rintro k W hkN hsW ⟨hi, hl, hk⟩
   have hlt : w.heap.size + 1 < W.heap.size := (Array.getElem?_eq_some_iff.1 hl).1
   have hy := run_yield (P := P) (args := #[vs k]) hl (by simp [rec', hps])
   refine ⟨fn, _, assign, body, hy, roundIn_of_wpIn hfn (hassign _ k W _ (by omega) (fun a' Wa hba hxa => ?_))⟩
   have hbt : Turns ((w.heap.size + 1) :: M) W Wa := .of_below hba
   replace hi := hI _ _ _ hi (hba.mono (by omega))
   replace hl := (hba.block _ hlt).trans hl
   replace hk := (hba.block _ (by omega)).trans hk
   replace hlt : w.heap.size + 1 < Wa.heap.size := Nat.lt_of_lt_of_le hlt hba.size
   clear hba hy
   revert hbt
   generalize W = Wb
   intro hbt
   obtain ⟨W, rfl⟩ : ∃ W, W = Wa := ⟨_, rfl⟩
   refine ⟨_, run_beginRound hl rfl, ?_⟩
   have hl2 : (W.putObj (w.heap.size + 1) (.loop { rec' .ready none with state := .busy })).heap[w.heap.size + 1]? = some (.loop { rec' .ready none with state := .busy }) := World.putObj_heap_same hlt
   have hk2 : (W.putObj (w.heap.size + 1) (.loop { rec' .ready none with state := .busy })).heap[w.heap.size]? = some (.deferred (some [])) := (World.putObj_heap_other (by omega)).trans hk
   have hb2 : Below w.heap.size W (W.putObj (w.heap.size + 1) (.loop { rec' .ready none with state := .busy })) := (Turns.putObj (M := [w.heap.size + 1]) W _ (by simp)).below (by omega) (fun k hk => by simp at hk; omega)
   refine wpIn_mono (hbody _ k _ _ (hI _ _ _ hi hb2) (hAx _ _ _ _ _ _ hxa hl rfl) hkN (by simp; omega)) ?_
   rintro e a3 W3 hp
   cases e with
   | normal =>
    obtain ⟨ht, hi3⟩ := hp
    have hnM : w.heap.size + 1 ∉ M := fun q => by have := hM _ q; omega
    have hnD : w.heap.size ∉ M := fun q => by have := hM _ q; omega
    have hl3 := (ht.block (w.heap.size + 1) (by simp; omega) hnM).trans hl2
    have hk3 := (ht.block w.heap.size (by simp; omega) hnD).trans hk2
    have hlt3 := (Array.getElem?_eq_some_iff.1 hl3).1
    refine ⟨_, _, run_endRound (P := P) none hl3, rfl, ⟨?_, World.putObj_heap_same hlt3, (World.putObj_heap_other (by omega)).trans hk3⟩, ?_⟩
    ·exact hI _ _ _ hi3 ((Turns.putObj (M := [w.heap.size + 1]) W3 _ (by simp)).below (by omega) (fun k hk => by simp at hk; omega))
    ·exact hbt.trans <| ((Turns.putObj W _ (by simp)).trans (ht.mono (fun k hk => by simp [hk]))).trans (Turns.putObj W3 _ (by simp))
   | ret => exact hp.elim
   | exit id => exact hp.elim
   | goto t => exact hp.elim
   | panic ch => exact hp.elim
   | outgrown => exact hp.elim
  ·rintro e W2 ⟨⟨v, rfl⟩, hi, hl, hk⟩
   exact ⟨none, _, run_endLoop (P := P) hl (by simp [rec']), hdone _ _ (Nat.le_refl _) (hI _ _ _ hi ((Turns.putObj (M := [w.heap.size + 1]) W2 _ (by simp)).below (by have := (Array.getElem?_eq_some_iff.1 hl).1; omega) (fun k hk => by simp at hk; omega))) ((World.putObj_heap_other (by omega)).trans hk)⟩
theorem CallsIn_round {l n : Nat} {P : Program} {f : FuncId} {args : Array Value} {w : World} {R : Ending → World → Prop} (h : Calls P f args w R) : CallsIn (Fence.wide.inRound l) n P f args w R :=
 (callsIn_wide (n := n)).2 h
theorem oper_round {l n : Nat} {P : Program} {o : Oper} {a : Act} {w : World} {K : Act → World → Prop} {Q : Exit → Act → World → Prop} (hd : ∀ c, o.op ≠ .defer c) (h : o.wp P a w K Q) : o.wpIn (Fence.wide.inRound l) n P a w K Q := by
 refine ⟨fun _ _ => trivial, ?_⟩
 rw [Oper.semAt_eq _ _ _ hd]
 unfold Oper.wp at h
 revert h
 cases (execOp a.eval o).run P w with
 | ok nx w' =>
  cases nx with
  | enter f args => exact fun h => ⟨fun q => by simp [Fence.wide, Fence.inRound] at q, CallsIn_round h⟩
  | row r args => exact fun h => ⟨fun q => by simp [Fence.wide, Fence.inRound] at q, fun c cs _ => let ⟨v, w', r, s⟩ := h c cs; ⟨v, w', r, stepsIn_wide.2 s⟩⟩
  | _ => first | exact fun h => h | exact fun h => h.elim
 | halt x w' => cases x <;> exact fun h => h
theorem op_round {l n : Nat} {P : Program} {ops : Array Oper} {i : Nat} {a : Act} {w : World} {K : Act → World → Prop} {Q : Exit → Act → World → Prop} (hd : ∀ o ∈ ops.toList, ∀ c, o.op ≠ .defer c) (hQ : ¬ LetsOut Q) (h : wpOp P ops Q i K a w) : wpOpIn (Fence.wide.inRound l) n P ops Q i K a w := by
 unfold wpOp at h
 unfold wpOpIn
 cases ho : ops[i]? with
 | none => rw [ho] at h; exact h
 | some o =>
  rw [ho] at h
  have hm : o ∈ ops.toList := by rw [← Array.getElem?_toList] at ho; exact List.mem_of_getElem? ho
  simp only [] at h ⊢
  split
  ·rename_i hw
   rw [if_pos hw] at h
   rcases h with h | ⟨_, h⟩
   ·exact oper_round (hd o hm) h
   ·exact absurd h hQ
  ·rename_i hw
   rw [if_neg hw] at h
   exact ⟨fun _ _ => trivial, h⟩
theorem any_round {l n : Nat} {P : Program} {md : Region.Mode} {ops : Array Oper} {Q : Exit → Act → World → Prop} (hd : ∀ o ∈ ops.toList, ∀ c, o.op ≠ .defer c) (hQ : ¬ LetsOut Q) :
  ∀ (fuel : Nat) (listed : Array Bool) (a : Act) (w : World), wpAny P md ops Q fuel listed a w → wpAnyIn (Fence.wide.inRound l) n P md ops Q fuel listed a w
 | 0, _, _, _, h => h
 | fuel + 1, _, _, _, h => ⟨h.1, fun i hi => op_round hd hQ (wpOp_mono (fun a' w' h' => any_round hd hQ fuel _ a' w' h') (h.2 i hi))⟩
def noDefer (ops : Array Oper) : Bool := ops.toList.all fun o => match o.op with | .defer _ => false | _ => true
theorem noDefer_spec {ops : Array Oper} (h : noDefer ops = true) : ∀ o ∈ ops.toList, ∀ c, o.op ≠ .defer c := fun o ho c hc => by
 have := List.all_eq_true.1 h o ho
 rw [hc] at this
 cases this
theorem region_round {l n : Nat} {P : Program} {ops : Array Oper} {S : World → Prop} {Q : Exit → Act → World → Prop} {id : Nat} {a : Act} {w : World} (hm : P.follows .mixedOrders = true) (hd : noDefer ops = true) (hQ : ¬ LetsOut Q) (hS : S w.drew)
  (h : S w.drew → wpAnyH P .any ops Q S ops.size (Array.replicate ops.size false) a w.drew) : (Code.region id ops true).wpIn (Fence.wide.inRound l) n P Q a w :=
 wpIn_region_any hm (any_round (noDefer_spec hd) hQ _ _ _ _ (wpAny_of_held _ _ _ _ (h hS)))
theorem YieldAt_round {l2 m m' : Nat} {P : Program} {l : Nat} {args : Array Value} {W : World} {R : Ending → World → Prop} (h : YieldAt Fence.wide m P l args W R) : YieldAt (Fence.wide.inRound l2) m' P l args W R := by
 obtain ⟨fn, tmps, assign, body, hy, hR⟩ := h
 exact ⟨fn, tmps, assign, body, hy, hR.1, fun c cs _ => hR.2 c cs (room_wide _)⟩
theorem YieldAt_wide {m m' : Nat} {P : Program} {l : Nat} {args : Array Value} {W : World} {R : Ending → World → Prop} (h : YieldAt Fence.wide m P l args W R) : YieldAt Fence.wide m' P l args W R := by
 obtain ⟨fn, tmps, assign, body, hy, hR⟩ := h
 exact ⟨fn, tmps, assign, body, hy, hR.1, fun c cs _ => hR.2 c cs (room_wide _)⟩
end Go.Proofs.YtklehbmghjcmaaaGreatDoor
namespace Go.Proofs.YtklehbmghjcmaaaGreatDoor
open Go Go.RowKit
open Go.ChangeMaps (setBlock heap_setBlock_same heap_setBlock_other)
def MapZ (W : World) (b : Nat) (z : Value) (f : Int → Value) : Prop :=
 ∃ es clock, W.heap[b]? = some (.map es clock) ∧ (∀ e ∈ es.toList, ∃ k : Int, e.key = vi ki k ∧ e.val = f k) ∧ (∀ k : Int, (∀ e ∈ es.toList, e.key ≠ vi ki k) → f k = z) ∧ (es.toList.map (·.key)).Nodup
theorem findNow_Z {f : Int → Value} (y : Int) : ∀ (es : List MapEntry) (i : Nat), (∀ e ∈ es, ∃ k : Int, e.key = vi ki k ∧ e.val = f k) →
  (Instr.findNow (.int .i64) (vi ki y) es i = some none ∧ ∀ e ∈ es, e.key ≠ vi ki y) ∨ ∃ j, Instr.findNow (.int .i64) (vi ki y) es i = some (some (j, f y)) ∧ j - i < es.length ∧ i ≤ j ∧ (es[j - i]?).map (·.key) = some (vi ki y)
 | [], i, _ => .inl ⟨rfl, by simp⟩
 | e :: es, i, h => by
  obtain ⟨k, hk, hv⟩ := h e (by simp)
  by_cases hy : y = k
  ·subst hy
   exact .inr ⟨i, by simp [Instr.findNow, Instr.sameNow, hk, hv], by simp, Nat.le_refl _, by simp [hk]⟩
  ·have hyb : (y == k) = false := by simpa using hy
   rcases findNow_Z y es (i + 1) (fun e' he' => h e' (by simp [he'])) with ⟨h1, h2⟩ | ⟨j, h1, h2, h3, h4⟩
   ·refine .inl ⟨by simp [Instr.findNow, Instr.sameNow, hk, hyb, h1], ?_⟩
    intro e' he'
    rcases List.mem_cons.1 he' with rfl | he'
    ·rw [hk]; intro q; injection q with _ q; exact hy q.symm
    ·exact h2 e' he'
   ·refine .inr ⟨j, by simp [Instr.findNow, Instr.sameNow, hk, hyb, h1], ?_, by omega, ?_⟩
    ·simp; omega
    ·have : j - i = (j - (i + 1)) + 1 := by omega
     rw [this]; simpa using h4
theorem lookup_Z {P : Program} {t K E : TypeId} (ht : P.underlying t = some (.map K E)) (hK : P.underlying K = some (.int .i64)) {z : Value} {W : World} (hz : (zeroValue E).run P W = .ok z W)
  {b : Nat} {f : Int → Value} (h : MapZ W b z f) (y : Int) :
  (Instr.lookup t (.map (some b)) (vi ki y) false).run P W = .ok (f y) W := by
 obtain ⟨es, clock, hb, hes, hno, _⟩ := h
 have hc : ∀ e, (Instr.checkKey e 10000 K (vi ki y)).run P W = .ok () W := fun e => MapKept.run_checkKey hK (by trivial) e 9999
 rcases findNow_Z y es.toList 0 hes with ⟨h1, h2⟩ | ⟨j, h1, _⟩
 ·rw [hno y h2]
  simp [Instr.lookup, Instr.findKey, run_underlying ht, run_underlying hK, MapKept.run_getObj_map hb, hc, h1, hz, Result.andThen]
 ·simp [Instr.lookup, Instr.findKey, run_underlying ht, run_underlying hK, MapKept.run_getObj_map hb, hc, h1, Result.andThen]
theorem sameBits_z (y : Int) : Instr.sameBits 10000 (vi ki y) (vi ki y) = true := by
 unfold Instr.sameBits; simp
theorem nodup_at {l : List Value} (h : l.Nodup) {i j : Nat} {v : Value} (hi : l[i]? = some v) (hj : l[j]? = some v) : i = j := by
 obtain ⟨a, ha⟩ := List.getElem?_eq_some_iff.1 hi
 obtain ⟨b, hb⟩ := List.getElem?_eq_some_iff.1 hj
 exact (List.getElem_inj h).1 (ha.trans hb.symm)
theorem update_Z {P : Program} {t K E : TypeId} (ht : P.underlying t = some (.map K E)) (hK : P.underlying K = some (.int .i64)) {W : World} {z : Value}
  {b : Nat} {f : Int → Value} (h : MapZ W b z f) (y : Int) (v : Value) :
  ∃ W', (Instr.mapUpdate t (.map (some b)) (vi ki y) v).run P W = .ok () W' ∧ MapZ W' b z (fun k => if k = y then v else f k) ∧ W.grownBy W' (some b) := by
 obtain ⟨es, clock, hb, hes, hno, hnd⟩ := h
 have hc : ∀ e, (Instr.checkKey e 10000 K (vi ki y)).run P W = .ok () W := fun e => MapKept.run_checkKey hK (by trivial) e 9999
 rcases findNow_Z y es.toList 0 hes with ⟨h1, hn⟩ | ⟨j, h1, h2, h3, h4⟩
 ·refine ⟨setBlock W b (.map (es.push ⟨vi ki y, v, clock⟩) (clock + 1)), ?_, ⟨_, _, heap_setBlock_same hb _, ?_, ?_, ?_⟩, ⟨rfl, rfl, rfl, by simp [setBlock], fun i _ hi => heap_setBlock_other hb _ (fun e => hi (by rw [e]))⟩⟩
  ·simp [Instr.mapUpdate, Instr.findKey, run_underlying ht, run_underlying hK, MapKept.run_getObj_map hb, hc, h1, MapKept.run_setObj_map _ hb, Result.andThen, setBlock]
  ·intro e he
   simp only [Array.toList_push, List.mem_append, List.mem_singleton] at he
   rcases he with he | rfl
   ·obtain ⟨k, hk, hv⟩ := hes e he
    refine ⟨k, hk, ?_⟩
    exact hv.trans (if_neg (fun q => hn e he (by rw [hk, q]))).symm
   ·exact ⟨y, rfl, (if_pos rfl).symm⟩
  ·intro k hk
   have hky : k ≠ y := fun q => hk ⟨vi ki y, v, clock⟩ (by simp) (by rw [q])
   refine (if_neg hky).trans ?_
   exact hno k (fun e he => hk e (by simp only [Array.toList_push, List.mem_append]; exact .inl he))
  ·simp only [Array.toList_push, List.map_append, List.map_cons, List.map_nil]
   rw [List.nodup_append]
   refine ⟨hnd, by simp, ?_⟩
   intro a ha c hc2
   simp only [List.mem_singleton] at hc2
   subst hc2
   obtain ⟨e, he, rfl⟩ := List.mem_map.1 ha
   exact hn e he
 ·have hk : ((es[j]?).map (·.key)).getD (vi ki y) = vi ki y := by
   rw [Nat.sub_zero, Array.getElem?_toList] at h4; rw [h4]; rfl
  have hkeys : (es.modify j fun e => { e with key := vi ki y, val := v }).toList.map (·.key) = es.toList.map (·.key) := by
   apply List.ext_getElem?
   intro i
   rw [Array.toList_modify, List.getElem?_map, List.getElem?_map, List.getElem?_modify]
   by_cases hij : j = i
   ·subst hij
    rw [Nat.sub_zero] at h4
    cases hx : es.toList[j]? with
    | none => simp
    | some e => rw [hx] at h4; simp at h4; simp [h4]
   ·cases hx : es.toList[i]? <;> simp [hij]
  refine ⟨setBlock W b (.map (es.modify j fun e => { e with key := vi ki y, val := v }) clock), ?_, ⟨_, _, heap_setBlock_same hb _, ?_, ?_, ?_⟩, ⟨rfl, rfl, rfl, by simp [setBlock], fun i _ hi => heap_setBlock_other hb _ (fun e => hi (by rw [e]))⟩⟩
  ·simp [Instr.mapUpdate, Instr.findKey, run_underlying ht, run_underlying hK, MapKept.run_getObj_map hb, hc, h1, hk, Instr.keyThatStays, sameBits_z, MapKept.run_setObj_map _ hb, Result.andThen, setBlock]
  ·intro e he
   rw [Array.toList_modify] at he
   obtain ⟨i, hi, rfl⟩ := List.mem_iff_getElem.1 he
   have hi0 : i < es.toList.length := by rw [List.length_modify] at hi; exact hi
   rw [List.getElem_modify]
   split
   ·exact ⟨y, rfl, (if_pos rfl).symm⟩
   ·rename_i hij
    obtain ⟨k, hk2, hv2⟩ := hes _ (List.getElem_mem hi0)
    refine ⟨k, hk2, ?_⟩
    refine hv2.trans (if_neg ?_).symm
    ·intro q
     subst q
     rw [Nat.sub_zero] at h4
     have e1 : (es.toList.map (·.key))[j]? = some (vi ki k) := by rw [List.getElem?_map]; exact h4
     have e2 : (es.toList.map (·.key))[i]? = some (vi ki k) := by rw [List.getElem?_map, List.getElem?_eq_getElem hi0]; exact congrArg some hk2
     exact hij (nodup_at hnd e1 e2)
  ·intro k hk2
   have hh : ∀ e ∈ es.toList, e.key ≠ vi ki k := fun e he q => by
    have m1 : e.key ∈ es.toList.map (·.key) := List.mem_map_of_mem he
    rw [← hkeys] at m1
    obtain ⟨e', he', hq⟩ := List.mem_map.1 m1
    exact hk2 e' he' (hq.trans q)
   have hky : k ≠ y := fun q => by
    subst q
    rw [Nat.sub_zero] at h4
    cases hx : es.toList[j]? with
    | none => rw [hx] at h4; simp at h4
    | some e => rw [hx] at h4; simp at h4; exact hh e (List.mem_of_getElem? hx) h4
   exact (if_neg hky).trans (hno k hh)
  ·rw [hkeys]; exact hnd
theorem MapZ.kept {W W' : World} {row : Option Nat} {b : Nat} {z : Value} {f : Int → Value} (h : MapZ W b z f) (hg : W.grownBy W' row) (hne : row ≠ some b) : MapZ W' b z f := by
 obtain ⟨es, clock, hb, hes⟩ := h
 exact ⟨es, clock, (hg.block b (Array.getElem?_eq_some_iff.1 hb).1 (fun e => hne e.symm)).trans hb, hes⟩
theorem MapZ.same {W W' : World} {b : Nat} {z : Value} {f : Int → Value} (h : MapZ W b z f) (hg : W'.heap[b]? = W.heap[b]?) : MapZ W' b z f := by
 obtain ⟨es, clock, hb, hes⟩ := h
 exact ⟨es, clock, hg.trans hb, hes⟩
theorem MapZ.lt {W : World} {b : Nat} {z : Value} {f : Int → Value} (h : MapZ W b z f) : b < W.heap.size := by
 obtain ⟨es, clock, hb, _⟩ := h
 exact (Array.getElem?_eq_some_iff.1 hb).1
theorem MapZ.made (W : World) (z : Value) : MapZ (W.alloc (.map #[] 0)) W.heap.size z (fun _ => z) :=
 ⟨#[], 0, World.alloc_heap_new W _, by simp, fun _ _ => rfl, by simp⟩
end Go.Proofs.YtklehbmghjcmaaaGreatDoor
namespace Go.Proofs.YtklehbmghjcmaaaGreatDoor
open Go.RowKit Sr
theorem changes_mk (T : List Value) (hT : T.length = 25) (a b : Int) (w : World) :
  Calls Tryz.prog 181 #[.agg T.toArray, vi ki a, vi ki b] w fun e w' => e = zr (.func (.func 205) #[] #[.pointer (some ⟨w.heap.size, 0, none⟩), .pointer (some ⟨w.heap.size + 1, 0, none⟩), .pointer (some ⟨w.heap.size + 2, 0, none⟩)]) ∧ w' = ((w.alloc (.cells T.toArray 44)).alloc (.cells #[vi ki a] 2)).alloc (.cells #[vi ki b] 2) := by
 have hmf : ∀ (fn : Fn) (first cap : Array Value) (w : World), (Instr.makeFunc fn first cap).run Tryz.prog w = .ok (.func fn first cap) w := fun _ _ _ _ => rfl
 go_enter Tryz.func181, Tryz.ntmps181
 generalize hUA : T.toArray = UA at *
 go_wp2
 go_ret
 exact ⟨rfl, rfl⟩
theorem strs_mk (T : List Value) (hT : T.length = 25) (a b : Int) (w : World) :
  Calls Tryz.prog 134 #[.agg T.toArray, vi ki a, vi ki b] w fun e w' => e = zr (.func (.func 180) #[] #[.pointer (some ⟨w.heap.size + 1, 0, none⟩), .pointer (some ⟨w.heap.size, 0, none⟩), .pointer (some ⟨w.heap.size + 2, 0, none⟩)]) ∧ w' = ((w.alloc (.cells T.toArray 44)).alloc (.cells #[vi ki a] 2)).alloc (.cells #[vi ki b] 2) := by
 have hmf : ∀ (fn : Fn) (first cap : Array Value) (w : World), (Instr.makeFunc fn first cap).run Tryz.prog w = .ok (.func fn first cap) w := fun _ _ _ _ => rfl
 go_enter Tryz.func134, Tryz.ntmps134
 generalize hUA : T.toArray = UA at *
 go_wp2
 go_ret
 exact ⟨rfl, rfl⟩
def sdV (x : Int) (s : Zm.St) : Int := if Zm.less x s then 0 else if Zm.says x s then 1 else 2
def stC (s : Zm.St) : List Value := [vi ki s.a, vi ki s.b, vi ki s.o]
theorem side_any (x : Int) (s : Zm.St) (h1 : -9223372036854775808 ≤ x - s.o) (h2 : x - s.o ≤ 9223372036854775807) (w : World) :
  Calls Tryz.prog 135 #[.agg #[vi ki s.a, vi ki s.b, vi ki s.o], vi ki x] w fun e w' => e = zr (vi ki (sdV x s)) ∧ Below w.heap.size w w' := by
 have HB : Hid (Below w.heap.size w (w.alloc (.cells #[vi ki s.a, vi ki s.b, vi ki s.o] 177))) := (Below.refl _ _).alloc (Nat.le_refl _) _
 obtain ⟨a, b, o⟩ := s
 simp only [] at h1 h2 HB ⊢
 by_cases k1 : b ≤ x - o
 ·rw [show sdV x ⟨a, b, o⟩ = 0 from if_pos k1]
  go_enter Tryz.func135, Tryz.ntmps135
  go_wp2
  go_ret
  exact ⟨rfl, HB.out⟩
 ·by_cases k2 : a ≤ x - o
  ·rw [show sdV x ⟨a, b, o⟩ = 1 from (if_neg k1).trans (if_pos ⟨k2, by show x - o < b; omega⟩)]
   go_enter Tryz.func135, Tryz.ntmps135
   go_wp2
   go_ret
   exact ⟨rfl, HB.out⟩
  ·rw [show sdV x ⟨a, b, o⟩ = 2 from (if_neg k1).trans (if_neg (fun q => k2 q.1))]
   go_enter Tryz.func135, Tryz.ntmps135
   go_wp2
   go_ret
   exact ⟨rfl, HB.out⟩
end Go.Proofs.YtklehbmghjcmaaaGreatDoor
