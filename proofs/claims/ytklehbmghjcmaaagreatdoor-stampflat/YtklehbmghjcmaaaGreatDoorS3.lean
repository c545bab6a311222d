import Derived.Test.YtklehbmghjcmaaaGreatDoorSz
import Derived.Laws.AppendOwn
import Derived.Test.YtklehbmghjcmaaaGreatDoorS0
import Derived.Deep.RegionHeld3
import Derived.Deep.MidRow
import Derived.Deep.Cut
import Derived.Deep.QuietTactic
import Derived.BigQuiet
import Derived.Deep.LoopGhost
open Go.Value renaming int → vi
open Go.IntKind renaming i64 → ki
open List renaming setIfInBounds_toArray → zb, set_cons_zero → zc, set_cons_succ → zd
open Go.Act renaming put → za
open Go.Ending renaming returned → zr
set_option maxRecDepth 100000
set_option maxHeartbeats 16000000
set_option linter.unusedVariables false
namespace Go.Proofs.YtklehbmghjcmaaaGreatDoor
structure TrR where
 at_ : Int
 off : Int
 dst : Bool
 ab : ByteArray
def trC (x : TrR) : List Value := [vi ki x.at_, vi ki x.off, .bool x.dst, .string x.ab]
def trCs (l : List TrR) : List Value := l.flatMap trC
def zTr : TrR := ⟨0, 0, false, ⟨#[]⟩⟩
theorem trCs_app (a b : List TrR) : trCs (a ++ b) = trCs a ++ trCs b := by simp [trCs]
theorem trCs_cons (x : TrR) (b : List TrR) : trCs (x :: b) = trC x ++ trCs b := by simp [trCs]
theorem trCs_len (l : List TrR) : (trCs l).length = l.length * 4 := by
 induction l with
 | nil => rfl
 | cons x l ih => rw [trCs_cons, List.length_append, ih]; simp [trC]; omega
theorem trCs_one (l : List TrR) : ∀ u ∈ trCs l, u.oneCell' = true := by
 intro u hu
 simp only [trCs, List.mem_flatMap] at hu
 obtain ⟨x, _, hu⟩ := hu
 simp only [trC, List.mem_cons, List.not_mem_nil, or_false] at hu
 rcases hu with rfl | rfl | rfl | rfl <;> rfl
theorem trCs_get (D R : List TrR) (x : TrR) (i : Nat) (hi : i < 4) : (trCs (D ++ x :: R))[D.length * 4 + i]? = (trC x)[i]? := by
 rw [trCs_app, List.getElem?_append_right (by rw [trCs_len]; omega), trCs_len, show D.length * 4 + i - D.length * 4 = i by omega, trCs_cons, List.getElem?_append_left (by simpa [trC] using hi)]
end Go.Proofs.YtklehbmghjcmaaaGreatDoor
namespace Go.Proofs.YtklehbmghjcmaaaGreatDoor
namespace Zm
def Rises : List Int → Prop
 | [] => True
 | [_] => True
 | a :: b :: l => a < b ∧ Rises (b :: l)
theorem Rises.tail {a : Int} {l : List Int} (h : Rises (a :: l)) : Rises l := by
 cases l with
 | nil => trivial
 | cons b l => exact h.2
theorem Rises.head_lt {a : Int} {l : List Int} (h : Rises (a :: l)) : ∀ x ∈ l, a < x := by
 induction l generalizing a with
 | nil => intro x hx; cases hx
 | cons b l ih =>
  intro x hx
  rcases List.mem_cons.1 hx with rfl | hx
  ·exact h.1
  ·exact Int.lt_trans h.1 (ih h.2 x hx)
def cntLe (x : Int) : List Int → Nat
 | [] => 0
 | a :: l => if a ≤ x then cntLe x l + 1 else 0
theorem cntLe_le (x : Int) (l : List Int) : cntLe x l ≤ l.length := by
 induction l with
 | nil => exact Nat.le_refl _
 | cons a l ih => unfold cntLe; split; exact Nat.succ_le_succ ih; exact Nat.zero_le _
theorem cntLe_iff {x : Int} {l : List Int} (h : Rises l) : ∀ (k : Nat) (a : Int), l[k]? = some a → (a ≤ x ↔ k < cntLe x l) := by
 induction l with
 | nil => intro k a e; simp at e
 | cons b l ih =>
  intro k a e
  unfold cntLe
  cases k with
  | zero =>
   simp only [List.getElem?_cons_zero, Option.some.injEq] at e
   subst e
   split <;> omega
  | succ k =>
   simp only [List.getElem?_cons_succ] at e
   split
   ·rw [ih h.tail k a e]; omega
   ·have hm : a ∈ l := List.mem_of_getElem? e
    have := h.head_lt a hm
    omega
structure St where
 (a b o : Int)
def strs (a e o : Int) : List (Int × Int) → List St
 | [] => [⟨a, e, o⟩]
 | c :: l => ⟨a, c.1, o⟩ :: strs c.1 e c.2 l
def less (x : Int) (s : St) : Prop := s.b ≤ x - s.o
def says (x : Int) (s : St) : Prop := s.a ≤ x - s.o ∧ x - s.o < s.b
instance (x : Int) (s : St) : Decidable (less x s) := by unfold less; infer_instance
instance (x : Int) (s : St) : Decidable (says x s) := by unfold says; infer_instance
structure Gr where
 (n f l : Int)
def Gr.more (g : Gr) (at_ : Int) : Gr := ⟨g.n + 1, if g.n = 0 then at_ else g.f, at_⟩
def pGo (x : Int) : List St → Gr × Gr → Gr × Gr
 | [], g => g
 | s :: r, (gl, gs) => pGo x r (if less x s then (gl.more (x - s.o), gs) else if says x s then (gl, gs.more (x - s.o)) else (gl, gs))
end Zm
end Go.Proofs.YtklehbmghjcmaaaGreatDoor
namespace Go.Proofs.YtklehbmghjcmaaaGreatDoor
namespace Zm
def rng (a : Int) : Nat → List Int
 | 0 => []
 | n + 1 => a :: rng (a + 1) n
def Up (A B : Int) (g : Int → Int) : Prop := ∀ i j, A ≤ i → i < j → j ≤ B → g i < g j
theorem Up.le {A B : Int} {g : Int → Int} (h : Up A B g) {i j : Int} (hi : A ≤ i) (k : i ≤ j) (hj : j ≤ B) : g i ≤ g j := by
 rcases Int.lt_or_eq_of_le k with k | k
 ·exact Int.le_of_lt (h i j hi k hj)
 ·rw [k]; exact Int.le_refl _
end Zm
end Go.Proofs.YtklehbmghjcmaaaGreatDoor
namespace Go.Proofs.YtklehbmghjcmaaaGreatDoor
open Go.RowKit
namespace Sr
def Bx (W : World) (b : Nat) (l : List Value) : Prop := b < W.heap.size ∧ ∀ i v, l[i]? = some v → W.cell? ⟨b, i, none⟩ = some v ∧ W.frozen? ⟨b, i, none⟩ = false
theorem Bx.below {W W' : World} {b : Nat} {l : List Value} (h : Bx W b l) (hb : Below W.heap.size W W') : Bx W' b l :=
 ⟨Nat.lt_of_lt_of_le h.1 hb.size, fun i v e => ⟨(hb.cell (p := ⟨b, i, none⟩) h.1).trans (h.2 i v e).1, (hb.frozen (p := ⟨b, i, none⟩) h.1).trans (h.2 i v e).2⟩⟩
theorem Bx.alloc {W : World} {b : Nat} {l : List Value} (h : Bx W b l) (o : Obj) : Bx (W.alloc o) b l := h.below ((Below.refl _ W).alloc (Nat.le_refl _) o)
theorem Bx.new (w : World) (l : List Value) (t : TypeId) : Bx (w.alloc (.cells l.toArray t)) w.heap.size l :=
 ⟨by simp, fun i v e => ⟨by rw [World.cell?_alloc_at _ _ _ _ rfl]; simpa using e, by rw [World.frozen?_alloc_at _ _ _ _ rfl]⟩⟩
theorem Bx.newAt (w : World) (l : List Value) (t : TypeId) (b : Nat) (hb : w.heap.size = b) : Bx (w.alloc (.cells l.toArray t)) b l := hb ▸ Bx.new w l t
theorem Bx.c {W : World} {b : Nat} {l : List Value} (h : Bx W b l) (i : Nat) {v : Value} (e : l[i]? = some v) : W.cell? ⟨b, i, none⟩ = some v := (h.2 i v e).1
theorem Bx.f {W : World} {b : Nat} {l : List Value} (h : Bx W b l) (i : Nat) {v : Value} (e : l[i]? = some v) : W.frozen? ⟨b, i, none⟩ = false := (h.2 i v e).2
theorem below_setCells {w : World} {b : Nat} (hb : w.heap.size ≤ b) : ∀ (vs : List Value) (W : World) (i : Nat), Below w.heap.size w W → Below w.heap.size w (W.setCells b i vs)
 | [], _, _, h => h
 | v :: vs, W, i, h => below_setCells hb vs _ _ (h.setCell (p := ⟨b, i, none⟩) hb v)
theorem setCells_size (b : Nat) : ∀ (vs : List Value) (W : World) (i : Nat), (W.setCells b i vs).heap.size = W.heap.size
 | [], _, _ => rfl
 | v :: vs, W, i => by rw [World.setCells, setCells_size b vs]; simp
theorem setCells_off (b : Nat) (vs : List Value) (W : World) (i : Nat) (p : Addr) (h : p.block ≠ b) : (W.setCells b i vs).cell? p = W.cell? p :=
 World.cell?_setCells_out b vs i W p (fun e _ => absurd e h)
theorem Bx.there {W : World} {b : Nat} {l : List Value} (h : Bx W b l) : W.there b 0 l.length := fun j hj => by
 have := h.2 j l[j] (List.getElem?_eq_getElem hj)
 rw [Nat.zero_add]
 exact ⟨by rw [this.1]; rfl, this.2⟩
theorem Bx.rng {W : World} {b : Nat} {l : List Value} (h : Bx W b l) (p cs q : List Value) (e : l = p ++ (cs ++ q)) : W.rangeAt b p.length cs := fun j v hv => by
 refine (h.2 (p.length + j) v ?_).1
 have hj : j < cs.length := (List.getElem?_eq_some_iff.1 hv).1
 rw [e, List.getElem?_append_right (by omega), show p.length + j - p.length = j by omega, List.getElem?_append_left hj]
 exact hv
theorem Bx.all {W : World} {b : Nat} {l : List Value} (h : Bx W b l) : W.rangeAt b 0 l := fun j v hv => by rw [Nat.zero_add]; exact (h.2 j v hv).1
theorem Bx.setAll {W : World} {b : Nat} {l : List Value} (h : Bx W b l) (vs : List Value) (hl : l.length = vs.length) : Bx (W.setCells b 0 vs) b vs :=
 ⟨by rw [setCells_size]; exact h.1, fun i v e => by
  have hi := (List.getElem?_eq_some_iff.1 e).1
  refine ⟨?_, ?_⟩
  ·have := World.rangeAt_setCells_same W b 0 vs (hl ▸ h.there) i v e
   rwa [Nat.zero_add] at this
  ·rw [World.frozen?_setCells]; exact (h.2 i l[i] (List.getElem?_eq_getElem (by omega))).2⟩
theorem Bx.setOther {W : World} {b' b : Nat} {l : List Value} (h : Bx W b' l) (hb : b' ≠ b) (vs : List Value) (j : Nat := 0) : Bx (W.setCells b j vs) b' l :=
 ⟨by rw [setCells_size]; exact h.1, fun i v e => ⟨by rw [setCells_off b vs _ _ _ hb]; exact (h.2 i v e).1, by rw [World.frozen?_setCells]; exact (h.2 i v e).2⟩⟩
theorem gen_any {P : Program} {md : Region.Mode} {ops : Array Oper} {Q : Exit → Act → World → Prop} {S : World → Prop} {fuel : Nat} {listed : Array Bool} {a : Act} {w1 : World} (T : World → Prop) (h : T w1)
  (k : ∀ w2, T w2 → wpAnyH P md ops Q S fuel listed a w2) : wpAnyH P md ops Q S fuel listed a w1 := k _ h
theorem gen_list {P : Program} {ops : Array Oper} {Q : Exit → Act → World → Prop} {rest : List Oper} {a : Act} {w1 : World} (T : World → Prop) (h : T w1) (k : ∀ w2, T w2 → wpList P ops Q rest a w2) : wpList P ops Q rest a w1 := k _ h
theorem gen_code {P : Program} {c : Code} {Q : Exit → Act → World → Prop} {a : Act} {w1 : World} (T : World → Prop) (h : T w1) (k : ∀ w2, T w2 → Code.wp P c Q a w2) : Code.wp P c Q a w1 := k _ h
end Sr
end Go.Proofs.YtklehbmghjcmaaaGreatDoor
namespace Go.Proofs.YtklehbmghjcmaaaGreatDoor
open Go.RowKit Sr
theorem tr_form {W : World} {base n : Nat} {v : Value} {L : List TrR} (h : W.ownsRow base 23 4 v n (trCs L)) (h0 : 0 < n) : ∃ g cap cur, v = .slice (some ⟨g, 0, none⟩) n cap ∧ base ≤ g ∧ W.heap[g]? = some (.cells cur 23 (0, 0)) ∧ n ≤ cap ∧ cap ≤ maxLen ∧ cur.size = cap * 4 ∧ cur.toList.take (n * 4) = trCs L := by
 rcases h.2 with ⟨_, z⟩ | ⟨g, cap, cur, a, b, c, d, e, f, i⟩
 ·omega
 ·exact ⟨g, cap, cur, a, b, c, d, e, f, i⟩
theorem tr_len {W : World} {base n : Nat} {v : Value} {xs : List Value} (h : W.ownsRow base 23 4 v n xs) : ∃ ao c, v = .slice ao n c := by
 rcases h.2 with ⟨a, z⟩ | ⟨g, cap, cur, a, _⟩
 ·subst z; exact ⟨none, 0, a⟩
 ·exact ⟨_, _, a⟩
theorem tr_cell {W : World} {b : Nat} {cs : Array Value} {t : TypeId} {fz : Nat × Nat} (h : W.heap[b]? = some (.cells cs t fz)) {i : Nat} {v : Value} (hi : cs[i]? = some v) : W.cell? ⟨b, i, none⟩ = some v := by simp [World.cell?, h, hi]
def TrAt (W : World) (sv : Value) (L : List TrR) : Prop := (∃ ao c, sv = .slice ao L.length c) ∧ L.length ≤ maxLen ∧ (L = [] ∨ ∃ g o c, sv = .slice (some ⟨g, o, none⟩) L.length c ∧ g < W.heap.size ∧ ∀ j u, (trCs L)[j]? = some u → W.cell? ⟨g, o + j, none⟩ = some u)
theorem TrAt.mv {W W' : World} {sv : Value} {L : List TrR} (h : TrAt W sv L) (k : Below W.heap.size W W') : TrAt W' sv L := by
 obtain ⟨h1, h2, h3⟩ := h
 refine ⟨h1, h2, h3.imp_right ?_⟩
 rintro ⟨g, o, c, e, hg, hc⟩
 exact ⟨g, o, c, e, Nat.lt_of_lt_of_le hg k.size, fun j u hj => (k.cell (p := ⟨g, o + j, none⟩) hg).trans (hc j u hj)⟩
theorem TrAt.of_own {W : World} {base : Nat} {sv : Value} {L : List TrR} (h : W.ownsRow base 23 4 sv L.length (trCs L)) : TrAt W sv L := by
 refine ⟨tr_len h, ?_, ?_⟩
 ·rcases h.2 with ⟨_, z⟩ | ⟨g, cap, cur, _, _, _, h1, h2, _⟩
  ·rw [z]; exact Nat.zero_le _
  ·omega
 ·rcases Nat.eq_zero_or_pos L.length with z | z
  ·exact .inl (List.eq_nil_of_length_eq_zero z)
  ·obtain ⟨g, cap, cur, rfl, _, hg, h1, h2, h3, h4⟩ := tr_form h z
   refine .inr ⟨g, 0, cap, rfl, (Array.getElem?_eq_some_iff.1 hg).1, fun j u hj => ?_⟩
   rw [Nat.zero_add]
   have hj9 := hj
   rw [← h4, List.getElem?_take] at hj9
   split at hj9
   ·exact tr_cell hg (by simpa using hj9)
   ·cases hj9
theorem TrAt.row {W : World} {sv : Value} {L : List TrR} (h : TrAt W sv L) {j : Nat} {x : TrR} (hj : L[j]? = some x) : ∃ g o c, sv = .slice (some ⟨g, o, none⟩) L.length c ∧ W.rangeAt g (o + j * 4) (trC x) := by
 have hlt := (List.getElem?_eq_some_iff.1 hj).1
 rcases h.2.2 with rfl | ⟨g, o, c, e, _, hc⟩
 ·simp at hlt
 ·refine ⟨g, o, c, e, fun i v hv => ?_⟩
  have hi : i < 4 := by have := (List.getElem?_eq_some_iff.1 hv).1; simpa [trC] using this
  have hsp : L = L.take j ++ x :: L.drop (j + 1) := by
   have h9 := List.take_append_drop j L
   rw [List.drop_eq_getElem_cons hlt, (List.getElem?_eq_some_iff.1 hj).2] at h9
   exact h9.symm
  have hg := trCs_get (L.take j) (L.drop (j + 1)) x i hi
  rw [← hsp, List.length_take, Nat.min_eq_left (by omega), hv] at hg
  have := hc _ _ hg
  rwa [← Nat.add_assoc] at this
theorem ret_b9 {a b : Bool} (h : a = b) : Ending.returned (.bool a) = zr (.bool b) := by rw [h]
end Go.Proofs.YtklehbmghjcmaaaGreatDoor
namespace Go.Proofs.YtklehbmghjcmaaaGreatDoor
open Go.RowKit Sr
theorem behind1_any (x : TrR) (t : Int) (w : World) :
  Calls Tryz.prog 174 #[.agg #[vi ki x.at_, vi ki x.off, .bool x.dst, .string x.ab], vi ki t] w fun r w' => r = zr (vi ki (if x.at_ ≤ t then -1 else 1)) ∧ Below w.heap.size w w' := by
 have HB : Hid (Below w.heap.size w (w.alloc (.cells #[vi ki x.at_, vi ki x.off, .bool x.dst, .string x.ab] 23))) := (Below.refl _ _).alloc (Nat.le_refl _) _
 by_cases h : x.at_ ≤ t
 ·rw [if_pos h]
  go_enter Tryz.func174, Tryz.ntmps174
  go_wp2
  go_ret
  exact ⟨rfl, HB.out⟩
 ·rw [if_neg h]
  go_enter Tryz.func174, Tryz.ntmps174
  go_wp2
  go_ret
  exact ⟨rfl, HB.out⟩
theorem bsearch_any (L : List TrR) (sv : Value) (t : Int) (hr : Zm.Rises (L.map (·.at_))) (h4 : L.length ≤ 4096) (w : World) (HT : Hid (TrAt w sv L)) :
  Calls Tryz.prog 173 #[sv, vi ki t, .func (.func 174) #[] #[]] w fun r w' => r = zr (.tuple #[vi ki (Zm.cntLe t (L.map (·.at_)) : Int), .bool false]) ∧ Below w.heap.size w w' := by
 obtain ⟨⟨ao, c, hsv⟩, hml, _⟩ := HT.out
 obtain ⟨n, hn⟩ : ∃ n, L.length = n := ⟨_, rfl⟩
 have hC := Zm.cntLe_iff (x := t) hr
 have hcl := Zm.cntLe_le t (L.map (·.at_))
 rw [List.length_map, hn] at hcl
 obtain ⟨C, hCd⟩ : ∃ C, C = Zm.cntLe t (L.map (·.at_)) := ⟨_, rfl⟩
 rw [← hCd] at hC hcl ⊢
 clear hCd hr
 rw [hn] at hsv hml h4
 subst hsv
 unfold maxLen at hml
 have HC : Hid (∀ (k : Nat) (x : TrR), L[k]? = some x → (x.at_ ≤ t ↔ k < C)) := fun k x hx => hC k x.at_ (by rw [List.getElem?_map, hx]; rfl)
 clear hC
 go_enter Tryz.func173, Tryz.ntmps173
 go_wp2_with fail
 go_loopw [9, 10] (fun iv jv wr => ∃ i j : Nat, i ≤ C ∧ C ≤ j ∧ j ≤ n ∧ iv = vi ki (i : Int) ∧ jv = vi ki (j : Int) ∧ Hid (Below w.heap.size w wr)) (fun iv jv _ => (intOf jv).toNat - (intOf iv).toNat)
 case atStart => exact ⟨0, n, Nat.zero_le _, hcl, Nat.le_refl _, rfl, rfl, Below.refl _ _⟩
 case round =>
  obtain ⟨i, j, hi, hj, hjn, rfl, rfl, HB⟩ := hrel
  by_cases hij : i < j
  ·obtain ⟨h, hh⟩ : ∃ h, h = (i + j) / 2 := ⟨_, rfl⟩
   have e1 : ((i : Int) + (j : Int)) / 2 = (h : Int) := by omega
   have b1 : i ≤ h := by omega
   have b2 : h < j := by omega
   obtain ⟨x, hx⟩ : ∃ x, L[h]? = some x := ⟨_, List.getElem?_eq_getElem (by omega)⟩
   obtain ⟨g, o, c', hsv, hrg⟩ := (HT.out.mv (HB.out.mono (Nat.le_refl _))).row hx
   rw [hn] at hsv
   simp only [Value.slice.injEq, true_and] at hsv
   obtain ⟨rfl, rfl⟩ := hsv
   have HRG : Hid (wr.rangeAt g (o + h * 4) (trC x)) := hrg
   have hx' := HC.out h x hx
   have CM : Hid (∀ w : World, Calls Tryz.prog 174 #[.agg #[vi ki x.at_, vi ki x.off, .bool x.dst, .string x.ab], vi ki t] w fun r w' => r = zr (vi ki (if x.at_ ≤ t then -1 else 1)) ∧ Below w.heap.size w w') := fun w => behind1_any x t w
   clear hrg hx hh
   by_cases hle : x.at_ ≤ t
   ·have hk := hx'.1 hle
    rw [if_pos hle] at CM
    clear hx'
    go_wp2_with (first | (refine wpList_load_mid rfl 23 _ rfl g (o + h * 4) rfl [vi ki x.at_, vi ki x.off, .bool x.dst, .string x.ab] _ HRG.out Tryz.underlying23 rfl (by kernel_rfl) ?_) | fail)
    refine (CM.out _).mono ?_
    rintro e v1 ⟨rfl, hb⟩
    have HB1 : Hid (Below w.heap.size w v1) := HB.out.trans (hb.mono HB.out.size)
    clear hb HRG CM
    go_wp2_with fail
    exact ⟨⟨h + 1, j, by omega, by omega, by omega, by simp, rfl, HB1⟩, by simp [intOf]; omega⟩
   ·have hk : ¬ h < C := fun k => hle (hx'.2 k)
    rw [if_neg hle] at CM
    clear hx'
    go_wp2_with (first | (refine wpList_load_mid rfl 23 _ rfl g (o + h * 4) rfl [vi ki x.at_, vi ki x.off, .bool x.dst, .string x.ab] _ HRG.out Tryz.underlying23 rfl (by kernel_rfl) ?_) | fail)
    refine (CM.out _).mono ?_
    rintro e v1 ⟨rfl, hb⟩
    have HB1 : Hid (Below w.heap.size w v1) := HB.out.trans (hb.mono HB.out.size)
    clear hb HRG CM
    go_wp2_with fail
    exact ⟨⟨i, h, by omega, by omega, by omega, rfl, rfl, HB1⟩, by simp [intOf]; omega⟩
  ·have e : i = C := by omega
   subst e
   by_cases hin : i < n
   ·obtain ⟨x, hx⟩ : ∃ x, L[i]? = some x := ⟨_, List.getElem?_eq_getElem (by omega)⟩
    obtain ⟨g, o, c', hsv, hrg⟩ := (HT.out.mv (HB.out.mono (Nat.le_refl _))).row hx
    rw [hn] at hsv
    simp only [Value.slice.injEq, true_and] at hsv
    obtain ⟨rfl, rfl⟩ := hsv
    have hx' := HC.out i x hx
    have hle : ¬ x.at_ ≤ t := fun k => by have := hx'.1 k; omega
    have CM : Hid (∀ w : World, Calls Tryz.prog 174 #[.agg #[vi ki x.at_, vi ki x.off, .bool x.dst, .string x.ab], vi ki t] w fun r w' => r = zr (vi ki 1) ∧ Below w.heap.size w w') := fun w => by
     have R := behind1_any x t w
     rw [if_neg hle] at R
     exact R
    have r0 : wr.cell? ⟨g, o + i * 4, none⟩ = some (vi ki x.at_) := hrg 0 (vi ki x.at_) rfl
    have r1 : wr.cell? ⟨g, o + i * 4 + 1, none⟩ = some (vi ki x.off) := hrg 1 (vi ki x.off) rfl
    have r2 : wr.cell? ⟨g, o + i * 4 + 2, none⟩ = some (.bool x.dst) := hrg 2 (.bool x.dst) rfl
    have r3 : wr.cell? ⟨g, o + i * 4 + 3, none⟩ = some (.string x.ab) := hrg 3 (.string x.ab) rfl
    clear hrg hx hx'
    go_wp2_with fail
    refine (CM.out _).mono ?_
    rintro e v1 ⟨rfl, hb⟩
    have HB1 : Hid (Below w.heap.size w v1) := HB.out.trans (hb.mono HB.out.size)
    clear hb CM r0 r1 r2 r3
    go_wp2_with fail
    go_ret2
    exact ⟨rfl, HB1.out⟩
   ·go_wp2_with fail
    go_ret2
    exact ⟨rfl, HB.out⟩
end Go.Proofs.YtklehbmghjcmaaaGreatDoor
namespace Go.Proofs.YtklehbmghjcmaaaGreatDoor
open Go.RowKit Sr
theorem behind_any (T : List Value) (hT : T.length = 25) (L : List TrR) (sv : Value) (h5 : T[5]? = some sv) (t : Int) (hr : Zm.Rises (L.map (·.at_))) (h4 : L.length ≤ 4096) (w : World) (HT : Hid (TrAt w sv L)) :
  Calls Tryz.prog 127 #[.agg T.toArray, vi ki t] w fun r w' => r = zr (vi ki (Zm.cntLe t (L.map (·.at_)) : Int)) ∧ Below w.heap.size w w' := by
 have X1 : Hid (Bx (w.alloc (.cells T.toArray 44)) w.heap.size T) := Bx.new w T 44
 have B1 : Hid (Below w.heap.size w (w.alloc (.cells T.toArray 44))) := (Below.refl _ _).alloc (Nat.le_refl _) _
 have BS1 : Hid (∀ W : World, TrAt W sv L → Calls Tryz.prog 173 #[sv, vi ki t, .func (.func 174) #[] #[]] W fun r w' => r = zr (.tuple #[vi ki (Zm.cntLe t (L.map (·.at_)) : Int), .bool false]) ∧ Below W.heap.size W w') := fun W h => bsearch_any L sv t hr h4 W h
 obtain ⟨⟨ao, c, hsv⟩, _, _⟩ := HT.out
 generalize (Zm.cntLe t (L.map (·.at_))) = C at *
 go_enter Tryz.func127, Tryz.ntmps127
 generalize hUA : T.toArray = UA at *
 go_upto_region 1 with fail
 refine gen_code (fun V => Bx V w.heap.size T ∧ Below w.heap.size w V) ⟨X1.out, B1.out⟩ ?_
 clear X1 B1
 rintro V ⟨XV, BV⟩
 have c5 := XV.c 5 h5
 have HB : Hid (Below w.heap.size w V) := BV
 have HV : Hid (TrAt V sv L) := HT.out.mv BV
 clear XV BV
 subst hsv
 go_wp2_with fail
 refine (BS1.out _ HV.out).mono ?_
 rintro e v1 ⟨rfl, hb⟩
 have HB1 : Hid (Below w.heap.size w v1) := HB.out.trans (hb.mono HB.out.size)
 clear hb
 go_wp2_with fail
 go_ret
 exact ⟨rfl, HB1.out⟩
def tbF (nm : ByteArray) (f : TrR) (sv : Value) (FL : List Value) : List Value := .string nm :: (trC f ++ (sv :: FL))
theorem tbF_len {nm : ByteArray} {f : TrR} {sv : Value} {FL : List Value} (h : FL.length = 19) : (tbF nm f sv FL).length = 25 := by simp [tbF, trC, h]
theorem tbF_foot {nm : ByteArray} {f : TrR} {sv : Value} {FL : List Value} (i : Nat) : (tbF nm f sv FL)[6 + i]? = FL[i]? := by
 unfold tbF trC
 rw [show 6 + i = i + 6 by omega]
 rfl
theorem stand_first_n (nm : ByteArray) (f : TrR) (sv : Value) (FL : List Value) (hF : FL.length = 19) (fr t : Int) (f0 : FL[0]? = some (.bool false)) (f1 : FL[1]? = some (vi ki fr))  (w : World) (BH : Hid (∀ W : World, Below w.heap.size w W → Calls Tryz.prog 127 #[.agg (tbF nm f sv FL).toArray, vi ki t] W fun r w' => r = zr (vi ki 0) ∧ Below W.heap.size W w')) :
  Calls Tryz.prog 79 #[.agg (tbF nm f sv FL).toArray, vi ki t] w fun r w' => r = zr (.agg #[vi ki f.at_, vi ki f.off, .bool f.dst, .string f.ab]) ∧ Below w.heap.size w w' := by
 have X1 : Hid (Bx ((w.alloc (.cells (tbF nm f sv FL).toArray 44)).alloc (.cells #[vi ki 0, vi ki 0, .bool false, .string ⟨#[]⟩] 23)) w.heap.size (tbF nm f sv FL)) := (Bx.new w _ _).alloc _
 have Y1 : Hid (Bx ((w.alloc (.cells (tbF nm f sv FL).toArray 44)).alloc (.cells #[vi ki 0, vi ki 0, .bool false, .string ⟨#[]⟩] 23)) (w.heap.size + 1) [vi ki 0, vi ki 0, .bool false, .string ⟨#[]⟩]) := Bx.newAt _ [vi ki 0, vi ki 0, .bool false, .string ⟨#[]⟩] _ _ (by simp)
 have B1 : Hid (Below w.heap.size w ((w.alloc (.cells (tbF nm f sv FL).toArray 44)).alloc (.cells #[vi ki 0, vi ki 0, .bool false, .string ⟨#[]⟩] 23))) := ((Below.refl _ _).alloc (Nat.le_refl _) _).alloc (by simp) _
 go_enter Tryz.func79, Tryz.ntmps79
 generalize hUA : (tbF nm f sv FL).toArray = UA at *
 go_upto_region 1 with fail
 refine gen_code (fun V => Bx V w.heap.size (tbF nm f sv FL) ∧ Bx V (w.heap.size + 1) [vi ki 0, vi ki 0, .bool false, .string ⟨#[]⟩] ∧ Below w.heap.size w V) ⟨X1.out, Y1.out, B1.out⟩ ?_
 clear X1 B1 Y1
 rintro V ⟨XV, YV, BV⟩
 have c6 : V.cell? ⟨w.heap.size, 6, none⟩ = some (.bool false) := XV.c 6 ((tbF_foot 0).trans f0)
 have c7 : V.cell? ⟨w.heap.size, 7, none⟩ = some (vi ki fr) := XV.c 7 ((tbF_foot 1).trans f1)
 have HX : Hid (Bx V w.heap.size (tbF nm f sv FL)) := XV
 have HY : Hid (Bx V (w.heap.size + 1) [vi ki 0, vi ki 0, .bool false, .string ⟨#[]⟩]) := YV
 have HB : Hid (Below w.heap.size w V) := BV
 clear XV YV BV
 go_wp2_with (first | (refine wpList_load_mid rfl 44 _ rfl w.heap.size 0 rfl (tbF nm f sv FL) _ HX.out.all Tryz.underlying44 rfl (by rw [tbF_len hF]; kernel_rfl) ?_; rw [hUA]) | fail)
 refine (BH.out _ HB.out).mono ?_
 rintro e v1 ⟨rfl, hb⟩
 have HX1 : Hid (Bx v1 w.heap.size (tbF nm f sv FL)) := HX.out.below hb
 have HY1 : Hid (Bx v1 (w.heap.size + 1) [vi ki 0, vi ki 0, .bool false, .string ⟨#[]⟩]) := HY.out.below hb
 have HB1 : Hid (Below w.heap.size w v1) := HB.out.trans (hb.mono HB.out.size)
 clear hb HX HY HB c6 c7 BH
 have r0 : v1.cell? ⟨w.heap.size, 1, none⟩ = some (vi ki f.at_) := HX1.out.c 1 rfl
 have r1 : v1.cell? ⟨w.heap.size, 2, none⟩ = some (vi ki f.off) := HX1.out.c 2 rfl
 have r2 : v1.cell? ⟨w.heap.size, 3, none⟩ = some (.bool f.dst) := HX1.out.c 3 rfl
 have r3 : v1.cell? ⟨w.heap.size, 4, none⟩ = some (.string f.ab) := HX1.out.c 4 rfl
 have l0 : v1.cell? ⟨w.heap.size + 1, 0, none⟩ = some (vi ki 0) := HY1.out.c 0 rfl
 have z0 : v1.frozen? ⟨w.heap.size + 1, 0, none⟩ = false := HY1.out.f 0 (v := vi ki 0) rfl
 have l1 : v1.cell? ⟨w.heap.size + 1, 1, none⟩ = some (vi ki 0) := HY1.out.c 1 rfl
 have z1 : v1.frozen? ⟨w.heap.size + 1, 1, none⟩ = false := HY1.out.f 1 (v := vi ki 0) rfl
 have l2 : v1.cell? ⟨w.heap.size + 1, 2, none⟩ = some (.bool false) := HY1.out.c 2 rfl
 have z2 : v1.frozen? ⟨w.heap.size + 1, 2, none⟩ = false := HY1.out.f 2 (v := .bool false) rfl
 have l3 : v1.cell? ⟨w.heap.size + 1, 3, none⟩ = some (.string ⟨#[]⟩) := HY1.out.c 3 rfl
 have z3 : v1.frozen? ⟨w.heap.size + 1, 3, none⟩ = false := HY1.out.f 3 (v := .string ⟨#[]⟩) rfl
 have XF : Hid (Bx (v1.setCells (w.heap.size + 1) 0 [vi ki f.at_, vi ki f.off, .bool f.dst, .string f.ab]) (w.heap.size + 1) [vi ki f.at_, vi ki f.off, .bool f.dst, .string f.ab]) := HY1.out.setAll _ rfl
 have BF : Hid (Below w.heap.size w (v1.setCells (w.heap.size + 1) 0 [vi ki f.at_, vi ki f.off, .bool f.dst, .string f.ab])) := below_setCells (by omega) _ _ _ HB1.out
 have y0 := XF.out.c 0 rfl
 have y1 := XF.out.c 1 rfl
 have y2 := XF.out.c 2 rfl
 have y3 := XF.out.c 3 rfl
 simp only [World.setCells, Nat.zero_add, Nat.reduceAdd] at y0 y1 y2 y3
 clear HX1 HY1 HB1 XF hUA
 go_wp2_with fail
 exact bodyPost_ret (v := .agg #[vi ki f.at_, vi ki f.off, .bool f.dst, .string f.ab]) (by simp [results, Tryz.results79, go_sem, y0, y1, y2, y3]) rfl ⟨rfl, BF.out⟩
theorem stand_tr_n (nm : ByteArray) (f : TrR) (sv : Value) (FL : List Value) (hF : FL.length = 19) (fr t : Int) (f0 : FL[0]? = some (.bool false)) (f1 : FL[1]? = some (vi ki fr))  (L : List TrR) (h4 : L.length ≤ 4096) (C : Nat) (x : TrR) (hx : L[C]? = some x) (w : World) (HT : Hid (TrAt w sv L)) (BH : Hid (∀ W : World, Below w.heap.size w W → Calls Tryz.prog 127 #[.agg (tbF nm f sv FL).toArray, vi ki t] W fun r w' => r = zr (vi ki ((C + 1 : Nat) : Int)) ∧ Below W.heap.size W w')) :
  Calls Tryz.prog 79 #[.agg (tbF nm f sv FL).toArray, vi ki t] w fun r w' => r = zr (.agg #[vi ki x.at_, vi ki x.off, .bool x.dst, .string x.ab]) ∧ Below w.heap.size w w' := by
 have X1 : Hid (Bx ((w.alloc (.cells (tbF nm f sv FL).toArray 44)).alloc (.cells #[vi ki 0, vi ki 0, .bool false, .string ⟨#[]⟩] 23)) w.heap.size (tbF nm f sv FL)) := (Bx.new w _ _).alloc _
 have Y1 : Hid (Bx ((w.alloc (.cells (tbF nm f sv FL).toArray 44)).alloc (.cells #[vi ki 0, vi ki 0, .bool false, .string ⟨#[]⟩] 23)) (w.heap.size + 1) [vi ki 0, vi ki 0, .bool false, .string ⟨#[]⟩]) := Bx.newAt _ [vi ki 0, vi ki 0, .bool false, .string ⟨#[]⟩] _ _ (by simp)
 have B1 : Hid (Below w.heap.size w ((w.alloc (.cells (tbF nm f sv FL).toArray 44)).alloc (.cells #[vi ki 0, vi ki 0, .bool false, .string ⟨#[]⟩] 23))) := ((Below.refl _ _).alloc (Nat.le_refl _) _).alloc (by simp) _
 go_enter Tryz.func79, Tryz.ntmps79
 generalize hUA : (tbF nm f sv FL).toArray = UA at *
 go_upto_region 1 with fail
 refine gen_code (fun V => Bx V w.heap.size (tbF nm f sv FL) ∧ Bx V (w.heap.size + 1) [vi ki 0, vi ki 0, .bool false, .string ⟨#[]⟩] ∧ Below w.heap.size w V) ⟨X1.out, Y1.out, B1.out⟩ ?_
 clear X1 B1 Y1
 rintro V ⟨XV, YV, BV⟩
 have c6 : V.cell? ⟨w.heap.size, 6, none⟩ = some (.bool false) := XV.c 6 ((tbF_foot 0).trans f0)
 have c7 : V.cell? ⟨w.heap.size, 7, none⟩ = some (vi ki fr) := XV.c 7 ((tbF_foot 1).trans f1)
 have HX : Hid (Bx V w.heap.size (tbF nm f sv FL)) := XV
 have HY : Hid (Bx V (w.heap.size + 1) [vi ki 0, vi ki 0, .bool false, .string ⟨#[]⟩]) := YV
 have HB : Hid (Below w.heap.size w V) := BV
 clear XV YV BV
 go_wp2_with (first | (refine wpList_load_mid rfl 44 _ rfl w.heap.size 0 rfl (tbF nm f sv FL) _ HX.out.all Tryz.underlying44 rfl (by rw [tbF_len hF]; kernel_rfl) ?_; rw [hUA]) | fail)
 refine (BH.out _ HB.out).mono ?_
 rintro e v1 ⟨rfl, hb⟩
 have HX1 : Hid (Bx v1 w.heap.size (tbF nm f sv FL)) := HX.out.below hb
 have HY1 : Hid (Bx v1 (w.heap.size + 1) [vi ki 0, vi ki 0, .bool false, .string ⟨#[]⟩]) := HY.out.below hb
 have HB1 : Hid (Below w.heap.size w v1) := HB.out.trans (hb.mono HB.out.size)
 clear hb HX HY HB c6 c7 BH
 obtain ⟨g, o, c', hsv, hrg⟩ := (HT.out.mv HB1.out).row hx
 have hlt : C < L.length := (List.getElem?_eq_some_iff.1 hx).1
 have r5 : v1.cell? ⟨w.heap.size, 5, none⟩ = some sv := HX1.out.c 5 rfl
 have HRG : Hid (v1.rangeAt g (o + C * 4) (trC x)) := hrg
 have e1 : ((C : Int) + 1) - 1 = (C : Int) := by omega
 clear hrg hx HT
 subst hsv
 have l0 : v1.cell? ⟨w.heap.size + 1, 0, none⟩ = some (vi ki 0) := HY1.out.c 0 rfl
 have z0 : v1.frozen? ⟨w.heap.size + 1, 0, none⟩ = false := HY1.out.f 0 (v := vi ki 0) rfl
 have l1 : v1.cell? ⟨w.heap.size + 1, 1, none⟩ = some (vi ki 0) := HY1.out.c 1 rfl
 have z1 : v1.frozen? ⟨w.heap.size + 1, 1, none⟩ = false := HY1.out.f 1 (v := vi ki 0) rfl
 have l2 : v1.cell? ⟨w.heap.size + 1, 2, none⟩ = some (.bool false) := HY1.out.c 2 rfl
 have z2 : v1.frozen? ⟨w.heap.size + 1, 2, none⟩ = false := HY1.out.f 2 (v := .bool false) rfl
 have l3 : v1.cell? ⟨w.heap.size + 1, 3, none⟩ = some (.string ⟨#[]⟩) := HY1.out.c 3 rfl
 have z3 : v1.frozen? ⟨w.heap.size + 1, 3, none⟩ = false := HY1.out.f 3 (v := .string ⟨#[]⟩) rfl
 have XF : Hid (Bx (v1.setCells (w.heap.size + 1) 0 [vi ki x.at_, vi ki x.off, .bool x.dst, .string x.ab]) (w.heap.size + 1) [vi ki x.at_, vi ki x.off, .bool x.dst, .string x.ab]) := HY1.out.setAll _ rfl
 have BF : Hid (Below w.heap.size w (v1.setCells (w.heap.size + 1) 0 [vi ki x.at_, vi ki x.off, .bool x.dst, .string x.ab])) := below_setCells (by omega) _ _ _ HB1.out
 have y0 := XF.out.c 0 rfl
 have y1 := XF.out.c 1 rfl
 have y2 := XF.out.c 2 rfl
 have y3 := XF.out.c 3 rfl
 simp only [World.setCells, Nat.zero_add, Nat.reduceAdd] at y0 y1 y2 y3
 clear HX1 HY1 HB1 XF hUA
 go_wp2_with (first | (refine wpList_load_mid rfl 23 _ rfl g (o + C * 4) rfl [vi ki x.at_, vi ki x.off, .bool x.dst, .string x.ab] _ HRG.out Tryz.underlying23 rfl (by kernel_rfl) ?_) | fail)
 exact bodyPost_ret (v := .agg #[vi ki x.at_, vi ki x.off, .bool x.dst, .string x.ab]) (by simp [results, Tryz.results79, go_sem, y0, y1, y2, y3]) rfl ⟨rfl, BF.out⟩
theorem stand_first_e (nm : ByteArray) (f : TrR) (sv : Value) (FL : List Value) (hF : FL.length = 19) (fr t : Int) (f0 : FL[0]? = some (.bool true)) (f1 : FL[1]? = some (vi ki fr)) (hno : ¬ fr ≤ t) (w : World) (BH : Hid (∀ W : World, Below w.heap.size w W → Calls Tryz.prog 127 #[.agg (tbF nm f sv FL).toArray, vi ki t] W fun r w' => r = zr (vi ki 0) ∧ Below W.heap.size W w')) :
  Calls Tryz.prog 79 #[.agg (tbF nm f sv FL).toArray, vi ki t] w fun r w' => r = zr (.agg #[vi ki f.at_, vi ki f.off, .bool f.dst, .string f.ab]) ∧ Below w.heap.size w w' := by
 have X1 : Hid (Bx ((w.alloc (.cells (tbF nm f sv FL).toArray 44)).alloc (.cells #[vi ki 0, vi ki 0, .bool false, .string ⟨#[]⟩] 23)) w.heap.size (tbF nm f sv FL)) := (Bx.new w _ _).alloc _
 have Y1 : Hid (Bx ((w.alloc (.cells (tbF nm f sv FL).toArray 44)).alloc (.cells #[vi ki 0, vi ki 0, .bool false, .string ⟨#[]⟩] 23)) (w.heap.size + 1) [vi ki 0, vi ki 0, .bool false, .string ⟨#[]⟩]) := Bx.newAt _ [vi ki 0, vi ki 0, .bool false, .string ⟨#[]⟩] _ _ (by simp)
 have B1 : Hid (Below w.heap.size w ((w.alloc (.cells (tbF nm f sv FL).toArray 44)).alloc (.cells #[vi ki 0, vi ki 0, .bool false, .string ⟨#[]⟩] 23))) := ((Below.refl _ _).alloc (Nat.le_refl _) _).alloc (by simp) _
 have hd : decide (fr ≤ t) = false := decide_eq_false hno
 go_enter Tryz.func79, Tryz.ntmps79
 generalize hUA : (tbF nm f sv FL).toArray = UA at *
 go_upto_region 1 with fail
 refine gen_code (fun V => Bx V w.heap.size (tbF nm f sv FL) ∧ Bx V (w.heap.size + 1) [vi ki 0, vi ki 0, .bool false, .string ⟨#[]⟩] ∧ Below w.heap.size w V) ⟨X1.out, Y1.out, B1.out⟩ ?_
 clear X1 B1 Y1
 rintro V ⟨XV, YV, BV⟩
 have c6 : V.cell? ⟨w.heap.size, 6, none⟩ = some (.bool true) := XV.c 6 ((tbF_foot 0).trans f0)
 have c7 : V.cell? ⟨w.heap.size, 7, none⟩ = some (vi ki fr) := XV.c 7 ((tbF_foot 1).trans f1)
 have HX : Hid (Bx V w.heap.size (tbF nm f sv FL)) := XV
 have HY : Hid (Bx V (w.heap.size + 1) [vi ki 0, vi ki 0, .bool false, .string ⟨#[]⟩]) := YV
 have HB : Hid (Below w.heap.size w V) := BV
 clear XV YV BV
 go_wp2_with (first | (refine wpList_load_mid rfl 44 _ rfl w.heap.size 0 rfl (tbF nm f sv FL) _ HX.out.all Tryz.underlying44 rfl (by rw [tbF_len hF]; kernel_rfl) ?_; rw [hUA]) | fail)
 refine (BH.out _ HB.out).mono ?_
 rintro e v1 ⟨rfl, hb⟩
 have HX1 : Hid (Bx v1 w.heap.size (tbF nm f sv FL)) := HX.out.below hb
 have HY1 : Hid (Bx v1 (w.heap.size + 1) [vi ki 0, vi ki 0, .bool false, .string ⟨#[]⟩]) := HY.out.below hb
 have HB1 : Hid (Below w.heap.size w v1) := HB.out.trans (hb.mono HB.out.size)
 clear hb HX HY HB c6 c7 BH
 have r0 : v1.cell? ⟨w.heap.size, 1, none⟩ = some (vi ki f.at_) := HX1.out.c 1 rfl
 have r1 : v1.cell? ⟨w.heap.size, 2, none⟩ = some (vi ki f.off) := HX1.out.c 2 rfl
 have r2 : v1.cell? ⟨w.heap.size, 3, none⟩ = some (.bool f.dst) := HX1.out.c 3 rfl
 have r3 : v1.cell? ⟨w.heap.size, 4, none⟩ = some (.string f.ab) := HX1.out.c 4 rfl
 have l0 : v1.cell? ⟨w.heap.size + 1, 0, none⟩ = some (vi ki 0) := HY1.out.c 0 rfl
 have z0 : v1.frozen? ⟨w.heap.size + 1, 0, none⟩ = false := HY1.out.f 0 (v := vi ki 0) rfl
 have l1 : v1.cell? ⟨w.heap.size + 1, 1, none⟩ = some (vi ki 0) := HY1.out.c 1 rfl
 have z1 : v1.frozen? ⟨w.heap.size + 1, 1, none⟩ = false := HY1.out.f 1 (v := vi ki 0) rfl
 have l2 : v1.cell? ⟨w.heap.size + 1, 2, none⟩ = some (.bool false) := HY1.out.c 2 rfl
 have z2 : v1.frozen? ⟨w.heap.size + 1, 2, none⟩ = false := HY1.out.f 2 (v := .bool false) rfl
 have l3 : v1.cell? ⟨w.heap.size + 1, 3, none⟩ = some (.string ⟨#[]⟩) := HY1.out.c 3 rfl
 have z3 : v1.frozen? ⟨w.heap.size + 1, 3, none⟩ = false := HY1.out.f 3 (v := .string ⟨#[]⟩) rfl
 have XF : Hid (Bx (v1.setCells (w.heap.size + 1) 0 [vi ki f.at_, vi ki f.off, .bool f.dst, .string f.ab]) (w.heap.size + 1) [vi ki f.at_, vi ki f.off, .bool f.dst, .string f.ab]) := HY1.out.setAll _ rfl
 have BF : Hid (Below w.heap.size w (v1.setCells (w.heap.size + 1) 0 [vi ki f.at_, vi ki f.off, .bool f.dst, .string f.ab])) := below_setCells (by omega) _ _ _ HB1.out
 have y0 := XF.out.c 0 rfl
 have y1 := XF.out.c 1 rfl
 have y2 := XF.out.c 2 rfl
 have y3 := XF.out.c 3 rfl
 simp only [World.setCells, Nat.zero_add, Nat.reduceAdd] at y0 y1 y2 y3
 clear HX1 HY1 HB1 XF hUA
 go_wp2_with fail
 exact bodyPost_ret (v := .agg #[vi ki f.at_, vi ki f.off, .bool f.dst, .string f.ab]) (by simp [results, Tryz.results79, go_sem, y0, y1, y2, y3]) rfl ⟨rfl, BF.out⟩
theorem stand_tr_e (nm : ByteArray) (f : TrR) (sv : Value) (FL : List Value) (hF : FL.length = 19) (fr t : Int) (f0 : FL[0]? = some (.bool true)) (f1 : FL[1]? = some (vi ki fr)) (hno : ¬ fr ≤ t) (L : List TrR) (h4 : L.length ≤ 4096) (C : Nat) (x : TrR) (hx : L[C]? = some x) (w : World) (HT : Hid (TrAt w sv L)) (BH : Hid (∀ W : World, Below w.heap.size w W → Calls Tryz.prog 127 #[.agg (tbF nm f sv FL).toArray, vi ki t] W fun r w' => r = zr (vi ki ((C + 1 : Nat) : Int)) ∧ Below W.heap.size W w')) :
  Calls Tryz.prog 79 #[.agg (tbF nm f sv FL).toArray, vi ki t] w fun r w' => r = zr (.agg #[vi ki x.at_, vi ki x.off, .bool x.dst, .string x.ab]) ∧ Below w.heap.size w w' := by
 have X1 : Hid (Bx ((w.alloc (.cells (tbF nm f sv FL).toArray 44)).alloc (.cells #[vi ki 0, vi ki 0, .bool false, .string ⟨#[]⟩] 23)) w.heap.size (tbF nm f sv FL)) := (Bx.new w _ _).alloc _
 have Y1 : Hid (Bx ((w.alloc (.cells (tbF nm f sv FL).toArray 44)).alloc (.cells #[vi ki 0, vi ki 0, .bool false, .string ⟨#[]⟩] 23)) (w.heap.size + 1) [vi ki 0, vi ki 0, .bool false, .string ⟨#[]⟩]) := Bx.newAt _ [vi ki 0, vi ki 0, .bool false, .string ⟨#[]⟩] _ _ (by simp)
 have B1 : Hid (Below w.heap.size w ((w.alloc (.cells (tbF nm f sv FL).toArray 44)).alloc (.cells #[vi ki 0, vi ki 0, .bool false, .string ⟨#[]⟩] 23))) := ((Below.refl _ _).alloc (Nat.le_refl _) _).alloc (by simp) _
 have hd : decide (fr ≤ t) = false := decide_eq_false hno
 go_enter Tryz.func79, Tryz.ntmps79
 generalize hUA : (tbF nm f sv FL).toArray = UA at *
 go_upto_region 1 with fail
 refine gen_code (fun V => Bx V w.heap.size (tbF nm f sv FL) ∧ Bx V (w.heap.size + 1) [vi ki 0, vi ki 0, .bool false, .string ⟨#[]⟩] ∧ Below w.heap.size w V) ⟨X1.out, Y1.out, B1.out⟩ ?_
 clear X1 B1 Y1
 rintro V ⟨XV, YV, BV⟩
 have c6 : V.cell? ⟨w.heap.size, 6, none⟩ = some (.bool true) := XV.c 6 ((tbF_foot 0).trans f0)
 have c7 : V.cell? ⟨w.heap.size, 7, none⟩ = some (vi ki fr) := XV.c 7 ((tbF_foot 1).trans f1)
 have HX : Hid (Bx V w.heap.size (tbF nm f sv FL)) := XV
 have HY : Hid (Bx V (w.heap.size + 1) [vi ki 0, vi ki 0, .bool false, .string ⟨#[]⟩]) := YV
 have HB : Hid (Below w.heap.size w V) := BV
 clear XV YV BV
 go_wp2_with (first | (refine wpList_load_mid rfl 44 _ rfl w.heap.size 0 rfl (tbF nm f sv FL) _ HX.out.all Tryz.underlying44 rfl (by rw [tbF_len hF]; kernel_rfl) ?_; rw [hUA]) | fail)
 refine (BH.out _ HB.out).mono ?_
 rintro e v1 ⟨rfl, hb⟩
 have HX1 : Hid (Bx v1 w.heap.size (tbF nm f sv FL)) := HX.out.below hb
 have HY1 : Hid (Bx v1 (w.heap.size + 1) [vi ki 0, vi ki 0, .bool false, .string ⟨#[]⟩]) := HY.out.below hb
 have HB1 : Hid (Below w.heap.size w v1) := HB.out.trans (hb.mono HB.out.size)
 clear hb HX HY HB c6 c7 BH
 obtain ⟨g, o, c', hsv, hrg⟩ := (HT.out.mv HB1.out).row hx
 have hlt : C < L.length := (List.getElem?_eq_some_iff.1 hx).1
 have r5 : v1.cell? ⟨w.heap.size, 5, none⟩ = some sv := HX1.out.c 5 rfl
 have HRG : Hid (v1.rangeAt g (o + C * 4) (trC x)) := hrg
 have e1 : ((C : Int) + 1) - 1 = (C : Int) := by omega
 clear hrg hx HT
 subst hsv
 have l0 : v1.cell? ⟨w.heap.size + 1, 0, none⟩ = some (vi ki 0) := HY1.out.c 0 rfl
 have z0 : v1.frozen? ⟨w.heap.size + 1, 0, none⟩ = false := HY1.out.f 0 (v := vi ki 0) rfl
 have l1 : v1.cell? ⟨w.heap.size + 1, 1, none⟩ = some (vi ki 0) := HY1.out.c 1 rfl
 have z1 : v1.frozen? ⟨w.heap.size + 1, 1, none⟩ = false := HY1.out.f 1 (v := vi ki 0) rfl
 have l2 : v1.cell? ⟨w.heap.size + 1, 2, none⟩ = some (.bool false) := HY1.out.c 2 rfl
 have z2 : v1.frozen? ⟨w.heap.size + 1, 2, none⟩ = false := HY1.out.f 2 (v := .bool false) rfl
 have l3 : v1.cell? ⟨w.heap.size + 1, 3, none⟩ = some (.string ⟨#[]⟩) := HY1.out.c 3 rfl
 have z3 : v1.frozen? ⟨w.heap.size + 1, 3, none⟩ = false := HY1.out.f 3 (v := .string ⟨#[]⟩) rfl
 have XF : Hid (Bx (v1.setCells (w.heap.size + 1) 0 [vi ki x.at_, vi ki x.off, .bool x.dst, .string x.ab]) (w.heap.size + 1) [vi ki x.at_, vi ki x.off, .bool x.dst, .string x.ab]) := HY1.out.setAll _ rfl
 have BF : Hid (Below w.heap.size w (v1.setCells (w.heap.size + 1) 0 [vi ki x.at_, vi ki x.off, .bool x.dst, .string x.ab])) := below_setCells (by omega) _ _ _ HB1.out
 have y0 := XF.out.c 0 rfl
 have y1 := XF.out.c 1 rfl
 have y2 := XF.out.c 2 rfl
 have y3 := XF.out.c 3 rfl
 simp only [World.setCells, Nat.zero_add, Nat.reduceAdd] at y0 y1 y2 y3
 clear HX1 HY1 HB1 XF hUA
 go_wp2_with (first | (refine wpList_load_mid rfl 23 _ rfl g (o + C * 4) rfl [vi ki x.at_, vi ki x.off, .bool x.dst, .string x.ab] _ HRG.out Tryz.underlying23 rfl (by kernel_rfl) ?_) | fail)
 exact bodyPost_ret (v := .agg #[vi ki x.at_, vi ki x.off, .bool x.dst, .string x.ab]) (by simp [results, Tryz.results79, go_sem, y0, y1, y2, y3]) rfl ⟨rfl, BF.out⟩
theorem stand_foot (nm : ByteArray) (f : TrR) (sv : Value) (FL : List Value) (hF : FL.length = 19) (fr t : Int) (f0 : FL[0]? = some (.bool true)) (f1 : FL[1]? = some (vi ki fr)) (hy : fr ≤ t) (x : TrR) (er : Int) (w : World) (FA : Hid (∀ W : World, Below w.heap.size w W → Calls Tryz.prog 125 #[.agg FL.toArray, vi ki t] W fun r w' => r = zr (.tuple #[.agg #[vi ki x.at_, vi ki x.off, .bool x.dst, .string x.ab], vi ki er]) ∧ Below W.heap.size W w')) :
  Calls Tryz.prog 79 #[.agg (tbF nm f sv FL).toArray, vi ki t] w fun r w' => r = zr (.agg #[vi ki x.at_, vi ki x.off, .bool x.dst, .string x.ab]) ∧ Below w.heap.size w w' := by
 have X1 : Hid (Bx ((w.alloc (.cells (tbF nm f sv FL).toArray 44)).alloc (.cells #[vi ki 0, vi ki 0, .bool false, .string ⟨#[]⟩] 23)) w.heap.size (tbF nm f sv FL)) := (Bx.new w _ _).alloc _
 have Y1 : Hid (Bx ((w.alloc (.cells (tbF nm f sv FL).toArray 44)).alloc (.cells #[vi ki 0, vi ki 0, .bool false, .string ⟨#[]⟩] 23)) (w.heap.size + 1) [vi ki 0, vi ki 0, .bool false, .string ⟨#[]⟩]) := Bx.newAt _ [vi ki 0, vi ki 0, .bool false, .string ⟨#[]⟩] _ _ (by simp)
 have B1 : Hid (Below w.heap.size w ((w.alloc (.cells (tbF nm f sv FL).toArray 44)).alloc (.cells #[vi ki 0, vi ki 0, .bool false, .string ⟨#[]⟩] 23))) := ((Below.refl _ _).alloc (Nat.le_refl _) _).alloc (by simp) _
 have hd : decide (fr ≤ t) = true := decide_eq_true hy
 go_enter Tryz.func79, Tryz.ntmps79
 generalize hUA : (tbF nm f sv FL).toArray = UA at *
 go_upto_region 1 with fail
 refine gen_code (fun V => Bx V w.heap.size (tbF nm f sv FL) ∧ Bx V (w.heap.size + 1) [vi ki 0, vi ki 0, .bool false, .string ⟨#[]⟩] ∧ Below w.heap.size w V) ⟨X1.out, Y1.out, B1.out⟩ ?_
 clear X1 B1 Y1
 rintro V ⟨XV, YV, BV⟩
 have c6 : V.cell? ⟨w.heap.size, 6, none⟩ = some (.bool true) := XV.c 6 ((tbF_foot 0).trans f0)
 have c7 : V.cell? ⟨w.heap.size, 7, none⟩ = some (vi ki fr) := XV.c 7 ((tbF_foot 1).trans f1)
 have HX : Hid (Bx V w.heap.size (tbF nm f sv FL)) := XV
 have HY : Hid (Bx V (w.heap.size + 1) [vi ki 0, vi ki 0, .bool false, .string ⟨#[]⟩]) := YV
 have HB : Hid (Below w.heap.size w V) := BV
 clear XV YV BV
 have HR : Hid (V.rangeAt w.heap.size 6 FL) := fun j v hv => (HX.out.2 (6 + j) v ((tbF_foot j).trans hv)).1
 go_wp2_with (first | (refine wpList_load_mid rfl 42 _ rfl w.heap.size 6 rfl FL _ HR.out Tryz.underlying42 rfl (by rw [hF]; kernel_rfl) ?_) | fail)
 refine (FA.out _ HB.out).mono ?_
 rintro e v1 ⟨rfl, hb⟩
 have HY1 : Hid (Bx (v1.alloc (.cells #[vi ki x.at_, vi ki x.off, .bool x.dst, .string x.ab] 23)) (w.heap.size + 1) [vi ki 0, vi ki 0, .bool false, .string ⟨#[]⟩]) := (HY.out.below hb).alloc _
 have HZ1 : Hid (Bx (v1.alloc (.cells #[vi ki x.at_, vi ki x.off, .bool x.dst, .string x.ab] 23)) v1.heap.size [vi ki x.at_, vi ki x.off, .bool x.dst, .string x.ab]) := Bx.new v1 [vi ki x.at_, vi ki x.off, .bool x.dst, .string x.ab] _
 have HB1 : Hid (Below w.heap.size w (v1.alloc (.cells #[vi ki x.at_, vi ki x.off, .bool x.dst, .string x.ab] 23))) := (HB.out.trans (hb.mono HB.out.size)).alloc (HB.out.trans (hb.mono HB.out.size)).size _
 clear hb HX HY HB c6 c7 FA HR
 go_upto_region 3 with fail
 refine gen_code (fun V => Bx V (w.heap.size + 1) [vi ki 0, vi ki 0, .bool false, .string ⟨#[]⟩] ∧ Bx V v1.heap.size [vi ki x.at_, vi ki x.off, .bool x.dst, .string x.ab] ∧ Below w.heap.size w V) ⟨HY1.out, HZ1.out, HB1.out⟩ ?_
 clear HY1 HZ1 HB1
 rintro v2 ⟨YV, ZV, BV⟩
 have HY1 : Hid (Bx v2 (w.heap.size + 1) [vi ki 0, vi ki 0, .bool false, .string ⟨#[]⟩]) := YV
 have HB1 : Hid (Below w.heap.size w v2) := BV
 have r0 : v2.cell? ⟨v1.heap.size, 0, none⟩ = some (vi ki x.at_) := ZV.c 0 rfl
 have r1 : v2.cell? ⟨v1.heap.size, 1, none⟩ = some (vi ki x.off) := ZV.c 1 rfl
 have r2 : v2.cell? ⟨v1.heap.size, 2, none⟩ = some (.bool x.dst) := ZV.c 2 rfl
 have r3 : v2.cell? ⟨v1.heap.size, 3, none⟩ = some (.string x.ab) := ZV.c 3 rfl
 clear YV ZV BV
 have l0 : v2.cell? ⟨w.heap.size + 1, 0, none⟩ = some (vi ki 0) := HY1.out.c 0 rfl
 have z0 : v2.frozen? ⟨w.heap.size + 1, 0, none⟩ = false := HY1.out.f 0 (v := vi ki 0) rfl
 have l1 : v2.cell? ⟨w.heap.size + 1, 1, none⟩ = some (vi ki 0) := HY1.out.c 1 rfl
 have z1 : v2.frozen? ⟨w.heap.size + 1, 1, none⟩ = false := HY1.out.f 1 (v := vi ki 0) rfl
 have l2 : v2.cell? ⟨w.heap.size + 1, 2, none⟩ = some (.bool false) := HY1.out.c 2 rfl
 have z2 : v2.frozen? ⟨w.heap.size + 1, 2, none⟩ = false := HY1.out.f 2 (v := .bool false) rfl
 have l3 : v2.cell? ⟨w.heap.size + 1, 3, none⟩ = some (.string ⟨#[]⟩) := HY1.out.c 3 rfl
 have z3 : v2.frozen? ⟨w.heap.size + 1, 3, none⟩ = false := HY1.out.f 3 (v := .string ⟨#[]⟩) rfl
 have XF : Hid (Bx (v2.setCells (w.heap.size + 1) 0 [vi ki x.at_, vi ki x.off, .bool x.dst, .string x.ab]) (w.heap.size + 1) [vi ki x.at_, vi ki x.off, .bool x.dst, .string x.ab]) := HY1.out.setAll _ rfl
 have BF : Hid (Below w.heap.size w (v2.setCells (w.heap.size + 1) 0 [vi ki x.at_, vi ki x.off, .bool x.dst, .string x.ab])) := below_setCells (by omega) _ _ _ HB1.out
 have y0 := XF.out.c 0 rfl
 have y1 := XF.out.c 1 rfl
 have y2 := XF.out.c 2 rfl
 have y3 := XF.out.c 3 rfl
 simp only [World.setCells, Nat.zero_add, Nat.reduceAdd] at y0 y1 y2 y3
 clear HY1 HB1 XF hUA
 go_wp2_with fail
 exact bodyPost_ret (v := .agg #[vi ki x.at_, vi ki x.off, .bool x.dst, .string x.ab]) (by simp [results, Tryz.results79, go_sem, y0, y1, y2, y3]) rfl ⟨rfl, BF.out⟩
end Go.Proofs.YtklehbmghjcmaaaGreatDoor
namespace Go.Proofs.YtklehbmghjcmaaaGreatDoor
open Go.RowKit Sr
def askY (y : Int) : Bool := decide (-4714 ≤ y ∧ y ≤ 294278)
theorem ret_bz {a b : Bool} (h : a = b) : Ending.returned (.bool a) = zr (.bool b) := by rw [h]
theorem asked_1 (t y : Int) (h : ¬ -4714 ≤ y) (w : World) (YA : Hid (Calls Tryz.prog 124 #[vi ki t] w fun r w' => r = zr (vi ki y) ∧ w' = w)) :
  Calls Tryz.prog 78 #[vi ki t] w fun r w' => r = zr (.bool false) ∧ w' = w := by
 go_enter Tryz.func78, Tryz.ntmps78
 go_wp2_with fail
 refine YA.out.mono ?_
 rintro e w1 ⟨rfl, rfl⟩
 go_wp2_with fail
 go_ret
 exact ⟨rfl, rfl⟩
theorem asked_2 (t y : Int) (h : -4714 ≤ y) (g : ¬ y ≤ 294278) (w : World) (YA : Hid (Calls Tryz.prog 124 #[vi ki t] w fun r w' => r = zr (vi ki y) ∧ w' = w)) :
  Calls Tryz.prog 78 #[vi ki t] w fun r w' => r = zr (.bool false) ∧ w' = w := by
 go_enter Tryz.func78, Tryz.ntmps78
 go_wp2_with fail
 refine YA.out.mono ?_
 rintro e w1 ⟨rfl, rfl⟩
 go_wp2_with fail
 go_ret
 exact ⟨ret_bz (by simp; omega), rfl⟩
theorem asked_3 (t y : Int) (h : -4714 ≤ y) (g : y ≤ 294278) (w : World) (YA : Hid (Calls Tryz.prog 124 #[vi ki t] w fun r w' => r = zr (vi ki y) ∧ w' = w)) :
  Calls Tryz.prog 78 #[vi ki t] w fun r w' => r = zr (.bool true) ∧ w' = w := by
 go_enter Tryz.func78, Tryz.ntmps78
 go_wp2_with fail
 refine YA.out.mono ?_
 rintro e w1 ⟨rfl, rfl⟩
 go_wp2_with fail
 go_ret
 exact ⟨rfl, rfl⟩
theorem asked_any (t y : Int) (w : World) (YA : Hid (Calls Tryz.prog 124 #[vi ki t] w fun r w' => r = zr (vi ki y) ∧ w' = w)) :
  Calls Tryz.prog 78 #[vi ki t] w fun r w' => r = zr (.bool (askY y)) ∧ w' = w := by
 unfold askY
 by_cases h : -4714 ≤ y
 ·by_cases g : y ≤ 294278
  ·rw [decide_eq_true ⟨h, g⟩]; exact asked_3 t y h g w YA
  ·rw [decide_eq_false (fun k => g k.2)]; exact asked_2 t y h g w YA
 ·rw [decide_eq_false (fun k => h k.1)]; exact asked_1 t y h w YA
theorem zat_no (T : List Value) (hT : T.length = 25) (t : Int) (w : World) (RT : Hid (∀ W : World, Below w.heap.size w W → Calls Tryz.prog 31 #[.agg T.toArray] W fun r w' => r = zr (.bool false) ∧ Below W.heap.size W w')) :
  Calls Tryz.prog 33 #[.agg T.toArray, vi ki t] w fun r w' => r = zr (.tuple #[.agg #[vi ki 0, vi ki 0, .bool false, .string ⟨#[]⟩], vi ki 1]) ∧ Below w.heap.size w w' := by
 have X1 : Hid (Bx ((w.alloc (.cells T.toArray 44)).alloc (.cells #[vi ki 0, vi ki 0, .bool false, .string ⟨#[]⟩] 23)) w.heap.size T) := (Bx.new w _ _).alloc _
 have Y1 : Hid (Bx ((w.alloc (.cells T.toArray 44)).alloc (.cells #[vi ki 0, vi ki 0, .bool false, .string ⟨#[]⟩] 23)) (w.heap.size + 1) [vi ki 0, vi ki 0, .bool false, .string ⟨#[]⟩]) := Bx.newAt _ [vi ki 0, vi ki 0, .bool false, .string ⟨#[]⟩] _ _ (by simp)
 have B1 : Hid (Below w.heap.size w ((w.alloc (.cells T.toArray 44)).alloc (.cells #[vi ki 0, vi ki 0, .bool false, .string ⟨#[]⟩] 23))) := ((Below.refl _ _).alloc (Nat.le_refl _) _).alloc (by simp) _
 go_enter Tryz.func33, Tryz.ntmps33
 generalize hUA : T.toArray = UA at *
 go_upto_region 1 with fail
 refine gen_code (fun V => Bx V w.heap.size T ∧ Bx V (w.heap.size + 1) [vi ki 0, vi ki 0, .bool false, .string ⟨#[]⟩] ∧ Below w.heap.size w V) ⟨X1.out, Y1.out, B1.out⟩ ?_
 clear X1 B1 Y1
 rintro V ⟨XV, YV, BV⟩
 have HX : Hid (Bx V w.heap.size T) := XV
 have HY : Hid (Bx V (w.heap.size + 1) [vi ki 0, vi ki 0, .bool false, .string ⟨#[]⟩]) := YV
 have HB : Hid (Below w.heap.size w V) := BV
 clear XV YV BV
 go_wp2_with (first | (refine wpList_load_mid rfl 44 _ rfl w.heap.size 0 rfl T _ HX.out.all Tryz.underlying44 rfl (by rw [hT]; kernel_rfl) ?_; rw [hUA]) | fail)
 refine (RT.out _ HB.out).mono ?_
 rintro e v1 ⟨rfl, hb⟩
 have HX1 : Hid (Bx v1 w.heap.size T) := HX.out.below hb
 have HY1 : Hid (Bx v1 (w.heap.size + 1) [vi ki 0, vi ki 0, .bool false, .string ⟨#[]⟩]) := HY.out.below hb
 have HB1 : Hid (Below w.heap.size w v1) := HB.out.trans (hb.mono HB.out.size)
 clear hb HX HY HB
 have l0 : v1.cell? ⟨w.heap.size + 1, 0, none⟩ = some (vi ki 0) := HY1.out.c 0 rfl
 have z0 : v1.frozen? ⟨w.heap.size + 1, 0, none⟩ = false := HY1.out.f 0 (v := vi ki 0) rfl
 have l1 : v1.cell? ⟨w.heap.size + 1, 1, none⟩ = some (vi ki 0) := HY1.out.c 1 rfl
 have z1 : v1.frozen? ⟨w.heap.size + 1, 1, none⟩ = false := HY1.out.f 1 (v := vi ki 0) rfl
 have l2 : v1.cell? ⟨w.heap.size + 1, 2, none⟩ = some (.bool false) := HY1.out.c 2 rfl
 have z2 : v1.frozen? ⟨w.heap.size + 1, 2, none⟩ = false := HY1.out.f 2 (v := .bool false) rfl
 have l3 : v1.cell? ⟨w.heap.size + 1, 3, none⟩ = some (.string ⟨#[]⟩) := HY1.out.c 3 rfl
 have z3 : v1.frozen? ⟨w.heap.size + 1, 3, none⟩ = false := HY1.out.f 3 (v := .string ⟨#[]⟩) rfl
 have XF : Hid (Bx (v1.setCells (w.heap.size + 1) 0 [vi ki 0, vi ki 0, .bool false, .string ⟨#[]⟩]) (w.heap.size + 1) [vi ki 0, vi ki 0, .bool false, .string ⟨#[]⟩]) := HY1.out.setAll _ rfl
 have BF : Hid (Below w.heap.size w (v1.setCells (w.heap.size + 1) 0 [vi ki 0, vi ki 0, .bool false, .string ⟨#[]⟩])) := below_setCells (by omega) _ _ _ HB1.out
 have y0 := XF.out.c 0 rfl
 have y1 := XF.out.c 1 rfl
 have y2 := XF.out.c 2 rfl
 have y3 := XF.out.c 3 rfl
 simp only [World.setCells, Nat.zero_add, Nat.reduceAdd] at y0 y1 y2 y3
 clear XF
 go_wp2_with fail
 exact bodyPost_ret (v := .tuple #[.agg #[vi ki 0, vi ki 0, .bool false, .string ⟨#[]⟩], vi ki 1]) (by simp [results, Tryz.results33, go_sem, y0, y1, y2, y3]) rfl ⟨rfl, BF.out⟩
theorem zat_range (T : List Value) (hT : T.length = 25) (t : Int) (w : World) (RT : Hid (∀ W : World, Below w.heap.size w W → Calls Tryz.prog 31 #[.agg T.toArray] W fun r w' => r = zr (.bool true) ∧ Below W.heap.size W w'))
  (AS : Hid (∀ W : World, Below w.heap.size w W → Calls Tryz.prog 78 #[vi ki t] W fun r w' => r = zr (.bool false) ∧ w' = W)) :
  Calls Tryz.prog 33 #[.agg T.toArray, vi ki t] w fun r w' => r = zr (.tuple #[.agg #[vi ki 0, vi ki 0, .bool false, .string ⟨#[]⟩], vi ki 10]) ∧ Below w.heap.size w w' := by
 have X1 : Hid (Bx ((w.alloc (.cells T.toArray 44)).alloc (.cells #[vi ki 0, vi ki 0, .bool false, .string ⟨#[]⟩] 23)) w.heap.size T) := (Bx.new w _ _).alloc _
 have Y1 : Hid (Bx ((w.alloc (.cells T.toArray 44)).alloc (.cells #[vi ki 0, vi ki 0, .bool false, .string ⟨#[]⟩] 23)) (w.heap.size + 1) [vi ki 0, vi ki 0, .bool false, .string ⟨#[]⟩]) := Bx.newAt _ [vi ki 0, vi ki 0, .bool false, .string ⟨#[]⟩] _ _ (by simp)
 have B1 : Hid (Below w.heap.size w ((w.alloc (.cells T.toArray 44)).alloc (.cells #[vi ki 0, vi ki 0, .bool false, .string ⟨#[]⟩] 23))) := ((Below.refl _ _).alloc (Nat.le_refl _) _).alloc (by simp) _
 go_enter Tryz.func33, Tryz.ntmps33
 generalize hUA : T.toArray = UA at *
 go_upto_region 1 with fail
 refine gen_code (fun V => Bx V w.heap.size T ∧ Bx V (w.heap.size + 1) [vi ki 0, vi ki 0, .bool false, .string ⟨#[]⟩] ∧ Below w.heap.size w V) ⟨X1.out, Y1.out, B1.out⟩ ?_
 clear X1 B1 Y1
 rintro V ⟨XV, YV, BV⟩
 have HX : Hid (Bx V w.heap.size T) := XV
 have HY : Hid (Bx V (w.heap.size + 1) [vi ki 0, vi ki 0, .bool false, .string ⟨#[]⟩]) := YV
 have HB : Hid (Below w.heap.size w V) := BV
 clear XV YV BV
 go_wp2_with (first | (refine wpList_load_mid rfl 44 _ rfl w.heap.size 0 rfl T _ HX.out.all Tryz.underlying44 rfl (by rw [hT]; kernel_rfl) ?_; rw [hUA]) | fail)
 refine (RT.out _ HB.out).mono ?_
 rintro e v1 ⟨rfl, hb⟩
 have HX1 : Hid (Bx v1 w.heap.size T) := HX.out.below hb
 have HY1 : Hid (Bx v1 (w.heap.size + 1) [vi ki 0, vi ki 0, .bool false, .string ⟨#[]⟩]) := HY.out.below hb
 have HB1 : Hid (Below w.heap.size w v1) := HB.out.trans (hb.mono HB.out.size)
 clear hb HX HY HB
 go_wp2_with fail
 refine (AS.out _ HB1.out).mono ?_
 rintro e v9 ⟨rfl, hw⟩
 rw [hw]
 clear hw v9
 have l0 : v1.cell? ⟨w.heap.size + 1, 0, none⟩ = some (vi ki 0) := HY1.out.c 0 rfl
 have z0 : v1.frozen? ⟨w.heap.size + 1, 0, none⟩ = false := HY1.out.f 0 (v := vi ki 0) rfl
 have l1 : v1.cell? ⟨w.heap.size + 1, 1, none⟩ = some (vi ki 0) := HY1.out.c 1 rfl
 have z1 : v1.frozen? ⟨w.heap.size + 1, 1, none⟩ = false := HY1.out.f 1 (v := vi ki 0) rfl
 have l2 : v1.cell? ⟨w.heap.size + 1, 2, none⟩ = some (.bool false) := HY1.out.c 2 rfl
 have z2 : v1.frozen? ⟨w.heap.size + 1, 2, none⟩ = false := HY1.out.f 2 (v := .bool false) rfl
 have l3 : v1.cell? ⟨w.heap.size + 1, 3, none⟩ = some (.string ⟨#[]⟩) := HY1.out.c 3 rfl
 have z3 : v1.frozen? ⟨w.heap.size + 1, 3, none⟩ = false := HY1.out.f 3 (v := .string ⟨#[]⟩) rfl
 have XF : Hid (Bx (v1.setCells (w.heap.size + 1) 0 [vi ki 0, vi ki 0, .bool false, .string ⟨#[]⟩]) (w.heap.size + 1) [vi ki 0, vi ki 0, .bool false, .string ⟨#[]⟩]) := HY1.out.setAll _ rfl
 have BF : Hid (Below w.heap.size w (v1.setCells (w.heap.size + 1) 0 [vi ki 0, vi ki 0, .bool false, .string ⟨#[]⟩])) := below_setCells (by omega) _ _ _ HB1.out
 have y0 := XF.out.c 0 rfl
 have y1 := XF.out.c 1 rfl
 have y2 := XF.out.c 2 rfl
 have y3 := XF.out.c 3 rfl
 simp only [World.setCells, Nat.zero_add, Nat.reduceAdd] at y0 y1 y2 y3
 clear XF
 go_wp2_with fail
 exact bodyPost_ret (v := .tuple #[.agg #[vi ki 0, vi ki 0, .bool false, .string ⟨#[]⟩], vi ki 10]) (by simp [results, Tryz.results33, go_sem, y0, y1, y2, y3]) rfl ⟨rfl, BF.out⟩
theorem zat_yes (T : List Value) (hT : T.length = 25) (t : Int) (x : TrR) (w : World) (RT : Hid (∀ W : World, Below w.heap.size w W → Calls Tryz.prog 31 #[.agg T.toArray] W fun r w' => r = zr (.bool true) ∧ Below W.heap.size W w'))
  (AS : Hid (∀ W : World, Below w.heap.size w W → Calls Tryz.prog 78 #[vi ki t] W fun r w' => r = zr (.bool true) ∧ w' = W))
  (SD : Hid (∀ W : World, Below w.heap.size w W → Calls Tryz.prog 79 #[.agg T.toArray, vi ki t] W fun r w' => r = zr (.agg #[vi ki x.at_, vi ki x.off, .bool x.dst, .string x.ab]) ∧ Below W.heap.size W w')) :
  Calls Tryz.prog 33 #[.agg T.toArray, vi ki t] w fun r w' => r = zr (.tuple #[.agg #[vi ki x.at_, vi ki x.off, .bool x.dst, .string x.ab], vi ki 0]) ∧ Below w.heap.size w w' := by
 have X1 : Hid (Bx ((w.alloc (.cells T.toArray 44)).alloc (.cells #[vi ki 0, vi ki 0, .bool false, .string ⟨#[]⟩] 23)) w.heap.size T) := (Bx.new w _ _).alloc _
 have Y1 : Hid (Bx ((w.alloc (.cells T.toArray 44)).alloc (.cells #[vi ki 0, vi ki 0, .bool false, .string ⟨#[]⟩] 23)) (w.heap.size + 1) [vi ki 0, vi ki 0, .bool false, .string ⟨#[]⟩]) := Bx.newAt _ [vi ki 0, vi ki 0, .bool false, .string ⟨#[]⟩] _ _ (by simp)
 have B1 : Hid (Below w.heap.size w ((w.alloc (.cells T.toArray 44)).alloc (.cells #[vi ki 0, vi ki 0, .bool false, .string ⟨#[]⟩] 23))) := ((Below.refl _ _).alloc (Nat.le_refl _) _).alloc (by simp) _
 go_enter Tryz.func33, Tryz.ntmps33
 generalize hUA : T.toArray = UA at *
 go_upto_region 1 with fail
 refine gen_code (fun V => Bx V w.heap.size T ∧ Bx V (w.heap.size + 1) [vi ki 0, vi ki 0, .bool false, .string ⟨#[]⟩] ∧ Below w.heap.size w V) ⟨X1.out, Y1.out, B1.out⟩ ?_
 clear X1 B1 Y1
 rintro V ⟨XV, YV, BV⟩
 have HX : Hid (Bx V w.heap.size T) := XV
 have HY : Hid (Bx V (w.heap.size + 1) [vi ki 0, vi ki 0, .bool false, .string ⟨#[]⟩]) := YV
 have HB : Hid (Below w.heap.size w V) := BV
 clear XV YV BV
 go_wp2_with (first | (refine wpList_load_mid rfl 44 _ rfl w.heap.size 0 rfl T _ HX.out.all Tryz.underlying44 rfl (by rw [hT]; kernel_rfl) ?_; rw [hUA]) | fail)
 refine (RT.out _ HB.out).mono ?_
 rintro e v1 ⟨rfl, hb⟩
 have HX1 : Hid (Bx v1 w.heap.size T) := HX.out.below hb
 have HY1 : Hid (Bx v1 (w.heap.size + 1) [vi ki 0, vi ki 0, .bool false, .string ⟨#[]⟩]) := HY.out.below hb
 have HB1 : Hid (Below w.heap.size w v1) := HB.out.trans (hb.mono HB.out.size)
 clear hb HX HY HB
 go_wp2_with fail
 refine (AS.out _ HB1.out).mono ?_
 rintro e v9 ⟨rfl, hw⟩
 rw [hw]
 clear hw v9
 go_wp2_with (first | (refine wpList_load_mid rfl 44 _ rfl w.heap.size 0 rfl T _ HX1.out.all Tryz.underlying44 rfl (by rw [hT]; kernel_rfl) ?_; rw [hUA]) | fail)
 refine (SD.out _ HB1.out).mono ?_
 rintro e v2 ⟨rfl, hb⟩
 have HY2 : Hid (Bx v2 (w.heap.size + 1) [vi ki 0, vi ki 0, .bool false, .string ⟨#[]⟩]) := HY1.out.below hb
 have HB2 : Hid (Below w.heap.size w v2) := HB1.out.trans (hb.mono HB1.out.size)
 clear hb HX1 HY1 HB1
 have l0 : v2.cell? ⟨w.heap.size + 1, 0, none⟩ = some (vi ki 0) := HY2.out.c 0 rfl
 have z0 : v2.frozen? ⟨w.heap.size + 1, 0, none⟩ = false := HY2.out.f 0 (v := vi ki 0) rfl
 have l1 : v2.cell? ⟨w.heap.size + 1, 1, none⟩ = some (vi ki 0) := HY2.out.c 1 rfl
 have z1 : v2.frozen? ⟨w.heap.size + 1, 1, none⟩ = false := HY2.out.f 1 (v := vi ki 0) rfl
 have l2 : v2.cell? ⟨w.heap.size + 1, 2, none⟩ = some (.bool false) := HY2.out.c 2 rfl
 have z2 : v2.frozen? ⟨w.heap.size + 1, 2, none⟩ = false := HY2.out.f 2 (v := .bool false) rfl
 have l3 : v2.cell? ⟨w.heap.size + 1, 3, none⟩ = some (.string ⟨#[]⟩) := HY2.out.c 3 rfl
 have z3 : v2.frozen? ⟨w.heap.size + 1, 3, none⟩ = false := HY2.out.f 3 (v := .string ⟨#[]⟩) rfl
 have XF : Hid (Bx (v2.setCells (w.heap.size + 1) 0 [vi ki x.at_, vi ki x.off, .bool x.dst, .string x.ab]) (w.heap.size + 1) [vi ki x.at_, vi ki x.off, .bool x.dst, .string x.ab]) := HY2.out.setAll _ rfl
 have BF : Hid (Below w.heap.size w (v2.setCells (w.heap.size + 1) 0 [vi ki x.at_, vi ki x.off, .bool x.dst, .string x.ab])) := below_setCells (by omega) _ _ _ HB2.out
 have y0 := XF.out.c 0 rfl
 have y1 := XF.out.c 1 rfl
 have y2 := XF.out.c 2 rfl
 have y3 := XF.out.c 3 rfl
 simp only [World.setCells, Nat.zero_add, Nat.reduceAdd] at y0 y1 y2 y3
 clear XF
 go_wp2_with fail
 exact bodyPost_ret (v := .tuple #[.agg #[vi ki x.at_, vi ki x.off, .bool x.dst, .string x.ab], vi ki 0]) (by simp [results, Tryz.results33, go_sem, y0, y1, y2, y3]) rfl ⟨rfl, BF.out⟩
end Go.Proofs.YtklehbmghjcmaaaGreatDoor
