/- A line of the reference with a sign: its second part, its node, good or failed; its signs, one after another. -/
import Derived.Test.YtaoocecipacnhaaDoorRxPq
import Derived.Test.YtaoocecipacnhaaDoorRxIq
namespace Go.Proofs.YtaoocecipacnhaaDoor
open Go.RowKit
set_option linter.unusedVariables false

theorem rsigns_at (lev : Nat) (hl : lev = 0 ∨ lev = 1 ∨ lev = 3 ∨ lev = 4 ∨ lev = 5 ∨ lev = 7) (w : World) :
    Calls Tryd.prog 38 #[.int .i64 (lev : Int)] w fun e w' => ∃ c, e = .returned (.slice (some ⟨c, 0, none⟩) (sgW lev).length (sgW lev).length) ∧ w.heap.size ≤ c ∧ Below w.heap.size w w' ∧ Bx w' c (sTx (sgW lev)) :=
  (rsigns_any lev hl w).mono (by rintro e w' ⟨rfl, rfl⟩; exact ⟨_, rfl, Nat.le_refl _, (Below.refl _ _).alloc (Nat.le_refl _) _, Bx.new w _ _⟩)
theorem find_at {α : Type} {p : α → Bool} {L : List α} {j : Nat} {x : α} (h : L[j]? = some x) : (L.drop j).find? p = if p x = true then some x else (L.drop (j + 1)).find? p := by
  have hj := (List.getElem?_eq_some_iff.1 h).1
  have e := (List.getElem?_eq_some_iff.1 h).2
  rw [List.drop_eq_getElem_cons hj, e]
  by_cases q : p x = true
  · rw [List.find?_cons_of_pos q, if_pos q]
  · rw [List.find?_cons_of_neg q, if_neg q]
theorem find_yes {FD : Option ByteArray} {t : Bool} {x s : ByteArray} (h : FD = if t = true then some x else none) (h2 : FD = some s) : t = true ∧ s = x := by
  rw [h2] at h
  by_cases q : t = true
  · rw [if_pos q] at h; exact ⟨q, by cases h; rfl⟩
  · rw [if_neg q] at h; cases h
theorem find_no {FD : Option ByteArray} {t : Bool} {x : ByteArray} (h : FD = if t = true then some x else none) (h2 : FD = none) : t = false := by
  rw [h2] at h
  by_cases q : t = true
  · rw [if_pos q] at h; cases h
  · exact Bool.eq_false_iff.2 q
theorem sgs_txt {p : Tk} {lev : Nat} (hl : lev = 0 ∨ lev = 1 ∨ lev = 3 ∨ lev = 4 ∨ lev = 5) (h : isT p (sgs lev) = true) : p.2.1 ≠ ⟨#[]⟩ ∧ p.2.1 ≠ atB := by
  obtain ⟨x, hx, hd⟩ := List.any_eq_true.1 h
  have e := (of_decide_eq_true hd).2
  rw [e]
  rcases hl with rfl | rfl | rfl | rfl | rfl <;> simp only [sgs, List.mem_cons, List.not_mem_nil, or_false] at hx
  · subst hx; decide +kernel
  · subst hx; decide +kernel
  · rcases hx with rfl | rfl | rfl | rfl | rfl | rfl <;> decide +kernel
  · rcases hx with rfl | rfl <;> decide +kernel
  · rcases hx with rfl | rfl | rfl <;> decide +kernel
/-- what a line of signs does behind a part (3: the comparison). -/
def GG (lev d : Nat) : Nat → Nd → List Tk → PR
  | 0, _, _ => .no 0 0
  | f + 1, n, l => if lev = 3 then cmpK (par f) d n l else par (f + 1) (.lp lev n) d l
/-- .. of what its first part is. -/
def lnK (f lev d : Nat) : PR → PR
  | .no a e => .no a e
  | .ok n l1 => GG lev d (if lev = 3 then f + 1 else f) n l1
theorem ln_eq (f lev d : Nat) (hl : lev = 0 ∨ lev = 1 ∨ lev = 3 ∨ lev = 4 ∨ lev = 5) (p : Tk) (l : List Tk) : par (f + 1) (.lv lev) d (p :: l) = lnK f lev d (par f (.lv (lev + 1)) d (p :: l)) := by
  rw [par_succ]; unfold pst; dsimp only
  by_cases h3 : lev = 3
  · subst h3
    rw [if_neg (by omega), if_neg (by omega), if_pos rfl]
    cases par f (.lv 4) d (p :: l) <;> rfl
  · rw [if_neg (by omega), if_neg (by omega), if_neg h3, if_neg (by omega), if_neg (by omega), if_neg (by omega)]
    cases par f (.lv (lev + 1)) d (p :: l) with
    | no a e => rfl
    | ok n l1 => rw [lnK]; rw [if_neg h3]; cases f with
      | zero => rfl
      | succ f => rw [GG, if_neg h3]
/-- .. of what its second part is. -/
def xG (f lev d : Nat) (n : Nd) (s : ByteArray) (a : Int) : PR → PR
  | .no a e => .no a e
  | .ok m l1 => if lev = 3 then .ok (.mk 8 s [n, m] a) l1 else GG lev d f (.mk 8 s [n, m] a) l1
theorem gg_yes (f lev d : Nat) (n : Nd) {q : Tk} {l : List Tk} (h : isT q (sgs lev) = true) : GG lev d (f + 1) n (q :: l) = xG f lev d n q.2.1 q.2.2 (par f (.lv (lev + 1)) d l) := by
  rw [GG]
  by_cases h3 : lev = 3
  · subst h3
    rw [if_pos rfl]; unfold cmpK; dsimp only; rw [if_pos h]
    cases par f (.lv 4) d l <;> rfl
  · rw [if_neg h3, par_succ]; unfold pst; dsimp only
    rw [if_pos h]
    cases par f (.lv (lev + 1)) d l with
    | no a e => rfl
    | ok m l1 => rw [xG, if_neg h3]; cases f with
      | zero => rfl
      | succ f => rw [GG, if_neg h3]
theorem gg_no (f lev d : Nat) (n : Nd) {q : Tk} {l : List Tk} (h : isT q (sgs lev) = false) : GG lev d (f + 1) n (q :: l) = .ok n (q :: l) := by
  rw [GG]
  by_cases h3 : lev = 3
  · subst h3
    rw [if_pos rfl]; unfold cmpK; dsimp only; rw [if_neg (by simp [h])]
  · rw [if_neg h3, par_succ]; unfold pst; dsimp only
    rw [if_neg (by simp [h])]
/-- zones, of what the second part is. -/
def xZ (f d : Nat) (n : Nd) (a : Int) : PR → PR
  | .no a e => .no a e
  | .ok m l1 => par f (.zs (.mk 8 atzB [n, m] a)) d l1

/-- the second part under way: the new node's block is C. -/
def XM (g b cap : Nat) (T : List Tk) (w : World) (B d : Nat) (L : List Tk) (n : Nd) (c0 c1 c2 c3 : Value) (C : Nat) (s : ByteArray) (at_ : Int) (V : World) : Prop :=
  CR g b cap T w B d L n c0 c1 c2 c3 V ∧ Bx V C [.int .i64 8, .string s, .slice none 0 0, .int .i64 at_] ∧ NdAt (fun c => w.heap.size + 1 ≤ c ∧ c ≠ B ∧ c < C) V n [c0, c1, c2, c3] ∧ B < C
theorem XM.start {g b cap : Nat} {T : List Tk} {w : World} {B d : Nat} {L : List Tk} {n : Nd} {c0 c1 c2 c3 : Value} {s : ByteArray} {at_ : Int} {t : TypeId} {V : World} (h : CR g b cap T w B d L n c0 c1 c2 c3 V) (hg : g < w.heap.size) : XM g b cap T w B d L n c0 c1 c2 c3 V.heap.size s at_ (V.alloc (.cells #[.int .i64 8, .string s, .slice none 0 0, .int .i64 at_] t)) := by
  have hb : Below V.heap.size V (V.alloc (.cells #[.int .i64 8, .string s, .slice none 0 0, .int .i64 at_] t)) := (Below.refl _ _).alloc (Nat.le_refl _) _
  exact ⟨h.kp hg (Kp.of hb) (h.2.2.2.1.below hb) h.2.2.2.2.2.2, Bx.new V [.int .i64 8, .string s, .slice none 0 0, .int .i64 at_] t, NdAt.keep (by simp) (fun c hc hl => ⟨⟨hc.1, hc.2, hl⟩, hb.block c hl⟩) _ _ h.2.2.2.2.1, h.2.2.1.1⟩
theorem XM.drew {g b cap : Nat} {T : List Tk} {w : World} {B d : Nat} {L : List Tk} {n : Nd} {c0 c1 c2 c3 : Value} {C : Nat} {s : ByteArray} {at_ : Int} {V : World} (h : XM g b cap T w B d L n c0 c1 c2 c3 C s at_ V) : XM g b cap T w B d L n c0 c1 c2 c3 C s at_ V.drew :=
  ⟨h.1.drew, h.2.1, h.2.2.1.drewR, h.2.2.2⟩
theorem XM.kp {g b cap : Nat} {T : List Tk} {w : World} {B d : Nat} {L L' : List Tk} {n : Nd} {c0 c1 c2 c3 : Value} {C : Nat} {s : ByteArray} {at_ : Int} {V V' : World} (h : XM g b cap T w B d L n c0 c1 c2 c3 C s at_ V) (hg : g < w.heap.size) (hk : Kp g V V') (hp : RS g b cap T V' L' d) (he : EndL (mL L')) : XM g b cap T w B d L' n c0 c1 c2 c3 C s at_ V' :=
  ⟨h.1.kp hg hk hp he, hk.bx h.2.1 (by have := h.2.2.2; have := h.1.2.2.2.2.2.1; omega), h.2.2.1.kp hk (fun c hc => ⟨hc, by omega⟩), h.2.2.2⟩
theorem XM.below {g b cap : Nat} {T : List Tk} {w : World} {B d : Nat} {L : List Tk} {n : Nd} {c0 c1 c2 c3 : Value} {C : Nat} {s : ByteArray} {at_ : Int} {V V' : World} (h : XM g b cap T w B d L n c0 c1 c2 c3 C s at_ V) (hg : g < w.heap.size) (hb : Below V.heap.size V V') : XM g b cap T w B d L n c0 c1 c2 c3 C s at_ V' :=
  h.kp hg (Kp.of hb) (h.1.2.2.2.1.below hb) h.1.2.2.2.2.2.2
/-- the new node is whole, in its block. -/
def XD (g b cap : Nat) (T : List Tk) (w : World) (B d : Nat) (L : List Tk) (n m : Nd) (c0 c1 c2 c3 : Value) (C : Nat) (s : ByteArray) (at_ : Int) (sv : Value) (V : World) : Prop :=
  CR g b cap T w B d L n c0 c1 c2 c3 V ∧ Bx V C [.int .i64 8, .string s, sv, .int .i64 at_] ∧ NdAt (fun c => w.heap.size + 1 ≤ c ∧ c ≠ B ∧ c ≠ C) V (.mk 8 s [n, m] at_) [.int .i64 8, .string s, sv, .int .i64 at_] ∧ B < C
theorem XM.done {g b cap : Nat} {T : List Tk} {w : World} {B d : Nat} {L : List Tk} {n m : Nd} {c0 c1 c2 c3 d0 d1 d2 d3 : Value} {C : Nat} {s : ByteArray} {at_ : Int} {v : Value} {base : Nat} {V : World} (h : XM g b cap T w B d L n c0 c1 c2 c3 C s at_ V) (hg : g < w.heap.size) (hbl : b < w.heap.size)
    (hm : NdAt (fun c => C + 1 ≤ c) V m [d0, d1, d2, d3]) (ho : V.ownsRow base 30 4 v 2 [c0, c1, c2, c3, d0, d1, d2, d3]) (hbase : C < base) :
    ∃ R cp, v = .slice (some ⟨R, 0, none⟩) 2 cp ∧ XD g b cap T w B d L n m c0 c1 c2 c3 C s at_ (.slice (some ⟨R, 0, none⟩) 2 cp) (V.setCell ⟨C, 2, none⟩ (.slice (some ⟨R, 0, none⟩) 2 cp)) := by
  have hC := h.2.2.2
  have hB := h.1.2.2.2.2.2.1
  have hn2 : NdAt (fun c => w.heap.size + 1 ≤ c ∧ c ≠ B ∧ c ≠ C) V n [c0, c1, c2, c3] := NdAt.keep (Nat.le_refl _) (fun c hc _ => ⟨⟨hc.1, hc.2.1, by have := hc.2.2; omega⟩, rfl⟩) _ _ h.2.2.1
  have hm2 : NdAt (fun c => w.heap.size + 1 ≤ c ∧ c ≠ B ∧ c ≠ C) V m [d0, d1, d2, d3] := NdAt.keep (Nat.le_refl _) (fun c hc _ => ⟨⟨by omega, by omega, by omega⟩, rfl⟩) _ _ hm
  obtain ⟨R, cp, rfl, h1, h2, h3, h4, h5⟩ := row_two ho hn2 hm2
  have hoff : ∀ c, c < V.heap.size → c ≠ C → (V.setCell ⟨C, 2, none⟩ (.slice (some ⟨R, 0, none⟩) 2 cp)).heap[c]? = V.heap[c]? := fun c _ hc => Below.heap_setCell _ _ _ _ hc
  have hnn : NdAt (fun c => w.heap.size + 1 ≤ c ∧ c ≠ B ∧ c ≠ C) V (.mk 8 s [n, m] at_) [.int .i64 8, .string s, .slice (some ⟨R, 0, none⟩) 2 cp, .int .i64 at_] := NdAt.row (ks := [n, m]) (by simp) h1 h2 ⟨by omega, by omega, by omega⟩ h4 h5
  have hz := h.1.1.size
  refine ⟨R, cp, rfl, ⟨h.1.1.set (p := ⟨C, 2, none⟩) (.inr (by show _ ≤ C; omega)) _, h.1.2.1.setOther (by omega) [_] 2, h.1.2.2.1.setOther (by omega) [_] 2, h.1.2.2.2.1.off (r := C) hoff (by simp) (by omega) (by omega), h.2.2.1.off (r := C) hoff (by simp) (fun c hc => ⟨⟨hc.1, hc.2.1⟩, by have := hc.2.2; omega⟩), hB, h.1.2.2.2.2.2.2⟩, h.2.1.set1 2 _ (by simp), hnn.off (r := C) hoff (by simp) (fun c hc => ⟨hc, hc.2.2⟩), hC⟩
theorem XD.put {g b cap : Nat} {T : List Tk} {w : World} {B d : Nat} {L : List Tk} {n m : Nd} {c0 c1 c2 c3 : Value} {C : Nat} {s : ByteArray} {at_ : Int} {sv : Value} {V : World} (h : XD g b cap T w B d L n m c0 c1 c2 c3 C s at_ sv V) (hg : g < w.heap.size) (hbl : b < w.heap.size) :
    CR g b cap T w B d L (.mk 8 s [n, m] at_) (.int .i64 8) (.string s) sv (.int .i64 at_) (V.setCells B 0 [.int .i64 8, .string s, sv, .int .i64 at_]) :=
  h.1.put hg hbl (Kp.refl g V) h.1.2.2.2.1 h.1.2.2.2.2.2.2 (NdAt.keep (Nat.le_refl _) (fun c hc _ => ⟨.inl ⟨hc.1, hc.2.1⟩, rfl⟩) _ _ h.2.2.1)
/-- the second part has failed. -/
def XF (g b : Nat) (w : World) (B : Nat) (c0 c1 c2 c3 : Value) (C : Nat) (s : ByteArray) (at_ : Int) (sv : Value) (ea er : Int) (V : World) : Prop :=
  Kp g w V ∧ Bx V w.heap.size Z4 ∧ Bx V B [c0, c1, c2, c3] ∧ Bx V C [.int .i64 8, .string s, sv, .int .i64 at_] ∧ RF g b (C + 1) V ea er ∧ w.heap.size + 1 ≤ B ∧ B < C
theorem XM.fail {g b cap : Nat} {T : List Tk} {w : World} {B d : Nat} {L : List Tk} {n : Nd} {c0 c1 c2 c3 : Value} {C : Nat} {s : ByteArray} {at_ ea er : Int} {V V' : World} (h : XM g b cap T w B d L n c0 c1 c2 c3 C s at_ V) (hg : g < w.heap.size) (hk : Kp g V V') (hf : RF g b V.heap.size V' ea er) : XF g b w B c0 c1 c2 c3 C s at_ (.slice none 0 0) ea er V' := by
  have hC := h.2.2.2
  have hB := h.1.2.2.2.2.2.1
  exact ⟨h.1.1.trans hk, hk.bx h.1.2.1 (by omega), hk.bx h.1.2.2.1 (by omega), hk.bx h.2.1 (by omega), hf.mono h.2.1.1, hB, hC⟩
theorem XF.below {g b : Nat} {w : World} {B : Nat} {c0 c1 c2 c3 : Value} {C : Nat} {s : ByteArray} {at_ : Int} {sv : Value} {ea er : Int} {V V' : World} (h : XF g b w B c0 c1 c2 c3 C s at_ sv ea er V) (hb : Below V.heap.size V V') : XF g b w B c0 c1 c2 c3 C s at_ sv ea er V' :=
  ⟨h.1.trans (Kp.of hb), h.2.1.below hb, h.2.2.1.below hb, h.2.2.2.1.below hb, h.2.2.2.2.1.below hb, h.2.2.2.2.2⟩
theorem XF.store {g b : Nat} {w : World} {B : Nat} {c0 c1 c2 c3 : Value} {C : Nat} {s : ByteArray} {at_ : Int} {sv sv' : Value} {ea er : Int} {V : World} (h : XF g b w B c0 c1 c2 c3 C s at_ sv ea er V) (hg : g < w.heap.size) (hbl : b < w.heap.size) : XF g b w B c0 c1 c2 c3 C s at_ sv' ea er (V.setCell ⟨C, 2, none⟩ sv') := by
  obtain ⟨h1, h2, h3, h4, h5, h6, h7⟩ := h
  have hoff : ∀ c, c < V.heap.size → c ≠ C → (V.setCell ⟨C, 2, none⟩ sv').heap[c]? = V.heap[c]? := fun c _ hc => Below.heap_setCell _ _ _ _ hc
  exact ⟨h1.set (p := ⟨C, 2, none⟩) (.inr (by show _ ≤ C; omega)) _, h2.setOther (by omega) [_] 2, h3.setOther (by omega) [_] 2, h4.set1 2 _ (by simp), h5.off (r := C) hoff (by simp) (by omega) (by omega) (by omega), h6, h7⟩
theorem XF.put {g b : Nat} {w : World} {B : Nat} {c0 c1 c2 c3 : Value} {C : Nat} {s : ByteArray} {at_ : Int} {sv : Value} {ea er : Int} {V : World} (h : XF g b w B c0 c1 c2 c3 C s at_ sv ea er V) (hg : g < w.heap.size) (hbl : b < w.heap.size) (v0 v1 v2 v3 : Value) :
    Kp g w (V.setCells B 0 [v0, v1, v2, v3]) ∧ Bx (V.setCells B 0 [v0, v1, v2, v3]) w.heap.size Z4 ∧ Bx (V.setCells B 0 [v0, v1, v2, v3]) B [v0, v1, v2, v3] ∧ RF g b (C + 1) (V.setCells B 0 [v0, v1, v2, v3]) ea er := by
  obtain ⟨h1, h2, h3, h4, h5, h6, h7⟩ := h
  obtain ⟨q1, q2, q3, q4⟩ := fin4 [] v0 v1 v2 v3 h1 (by omega) h3
  exact ⟨q1, h2.setOther (by omega) _, q2, h5.off q3 q4 (by omega) (by omega) (by omega)⟩

end Go.Proofs.YtaoocecipacnhaaDoor
