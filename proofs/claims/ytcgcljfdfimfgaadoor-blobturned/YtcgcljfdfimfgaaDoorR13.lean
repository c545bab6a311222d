import Derived.Test.YtcgcljfdfimfgaaDoorR12
import Derived.Deep.RegionHeld3
import Derived.Deep.MidRow
/- Both shifts of a year: calendar.reckon. -/
namespace Go.Proofs.YtcgcljfdfimfgaaDoor.Fn
open Go.RowKit
set_option linter.unusedVariables false

/-- both shifts of a year, the earlier one first. -/
def pairL (p q : Tr) : List Value := if q.t < p.t then tL q ++ tL p else tL p ++ tL q
def pA (f : Ft) : List Value := [.bool f.h, .int .i64 f.fr, .int .i64 f.off]
theorem tL_one (x : Tr) : (tL x).toArray.all (·.oneCell') = true := all_oneCell_toArray (by intro v hv; simp [tL] at hv; rcases hv with rfl | rfl | rfl | rfl <;> rfl)

theorem below_setCells {w : World} {b : Nat} (hb : w.heap.size ≤ b) : ∀ (vs : List Value) (W : World) (i : Nat), Below w.heap.size w W → Below w.heap.size w (W.setCells b i vs)
  | [], _, _, h => h
  | v :: vs, W, i, h => below_setCells hb vs _ _ (h.setCell (p := ⟨b, i, none⟩) hb v)
theorem setCells_size (b : Nat) : ∀ (vs : List Value) (W : World) (i : Nat), (W.setCells b i vs).heap.size = W.heap.size
  | [], _, _ => rfl
  | v :: vs, W, i => by rw [World.setCells, setCells_size b vs]; simp
theorem setCells_off (b : Nat) (vs : List Value) (W : World) (i : Nat) (p : Addr) (h : p.block ≠ b) : (W.setCells b i vs).cell? p = W.cell? p :=
  World.cell?_setCells_out b vs i W p (fun e _ => absurd e h)
theorem Bx.there {W : World} {b : Nat} {l : List Value} (h : Bx W b l) : W.there b 0 l.length := fun j hj => by
  have := h.2 j l[j] (List.getElem?_eq_getElem hj)
  rw [Nat.zero_add]
  exact ⟨by rw [this.1]; rfl, this.2⟩
theorem Bx.rng {W : World} {b : Nat} {l : List Value} (h : Bx W b l) (p cs q : List Value) (e : l = p ++ (cs ++ q)) : W.rangeAt b p.length cs := fun j v hv => by
  refine (h.2 (p.length + j) v ?_).1
  have hj : j < cs.length := (List.getElem?_eq_some_iff.1 hv).1
  rw [e, List.getElem?_append_right (by omega), show p.length + j - p.length = j by omega, List.getElem?_append_left hj]
  exact hv
theorem Bx.all {W : World} {b : Nat} {l : List Value} (h : Bx W b l) : W.rangeAt b 0 l := fun j v hv => by rw [Nat.zero_add]; exact (h.2 j v hv).1
theorem Bx.setAll {W : World} {b : Nat} {l : List Value} (h : Bx W b l) (vs : List Value) (hl : l.length = vs.length) : Bx (W.setCells b 0 vs) b vs :=
  ⟨by rw [setCells_size]; exact h.1, fun i v e => by
    have hi := (List.getElem?_eq_some_iff.1 e).1
    refine ⟨?_, ?_⟩
    · have := World.rangeAt_setCells_same W b 0 vs (hl ▸ h.there) i v e
      rwa [Nat.zero_add] at this
    · rw [World.frozen?_setCells]; exact (h.2 i l[i] (List.getElem?_eq_getElem (by omega))).2⟩
theorem Bx.setOther {W : World} {b' b : Nat} {l : List Value} (h : Bx W b' l) (hb : b' ≠ b) (vs : List Value) (j : Nat := 0) : Bx (W.setCells b j vs) b' l :=
  ⟨by rw [setCells_size]; exact h.1, fun i v e => ⟨by rw [setCells_off b vs _ _ _ hb]; exact (h.2 i v e).1, by rw [World.frozen?_setCells]; exact (h.2 i v e).2⟩⟩
theorem gen_any {P : Program} {md : Region.Mode} {ops : Array Oper} {Q : Exit → Act → World → Prop} {S : World → Prop} {fuel : Nat} {listed : Array Bool} {a : Act} {w1 : World} (T : World → Prop) (h : T w1)
    (k : ∀ w2, T w2 → wpAnyH P md ops Q S fuel listed a w2) : wpAnyH P md ops Q S fuel listed a w1 := k _ h

def z8 : List Value := [.int .i64 0, .int .i64 0, .bool false, .string ⟨#[]⟩, .int .i64 0, .int .i64 0, .bool false, .string ⟨#[]⟩]
/-- what reckon holds. -/
def RS (w : World) (f : Ft) (m : Nat) (W : World) : Prop := Below w.heap.size w W ∧ Cvl.Lens W ∧ Bx W w.heap.size (cL f m) ∧ Bx W (w.heap.size + 1) z8
theorem RS.below {w W V : World} {f : Ft} {m : Nat} (h : RS w f m W) (hb : Below W.heap.size W V) : RS w f m V :=
  ⟨h.1.trans (hb.mono h.1.size), Lens_below h.2.1 hb (Lens_lt h.2.1), h.2.2.1.below hb, h.2.2.2.below hb⟩
theorem RS.alloc {w W : World} {f : Ft} {m : Nat} (h : RS w f m W) (o : Obj) : RS w f m (W.alloc o) := h.below ((Below.refl _ W).alloc (Nat.le_refl _) o)
theorem RS.lens {w W : World} {f : Ft} {m : Nat} (h : RS w f m W) : Cvl.Lens W := h.2.1
theorem RS.room {w W : World} {f : Ft} {m : Nat} (h : RS w f m W) : w.heap.size + 2 ≤ W.heap.size := h.2.2.2.1
theorem Lens_setL {W : World} (h : Cvl.Lens W) {b : Nat} (hb : 1 ≠ b) (vs : List Value) (i : Nat) : Cvl.Lens (W.setCells b i vs) := fun j hj => (setCells_off b vs W i _ hb).trans (h j hj)
theorem RS.set {w W : World} {f : Ft} {m b : Nat} (h : RS w f m W) (hb : w.heap.size + 2 ≤ b) (vs : List Value) (hw : 1 < w.heap.size := by omega) : RS w f m (W.setCells b 0 vs) :=
  ⟨below_setCells (by omega) vs W 0 h.1, Lens_setL h.2.1 (by omega) vs 0, h.2.2.1.setOther (by omega) vs, h.2.2.2.setOther (by omega) vs⟩

set_option maxRecDepth 100000 in
set_option maxHeartbeats 8000000 in
theorem reckon_run (f : Ft) (m : Nat) (y : Int) (p q : Tr)
    (CA : Hid (∀ w : World, Cvl.Lens w → Calls Tryd.prog 74 #[.agg (cL f m).toArray, .agg (hL f.A).toArray, .agg (hL f.B).toArray, .int .i64 y] w fun e w' => e = .returned (.agg (tL p).toArray) ∧ Below w.heap.size w w'))
    (CB : Hid (∀ w : World, Cvl.Lens w → Calls Tryd.prog 74 #[.agg (cL f m).toArray, .agg (hL f.B).toArray, .agg (hL f.A).toArray, .int .i64 y] w fun e w' => e = .returned (.agg (tL q).toArray) ∧ Below w.heap.size w w'))
    (w : World) (hL0 : Hid (Cvl.Lens w)) :
    Calls Tryd.prog 67 #[.agg #[.bool f.h, .int .i64 f.fr, .int .i64 f.off, .int .i64 f.A.m, .int .i64 f.A.k, .int .i64 f.A.d, .int .i64 f.A.n, .int .i64 f.A.s, .int .u8 f.A.z, .int .i64 f.A.v, .string f.A.t, .int .i64 f.B.m, .int .i64 f.B.k, .int .i64 f.B.d, .int .i64 f.B.n, .int .i64 f.B.s, .int .u8 f.B.z, .int .i64 f.B.v, .string f.B.t, .map (some m)], .int .i64 y] w fun e w' => e = .returned (.agg (pairL p q).toArray) ∧ Below w.heap.size w w' := by
  have hLl := Lens_lt hL0.out
  have HB : Hid (Below w.heap.size w ((w.alloc (.cells #[.bool f.h, .int .i64 f.fr, .int .i64 f.off, .int .i64 f.A.m, .int .i64 f.A.k, .int .i64 f.A.d, .int .i64 f.A.n, .int .i64 f.A.s, .int .u8 f.A.z, .int .i64 f.A.v, .string f.A.t, .int .i64 f.B.m, .int .i64 f.B.k, .int .i64 f.B.d, .int .i64 f.B.n, .int .i64 f.B.s, .int .u8 f.B.z, .int .i64 f.B.v, .string f.B.t, .map (some m)] 107)).alloc (.cells #[.int .i64 0, .int .i64 0, .bool false, .string ⟨#[]⟩, .int .i64 0, .int .i64 0, .bool false, .string ⟨#[]⟩] 120))) := (((Below.refl _ _).alloc (by simp <;> omega) _).alloc (by simp <;> omega) _)
  have X0 : Hid (Bx ((w.alloc (.cells #[.bool f.h, .int .i64 f.fr, .int .i64 f.off, .int .i64 f.A.m, .int .i64 f.A.k, .int .i64 f.A.d, .int .i64 f.A.n, .int .i64 f.A.s, .int .u8 f.A.z, .int .i64 f.A.v, .string f.A.t, .int .i64 f.B.m, .int .i64 f.B.k, .int .i64 f.B.d, .int .i64 f.B.n, .int .i64 f.B.s, .int .u8 f.B.z, .int .i64 f.B.v, .string f.B.t, .map (some m)] 107)).alloc (.cells #[.int .i64 0, .int .i64 0, .bool false, .string ⟨#[]⟩, .int .i64 0, .int .i64 0, .bool false, .string ⟨#[]⟩] 120)) (w.heap.size) (cL f m)) := ((Bx.newAt w (cL f m) _ _ (by simp)).alloc _)
  have X1 : Hid (Bx ((w.alloc (.cells #[.bool f.h, .int .i64 f.fr, .int .i64 f.off, .int .i64 f.A.m, .int .i64 f.A.k, .int .i64 f.A.d, .int .i64 f.A.n, .int .i64 f.A.s, .int .u8 f.A.z, .int .i64 f.A.v, .string f.A.t, .int .i64 f.B.m, .int .i64 f.B.k, .int .i64 f.B.d, .int .i64 f.B.n, .int .i64 f.B.s, .int .u8 f.B.z, .int .i64 f.B.v, .string f.B.t, .map (some m)] 107)).alloc (.cells #[.int .i64 0, .int .i64 0, .bool false, .string ⟨#[]⟩, .int .i64 0, .int .i64 0, .bool false, .string ⟨#[]⟩] 120)) (w.heap.size + 1) (z8)) := (Bx.newAt (w.alloc (.cells #[.bool f.h, .int .i64 f.fr, .int .i64 f.off, .int .i64 f.A.m, .int .i64 f.A.k, .int .i64 f.A.d, .int .i64 f.A.n, .int .i64 f.A.s, .int .u8 f.A.z, .int .i64 f.A.v, .string f.A.t, .int .i64 f.B.m, .int .i64 f.B.k, .int .i64 f.B.d, .int .i64 f.B.n, .int .i64 f.B.s, .int .u8 f.B.z, .int .i64 f.B.v, .string f.B.t, .map (some m)] 107)) (z8) _ _ (by simp))
  have L1 : Hid (Cvl.Lens ((w.alloc (.cells #[.bool f.h, .int .i64 f.fr, .int .i64 f.off, .int .i64 f.A.m, .int .i64 f.A.k, .int .i64 f.A.d, .int .i64 f.A.n, .int .i64 f.A.s, .int .u8 f.A.z, .int .i64 f.A.v, .string f.A.t, .int .i64 f.B.m, .int .i64 f.B.k, .int .i64 f.B.d, .int .i64 f.B.n, .int .i64 f.B.s, .int .u8 f.B.z, .int .i64 f.B.v, .string f.B.t, .map (some m)] 107)).alloc (.cells #[.int .i64 0, .int .i64 0, .bool false, .string ⟨#[]⟩, .int .i64 0, .int .i64 0, .bool false, .string ⟨#[]⟩] 120))) := Lens_below hL0.out HB.out (Lens_lt hL0.out)
  have S0 : RS w f m (((w.alloc (.cells #[.bool f.h, .int .i64 f.fr, .int .i64 f.off, .int .i64 f.A.m, .int .i64 f.A.k, .int .i64 f.A.d, .int .i64 f.A.n, .int .i64 f.A.s, .int .u8 f.A.z, .int .i64 f.A.v, .string f.A.t, .int .i64 f.B.m, .int .i64 f.B.k, .int .i64 f.B.d, .int .i64 f.B.n, .int .i64 f.B.s, .int .u8 f.B.z, .int .i64 f.B.v, .string f.B.t, .map (some m)] 107)).alloc (.cells #[.int .i64 0, .int .i64 0, .bool false, .string ⟨#[]⟩, .int .i64 0, .int .i64 0, .bool false, .string ⟨#[]⟩] 120))).drew := ⟨HB.out.drew, L1.out, X0.out, X1.out⟩
  clear HB X0 X1 L1
  go_enter Tryd.func67, Tryd.ntmps67
  go_wp2_with fail
  refine wp_region_held_drew (S := (RS w f m)) (by kernel_rfl) S0 (fun hHeld => ?_)
  refine gen_any ((RS w f m)) hHeld ?_
  clear hHeld
  rintro v0 hHeld
  refine wpAnyH_take (i := 0) (oi := { dst := some 7, op := _, type := _, pos := _, after := _, guard := none }) rfl (by kernel_rfl) (by kernel_rfl) (by kernel_rfl) (fun _ _ _ h => h) (yieldsIf_load_mid (by kernel_rfl) 107 _ rfl (w.heap.size) 0 rfl (cL f m) _ (fun w9 hSw => hSw.2.2.1.all) Tryd.underlying107 rfl (by kernel_rfl)) (by assumption) ?_
  simp only [Act.put, List.setIfInBounds_toArray, List.set_cons_zero, List.set_cons_succ]
  refine wpAnyH_take (i := 1) (v := ?_) (oi := { dst := some 8, op := _, type := _, pos := _, after := _, guard := none }) rfl (by kernel_rfl) (by kernel_rfl) (by kernel_rfl) (fun _ _ _ h => h) (Or.inl ⟨by kernel_rfl, ?_⟩) (by assumption) ?_
  case refine_2 => (intro w9 hSw; clear hSw; go_simp; try with_reducible rfl)
  simp only [Act.put, List.setIfInBounds_toArray, List.set_cons_zero, List.set_cons_succ]
  refine wpAnyH_take (i := 2) (v := ?_) (oi := { dst := some 9, op := _, type := _, pos := _, after := _, guard := none }) rfl (by kernel_rfl) (by kernel_rfl) (by kernel_rfl) (fun _ _ _ h => h) (Or.inl ⟨by kernel_rfl, ?_⟩) (by assumption) ?_
  case refine_2 => (intro w9 hSw; clear hSw; go_simp; try with_reducible rfl)
  simp only [Act.put, List.setIfInBounds_toArray, List.set_cons_zero, List.set_cons_succ]
  refine wpAnyH_take (i := 3) (oi := { dst := some 10, op := _, type := _, pos := _, after := _, guard := none }) rfl (by kernel_rfl) (by kernel_rfl) (by kernel_rfl) (fun _ _ _ h => h) (yieldsIf_load_mid (by kernel_rfl) 42 _ rfl (w.heap.size) 3 rfl (hL f.A) _ (fun w9 hSw => hSw.2.2.1.rng (pA f) (hL f.A) (hL f.B ++ [.map (some m)]) rfl) Tryd.underlying42 rfl (by kernel_rfl)) (by assumption) ?_
  simp only [Act.put, List.setIfInBounds_toArray, List.set_cons_zero, List.set_cons_succ]
  refine wpAnyH_take (i := 4) (v := ?_) (oi := { dst := some 11, op := _, type := _, pos := _, after := _, guard := none }) rfl (by kernel_rfl) (by kernel_rfl) (by kernel_rfl) (fun _ _ _ h => h) (Or.inl ⟨by kernel_rfl, ?_⟩) (by assumption) ?_
  case refine_2 => (intro w9 hSw; clear hSw; go_simp; try with_reducible rfl)
  simp only [Act.put, List.setIfInBounds_toArray, List.set_cons_zero, List.set_cons_succ]
  refine wpAnyH_take (i := 5) (v := ?_) (oi := { dst := some 12, op := _, type := _, pos := _, after := _, guard := none }) rfl (by kernel_rfl) (by kernel_rfl) (by kernel_rfl) (fun _ _ _ h => h) (Or.inl ⟨by kernel_rfl, ?_⟩) (by assumption) ?_
  case refine_2 => (intro w9 hSw; clear hSw; go_simp; try with_reducible rfl)
  simp only [Act.put, List.setIfInBounds_toArray, List.set_cons_zero, List.set_cons_succ]
  refine wpAnyH_take (i := 6) (oi := { dst := some 13, op := _, type := _, pos := _, after := _, guard := none }) rfl (by kernel_rfl) (by kernel_rfl) (by kernel_rfl) (fun _ _ _ h => h) (yieldsIf_load_mid (by kernel_rfl) 42 _ rfl (w.heap.size) 11 rfl (hL f.B) _ (fun w9 hSw => hSw.2.2.1.rng (pA f ++ hL f.A) (hL f.B) [.map (some m)] rfl) Tryd.underlying42 rfl (by kernel_rfl)) (by assumption) ?_
  simp only [Act.put, List.setIfInBounds_toArray, List.set_cons_zero, List.set_cons_succ]
  refine wpAnyH_take (i := 7) (v := ?_) (oi := { dst := some 14, op := _, type := _, pos := _, after := _, guard := none }) rfl (by kernel_rfl) (by kernel_rfl) (by kernel_rfl) (fun _ _ _ h => h) (Or.inl ⟨by kernel_rfl, ?_⟩) (by assumption) ?_
  case refine_2 => (intro w9 hSw; clear hSw; go_simp; try with_reducible rfl)
  simp only [Act.put, List.setIfInBounds_toArray, List.set_cons_zero, List.set_cons_succ]
  refine wpAnyH_take (i := 9) (oi := { dst := some 16, op := _, type := _, pos := _, after := _, guard := none }) rfl (by kernel_rfl) (by kernel_rfl) (by kernel_rfl) (fun _ _ _ h => h) (yieldsIf_load_mid (by kernel_rfl) 107 _ rfl (w.heap.size) 0 rfl (cL f m) _ (fun w9 hSw => hSw.2.2.1.all) Tryd.underlying107 rfl (by kernel_rfl)) (by assumption) ?_
  simp only [Act.put, List.setIfInBounds_toArray, List.set_cons_zero, List.set_cons_succ]
  refine wpAnyH_take (i := 10) (v := ?_) (oi := { dst := some 17, op := _, type := _, pos := _, after := _, guard := none }) rfl (by kernel_rfl) (by kernel_rfl) (by kernel_rfl) (fun _ _ _ h => h) (Or.inl ⟨by kernel_rfl, ?_⟩) (by assumption) ?_
  case refine_2 => (intro w9 hSw; clear hSw; go_simp; try with_reducible rfl)
  simp only [Act.put, List.setIfInBounds_toArray, List.set_cons_zero, List.set_cons_succ]
  refine wpAnyH_take (i := 11) (v := ?_) (oi := { dst := some 18, op := _, type := _, pos := _, after := _, guard := none }) rfl (by kernel_rfl) (by kernel_rfl) (by kernel_rfl) (fun _ _ _ h => h) (Or.inl ⟨by kernel_rfl, ?_⟩) (by assumption) ?_
  case refine_2 => (intro w9 hSw; clear hSw; go_simp; try with_reducible rfl)
  simp only [Act.put, List.setIfInBounds_toArray, List.set_cons_zero, List.set_cons_succ]
  refine wpAnyH_take (i := 12) (oi := { dst := some 19, op := _, type := _, pos := _, after := _, guard := none }) rfl (by kernel_rfl) (by kernel_rfl) (by kernel_rfl) (fun _ _ _ h => h) (yieldsIf_load_mid (by kernel_rfl) 42 _ rfl (w.heap.size) 11 rfl (hL f.B) _ (fun w9 hSw => hSw.2.2.1.rng (pA f ++ hL f.A) (hL f.B) [.map (some m)] rfl) Tryd.underlying42 rfl (by kernel_rfl)) (by assumption) ?_
  simp only [Act.put, List.setIfInBounds_toArray, List.set_cons_zero, List.set_cons_succ]
  refine wpAnyH_take (i := 13) (v := ?_) (oi := { dst := some 20, op := _, type := _, pos := _, after := _, guard := none }) rfl (by kernel_rfl) (by kernel_rfl) (by kernel_rfl) (fun _ _ _ h => h) (Or.inl ⟨by kernel_rfl, ?_⟩) (by assumption) ?_
  case refine_2 => (intro w9 hSw; clear hSw; go_simp; try with_reducible rfl)
  simp only [Act.put, List.setIfInBounds_toArray, List.set_cons_zero, List.set_cons_succ]
  refine wpAnyH_take (i := 14) (v := ?_) (oi := { dst := some 21, op := _, type := _, pos := _, after := _, guard := none }) rfl (by kernel_rfl) (by kernel_rfl) (by kernel_rfl) (fun _ _ _ h => h) (Or.inl ⟨by kernel_rfl, ?_⟩) (by assumption) ?_
  case refine_2 => (intro w9 hSw; clear hSw; go_simp; try with_reducible rfl)
  simp only [Act.put, List.setIfInBounds_toArray, List.set_cons_zero, List.set_cons_succ]
  refine wpAnyH_take (i := 15) (oi := { dst := some 22, op := _, type := _, pos := _, after := _, guard := none }) rfl (by kernel_rfl) (by kernel_rfl) (by kernel_rfl) (fun _ _ _ h => h) (yieldsIf_load_mid (by kernel_rfl) 42 _ rfl (w.heap.size) 3 rfl (hL f.A) _ (fun w9 hSw => hSw.2.2.1.rng (pA f) (hL f.A) (hL f.B ++ [.map (some m)]) rfl) Tryd.underlying42 rfl (by kernel_rfl)) (by assumption) ?_
  simp only [Act.put, List.setIfInBounds_toArray, List.set_cons_zero, List.set_cons_succ]
  refine wpAnyH_take (i := 16) (v := ?_) (oi := { dst := some 23, op := _, type := _, pos := _, after := _, guard := none }) rfl (by kernel_rfl) (by kernel_rfl) (by kernel_rfl) (fun _ _ _ h => h) (Or.inl ⟨by kernel_rfl, ?_⟩) (by assumption) ?_
  case refine_2 => (intro w9 hSw; clear hSw; go_simp; try with_reducible rfl)
  simp only [Act.put, List.setIfInBounds_toArray, List.set_cons_zero, List.set_cons_succ]
  refine wpAnyH_ready (rs := [8, 18, 19]) (by kernel_rfl) (by simp) (AllReadyH.cons (o := { dst := some 15, op := _, type := _, pos := _, after := _, guard := none }) rfl (fun K hK => ?_) (AllReadyH.cons (o := { dst := some 5, op := _, type := _, pos := _, after := _, guard := none }) rfl (fun K hK => ?_) (AllReadyH.cons (o := { dst := some 6, op := _, type := _, pos := _, after := _, guard := none }) rfl (fun K hK => ?_) AllReadyH.nil)))
  ·
    go_simp
    refine (CA.out _ hHeld.lens).mono ?_
    rintro e v1 ⟨rfl, hb1⟩
    have hH1 := hHeld.below hb1
    refine hK.out _ _ hH1 (fun _ => ?_)
    clear hK K hb1 hHeld
    have hHeld := hH1; clear hH1
    refine wpAnyH_ready (rs := [17, 18, 19]) (by kernel_rfl) (by simp) (AllReadyH.cons (o := { dst := some 24, op := _, type := _, pos := _, after := _, guard := none }) rfl (fun K hK => ?_) (AllReadyH.cons (o := { dst := some 5, op := _, type := _, pos := _, after := _, guard := none }) rfl (fun K hK => ?_) (AllReadyH.cons (o := { dst := some 6, op := _, type := _, pos := _, after := _, guard := none }) rfl (fun K hK => ?_) AllReadyH.nil)))
    ·
      go_simp
      refine (CB.out _ hHeld.lens).mono ?_
      rintro e v2 ⟨rfl, hb2⟩
      have hH2 := hHeld.below hb2
      refine hK.out _ _ hH2 (fun _ => ?_)
      clear hK K hb2 hHeld
      have hHeld := hH2; clear hH2
      refine wpAnyH_ready (rs := [18, 19]) (by kernel_rfl) (by simp) (AllReadyH.cons (o := { dst := some 5, op := _, type := _, pos := _, after := _, guard := none }) rfl (fun K hK => ?_) (AllReadyH.cons (o := { dst := some 6, op := _, type := _, pos := _, after := _, guard := none }) rfl (fun K hK => ?_) AllReadyH.nil))
      ·
        go_simp
        refine hK.out _ _ (hHeld.alloc _) (fun _ => ?_)
        clear hK K
        refine gen_any (fun V => RS w f m V ∧ (Bx V v2.heap.size z4 ∧ w.heap.size + 2 ≤ v2.heap.size)) ⟨hHeld.alloc _, ⟨Bx.new v2 z4 _, hHeld.room⟩⟩ ?_
        clear hHeld
        rintro v3 ⟨hHeld, Na⟩
        refine wpAnyH_ready (rs := [19]) (by kernel_rfl) (by simp) (AllReadyH.cons (o := { dst := some 6, op := _, type := _, pos := _, after := _, guard := none }) rfl (fun K hK => ?_) AllReadyH.nil)
        go_simp
        refine hK.out _ _ (hHeld.alloc _) (fun _ => ?_)
        clear hK K
        refine gen_any (fun V => RS w f m V ∧ (Bx V v3.heap.size z4 ∧ w.heap.size + 2 ≤ v3.heap.size) ∧ (Bx V v2.heap.size z4 ∧ w.heap.size + 2 ≤ v2.heap.size) ∧ v2.heap.size < v3.heap.size) ⟨hHeld.alloc _, ⟨Bx.new v3 z4 _, hHeld.room⟩, ⟨Na.1.alloc _, Na.2⟩, Na.1.1⟩ ?_
        clear hHeld Na
        rintro v4 ⟨hHeld, Nb, Na, ltab⟩
        refine wpAnyH_ready (rs := [20]) (by kernel_rfl) (by simp) (AllReadyH.cons (o := { dst := none, op := _, type := _, pos := _, after := _, guard := none }) rfl (fun K hK => ?_) AllReadyH.nil)
        refine (if_pos (by kernel_rfl)).mpr (wp_store_mid 23 _ _ rfl (v2.heap.size) 0 (tL p).toArray rfl rfl Na.1.there (by kernel_rfl) (tL_one _) ?_)
        refine hK.out _ _ (hHeld.set (b := v2.heap.size) Na.2 (tL p)) (fun _ => ?_)
        clear hK K
        refine gen_any (w1 := v4.setCells (v2.heap.size) 0 (tL p)) (fun V => RS w f m V ∧ (Bx V v2.heap.size (tL p) ∧ w.heap.size + 2 ≤ v2.heap.size) ∧ (Bx V v3.heap.size (z4) ∧ w.heap.size + 2 ≤ v3.heap.size)) ⟨hHeld.set Na.2 (tL p), ⟨Na.1.setAll (tL p) rfl, Na.2⟩, ⟨Nb.1.setOther (b := v2.heap.size) (by omega) (tL p), Nb.2⟩⟩ ?_
        clear hHeld Na Nb
        rintro v5 ⟨hHeld, Na, Nb⟩
        refine wpAnyH_ready (rs := [21]) (by kernel_rfl) (by simp) (AllReadyH.cons (o := { dst := none, op := _, type := _, pos := _, after := _, guard := none }) rfl (fun K hK => ?_) AllReadyH.nil)
        refine (if_pos (by kernel_rfl)).mpr (wp_store_mid 23 _ _ rfl (v3.heap.size) 0 (tL q).toArray rfl rfl Nb.1.there (by kernel_rfl) (tL_one _) ?_)
        refine hK.out _ _ (hHeld.set (b := v3.heap.size) Nb.2 (tL q)) (fun _ => ?_)
        clear hK K
        refine gen_any (w1 := v5.setCells (v3.heap.size) 0 (tL q)) (fun V => RS w f m V ∧ (Bx V v3.heap.size (tL q) ∧ w.heap.size + 2 ≤ v3.heap.size) ∧ (Bx V v2.heap.size (tL p) ∧ w.heap.size + 2 ≤ v2.heap.size)) ⟨hHeld.set Nb.2 (tL q), ⟨Nb.1.setAll (tL q) rfl, Nb.2⟩, ⟨Na.1.setOther (b := v3.heap.size) (by omega) (tL q), Na.2⟩⟩ ?_
        clear hHeld Na Nb
        rintro v6 ⟨hHeld, Nb, Na⟩
        refine wpAnyH_done (by kernel_rfl) ?_ _
        have d0 := Na.1.c 0 rfl
        have e0 := Nb.1.c 0 rfl
        have d1 := Na.1.c 1 rfl
        have e1 := Nb.1.c 1 rfl
        have d2 := Na.1.c 2 rfl
        have e2 := Nb.1.c 2 rfl
        have d3 := Na.1.c 3 rfl
        have e3 := Nb.1.c 3 rfl
        have r0 := hHeld.2.2.2.c 0 rfl
        have s0 := hHeld.2.2.2.f 0 rfl
        have r1 := hHeld.2.2.2.c 1 rfl
        have s1 := hHeld.2.2.2.f 1 rfl
        have r2 := hHeld.2.2.2.c 2 rfl
        have s2 := hHeld.2.2.2.f 2 rfl
        have r3 := hHeld.2.2.2.c 3 rfl
        have s3 := hHeld.2.2.2.f 3 rfl
        have r4 := hHeld.2.2.2.c 4 rfl
        have s4 := hHeld.2.2.2.f 4 rfl
        have r5 := hHeld.2.2.2.c 5 rfl
        have s5 := hHeld.2.2.2.f 5 rfl
        have r6 := hHeld.2.2.2.c 6 rfl
        have s6 := hHeld.2.2.2.f 6 rfl
        have r7 := hHeld.2.2.2.c 7 rfl
        have s7 := hHeld.2.2.2.f 7 rfl
        have HB := hHeld.1
        by_cases hlt : q.t < p.t
        · have hp : Hid (pairL p q = tL q ++ tL p) := if_pos hlt
          have Y := hHeld.2.2.2.setAll (tL q ++ tL p) rfl
          have y0 := Y.c 0 rfl
          have y1 := Y.c 1 rfl
          have y2 := Y.c 2 rfl
          have y3 := Y.c 3 rfl
          have y4 := Y.c 4 rfl
          have y5 := Y.c 5 rfl
          have y6 := Y.c 6 rfl
          have y7 := Y.c 7 rfl
          simp only [World.setCells, tL, List.cons_append, List.nil_append, Nat.zero_add, Nat.reduceAdd] at y0 y1 y2 y3 y4 y5 y6 y7
          have hBB : Hid (Below w.heap.size w (v6.setCells (w.heap.size + 1) 0 (tL q ++ tL p))) := below_setCells (by omega) _ _ _ HB
          clear Y hHeld Na Nb HB
          go_wp2
          refine bodyPost_ret (v := .agg (tL q ++ tL p).toArray) (by simp [results, Tryd.results67, go_sem, y0, y1, y2, y3, y4, y5, y6, y7, tL]) rfl ⟨by rw [hp.out], hBB.out⟩
        · have hp : Hid (pairL p q = tL p ++ tL q) := if_neg hlt
          have Y := hHeld.2.2.2.setAll (tL p ++ tL q) rfl
          have y0 := Y.c 0 rfl
          have y1 := Y.c 1 rfl
          have y2 := Y.c 2 rfl
          have y3 := Y.c 3 rfl
          have y4 := Y.c 4 rfl
          have y5 := Y.c 5 rfl
          have y6 := Y.c 6 rfl
          have y7 := Y.c 7 rfl
          simp only [World.setCells, tL, List.cons_append, List.nil_append, Nat.zero_add, Nat.reduceAdd] at y0 y1 y2 y3 y4 y5 y6 y7
          have hBB : Hid (Below w.heap.size w (v6.setCells (w.heap.size + 1) 0 (tL p ++ tL q))) := below_setCells (by omega) _ _ _ HB
          clear Y hHeld Na Nb HB
          go_wp2
          refine bodyPost_ret (v := .agg (tL p ++ tL q).toArray) (by simp [results, Tryd.results67, go_sem, y0, y1, y2, y3, y4, y5, y6, y7, tL]) rfl ⟨by rw [hp.out], hBB.out⟩
      ·
        go_simp
        refine hK.out _ _ (hHeld.alloc _) (fun _ => ?_)
        clear hK K
        refine gen_any (fun V => RS w f m V ∧ (Bx V v2.heap.size z4 ∧ w.heap.size + 2 ≤ v2.heap.size)) ⟨hHeld.alloc _, ⟨Bx.new v2 z4 _, hHeld.room⟩⟩ ?_
        clear hHeld
        rintro v7 ⟨hHeld, Nb⟩
        refine wpAnyH_ready (rs := [18]) (by kernel_rfl) (by simp) (AllReadyH.cons (o := { dst := some 5, op := _, type := _, pos := _, after := _, guard := none }) rfl (fun K hK => ?_) AllReadyH.nil)
        go_simp
        refine hK.out _ _ (hHeld.alloc _) (fun _ => ?_)
        clear hK K
        refine gen_any (fun V => RS w f m V ∧ (Bx V v7.heap.size z4 ∧ w.heap.size + 2 ≤ v7.heap.size) ∧ (Bx V v2.heap.size z4 ∧ w.heap.size + 2 ≤ v2.heap.size) ∧ v2.heap.size < v7.heap.size) ⟨hHeld.alloc _, ⟨Bx.new v7 z4 _, hHeld.room⟩, ⟨Nb.1.alloc _, Nb.2⟩, Nb.1.1⟩ ?_
        clear hHeld Nb
        rintro v8 ⟨hHeld, Na, Nb, ltba⟩
        refine wpAnyH_ready (rs := [20]) (by kernel_rfl) (by simp) (AllReadyH.cons (o := { dst := none, op := _, type := _, pos := _, after := _, guard := none }) rfl (fun K hK => ?_) AllReadyH.nil)
        refine (if_pos (by kernel_rfl)).mpr (wp_store_mid 23 _ _ rfl (v7.heap.size) 0 (tL p).toArray rfl rfl Na.1.there (by kernel_rfl) (tL_one _) ?_)
        refine hK.out _ _ (hHeld.set (b := v7.heap.size) Na.2 (tL p)) (fun _ => ?_)
        clear hK K
        refine gen_any (w1 := v8.setCells (v7.heap.size) 0 (tL p)) (fun V => RS w f m V ∧ (Bx V v7.heap.size (tL p) ∧ w.heap.size + 2 ≤ v7.heap.size) ∧ (Bx V v2.heap.size (z4) ∧ w.heap.size + 2 ≤ v2.heap.size)) ⟨hHeld.set Na.2 (tL p), ⟨Na.1.setAll (tL p) rfl, Na.2⟩, ⟨Nb.1.setOther (b := v7.heap.size) (by omega) (tL p), Nb.2⟩⟩ ?_
        clear hHeld Na Nb
        rintro v9 ⟨hHeld, Na, Nb⟩
        refine wpAnyH_ready (rs := [21]) (by kernel_rfl) (by simp) (AllReadyH.cons (o := { dst := none, op := _, type := _, pos := _, after := _, guard := none }) rfl (fun K hK => ?_) AllReadyH.nil)
        refine (if_pos (by kernel_rfl)).mpr (wp_store_mid 23 _ _ rfl (v2.heap.size) 0 (tL q).toArray rfl rfl Nb.1.there (by kernel_rfl) (tL_one _) ?_)
        refine hK.out _ _ (hHeld.set (b := v2.heap.size) Nb.2 (tL q)) (fun _ => ?_)
        clear hK K
        refine gen_any (w1 := v9.setCells (v2.heap.size) 0 (tL q)) (fun V => RS w f m V ∧ (Bx V v2.heap.size (tL q) ∧ w.heap.size + 2 ≤ v2.heap.size) ∧ (Bx V v7.heap.size (tL p) ∧ w.heap.size + 2 ≤ v7.heap.size)) ⟨hHeld.set Nb.2 (tL q), ⟨Nb.1.setAll (tL q) rfl, Nb.2⟩, ⟨Na.1.setOther (b := v2.heap.size) (by omega) (tL q), Na.2⟩⟩ ?_
        clear hHeld Na Nb
        rintro v10 ⟨hHeld, Nb, Na⟩
        refine wpAnyH_done (by kernel_rfl) ?_ _
        have d0 := Na.1.c 0 rfl
        have e0 := Nb.1.c 0 rfl
        have d1 := Na.1.c 1 rfl
        have e1 := Nb.1.c 1 rfl
        have d2 := Na.1.c 2 rfl
        have e2 := Nb.1.c 2 rfl
        have d3 := Na.1.c 3 rfl
        have e3 := Nb.1.c 3 rfl
        have r0 := hHeld.2.2.2.c 0 rfl
        have s0 := hHeld.2.2.2.f 0 rfl
        have r1 := hHeld.2.2.2.c 1 rfl
        have s1 := hHeld.2.2.2.f 1 rfl
        have r2 := hHeld.2.2.2.c 2 rfl
        have s2 := hHeld.2.2.2.f 2 rfl
        have r3 := hHeld.2.2.2.c 3 rfl
        have s3 := hHeld.2.2.2.f 3 rfl
        have r4 := hHeld.2.2.2.c 4 rfl
        have s4 := hHeld.2.2.2.f 4 rfl
        have r5 := hHeld.2.2.2.c 5 rfl
        have s5 := hHeld.2.2.2.f 5 rfl
        have r6 := hHeld.2.2.2.c 6 rfl
        have s6 := hHeld.2.2.2.f 6 rfl
        have r7 := hHeld.2.2.2.c 7 rfl
        have s7 := hHeld.2.2.2.f 7 rfl
        have HB := hHeld.1
        by_cases hlt : q.t < p.t
        · have hp : Hid (pairL p q = tL q ++ tL p) := if_pos hlt
          have Y := hHeld.2.2.2.setAll (tL q ++ tL p) rfl
          have y0 := Y.c 0 rfl
          have y1 := Y.c 1 rfl
          have y2 := Y.c 2 rfl
          have y3 := Y.c 3 rfl
          have y4 := Y.c 4 rfl
          have y5 := Y.c 5 rfl
          have y6 := Y.c 6 rfl
          have y7 := Y.c 7 rfl
          simp only [World.setCells, tL, List.cons_append, List.nil_append, Nat.zero_add, Nat.reduceAdd] at y0 y1 y2 y3 y4 y5 y6 y7
          have hBB : Hid (Below w.heap.size w (v10.setCells (w.heap.size + 1) 0 (tL q ++ tL p))) := below_setCells (by omega) _ _ _ HB
          clear Y hHeld Na Nb HB
          go_wp2
          refine bodyPost_ret (v := .agg (tL q ++ tL p).toArray) (by simp [results, Tryd.results67, go_sem, y0, y1, y2, y3, y4, y5, y6, y7, tL]) rfl ⟨by rw [hp.out], hBB.out⟩
        · have hp : Hid (pairL p q = tL p ++ tL q) := if_neg hlt
          have Y := hHeld.2.2.2.setAll (tL p ++ tL q) rfl
          have y0 := Y.c 0 rfl
          have y1 := Y.c 1 rfl
          have y2 := Y.c 2 rfl
          have y3 := Y.c 3 rfl
          have y4 := Y.c 4 rfl
          have y5 := Y.c 5 rfl
          have y6 := Y.c 6 rfl
          have y7 := Y.c 7 rfl
          simp only [World.setCells, tL, List.cons_append, List.nil_append, Nat.zero_add, Nat.reduceAdd] at y0 y1 y2 y3 y4 y5 y6 y7
          have hBB : Hid (Below w.heap.size w (v10.setCells (w.heap.size + 1) 0 (tL p ++ tL q))) := below_setCells (by omega) _ _ _ HB
          clear Y hHeld Na Nb HB
          go_wp2
          refine bodyPost_ret (v := .agg (tL p ++ tL q).toArray) (by simp [results, Tryd.results67, go_sem, y0, y1, y2, y3, y4, y5, y6, y7, tL]) rfl ⟨by rw [hp.out], hBB.out⟩
    ·
      go_simp
      refine hK.out _ _ (hHeld.alloc _) (fun _ => ?_)
      clear hK K
      refine gen_any (fun V => RS w f m V ∧ (Bx V v1.heap.size z4 ∧ w.heap.size + 2 ≤ v1.heap.size)) ⟨hHeld.alloc _, ⟨Bx.new v1 z4 _, hHeld.room⟩⟩ ?_
      clear hHeld
      rintro v11 ⟨hHeld, Na⟩
      refine wpAnyH_ready (rs := [17, 19]) (by kernel_rfl) (by simp) (AllReadyH.cons (o := { dst := some 24, op := _, type := _, pos := _, after := _, guard := none }) rfl (fun K hK => ?_) (AllReadyH.cons (o := { dst := some 6, op := _, type := _, pos := _, after := _, guard := none }) rfl (fun K hK => ?_) AllReadyH.nil))
      ·
        go_simp
        refine (CB.out _ hHeld.lens).mono ?_
        rintro e v12 ⟨rfl, hb12⟩
        have hH12 := hHeld.below hb12
        have Na12 := And.intro (Na.1.below hb12) Na.2
        refine hK.out _ _ hH12 (fun _ => ?_)
        clear hK K hb12 hHeld Na
        have hHeld := hH12; clear hH12
        have Na := Na12; clear Na12
        refine wpAnyH_ready (rs := [19]) (by kernel_rfl) (by simp) (AllReadyH.cons (o := { dst := some 6, op := _, type := _, pos := _, after := _, guard := none }) rfl (fun K hK => ?_) AllReadyH.nil)
        go_simp
        refine hK.out _ _ (hHeld.alloc _) (fun _ => ?_)
        clear hK K
        refine gen_any (fun V => RS w f m V ∧ (Bx V v12.heap.size z4 ∧ w.heap.size + 2 ≤ v12.heap.size) ∧ (Bx V v1.heap.size z4 ∧ w.heap.size + 2 ≤ v1.heap.size) ∧ v1.heap.size < v12.heap.size) ⟨hHeld.alloc _, ⟨Bx.new v12 z4 _, hHeld.room⟩, ⟨Na.1.alloc _, Na.2⟩, Na.1.1⟩ ?_
        clear hHeld Na
        rintro v13 ⟨hHeld, Nb, Na, ltab⟩
        refine wpAnyH_ready (rs := [20]) (by kernel_rfl) (by simp) (AllReadyH.cons (o := { dst := none, op := _, type := _, pos := _, after := _, guard := none }) rfl (fun K hK => ?_) AllReadyH.nil)
        refine (if_pos (by kernel_rfl)).mpr (wp_store_mid 23 _ _ rfl (v1.heap.size) 0 (tL p).toArray rfl rfl Na.1.there (by kernel_rfl) (tL_one _) ?_)
        refine hK.out _ _ (hHeld.set (b := v1.heap.size) Na.2 (tL p)) (fun _ => ?_)
        clear hK K
        refine gen_any (w1 := v13.setCells (v1.heap.size) 0 (tL p)) (fun V => RS w f m V ∧ (Bx V v1.heap.size (tL p) ∧ w.heap.size + 2 ≤ v1.heap.size) ∧ (Bx V v12.heap.size (z4) ∧ w.heap.size + 2 ≤ v12.heap.size)) ⟨hHeld.set Na.2 (tL p), ⟨Na.1.setAll (tL p) rfl, Na.2⟩, ⟨Nb.1.setOther (b := v1.heap.size) (by omega) (tL p), Nb.2⟩⟩ ?_
        clear hHeld Na Nb
        rintro v14 ⟨hHeld, Na, Nb⟩
        refine wpAnyH_ready (rs := [21]) (by kernel_rfl) (by simp) (AllReadyH.cons (o := { dst := none, op := _, type := _, pos := _, after := _, guard := none }) rfl (fun K hK => ?_) AllReadyH.nil)
        refine (if_pos (by kernel_rfl)).mpr (wp_store_mid 23 _ _ rfl (v12.heap.size) 0 (tL q).toArray rfl rfl Nb.1.there (by kernel_rfl) (tL_one _) ?_)
        refine hK.out _ _ (hHeld.set (b := v12.heap.size) Nb.2 (tL q)) (fun _ => ?_)
        clear hK K
        refine gen_any (w1 := v14.setCells (v12.heap.size) 0 (tL q)) (fun V => RS w f m V ∧ (Bx V v12.heap.size (tL q) ∧ w.heap.size + 2 ≤ v12.heap.size) ∧ (Bx V v1.heap.size (tL p) ∧ w.heap.size + 2 ≤ v1.heap.size)) ⟨hHeld.set Nb.2 (tL q), ⟨Nb.1.setAll (tL q) rfl, Nb.2⟩, ⟨Na.1.setOther (b := v12.heap.size) (by omega) (tL q), Na.2⟩⟩ ?_
        clear hHeld Na Nb
        rintro v15 ⟨hHeld, Nb, Na⟩
        refine wpAnyH_done (by kernel_rfl) ?_ _
        have d0 := Na.1.c 0 rfl
        have e0 := Nb.1.c 0 rfl
        have d1 := Na.1.c 1 rfl
        have e1 := Nb.1.c 1 rfl
        have d2 := Na.1.c 2 rfl
        have e2 := Nb.1.c 2 rfl
        have d3 := Na.1.c 3 rfl
        have e3 := Nb.1.c 3 rfl
        have r0 := hHeld.2.2.2.c 0 rfl
        have s0 := hHeld.2.2.2.f 0 rfl
        have r1 := hHeld.2.2.2.c 1 rfl
        have s1 := hHeld.2.2.2.f 1 rfl
        have r2 := hHeld.2.2.2.c 2 rfl
        have s2 := hHeld.2.2.2.f 2 rfl
        have r3 := hHeld.2.2.2.c 3 rfl
        have s3 := hHeld.2.2.2.f 3 rfl
        have r4 := hHeld.2.2.2.c 4 rfl
        have s4 := hHeld.2.2.2.f 4 rfl
        have r5 := hHeld.2.2.2.c 5 rfl
        have s5 := hHeld.2.2.2.f 5 rfl
        have r6 := hHeld.2.2.2.c 6 rfl
        have s6 := hHeld.2.2.2.f 6 rfl
        have r7 := hHeld.2.2.2.c 7 rfl
        have s7 := hHeld.2.2.2.f 7 rfl
        have HB := hHeld.1
        by_cases hlt : q.t < p.t
        · have hp : Hid (pairL p q = tL q ++ tL p) := if_pos hlt
          have Y := hHeld.2.2.2.setAll (tL q ++ tL p) rfl
          have y0 := Y.c 0 rfl
          have y1 := Y.c 1 rfl
          have y2 := Y.c 2 rfl
          have y3 := Y.c 3 rfl
          have y4 := Y.c 4 rfl
          have y5 := Y.c 5 rfl
          have y6 := Y.c 6 rfl
          have y7 := Y.c 7 rfl
          simp only [World.setCells, tL, List.cons_append, List.nil_append, Nat.zero_add, Nat.reduceAdd] at y0 y1 y2 y3 y4 y5 y6 y7
          have hBB : Hid (Below w.heap.size w (v15.setCells (w.heap.size + 1) 0 (tL q ++ tL p))) := below_setCells (by omega) _ _ _ HB
          clear Y hHeld Na Nb HB
          go_wp2
          refine bodyPost_ret (v := .agg (tL q ++ tL p).toArray) (by simp [results, Tryd.results67, go_sem, y0, y1, y2, y3, y4, y5, y6, y7, tL]) rfl ⟨by rw [hp.out], hBB.out⟩
        · have hp : Hid (pairL p q = tL p ++ tL q) := if_neg hlt
          have Y := hHeld.2.2.2.setAll (tL p ++ tL q) rfl
          have y0 := Y.c 0 rfl
          have y1 := Y.c 1 rfl
          have y2 := Y.c 2 rfl
          have y3 := Y.c 3 rfl
          have y4 := Y.c 4 rfl
          have y5 := Y.c 5 rfl
          have y6 := Y.c 6 rfl
          have y7 := Y.c 7 rfl
          simp only [World.setCells, tL, List.cons_append, List.nil_append, Nat.zero_add, Nat.reduceAdd] at y0 y1 y2 y3 y4 y5 y6 y7
          have hBB : Hid (Below w.heap.size w (v15.setCells (w.heap.size + 1) 0 (tL p ++ tL q))) := below_setCells (by omega) _ _ _ HB
          clear Y hHeld Na Nb HB
          go_wp2
          refine bodyPost_ret (v := .agg (tL p ++ tL q).toArray) (by simp [results, Tryd.results67, go_sem, y0, y1, y2, y3, y4, y5, y6, y7, tL]) rfl ⟨by rw [hp.out], hBB.out⟩
      ·
        go_simp
        refine hK.out _ _ (hHeld.alloc _) (fun _ => ?_)
        clear hK K
        refine gen_any (fun V => RS w f m V ∧ (Bx V v11.heap.size z4 ∧ w.heap.size + 2 ≤ v11.heap.size) ∧ (Bx V v1.heap.size z4 ∧ w.heap.size + 2 ≤ v1.heap.size) ∧ v1.heap.size < v11.heap.size) ⟨hHeld.alloc _, ⟨Bx.new v11 z4 _, hHeld.room⟩, ⟨Na.1.alloc _, Na.2⟩, Na.1.1⟩ ?_
        clear hHeld Na
        rintro v16 ⟨hHeld, Nb, Na, ltab⟩
        refine wpAnyH_ready (rs := [17]) (by kernel_rfl) (by simp) (AllReadyH.cons (o := { dst := some 24, op := _, type := _, pos := _, after := _, guard := none }) rfl (fun K hK => ?_) AllReadyH.nil)
        go_simp
        refine (CB.out _ hHeld.lens).mono ?_
        rintro e v17 ⟨rfl, hb17⟩
        have hH17 := hHeld.below hb17
        have Na17 := And.intro (Na.1.below hb17) Na.2
        have Nb17 := And.intro (Nb.1.below hb17) Nb.2
        refine hK.out _ _ hH17 (fun _ => ?_)
        clear hK K hb17 hHeld Na Nb
        have hHeld := hH17; clear hH17
        have Na := Na17; clear Na17
        have Nb := Nb17; clear Nb17
        refine wpAnyH_ready (rs := [20]) (by kernel_rfl) (by simp) (AllReadyH.cons (o := { dst := none, op := _, type := _, pos := _, after := _, guard := none }) rfl (fun K hK => ?_) AllReadyH.nil)
        refine (if_pos (by kernel_rfl)).mpr (wp_store_mid 23 _ _ rfl (v1.heap.size) 0 (tL p).toArray rfl rfl Na.1.there (by kernel_rfl) (tL_one _) ?_)
        refine hK.out _ _ (hHeld.set (b := v1.heap.size) Na.2 (tL p)) (fun _ => ?_)
        clear hK K
        refine gen_any (w1 := v17.setCells (v1.heap.size) 0 (tL p)) (fun V => RS w f m V ∧ (Bx V v1.heap.size (tL p) ∧ w.heap.size + 2 ≤ v1.heap.size) ∧ (Bx V v11.heap.size (z4) ∧ w.heap.size + 2 ≤ v11.heap.size)) ⟨hHeld.set Na.2 (tL p), ⟨Na.1.setAll (tL p) rfl, Na.2⟩, ⟨Nb.1.setOther (b := v1.heap.size) (by omega) (tL p), Nb.2⟩⟩ ?_
        clear hHeld Na Nb
        rintro v18 ⟨hHeld, Na, Nb⟩
        refine wpAnyH_ready (rs := [21]) (by kernel_rfl) (by simp) (AllReadyH.cons (o := { dst := none, op := _, type := _, pos := _, after := _, guard := none }) rfl (fun K hK => ?_) AllReadyH.nil)
        refine (if_pos (by kernel_rfl)).mpr (wp_store_mid 23 _ _ rfl (v11.heap.size) 0 (tL q).toArray rfl rfl Nb.1.there (by kernel_rfl) (tL_one _) ?_)
        refine hK.out _ _ (hHeld.set (b := v11.heap.size) Nb.2 (tL q)) (fun _ => ?_)
        clear hK K
        refine gen_any (w1 := v18.setCells (v11.heap.size) 0 (tL q)) (fun V => RS w f m V ∧ (Bx V v11.heap.size (tL q) ∧ w.heap.size + 2 ≤ v11.heap.size) ∧ (Bx V v1.heap.size (tL p) ∧ w.heap.size + 2 ≤ v1.heap.size)) ⟨hHeld.set Nb.2 (tL q), ⟨Nb.1.setAll (tL q) rfl, Nb.2⟩, ⟨Na.1.setOther (b := v11.heap.size) (by omega) (tL q), Na.2⟩⟩ ?_
        clear hHeld Na Nb
        rintro v19 ⟨hHeld, Nb, Na⟩
        refine wpAnyH_done (by kernel_rfl) ?_ _
        have d0 := Na.1.c 0 rfl
        have e0 := Nb.1.c 0 rfl
        have d1 := Na.1.c 1 rfl
        have e1 := Nb.1.c 1 rfl
        have d2 := Na.1.c 2 rfl
        have e2 := Nb.1.c 2 rfl
        have d3 := Na.1.c 3 rfl
        have e3 := Nb.1.c 3 rfl
        have r0 := hHeld.2.2.2.c 0 rfl
        have s0 := hHeld.2.2.2.f 0 rfl
        have r1 := hHeld.2.2.2.c 1 rfl
        have s1 := hHeld.2.2.2.f 1 rfl
        have r2 := hHeld.2.2.2.c 2 rfl
        have s2 := hHeld.2.2.2.f 2 rfl
        have r3 := hHeld.2.2.2.c 3 rfl
        have s3 := hHeld.2.2.2.f 3 rfl
        have r4 := hHeld.2.2.2.c 4 rfl
        have s4 := hHeld.2.2.2.f 4 rfl
        have r5 := hHeld.2.2.2.c 5 rfl
        have s5 := hHeld.2.2.2.f 5 rfl
        have r6 := hHeld.2.2.2.c 6 rfl
        have s6 := hHeld.2.2.2.f 6 rfl
        have r7 := hHeld.2.2.2.c 7 rfl
        have s7 := hHeld.2.2.2.f 7 rfl
        have HB := hHeld.1
        by_cases hlt : q.t < p.t
        · have hp : Hid (pairL p q = tL q ++ tL p) := if_pos hlt
          have Y := hHeld.2.2.2.setAll (tL q ++ tL p) rfl
          have y0 := Y.c 0 rfl
          have y1 := Y.c 1 rfl
          have y2 := Y.c 2 rfl
          have y3 := Y.c 3 rfl
          have y4 := Y.c 4 rfl
          have y5 := Y.c 5 rfl
          have y6 := Y.c 6 rfl
          have y7 := Y.c 7 rfl
          simp only [World.setCells, tL, List.cons_append, List.nil_append, Nat.zero_add, Nat.reduceAdd] at y0 y1 y2 y3 y4 y5 y6 y7
          have hBB : Hid (Below w.heap.size w (v19.setCells (w.heap.size + 1) 0 (tL q ++ tL p))) := below_setCells (by omega) _ _ _ HB
          clear Y hHeld Na Nb HB
          go_wp2
          refine bodyPost_ret (v := .agg (tL q ++ tL p).toArray) (by simp [results, Tryd.results67, go_sem, y0, y1, y2, y3, y4, y5, y6, y7, tL]) rfl ⟨by rw [hp.out], hBB.out⟩
        · have hp : Hid (pairL p q = tL p ++ tL q) := if_neg hlt
          have Y := hHeld.2.2.2.setAll (tL p ++ tL q) rfl
          have y0 := Y.c 0 rfl
          have y1 := Y.c 1 rfl
          have y2 := Y.c 2 rfl
          have y3 := Y.c 3 rfl
          have y4 := Y.c 4 rfl
          have y5 := Y.c 5 rfl
          have y6 := Y.c 6 rfl
          have y7 := Y.c 7 rfl
          simp only [World.setCells, tL, List.cons_append, List.nil_append, Nat.zero_add, Nat.reduceAdd] at y0 y1 y2 y3 y4 y5 y6 y7
          have hBB : Hid (Below w.heap.size w (v19.setCells (w.heap.size + 1) 0 (tL p ++ tL q))) := below_setCells (by omega) _ _ _ HB
          clear Y hHeld Na Nb HB
          go_wp2
          refine bodyPost_ret (v := .agg (tL p ++ tL q).toArray) (by simp [results, Tryd.results67, go_sem, y0, y1, y2, y3, y4, y5, y6, y7, tL]) rfl ⟨by rw [hp.out], hBB.out⟩
    ·
      go_simp
      refine hK.out _ _ (hHeld.alloc _) (fun _ => ?_)
      clear hK K
      refine gen_any (fun V => RS w f m V ∧ (Bx V v1.heap.size z4 ∧ w.heap.size + 2 ≤ v1.heap.size)) ⟨hHeld.alloc _, ⟨Bx.new v1 z4 _, hHeld.room⟩⟩ ?_
      clear hHeld
      rintro v20 ⟨hHeld, Nb⟩
      refine wpAnyH_ready (rs := [17, 18]) (by kernel_rfl) (by simp) (AllReadyH.cons (o := { dst := some 24, op := _, type := _, pos := _, after := _, guard := none }) rfl (fun K hK => ?_) (AllReadyH.cons (o := { dst := some 5, op := _, type := _, pos := _, after := _, guard := none }) rfl (fun K hK => ?_) AllReadyH.nil))
      ·
        go_simp
        refine (CB.out _ hHeld.lens).mono ?_
        rintro e v21 ⟨rfl, hb21⟩
        have hH21 := hHeld.below hb21
        have Nb21 := And.intro (Nb.1.below hb21) Nb.2
        refine hK.out _ _ hH21 (fun _ => ?_)
        clear hK K hb21 hHeld Nb
        have hHeld := hH21; clear hH21
        have Nb := Nb21; clear Nb21
        refine wpAnyH_ready (rs := [18]) (by kernel_rfl) (by simp) (AllReadyH.cons (o := { dst := some 5, op := _, type := _, pos := _, after := _, guard := none }) rfl (fun K hK => ?_) AllReadyH.nil)
        go_simp
        refine hK.out _ _ (hHeld.alloc _) (fun _ => ?_)
        clear hK K
        refine gen_any (fun V => RS w f m V ∧ (Bx V v21.heap.size z4 ∧ w.heap.size + 2 ≤ v21.heap.size) ∧ (Bx V v1.heap.size z4 ∧ w.heap.size + 2 ≤ v1.heap.size) ∧ v1.heap.size < v21.heap.size) ⟨hHeld.alloc _, ⟨Bx.new v21 z4 _, hHeld.room⟩, ⟨Nb.1.alloc _, Nb.2⟩, Nb.1.1⟩ ?_
        clear hHeld Nb
        rintro v22 ⟨hHeld, Na, Nb, ltba⟩
        refine wpAnyH_ready (rs := [20]) (by kernel_rfl) (by simp) (AllReadyH.cons (o := { dst := none, op := _, type := _, pos := _, after := _, guard := none }) rfl (fun K hK => ?_) AllReadyH.nil)
        refine (if_pos (by kernel_rfl)).mpr (wp_store_mid 23 _ _ rfl (v21.heap.size) 0 (tL p).toArray rfl rfl Na.1.there (by kernel_rfl) (tL_one _) ?_)
        refine hK.out _ _ (hHeld.set (b := v21.heap.size) Na.2 (tL p)) (fun _ => ?_)
        clear hK K
        refine gen_any (w1 := v22.setCells (v21.heap.size) 0 (tL p)) (fun V => RS w f m V ∧ (Bx V v21.heap.size (tL p) ∧ w.heap.size + 2 ≤ v21.heap.size) ∧ (Bx V v1.heap.size (z4) ∧ w.heap.size + 2 ≤ v1.heap.size)) ⟨hHeld.set Na.2 (tL p), ⟨Na.1.setAll (tL p) rfl, Na.2⟩, ⟨Nb.1.setOther (b := v21.heap.size) (by omega) (tL p), Nb.2⟩⟩ ?_
        clear hHeld Na Nb
        rintro v23 ⟨hHeld, Na, Nb⟩
        refine wpAnyH_ready (rs := [21]) (by kernel_rfl) (by simp) (AllReadyH.cons (o := { dst := none, op := _, type := _, pos := _, after := _, guard := none }) rfl (fun K hK => ?_) AllReadyH.nil)
        refine (if_pos (by kernel_rfl)).mpr (wp_store_mid 23 _ _ rfl (v1.heap.size) 0 (tL q).toArray rfl rfl Nb.1.there (by kernel_rfl) (tL_one _) ?_)
        refine hK.out _ _ (hHeld.set (b := v1.heap.size) Nb.2 (tL q)) (fun _ => ?_)
        clear hK K
        refine gen_any (w1 := v23.setCells (v1.heap.size) 0 (tL q)) (fun V => RS w f m V ∧ (Bx V v1.heap.size (tL q) ∧ w.heap.size + 2 ≤ v1.heap.size) ∧ (Bx V v21.heap.size (tL p) ∧ w.heap.size + 2 ≤ v21.heap.size)) ⟨hHeld.set Nb.2 (tL q), ⟨Nb.1.setAll (tL q) rfl, Nb.2⟩, ⟨Na.1.setOther (b := v1.heap.size) (by omega) (tL q), Na.2⟩⟩ ?_
        clear hHeld Na Nb
        rintro v24 ⟨hHeld, Nb, Na⟩
        refine wpAnyH_done (by kernel_rfl) ?_ _
        have d0 := Na.1.c 0 rfl
        have e0 := Nb.1.c 0 rfl
        have d1 := Na.1.c 1 rfl
        have e1 := Nb.1.c 1 rfl
        have d2 := Na.1.c 2 rfl
        have e2 := Nb.1.c 2 rfl
        have d3 := Na.1.c 3 rfl
        have e3 := Nb.1.c 3 rfl
        have r0 := hHeld.2.2.2.c 0 rfl
        have s0 := hHeld.2.2.2.f 0 rfl
        have r1 := hHeld.2.2.2.c 1 rfl
        have s1 := hHeld.2.2.2.f 1 rfl
        have r2 := hHeld.2.2.2.c 2 rfl
        have s2 := hHeld.2.2.2.f 2 rfl
        have r3 := hHeld.2.2.2.c 3 rfl
        have s3 := hHeld.2.2.2.f 3 rfl
        have r4 := hHeld.2.2.2.c 4 rfl
        have s4 := hHeld.2.2.2.f 4 rfl
        have r5 := hHeld.2.2.2.c 5 rfl
        have s5 := hHeld.2.2.2.f 5 rfl
        have r6 := hHeld.2.2.2.c 6 rfl
        have s6 := hHeld.2.2.2.f 6 rfl
        have r7 := hHeld.2.2.2.c 7 rfl
        have s7 := hHeld.2.2.2.f 7 rfl
        have HB := hHeld.1
        by_cases hlt : q.t < p.t
        · have hp : Hid (pairL p q = tL q ++ tL p) := if_pos hlt
          have Y := hHeld.2.2.2.setAll (tL q ++ tL p) rfl
          have y0 := Y.c 0 rfl
          have y1 := Y.c 1 rfl
          have y2 := Y.c 2 rfl
          have y3 := Y.c 3 rfl
          have y4 := Y.c 4 rfl
          have y5 := Y.c 5 rfl
          have y6 := Y.c 6 rfl
          have y7 := Y.c 7 rfl
          simp only [World.setCells, tL, List.cons_append, List.nil_append, Nat.zero_add, Nat.reduceAdd] at y0 y1 y2 y3 y4 y5 y6 y7
          have hBB : Hid (Below w.heap.size w (v24.setCells (w.heap.size + 1) 0 (tL q ++ tL p))) := below_setCells (by omega) _ _ _ HB
          clear Y hHeld Na Nb HB
          go_wp2
          refine bodyPost_ret (v := .agg (tL q ++ tL p).toArray) (by simp [results, Tryd.results67, go_sem, y0, y1, y2, y3, y4, y5, y6, y7, tL]) rfl ⟨by rw [hp.out], hBB.out⟩
        · have hp : Hid (pairL p q = tL p ++ tL q) := if_neg hlt
          have Y := hHeld.2.2.2.setAll (tL p ++ tL q) rfl
          have y0 := Y.c 0 rfl
          have y1 := Y.c 1 rfl
          have y2 := Y.c 2 rfl
          have y3 := Y.c 3 rfl
          have y4 := Y.c 4 rfl
          have y5 := Y.c 5 rfl
          have y6 := Y.c 6 rfl
          have y7 := Y.c 7 rfl
          simp only [World.setCells, tL, List.cons_append, List.nil_append, Nat.zero_add, Nat.reduceAdd] at y0 y1 y2 y3 y4 y5 y6 y7
          have hBB : Hid (Below w.heap.size w (v24.setCells (w.heap.size + 1) 0 (tL p ++ tL q))) := below_setCells (by omega) _ _ _ HB
          clear Y hHeld Na Nb HB
          go_wp2
          refine bodyPost_ret (v := .agg (tL p ++ tL q).toArray) (by simp [results, Tryd.results67, go_sem, y0, y1, y2, y3, y4, y5, y6, y7, tL]) rfl ⟨by rw [hp.out], hBB.out⟩
      ·
        go_simp
        refine hK.out _ _ (hHeld.alloc _) (fun _ => ?_)
        clear hK K
        refine gen_any (fun V => RS w f m V ∧ (Bx V v20.heap.size z4 ∧ w.heap.size + 2 ≤ v20.heap.size) ∧ (Bx V v1.heap.size z4 ∧ w.heap.size + 2 ≤ v1.heap.size) ∧ v1.heap.size < v20.heap.size) ⟨hHeld.alloc _, ⟨Bx.new v20 z4 _, hHeld.room⟩, ⟨Nb.1.alloc _, Nb.2⟩, Nb.1.1⟩ ?_
        clear hHeld Nb
        rintro v25 ⟨hHeld, Na, Nb, ltba⟩
        refine wpAnyH_ready (rs := [17]) (by kernel_rfl) (by simp) (AllReadyH.cons (o := { dst := some 24, op := _, type := _, pos := _, after := _, guard := none }) rfl (fun K hK => ?_) AllReadyH.nil)
        go_simp
        refine (CB.out _ hHeld.lens).mono ?_
        rintro e v26 ⟨rfl, hb26⟩
        have hH26 := hHeld.below hb26
        have Na26 := And.intro (Na.1.below hb26) Na.2
        have Nb26 := And.intro (Nb.1.below hb26) Nb.2
        refine hK.out _ _ hH26 (fun _ => ?_)
        clear hK K hb26 hHeld Na Nb
        have hHeld := hH26; clear hH26
        have Na := Na26; clear Na26
        have Nb := Nb26; clear Nb26
        refine wpAnyH_ready (rs := [20]) (by kernel_rfl) (by simp) (AllReadyH.cons (o := { dst := none, op := _, type := _, pos := _, after := _, guard := none }) rfl (fun K hK => ?_) AllReadyH.nil)
        refine (if_pos (by kernel_rfl)).mpr (wp_store_mid 23 _ _ rfl (v20.heap.size) 0 (tL p).toArray rfl rfl Na.1.there (by kernel_rfl) (tL_one _) ?_)
        refine hK.out _ _ (hHeld.set (b := v20.heap.size) Na.2 (tL p)) (fun _ => ?_)
        clear hK K
        refine gen_any (w1 := v26.setCells (v20.heap.size) 0 (tL p)) (fun V => RS w f m V ∧ (Bx V v20.heap.size (tL p) ∧ w.heap.size + 2 ≤ v20.heap.size) ∧ (Bx V v1.heap.size (z4) ∧ w.heap.size + 2 ≤ v1.heap.size)) ⟨hHeld.set Na.2 (tL p), ⟨Na.1.setAll (tL p) rfl, Na.2⟩, ⟨Nb.1.setOther (b := v20.heap.size) (by omega) (tL p), Nb.2⟩⟩ ?_
        clear hHeld Na Nb
        rintro v27 ⟨hHeld, Na, Nb⟩
        refine wpAnyH_ready (rs := [21]) (by kernel_rfl) (by simp) (AllReadyH.cons (o := { dst := none, op := _, type := _, pos := _, after := _, guard := none }) rfl (fun K hK => ?_) AllReadyH.nil)
        refine (if_pos (by kernel_rfl)).mpr (wp_store_mid 23 _ _ rfl (v1.heap.size) 0 (tL q).toArray rfl rfl Nb.1.there (by kernel_rfl) (tL_one _) ?_)
        refine hK.out _ _ (hHeld.set (b := v1.heap.size) Nb.2 (tL q)) (fun _ => ?_)
        clear hK K
        refine gen_any (w1 := v27.setCells (v1.heap.size) 0 (tL q)) (fun V => RS w f m V ∧ (Bx V v1.heap.size (tL q) ∧ w.heap.size + 2 ≤ v1.heap.size) ∧ (Bx V v20.heap.size (tL p) ∧ w.heap.size + 2 ≤ v20.heap.size)) ⟨hHeld.set Nb.2 (tL q), ⟨Nb.1.setAll (tL q) rfl, Nb.2⟩, ⟨Na.1.setOther (b := v1.heap.size) (by omega) (tL q), Na.2⟩⟩ ?_
        clear hHeld Na Nb
        rintro v28 ⟨hHeld, Nb, Na⟩
        refine wpAnyH_done (by kernel_rfl) ?_ _
        have d0 := Na.1.c 0 rfl
        have e0 := Nb.1.c 0 rfl
        have d1 := Na.1.c 1 rfl
        have e1 := Nb.1.c 1 rfl
        have d2 := Na.1.c 2 rfl
        have e2 := Nb.1.c 2 rfl
        have d3 := Na.1.c 3 rfl
        have e3 := Nb.1.c 3 rfl
        have r0 := hHeld.2.2.2.c 0 rfl
        have s0 := hHeld.2.2.2.f 0 rfl
        have r1 := hHeld.2.2.2.c 1 rfl
        have s1 := hHeld.2.2.2.f 1 rfl
        have r2 := hHeld.2.2.2.c 2 rfl
        have s2 := hHeld.2.2.2.f 2 rfl
        have r3 := hHeld.2.2.2.c 3 rfl
        have s3 := hHeld.2.2.2.f 3 rfl
        have r4 := hHeld.2.2.2.c 4 rfl
        have s4 := hHeld.2.2.2.f 4 rfl
        have r5 := hHeld.2.2.2.c 5 rfl
        have s5 := hHeld.2.2.2.f 5 rfl
        have r6 := hHeld.2.2.2.c 6 rfl
        have s6 := hHeld.2.2.2.f 6 rfl
        have r7 := hHeld.2.2.2.c 7 rfl
        have s7 := hHeld.2.2.2.f 7 rfl
        have HB := hHeld.1
        by_cases hlt : q.t < p.t
        · have hp : Hid (pairL p q = tL q ++ tL p) := if_pos hlt
          have Y := hHeld.2.2.2.setAll (tL q ++ tL p) rfl
          have y0 := Y.c 0 rfl
          have y1 := Y.c 1 rfl
          have y2 := Y.c 2 rfl
          have y3 := Y.c 3 rfl
          have y4 := Y.c 4 rfl
          have y5 := Y.c 5 rfl
          have y6 := Y.c 6 rfl
          have y7 := Y.c 7 rfl
          simp only [World.setCells, tL, List.cons_append, List.nil_append, Nat.zero_add, Nat.reduceAdd] at y0 y1 y2 y3 y4 y5 y6 y7
          have hBB : Hid (Below w.heap.size w (v28.setCells (w.heap.size + 1) 0 (tL q ++ tL p))) := below_setCells (by omega) _ _ _ HB
          clear Y hHeld Na Nb HB
          go_wp2
          refine bodyPost_ret (v := .agg (tL q ++ tL p).toArray) (by simp [results, Tryd.results67, go_sem, y0, y1, y2, y3, y4, y5, y6, y7, tL]) rfl ⟨by rw [hp.out], hBB.out⟩
        · have hp : Hid (pairL p q = tL p ++ tL q) := if_neg hlt
          have Y := hHeld.2.2.2.setAll (tL p ++ tL q) rfl
          have y0 := Y.c 0 rfl
          have y1 := Y.c 1 rfl
          have y2 := Y.c 2 rfl
          have y3 := Y.c 3 rfl
          have y4 := Y.c 4 rfl
          have y5 := Y.c 5 rfl
          have y6 := Y.c 6 rfl
          have y7 := Y.c 7 rfl
          simp only [World.setCells, tL, List.cons_append, List.nil_append, Nat.zero_add, Nat.reduceAdd] at y0 y1 y2 y3 y4 y5 y6 y7
          have hBB : Hid (Below w.heap.size w (v28.setCells (w.heap.size + 1) 0 (tL p ++ tL q))) := below_setCells (by omega) _ _ _ HB
          clear Y hHeld Na Nb HB
          go_wp2
          refine bodyPost_ret (v := .agg (tL p ++ tL q).toArray) (by simp [results, Tryd.results67, go_sem, y0, y1, y2, y3, y4, y5, y6, y7, tL]) rfl ⟨by rw [hp.out], hBB.out⟩
  ·
    go_simp
    refine hK.out _ _ (hHeld.alloc _) (fun _ => ?_)
    clear hK K
    refine gen_any (fun V => RS w f m V ∧ (Bx V v0.heap.size z4 ∧ w.heap.size + 2 ≤ v0.heap.size)) ⟨hHeld.alloc _, ⟨Bx.new v0 z4 _, hHeld.room⟩⟩ ?_
    clear hHeld
    rintro v29 ⟨hHeld, Na⟩
    refine wpAnyH_ready (rs := [8, 19]) (by kernel_rfl) (by simp) (AllReadyH.cons (o := { dst := some 15, op := _, type := _, pos := _, after := _, guard := none }) rfl (fun K hK => ?_) (AllReadyH.cons (o := { dst := some 6, op := _, type := _, pos := _, after := _, guard := none }) rfl (fun K hK => ?_) AllReadyH.nil))
    ·
      go_simp
      refine (CA.out _ hHeld.lens).mono ?_
      rintro e v30 ⟨rfl, hb30⟩
      have hH30 := hHeld.below hb30
      have Na30 := And.intro (Na.1.below hb30) Na.2
      refine hK.out _ _ hH30 (fun _ => ?_)
      clear hK K hb30 hHeld Na
      have hHeld := hH30; clear hH30
      have Na := Na30; clear Na30
      refine wpAnyH_ready (rs := [17, 19]) (by kernel_rfl) (by simp) (AllReadyH.cons (o := { dst := some 24, op := _, type := _, pos := _, after := _, guard := none }) rfl (fun K hK => ?_) (AllReadyH.cons (o := { dst := some 6, op := _, type := _, pos := _, after := _, guard := none }) rfl (fun K hK => ?_) AllReadyH.nil))
      ·
        go_simp
        refine (CB.out _ hHeld.lens).mono ?_
        rintro e v31 ⟨rfl, hb31⟩
        have hH31 := hHeld.below hb31
        have Na31 := And.intro (Na.1.below hb31) Na.2
        refine hK.out _ _ hH31 (fun _ => ?_)
        clear hK K hb31 hHeld Na
        have hHeld := hH31; clear hH31
        have Na := Na31; clear Na31
        refine wpAnyH_ready (rs := [19]) (by kernel_rfl) (by simp) (AllReadyH.cons (o := { dst := some 6, op := _, type := _, pos := _, after := _, guard := none }) rfl (fun K hK => ?_) AllReadyH.nil)
        go_simp
        refine hK.out _ _ (hHeld.alloc _) (fun _ => ?_)
        clear hK K
        refine gen_any (fun V => RS w f m V ∧ (Bx V v31.heap.size z4 ∧ w.heap.size + 2 ≤ v31.heap.size) ∧ (Bx V v0.heap.size z4 ∧ w.heap.size + 2 ≤ v0.heap.size) ∧ v0.heap.size < v31.heap.size) ⟨hHeld.alloc _, ⟨Bx.new v31 z4 _, hHeld.room⟩, ⟨Na.1.alloc _, Na.2⟩, Na.1.1⟩ ?_
        clear hHeld Na
        rintro v32 ⟨hHeld, Nb, Na, ltab⟩
        refine wpAnyH_ready (rs := [20]) (by kernel_rfl) (by simp) (AllReadyH.cons (o := { dst := none, op := _, type := _, pos := _, after := _, guard := none }) rfl (fun K hK => ?_) AllReadyH.nil)
        refine (if_pos (by kernel_rfl)).mpr (wp_store_mid 23 _ _ rfl (v0.heap.size) 0 (tL p).toArray rfl rfl Na.1.there (by kernel_rfl) (tL_one _) ?_)
        refine hK.out _ _ (hHeld.set (b := v0.heap.size) Na.2 (tL p)) (fun _ => ?_)
        clear hK K
        refine gen_any (w1 := v32.setCells (v0.heap.size) 0 (tL p)) (fun V => RS w f m V ∧ (Bx V v0.heap.size (tL p) ∧ w.heap.size + 2 ≤ v0.heap.size) ∧ (Bx V v31.heap.size (z4) ∧ w.heap.size + 2 ≤ v31.heap.size)) ⟨hHeld.set Na.2 (tL p), ⟨Na.1.setAll (tL p) rfl, Na.2⟩, ⟨Nb.1.setOther (b := v0.heap.size) (by omega) (tL p), Nb.2⟩⟩ ?_
        clear hHeld Na Nb
        rintro v33 ⟨hHeld, Na, Nb⟩
        refine wpAnyH_ready (rs := [21]) (by kernel_rfl) (by simp) (AllReadyH.cons (o := { dst := none, op := _, type := _, pos := _, after := _, guard := none }) rfl (fun K hK => ?_) AllReadyH.nil)
        refine (if_pos (by kernel_rfl)).mpr (wp_store_mid 23 _ _ rfl (v31.heap.size) 0 (tL q).toArray rfl rfl Nb.1.there (by kernel_rfl) (tL_one _) ?_)
        refine hK.out _ _ (hHeld.set (b := v31.heap.size) Nb.2 (tL q)) (fun _ => ?_)
        clear hK K
        refine gen_any (w1 := v33.setCells (v31.heap.size) 0 (tL q)) (fun V => RS w f m V ∧ (Bx V v31.heap.size (tL q) ∧ w.heap.size + 2 ≤ v31.heap.size) ∧ (Bx V v0.heap.size (tL p) ∧ w.heap.size + 2 ≤ v0.heap.size)) ⟨hHeld.set Nb.2 (tL q), ⟨Nb.1.setAll (tL q) rfl, Nb.2⟩, ⟨Na.1.setOther (b := v31.heap.size) (by omega) (tL q), Na.2⟩⟩ ?_
        clear hHeld Na Nb
        rintro v34 ⟨hHeld, Nb, Na⟩
        refine wpAnyH_done (by kernel_rfl) ?_ _
        have d0 := Na.1.c 0 rfl
        have e0 := Nb.1.c 0 rfl
        have d1 := Na.1.c 1 rfl
        have e1 := Nb.1.c 1 rfl
        have d2 := Na.1.c 2 rfl
        have e2 := Nb.1.c 2 rfl
        have d3 := Na.1.c 3 rfl
        have e3 := Nb.1.c 3 rfl
        have r0 := hHeld.2.2.2.c 0 rfl
        have s0 := hHeld.2.2.2.f 0 rfl
        have r1 := hHeld.2.2.2.c 1 rfl
        have s1 := hHeld.2.2.2.f 1 rfl
        have r2 := hHeld.2.2.2.c 2 rfl
        have s2 := hHeld.2.2.2.f 2 rfl
        have r3 := hHeld.2.2.2.c 3 rfl
        have s3 := hHeld.2.2.2.f 3 rfl
        have r4 := hHeld.2.2.2.c 4 rfl
        have s4 := hHeld.2.2.2.f 4 rfl
        have r5 := hHeld.2.2.2.c 5 rfl
        have s5 := hHeld.2.2.2.f 5 rfl
        have r6 := hHeld.2.2.2.c 6 rfl
        have s6 := hHeld.2.2.2.f 6 rfl
        have r7 := hHeld.2.2.2.c 7 rfl
        have s7 := hHeld.2.2.2.f 7 rfl
        have HB := hHeld.1
        by_cases hlt : q.t < p.t
        · have hp : Hid (pairL p q = tL q ++ tL p) := if_pos hlt
          have Y := hHeld.2.2.2.setAll (tL q ++ tL p) rfl
          have y0 := Y.c 0 rfl
          have y1 := Y.c 1 rfl
          have y2 := Y.c 2 rfl
          have y3 := Y.c 3 rfl
          have y4 := Y.c 4 rfl
          have y5 := Y.c 5 rfl
          have y6 := Y.c 6 rfl
          have y7 := Y.c 7 rfl
          simp only [World.setCells, tL, List.cons_append, List.nil_append, Nat.zero_add, Nat.reduceAdd] at y0 y1 y2 y3 y4 y5 y6 y7
          have hBB : Hid (Below w.heap.size w (v34.setCells (w.heap.size + 1) 0 (tL q ++ tL p))) := below_setCells (by omega) _ _ _ HB
          clear Y hHeld Na Nb HB
          go_wp2
          refine bodyPost_ret (v := .agg (tL q ++ tL p).toArray) (by simp [results, Tryd.results67, go_sem, y0, y1, y2, y3, y4, y5, y6, y7, tL]) rfl ⟨by rw [hp.out], hBB.out⟩
        · have hp : Hid (pairL p q = tL p ++ tL q) := if_neg hlt
          have Y := hHeld.2.2.2.setAll (tL p ++ tL q) rfl
          have y0 := Y.c 0 rfl
          have y1 := Y.c 1 rfl
          have y2 := Y.c 2 rfl
          have y3 := Y.c 3 rfl
          have y4 := Y.c 4 rfl
          have y5 := Y.c 5 rfl
          have y6 := Y.c 6 rfl
          have y7 := Y.c 7 rfl
          simp only [World.setCells, tL, List.cons_append, List.nil_append, Nat.zero_add, Nat.reduceAdd] at y0 y1 y2 y3 y4 y5 y6 y7
          have hBB : Hid (Below w.heap.size w (v34.setCells (w.heap.size + 1) 0 (tL p ++ tL q))) := below_setCells (by omega) _ _ _ HB
          clear Y hHeld Na Nb HB
          go_wp2
          refine bodyPost_ret (v := .agg (tL p ++ tL q).toArray) (by simp [results, Tryd.results67, go_sem, y0, y1, y2, y3, y4, y5, y6, y7, tL]) rfl ⟨by rw [hp.out], hBB.out⟩
      ·
        go_simp
        refine hK.out _ _ (hHeld.alloc _) (fun _ => ?_)
        clear hK K
        refine gen_any (fun V => RS w f m V ∧ (Bx V v30.heap.size z4 ∧ w.heap.size + 2 ≤ v30.heap.size) ∧ (Bx V v0.heap.size z4 ∧ w.heap.size + 2 ≤ v0.heap.size) ∧ v0.heap.size < v30.heap.size) ⟨hHeld.alloc _, ⟨Bx.new v30 z4 _, hHeld.room⟩, ⟨Na.1.alloc _, Na.2⟩, Na.1.1⟩ ?_
        clear hHeld Na
        rintro v35 ⟨hHeld, Nb, Na, ltab⟩
        refine wpAnyH_ready (rs := [17]) (by kernel_rfl) (by simp) (AllReadyH.cons (o := { dst := some 24, op := _, type := _, pos := _, after := _, guard := none }) rfl (fun K hK => ?_) AllReadyH.nil)
        go_simp
        refine (CB.out _ hHeld.lens).mono ?_
        rintro e v36 ⟨rfl, hb36⟩
        have hH36 := hHeld.below hb36
        have Na36 := And.intro (Na.1.below hb36) Na.2
        have Nb36 := And.intro (Nb.1.below hb36) Nb.2
        refine hK.out _ _ hH36 (fun _ => ?_)
        clear hK K hb36 hHeld Na Nb
        have hHeld := hH36; clear hH36
        have Na := Na36; clear Na36
        have Nb := Nb36; clear Nb36
        refine wpAnyH_ready (rs := [20]) (by kernel_rfl) (by simp) (AllReadyH.cons (o := { dst := none, op := _, type := _, pos := _, after := _, guard := none }) rfl (fun K hK => ?_) AllReadyH.nil)
        refine (if_pos (by kernel_rfl)).mpr (wp_store_mid 23 _ _ rfl (v0.heap.size) 0 (tL p).toArray rfl rfl Na.1.there (by kernel_rfl) (tL_one _) ?_)
        refine hK.out _ _ (hHeld.set (b := v0.heap.size) Na.2 (tL p)) (fun _ => ?_)
        clear hK K
        refine gen_any (w1 := v36.setCells (v0.heap.size) 0 (tL p)) (fun V => RS w f m V ∧ (Bx V v0.heap.size (tL p) ∧ w.heap.size + 2 ≤ v0.heap.size) ∧ (Bx V v30.heap.size (z4) ∧ w.heap.size + 2 ≤ v30.heap.size)) ⟨hHeld.set Na.2 (tL p), ⟨Na.1.setAll (tL p) rfl, Na.2⟩, ⟨Nb.1.setOther (b := v0.heap.size) (by omega) (tL p), Nb.2⟩⟩ ?_
        clear hHeld Na Nb
        rintro v37 ⟨hHeld, Na, Nb⟩
        refine wpAnyH_ready (rs := [21]) (by kernel_rfl) (by simp) (AllReadyH.cons (o := { dst := none, op := _, type := _, pos := _, after := _, guard := none }) rfl (fun K hK => ?_) AllReadyH.nil)
        refine (if_pos (by kernel_rfl)).mpr (wp_store_mid 23 _ _ rfl (v30.heap.size) 0 (tL q).toArray rfl rfl Nb.1.there (by kernel_rfl) (tL_one _) ?_)
        refine hK.out _ _ (hHeld.set (b := v30.heap.size) Nb.2 (tL q)) (fun _ => ?_)
        clear hK K
        refine gen_any (w1 := v37.setCells (v30.heap.size) 0 (tL q)) (fun V => RS w f m V ∧ (Bx V v30.heap.size (tL q) ∧ w.heap.size + 2 ≤ v30.heap.size) ∧ (Bx V v0.heap.size (tL p) ∧ w.heap.size + 2 ≤ v0.heap.size)) ⟨hHeld.set Nb.2 (tL q), ⟨Nb.1.setAll (tL q) rfl, Nb.2⟩, ⟨Na.1.setOther (b := v30.heap.size) (by omega) (tL q), Na.2⟩⟩ ?_
        clear hHeld Na Nb
        rintro v38 ⟨hHeld, Nb, Na⟩
        refine wpAnyH_done (by kernel_rfl) ?_ _
        have d0 := Na.1.c 0 rfl
        have e0 := Nb.1.c 0 rfl
        have d1 := Na.1.c 1 rfl
        have e1 := Nb.1.c 1 rfl
        have d2 := Na.1.c 2 rfl
        have e2 := Nb.1.c 2 rfl
        have d3 := Na.1.c 3 rfl
        have e3 := Nb.1.c 3 rfl
        have r0 := hHeld.2.2.2.c 0 rfl
        have s0 := hHeld.2.2.2.f 0 rfl
        have r1 := hHeld.2.2.2.c 1 rfl
        have s1 := hHeld.2.2.2.f 1 rfl
        have r2 := hHeld.2.2.2.c 2 rfl
        have s2 := hHeld.2.2.2.f 2 rfl
        have r3 := hHeld.2.2.2.c 3 rfl
        have s3 := hHeld.2.2.2.f 3 rfl
        have r4 := hHeld.2.2.2.c 4 rfl
        have s4 := hHeld.2.2.2.f 4 rfl
        have r5 := hHeld.2.2.2.c 5 rfl
        have s5 := hHeld.2.2.2.f 5 rfl
        have r6 := hHeld.2.2.2.c 6 rfl
        have s6 := hHeld.2.2.2.f 6 rfl
        have r7 := hHeld.2.2.2.c 7 rfl
        have s7 := hHeld.2.2.2.f 7 rfl
        have HB := hHeld.1
        by_cases hlt : q.t < p.t
        · have hp : Hid (pairL p q = tL q ++ tL p) := if_pos hlt
          have Y := hHeld.2.2.2.setAll (tL q ++ tL p) rfl
          have y0 := Y.c 0 rfl
          have y1 := Y.c 1 rfl
          have y2 := Y.c 2 rfl
          have y3 := Y.c 3 rfl
          have y4 := Y.c 4 rfl
          have y5 := Y.c 5 rfl
          have y6 := Y.c 6 rfl
          have y7 := Y.c 7 rfl
          simp only [World.setCells, tL, List.cons_append, List.nil_append, Nat.zero_add, Nat.reduceAdd] at y0 y1 y2 y3 y4 y5 y6 y7
          have hBB : Hid (Below w.heap.size w (v38.setCells (w.heap.size + 1) 0 (tL q ++ tL p))) := below_setCells (by omega) _ _ _ HB
          clear Y hHeld Na Nb HB
          go_wp2
          refine bodyPost_ret (v := .agg (tL q ++ tL p).toArray) (by simp [results, Tryd.results67, go_sem, y0, y1, y2, y3, y4, y5, y6, y7, tL]) rfl ⟨by rw [hp.out], hBB.out⟩
        · have hp : Hid (pairL p q = tL p ++ tL q) := if_neg hlt
          have Y := hHeld.2.2.2.setAll (tL p ++ tL q) rfl
          have y0 := Y.c 0 rfl
          have y1 := Y.c 1 rfl
          have y2 := Y.c 2 rfl
          have y3 := Y.c 3 rfl
          have y4 := Y.c 4 rfl
          have y5 := Y.c 5 rfl
          have y6 := Y.c 6 rfl
          have y7 := Y.c 7 rfl
          simp only [World.setCells, tL, List.cons_append, List.nil_append, Nat.zero_add, Nat.reduceAdd] at y0 y1 y2 y3 y4 y5 y6 y7
          have hBB : Hid (Below w.heap.size w (v38.setCells (w.heap.size + 1) 0 (tL p ++ tL q))) := below_setCells (by omega) _ _ _ HB
          clear Y hHeld Na Nb HB
          go_wp2
          refine bodyPost_ret (v := .agg (tL p ++ tL q).toArray) (by simp [results, Tryd.results67, go_sem, y0, y1, y2, y3, y4, y5, y6, y7, tL]) rfl ⟨by rw [hp.out], hBB.out⟩
    ·
      go_simp
      refine hK.out _ _ (hHeld.alloc _) (fun _ => ?_)
      clear hK K
      refine gen_any (fun V => RS w f m V ∧ (Bx V v29.heap.size z4 ∧ w.heap.size + 2 ≤ v29.heap.size) ∧ (Bx V v0.heap.size z4 ∧ w.heap.size + 2 ≤ v0.heap.size) ∧ v0.heap.size < v29.heap.size) ⟨hHeld.alloc _, ⟨Bx.new v29 z4 _, hHeld.room⟩, ⟨Na.1.alloc _, Na.2⟩, Na.1.1⟩ ?_
      clear hHeld Na
      rintro v39 ⟨hHeld, Nb, Na, ltab⟩
      refine wpAnyH_ready (rs := [8]) (by kernel_rfl) (by simp) (AllReadyH.cons (o := { dst := some 15, op := _, type := _, pos := _, after := _, guard := none }) rfl (fun K hK => ?_) AllReadyH.nil)
      go_simp
      refine (CA.out _ hHeld.lens).mono ?_
      rintro e v40 ⟨rfl, hb40⟩
      have hH40 := hHeld.below hb40
      have Na40 := And.intro (Na.1.below hb40) Na.2
      have Nb40 := And.intro (Nb.1.below hb40) Nb.2
      refine hK.out _ _ hH40 (fun _ => ?_)
      clear hK K hb40 hHeld Na Nb
      have hHeld := hH40; clear hH40
      have Na := Na40; clear Na40
      have Nb := Nb40; clear Nb40
      refine wpAnyH_ready (rs := [17]) (by kernel_rfl) (by simp) (AllReadyH.cons (o := { dst := some 24, op := _, type := _, pos := _, after := _, guard := none }) rfl (fun K hK => ?_) AllReadyH.nil)
      go_simp
      refine (CB.out _ hHeld.lens).mono ?_
      rintro e v41 ⟨rfl, hb41⟩
      have hH41 := hHeld.below hb41
      have Na41 := And.intro (Na.1.below hb41) Na.2
      have Nb41 := And.intro (Nb.1.below hb41) Nb.2
      refine hK.out _ _ hH41 (fun _ => ?_)
      clear hK K hb41 hHeld Na Nb
      have hHeld := hH41; clear hH41
      have Na := Na41; clear Na41
      have Nb := Nb41; clear Nb41
      refine wpAnyH_ready (rs := [20]) (by kernel_rfl) (by simp) (AllReadyH.cons (o := { dst := none, op := _, type := _, pos := _, after := _, guard := none }) rfl (fun K hK => ?_) AllReadyH.nil)
      refine (if_pos (by kernel_rfl)).mpr (wp_store_mid 23 _ _ rfl (v0.heap.size) 0 (tL p).toArray rfl rfl Na.1.there (by kernel_rfl) (tL_one _) ?_)
      refine hK.out _ _ (hHeld.set (b := v0.heap.size) Na.2 (tL p)) (fun _ => ?_)
      clear hK K
      refine gen_any (w1 := v41.setCells (v0.heap.size) 0 (tL p)) (fun V => RS w f m V ∧ (Bx V v0.heap.size (tL p) ∧ w.heap.size + 2 ≤ v0.heap.size) ∧ (Bx V v29.heap.size (z4) ∧ w.heap.size + 2 ≤ v29.heap.size)) ⟨hHeld.set Na.2 (tL p), ⟨Na.1.setAll (tL p) rfl, Na.2⟩, ⟨Nb.1.setOther (b := v0.heap.size) (by omega) (tL p), Nb.2⟩⟩ ?_
      clear hHeld Na Nb
      rintro v42 ⟨hHeld, Na, Nb⟩
      refine wpAnyH_ready (rs := [21]) (by kernel_rfl) (by simp) (AllReadyH.cons (o := { dst := none, op := _, type := _, pos := _, after := _, guard := none }) rfl (fun K hK => ?_) AllReadyH.nil)
      refine (if_pos (by kernel_rfl)).mpr (wp_store_mid 23 _ _ rfl (v29.heap.size) 0 (tL q).toArray rfl rfl Nb.1.there (by kernel_rfl) (tL_one _) ?_)
      refine hK.out _ _ (hHeld.set (b := v29.heap.size) Nb.2 (tL q)) (fun _ => ?_)
      clear hK K
      refine gen_any (w1 := v42.setCells (v29.heap.size) 0 (tL q)) (fun V => RS w f m V ∧ (Bx V v29.heap.size (tL q) ∧ w.heap.size + 2 ≤ v29.heap.size) ∧ (Bx V v0.heap.size (tL p) ∧ w.heap.size + 2 ≤ v0.heap.size)) ⟨hHeld.set Nb.2 (tL q), ⟨Nb.1.setAll (tL q) rfl, Nb.2⟩, ⟨Na.1.setOther (b := v29.heap.size) (by omega) (tL q), Na.2⟩⟩ ?_
      clear hHeld Na Nb
      rintro v43 ⟨hHeld, Nb, Na⟩
      refine wpAnyH_done (by kernel_rfl) ?_ _
      have d0 := Na.1.c 0 rfl
      have e0 := Nb.1.c 0 rfl
      have d1 := Na.1.c 1 rfl
      have e1 := Nb.1.c 1 rfl
      have d2 := Na.1.c 2 rfl
      have e2 := Nb.1.c 2 rfl
      have d3 := Na.1.c 3 rfl
      have e3 := Nb.1.c 3 rfl
      have r0 := hHeld.2.2.2.c 0 rfl
      have s0 := hHeld.2.2.2.f 0 rfl
      have r1 := hHeld.2.2.2.c 1 rfl
      have s1 := hHeld.2.2.2.f 1 rfl
      have r2 := hHeld.2.2.2.c 2 rfl
      have s2 := hHeld.2.2.2.f 2 rfl
      have r3 := hHeld.2.2.2.c 3 rfl
      have s3 := hHeld.2.2.2.f 3 rfl
      have r4 := hHeld.2.2.2.c 4 rfl
      have s4 := hHeld.2.2.2.f 4 rfl
      have r5 := hHeld.2.2.2.c 5 rfl
      have s5 := hHeld.2.2.2.f 5 rfl
      have r6 := hHeld.2.2.2.c 6 rfl
      have s6 := hHeld.2.2.2.f 6 rfl
      have r7 := hHeld.2.2.2.c 7 rfl
      have s7 := hHeld.2.2.2.f 7 rfl
      have HB := hHeld.1
      by_cases hlt : q.t < p.t
      · have hp : Hid (pairL p q = tL q ++ tL p) := if_pos hlt
        have Y := hHeld.2.2.2.setAll (tL q ++ tL p) rfl
        have y0 := Y.c 0 rfl
        have y1 := Y.c 1 rfl
        have y2 := Y.c 2 rfl
        have y3 := Y.c 3 rfl
        have y4 := Y.c 4 rfl
        have y5 := Y.c 5 rfl
        have y6 := Y.c 6 rfl
        have y7 := Y.c 7 rfl
        simp only [World.setCells, tL, List.cons_append, List.nil_append, Nat.zero_add, Nat.reduceAdd] at y0 y1 y2 y3 y4 y5 y6 y7
        have hBB : Hid (Below w.heap.size w (v43.setCells (w.heap.size + 1) 0 (tL q ++ tL p))) := below_setCells (by omega) _ _ _ HB
        clear Y hHeld Na Nb HB
        go_wp2
        refine bodyPost_ret (v := .agg (tL q ++ tL p).toArray) (by simp [results, Tryd.results67, go_sem, y0, y1, y2, y3, y4, y5, y6, y7, tL]) rfl ⟨by rw [hp.out], hBB.out⟩
      · have hp : Hid (pairL p q = tL p ++ tL q) := if_neg hlt
        have Y := hHeld.2.2.2.setAll (tL p ++ tL q) rfl
        have y0 := Y.c 0 rfl
        have y1 := Y.c 1 rfl
        have y2 := Y.c 2 rfl
        have y3 := Y.c 3 rfl
        have y4 := Y.c 4 rfl
        have y5 := Y.c 5 rfl
        have y6 := Y.c 6 rfl
        have y7 := Y.c 7 rfl
        simp only [World.setCells, tL, List.cons_append, List.nil_append, Nat.zero_add, Nat.reduceAdd] at y0 y1 y2 y3 y4 y5 y6 y7
        have hBB : Hid (Below w.heap.size w (v43.setCells (w.heap.size + 1) 0 (tL p ++ tL q))) := below_setCells (by omega) _ _ _ HB
        clear Y hHeld Na Nb HB
        go_wp2
        refine bodyPost_ret (v := .agg (tL p ++ tL q).toArray) (by simp [results, Tryd.results67, go_sem, y0, y1, y2, y3, y4, y5, y6, y7, tL]) rfl ⟨by rw [hp.out], hBB.out⟩
  ·
    go_simp
    refine hK.out _ _ (hHeld.alloc _) (fun _ => ?_)
    clear hK K
    refine gen_any (fun V => RS w f m V ∧ (Bx V v0.heap.size z4 ∧ w.heap.size + 2 ≤ v0.heap.size)) ⟨hHeld.alloc _, ⟨Bx.new v0 z4 _, hHeld.room⟩⟩ ?_
    clear hHeld
    rintro v44 ⟨hHeld, Nb⟩
    refine wpAnyH_ready (rs := [8, 18]) (by kernel_rfl) (by simp) (AllReadyH.cons (o := { dst := some 15, op := _, type := _, pos := _, after := _, guard := none }) rfl (fun K hK => ?_) (AllReadyH.cons (o := { dst := some 5, op := _, type := _, pos := _, after := _, guard := none }) rfl (fun K hK => ?_) AllReadyH.nil))
    ·
      go_simp
      refine (CA.out _ hHeld.lens).mono ?_
      rintro e v45 ⟨rfl, hb45⟩
      have hH45 := hHeld.below hb45
      have Nb45 := And.intro (Nb.1.below hb45) Nb.2
      refine hK.out _ _ hH45 (fun _ => ?_)
      clear hK K hb45 hHeld Nb
      have hHeld := hH45; clear hH45
      have Nb := Nb45; clear Nb45
      refine wpAnyH_ready (rs := [17, 18]) (by kernel_rfl) (by simp) (AllReadyH.cons (o := { dst := some 24, op := _, type := _, pos := _, after := _, guard := none }) rfl (fun K hK => ?_) (AllReadyH.cons (o := { dst := some 5, op := _, type := _, pos := _, after := _, guard := none }) rfl (fun K hK => ?_) AllReadyH.nil))
      ·
        go_simp
        refine (CB.out _ hHeld.lens).mono ?_
        rintro e v46 ⟨rfl, hb46⟩
        have hH46 := hHeld.below hb46
        have Nb46 := And.intro (Nb.1.below hb46) Nb.2
        refine hK.out _ _ hH46 (fun _ => ?_)
        clear hK K hb46 hHeld Nb
        have hHeld := hH46; clear hH46
        have Nb := Nb46; clear Nb46
        refine wpAnyH_ready (rs := [18]) (by kernel_rfl) (by simp) (AllReadyH.cons (o := { dst := some 5, op := _, type := _, pos := _, after := _, guard := none }) rfl (fun K hK => ?_) AllReadyH.nil)
        go_simp
        refine hK.out _ _ (hHeld.alloc _) (fun _ => ?_)
        clear hK K
        refine gen_any (fun V => RS w f m V ∧ (Bx V v46.heap.size z4 ∧ w.heap.size + 2 ≤ v46.heap.size) ∧ (Bx V v0.heap.size z4 ∧ w.heap.size + 2 ≤ v0.heap.size) ∧ v0.heap.size < v46.heap.size) ⟨hHeld.alloc _, ⟨Bx.new v46 z4 _, hHeld.room⟩, ⟨Nb.1.alloc _, Nb.2⟩, Nb.1.1⟩ ?_
        clear hHeld Nb
        rintro v47 ⟨hHeld, Na, Nb, ltba⟩
        refine wpAnyH_ready (rs := [20]) (by kernel_rfl) (by simp) (AllReadyH.cons (o := { dst := none, op := _, type := _, pos := _, after := _, guard := none }) rfl (fun K hK => ?_) AllReadyH.nil)
        refine (if_pos (by kernel_rfl)).mpr (wp_store_mid 23 _ _ rfl (v46.heap.size) 0 (tL p).toArray rfl rfl Na.1.there (by kernel_rfl) (tL_one _) ?_)
        refine hK.out _ _ (hHeld.set (b := v46.heap.size) Na.2 (tL p)) (fun _ => ?_)
        clear hK K
        refine gen_any (w1 := v47.setCells (v46.heap.size) 0 (tL p)) (fun V => RS w f m V ∧ (Bx V v46.heap.size (tL p) ∧ w.heap.size + 2 ≤ v46.heap.size) ∧ (Bx V v0.heap.size (z4) ∧ w.heap.size + 2 ≤ v0.heap.size)) ⟨hHeld.set Na.2 (tL p), ⟨Na.1.setAll (tL p) rfl, Na.2⟩, ⟨Nb.1.setOther (b := v46.heap.size) (by omega) (tL p), Nb.2⟩⟩ ?_
        clear hHeld Na Nb
        rintro v48 ⟨hHeld, Na, Nb⟩
        refine wpAnyH_ready (rs := [21]) (by kernel_rfl) (by simp) (AllReadyH.cons (o := { dst := none, op := _, type := _, pos := _, after := _, guard := none }) rfl (fun K hK => ?_) AllReadyH.nil)
        refine (if_pos (by kernel_rfl)).mpr (wp_store_mid 23 _ _ rfl (v0.heap.size) 0 (tL q).toArray rfl rfl Nb.1.there (by kernel_rfl) (tL_one _) ?_)
        refine hK.out _ _ (hHeld.set (b := v0.heap.size) Nb.2 (tL q)) (fun _ => ?_)
        clear hK K
        refine gen_any (w1 := v48.setCells (v0.heap.size) 0 (tL q)) (fun V => RS w f m V ∧ (Bx V v0.heap.size (tL q) ∧ w.heap.size + 2 ≤ v0.heap.size) ∧ (Bx V v46.heap.size (tL p) ∧ w.heap.size + 2 ≤ v46.heap.size)) ⟨hHeld.set Nb.2 (tL q), ⟨Nb.1.setAll (tL q) rfl, Nb.2⟩, ⟨Na.1.setOther (b := v0.heap.size) (by omega) (tL q), Na.2⟩⟩ ?_
        clear hHeld Na Nb
        rintro v49 ⟨hHeld, Nb, Na⟩
        refine wpAnyH_done (by kernel_rfl) ?_ _
        have d0 := Na.1.c 0 rfl
        have e0 := Nb.1.c 0 rfl
        have d1 := Na.1.c 1 rfl
        have e1 := Nb.1.c 1 rfl
        have d2 := Na.1.c 2 rfl
        have e2 := Nb.1.c 2 rfl
        have d3 := Na.1.c 3 rfl
        have e3 := Nb.1.c 3 rfl
        have r0 := hHeld.2.2.2.c 0 rfl
        have s0 := hHeld.2.2.2.f 0 rfl
        have r1 := hHeld.2.2.2.c 1 rfl
        have s1 := hHeld.2.2.2.f 1 rfl
        have r2 := hHeld.2.2.2.c 2 rfl
        have s2 := hHeld.2.2.2.f 2 rfl
        have r3 := hHeld.2.2.2.c 3 rfl
        have s3 := hHeld.2.2.2.f 3 rfl
        have r4 := hHeld.2.2.2.c 4 rfl
        have s4 := hHeld.2.2.2.f 4 rfl
        have r5 := hHeld.2.2.2.c 5 rfl
        have s5 := hHeld.2.2.2.f 5 rfl
        have r6 := hHeld.2.2.2.c 6 rfl
        have s6 := hHeld.2.2.2.f 6 rfl
        have r7 := hHeld.2.2.2.c 7 rfl
        have s7 := hHeld.2.2.2.f 7 rfl
        have HB := hHeld.1
        by_cases hlt : q.t < p.t
        · have hp : Hid (pairL p q = tL q ++ tL p) := if_pos hlt
          have Y := hHeld.2.2.2.setAll (tL q ++ tL p) rfl
          have y0 := Y.c 0 rfl
          have y1 := Y.c 1 rfl
          have y2 := Y.c 2 rfl
          have y3 := Y.c 3 rfl
          have y4 := Y.c 4 rfl
          have y5 := Y.c 5 rfl
          have y6 := Y.c 6 rfl
          have y7 := Y.c 7 rfl
          simp only [World.setCells, tL, List.cons_append, List.nil_append, Nat.zero_add, Nat.reduceAdd] at y0 y1 y2 y3 y4 y5 y6 y7
          have hBB : Hid (Below w.heap.size w (v49.setCells (w.heap.size + 1) 0 (tL q ++ tL p))) := below_setCells (by omega) _ _ _ HB
          clear Y hHeld Na Nb HB
          go_wp2
          refine bodyPost_ret (v := .agg (tL q ++ tL p).toArray) (by simp [results, Tryd.results67, go_sem, y0, y1, y2, y3, y4, y5, y6, y7, tL]) rfl ⟨by rw [hp.out], hBB.out⟩
        · have hp : Hid (pairL p q = tL p ++ tL q) := if_neg hlt
          have Y := hHeld.2.2.2.setAll (tL p ++ tL q) rfl
          have y0 := Y.c 0 rfl
          have y1 := Y.c 1 rfl
          have y2 := Y.c 2 rfl
          have y3 := Y.c 3 rfl
          have y4 := Y.c 4 rfl
          have y5 := Y.c 5 rfl
          have y6 := Y.c 6 rfl
          have y7 := Y.c 7 rfl
          simp only [World.setCells, tL, List.cons_append, List.nil_append, Nat.zero_add, Nat.reduceAdd] at y0 y1 y2 y3 y4 y5 y6 y7
          have hBB : Hid (Below w.heap.size w (v49.setCells (w.heap.size + 1) 0 (tL p ++ tL q))) := below_setCells (by omega) _ _ _ HB
          clear Y hHeld Na Nb HB
          go_wp2
          refine bodyPost_ret (v := .agg (tL p ++ tL q).toArray) (by simp [results, Tryd.results67, go_sem, y0, y1, y2, y3, y4, y5, y6, y7, tL]) rfl ⟨by rw [hp.out], hBB.out⟩
      ·
        go_simp
        refine hK.out _ _ (hHeld.alloc _) (fun _ => ?_)
        clear hK K
        refine gen_any (fun V => RS w f m V ∧ (Bx V v45.heap.size z4 ∧ w.heap.size + 2 ≤ v45.heap.size) ∧ (Bx V v0.heap.size z4 ∧ w.heap.size + 2 ≤ v0.heap.size) ∧ v0.heap.size < v45.heap.size) ⟨hHeld.alloc _, ⟨Bx.new v45 z4 _, hHeld.room⟩, ⟨Nb.1.alloc _, Nb.2⟩, Nb.1.1⟩ ?_
        clear hHeld Nb
        rintro v50 ⟨hHeld, Na, Nb, ltba⟩
        refine wpAnyH_ready (rs := [17]) (by kernel_rfl) (by simp) (AllReadyH.cons (o := { dst := some 24, op := _, type := _, pos := _, after := _, guard := none }) rfl (fun K hK => ?_) AllReadyH.nil)
        go_simp
        refine (CB.out _ hHeld.lens).mono ?_
        rintro e v51 ⟨rfl, hb51⟩
        have hH51 := hHeld.below hb51
        have Na51 := And.intro (Na.1.below hb51) Na.2
        have Nb51 := And.intro (Nb.1.below hb51) Nb.2
        refine hK.out _ _ hH51 (fun _ => ?_)
        clear hK K hb51 hHeld Na Nb
        have hHeld := hH51; clear hH51
        have Na := Na51; clear Na51
        have Nb := Nb51; clear Nb51
        refine wpAnyH_ready (rs := [20]) (by kernel_rfl) (by simp) (AllReadyH.cons (o := { dst := none, op := _, type := _, pos := _, after := _, guard := none }) rfl (fun K hK => ?_) AllReadyH.nil)
        refine (if_pos (by kernel_rfl)).mpr (wp_store_mid 23 _ _ rfl (v45.heap.size) 0 (tL p).toArray rfl rfl Na.1.there (by kernel_rfl) (tL_one _) ?_)
        refine hK.out _ _ (hHeld.set (b := v45.heap.size) Na.2 (tL p)) (fun _ => ?_)
        clear hK K
        refine gen_any (w1 := v51.setCells (v45.heap.size) 0 (tL p)) (fun V => RS w f m V ∧ (Bx V v45.heap.size (tL p) ∧ w.heap.size + 2 ≤ v45.heap.size) ∧ (Bx V v0.heap.size (z4) ∧ w.heap.size + 2 ≤ v0.heap.size)) ⟨hHeld.set Na.2 (tL p), ⟨Na.1.setAll (tL p) rfl, Na.2⟩, ⟨Nb.1.setOther (b := v45.heap.size) (by omega) (tL p), Nb.2⟩⟩ ?_
        clear hHeld Na Nb
        rintro v52 ⟨hHeld, Na, Nb⟩
        refine wpAnyH_ready (rs := [21]) (by kernel_rfl) (by simp) (AllReadyH.cons (o := { dst := none, op := _, type := _, pos := _, after := _, guard := none }) rfl (fun K hK => ?_) AllReadyH.nil)
        refine (if_pos (by kernel_rfl)).mpr (wp_store_mid 23 _ _ rfl (v0.heap.size) 0 (tL q).toArray rfl rfl Nb.1.there (by kernel_rfl) (tL_one _) ?_)
        refine hK.out _ _ (hHeld.set (b := v0.heap.size) Nb.2 (tL q)) (fun _ => ?_)
        clear hK K
        refine gen_any (w1 := v52.setCells (v0.heap.size) 0 (tL q)) (fun V => RS w f m V ∧ (Bx V v0.heap.size (tL q) ∧ w.heap.size + 2 ≤ v0.heap.size) ∧ (Bx V v45.heap.size (tL p) ∧ w.heap.size + 2 ≤ v45.heap.size)) ⟨hHeld.set Nb.2 (tL q), ⟨Nb.1.setAll (tL q) rfl, Nb.2⟩, ⟨Na.1.setOther (b := v0.heap.size) (by omega) (tL q), Na.2⟩⟩ ?_
        clear hHeld Na Nb
        rintro v53 ⟨hHeld, Nb, Na⟩
        refine wpAnyH_done (by kernel_rfl) ?_ _
        have d0 := Na.1.c 0 rfl
        have e0 := Nb.1.c 0 rfl
        have d1 := Na.1.c 1 rfl
        have e1 := Nb.1.c 1 rfl
        have d2 := Na.1.c 2 rfl
        have e2 := Nb.1.c 2 rfl
        have d3 := Na.1.c 3 rfl
        have e3 := Nb.1.c 3 rfl
        have r0 := hHeld.2.2.2.c 0 rfl
        have s0 := hHeld.2.2.2.f 0 rfl
        have r1 := hHeld.2.2.2.c 1 rfl
        have s1 := hHeld.2.2.2.f 1 rfl
        have r2 := hHeld.2.2.2.c 2 rfl
        have s2 := hHeld.2.2.2.f 2 rfl
        have r3 := hHeld.2.2.2.c 3 rfl
        have s3 := hHeld.2.2.2.f 3 rfl
        have r4 := hHeld.2.2.2.c 4 rfl
        have s4 := hHeld.2.2.2.f 4 rfl
        have r5 := hHeld.2.2.2.c 5 rfl
        have s5 := hHeld.2.2.2.f 5 rfl
        have r6 := hHeld.2.2.2.c 6 rfl
        have s6 := hHeld.2.2.2.f 6 rfl
        have r7 := hHeld.2.2.2.c 7 rfl
        have s7 := hHeld.2.2.2.f 7 rfl
        have HB := hHeld.1
        by_cases hlt : q.t < p.t
        · have hp : Hid (pairL p q = tL q ++ tL p) := if_pos hlt
          have Y := hHeld.2.2.2.setAll (tL q ++ tL p) rfl
          have y0 := Y.c 0 rfl
          have y1 := Y.c 1 rfl
          have y2 := Y.c 2 rfl
          have y3 := Y.c 3 rfl
          have y4 := Y.c 4 rfl
          have y5 := Y.c 5 rfl
          have y6 := Y.c 6 rfl
          have y7 := Y.c 7 rfl
          simp only [World.setCells, tL, List.cons_append, List.nil_append, Nat.zero_add, Nat.reduceAdd] at y0 y1 y2 y3 y4 y5 y6 y7
          have hBB : Hid (Below w.heap.size w (v53.setCells (w.heap.size + 1) 0 (tL q ++ tL p))) := below_setCells (by omega) _ _ _ HB
          clear Y hHeld Na Nb HB
          go_wp2
          refine bodyPost_ret (v := .agg (tL q ++ tL p).toArray) (by simp [results, Tryd.results67, go_sem, y0, y1, y2, y3, y4, y5, y6, y7, tL]) rfl ⟨by rw [hp.out], hBB.out⟩
        · have hp : Hid (pairL p q = tL p ++ tL q) := if_neg hlt
          have Y := hHeld.2.2.2.setAll (tL p ++ tL q) rfl
          have y0 := Y.c 0 rfl
          have y1 := Y.c 1 rfl
          have y2 := Y.c 2 rfl
          have y3 := Y.c 3 rfl
          have y4 := Y.c 4 rfl
          have y5 := Y.c 5 rfl
          have y6 := Y.c 6 rfl
          have y7 := Y.c 7 rfl
          simp only [World.setCells, tL, List.cons_append, List.nil_append, Nat.zero_add, Nat.reduceAdd] at y0 y1 y2 y3 y4 y5 y6 y7
          have hBB : Hid (Below w.heap.size w (v53.setCells (w.heap.size + 1) 0 (tL p ++ tL q))) := below_setCells (by omega) _ _ _ HB
          clear Y hHeld Na Nb HB
          go_wp2
          refine bodyPost_ret (v := .agg (tL p ++ tL q).toArray) (by simp [results, Tryd.results67, go_sem, y0, y1, y2, y3, y4, y5, y6, y7, tL]) rfl ⟨by rw [hp.out], hBB.out⟩
    ·
      go_simp
      refine hK.out _ _ (hHeld.alloc _) (fun _ => ?_)
      clear hK K
      refine gen_any (fun V => RS w f m V ∧ (Bx V v44.heap.size z4 ∧ w.heap.size + 2 ≤ v44.heap.size) ∧ (Bx V v0.heap.size z4 ∧ w.heap.size + 2 ≤ v0.heap.size) ∧ v0.heap.size < v44.heap.size) ⟨hHeld.alloc _, ⟨Bx.new v44 z4 _, hHeld.room⟩, ⟨Nb.1.alloc _, Nb.2⟩, Nb.1.1⟩ ?_
      clear hHeld Nb
      rintro v54 ⟨hHeld, Na, Nb, ltba⟩
      refine wpAnyH_ready (rs := [8]) (by kernel_rfl) (by simp) (AllReadyH.cons (o := { dst := some 15, op := _, type := _, pos := _, after := _, guard := none }) rfl (fun K hK => ?_) AllReadyH.nil)
      go_simp
      refine (CA.out _ hHeld.lens).mono ?_
      rintro e v55 ⟨rfl, hb55⟩
      have hH55 := hHeld.below hb55
      have Na55 := And.intro (Na.1.below hb55) Na.2
      have Nb55 := And.intro (Nb.1.below hb55) Nb.2
      refine hK.out _ _ hH55 (fun _ => ?_)
      clear hK K hb55 hHeld Na Nb
      have hHeld := hH55; clear hH55
      have Na := Na55; clear Na55
      have Nb := Nb55; clear Nb55
      refine wpAnyH_ready (rs := [17]) (by kernel_rfl) (by simp) (AllReadyH.cons (o := { dst := some 24, op := _, type := _, pos := _, after := _, guard := none }) rfl (fun K hK => ?_) AllReadyH.nil)
      go_simp
      refine (CB.out _ hHeld.lens).mono ?_
      rintro e v56 ⟨rfl, hb56⟩
      have hH56 := hHeld.below hb56
      have Na56 := And.intro (Na.1.below hb56) Na.2
      have Nb56 := And.intro (Nb.1.below hb56) Nb.2
      refine hK.out _ _ hH56 (fun _ => ?_)
      clear hK K hb56 hHeld Na Nb
      have hHeld := hH56; clear hH56
      have Na := Na56; clear Na56
      have Nb := Nb56; clear Nb56
      refine wpAnyH_ready (rs := [20]) (by kernel_rfl) (by simp) (AllReadyH.cons (o := { dst := none, op := _, type := _, pos := _, after := _, guard := none }) rfl (fun K hK => ?_) AllReadyH.nil)
      refine (if_pos (by kernel_rfl)).mpr (wp_store_mid 23 _ _ rfl (v44.heap.size) 0 (tL p).toArray rfl rfl Na.1.there (by kernel_rfl) (tL_one _) ?_)
      refine hK.out _ _ (hHeld.set (b := v44.heap.size) Na.2 (tL p)) (fun _ => ?_)
      clear hK K
      refine gen_any (w1 := v56.setCells (v44.heap.size) 0 (tL p)) (fun V => RS w f m V ∧ (Bx V v44.heap.size (tL p) ∧ w.heap.size + 2 ≤ v44.heap.size) ∧ (Bx V v0.heap.size (z4) ∧ w.heap.size + 2 ≤ v0.heap.size)) ⟨hHeld.set Na.2 (tL p), ⟨Na.1.setAll (tL p) rfl, Na.2⟩, ⟨Nb.1.setOther (b := v44.heap.size) (by omega) (tL p), Nb.2⟩⟩ ?_
      clear hHeld Na Nb
      rintro v57 ⟨hHeld, Na, Nb⟩
      refine wpAnyH_ready (rs := [21]) (by kernel_rfl) (by simp) (AllReadyH.cons (o := { dst := none, op := _, type := _, pos := _, after := _, guard := none }) rfl (fun K hK => ?_) AllReadyH.nil)
      refine (if_pos (by kernel_rfl)).mpr (wp_store_mid 23 _ _ rfl (v0.heap.size) 0 (tL q).toArray rfl rfl Nb.1.there (by kernel_rfl) (tL_one _) ?_)
      refine hK.out _ _ (hHeld.set (b := v0.heap.size) Nb.2 (tL q)) (fun _ => ?_)
      clear hK K
      refine gen_any (w1 := v57.setCells (v0.heap.size) 0 (tL q)) (fun V => RS w f m V ∧ (Bx V v0.heap.size (tL q) ∧ w.heap.size + 2 ≤ v0.heap.size) ∧ (Bx V v44.heap.size (tL p) ∧ w.heap.size + 2 ≤ v44.heap.size)) ⟨hHeld.set Nb.2 (tL q), ⟨Nb.1.setAll (tL q) rfl, Nb.2⟩, ⟨Na.1.setOther (b := v0.heap.size) (by omega) (tL q), Na.2⟩⟩ ?_
      clear hHeld Na Nb
      rintro v58 ⟨hHeld, Nb, Na⟩
      refine wpAnyH_done (by kernel_rfl) ?_ _
      have d0 := Na.1.c 0 rfl
      have e0 := Nb.1.c 0 rfl
      have d1 := Na.1.c 1 rfl
      have e1 := Nb.1.c 1 rfl
      have d2 := Na.1.c 2 rfl
      have e2 := Nb.1.c 2 rfl
      have d3 := Na.1.c 3 rfl
      have e3 := Nb.1.c 3 rfl
      have r0 := hHeld.2.2.2.c 0 rfl
      have s0 := hHeld.2.2.2.f 0 rfl
      have r1 := hHeld.2.2.2.c 1 rfl
      have s1 := hHeld.2.2.2.f 1 rfl
      have r2 := hHeld.2.2.2.c 2 rfl
      have s2 := hHeld.2.2.2.f 2 rfl
      have r3 := hHeld.2.2.2.c 3 rfl
      have s3 := hHeld.2.2.2.f 3 rfl
      have r4 := hHeld.2.2.2.c 4 rfl
      have s4 := hHeld.2.2.2.f 4 rfl
      have r5 := hHeld.2.2.2.c 5 rfl
      have s5 := hHeld.2.2.2.f 5 rfl
      have r6 := hHeld.2.2.2.c 6 rfl
      have s6 := hHeld.2.2.2.f 6 rfl
      have r7 := hHeld.2.2.2.c 7 rfl
      have s7 := hHeld.2.2.2.f 7 rfl
      have HB := hHeld.1
      by_cases hlt : q.t < p.t
      · have hp : Hid (pairL p q = tL q ++ tL p) := if_pos hlt
        have Y := hHeld.2.2.2.setAll (tL q ++ tL p) rfl
        have y0 := Y.c 0 rfl
        have y1 := Y.c 1 rfl
        have y2 := Y.c 2 rfl
        have y3 := Y.c 3 rfl
        have y4 := Y.c 4 rfl
        have y5 := Y.c 5 rfl
        have y6 := Y.c 6 rfl
        have y7 := Y.c 7 rfl
        simp only [World.setCells, tL, List.cons_append, List.nil_append, Nat.zero_add, Nat.reduceAdd] at y0 y1 y2 y3 y4 y5 y6 y7
        have hBB : Hid (Below w.heap.size w (v58.setCells (w.heap.size + 1) 0 (tL q ++ tL p))) := below_setCells (by omega) _ _ _ HB
        clear Y hHeld Na Nb HB
        go_wp2
        refine bodyPost_ret (v := .agg (tL q ++ tL p).toArray) (by simp [results, Tryd.results67, go_sem, y0, y1, y2, y3, y4, y5, y6, y7, tL]) rfl ⟨by rw [hp.out], hBB.out⟩
      · have hp : Hid (pairL p q = tL p ++ tL q) := if_neg hlt
        have Y := hHeld.2.2.2.setAll (tL p ++ tL q) rfl
        have y0 := Y.c 0 rfl
        have y1 := Y.c 1 rfl
        have y2 := Y.c 2 rfl
        have y3 := Y.c 3 rfl
        have y4 := Y.c 4 rfl
        have y5 := Y.c 5 rfl
        have y6 := Y.c 6 rfl
        have y7 := Y.c 7 rfl
        simp only [World.setCells, tL, List.cons_append, List.nil_append, Nat.zero_add, Nat.reduceAdd] at y0 y1 y2 y3 y4 y5 y6 y7
        have hBB : Hid (Below w.heap.size w (v58.setCells (w.heap.size + 1) 0 (tL p ++ tL q))) := below_setCells (by omega) _ _ _ HB
        clear Y hHeld Na Nb HB
        go_wp2
        refine bodyPost_ret (v := .agg (tL p ++ tL q).toArray) (by simp [results, Tryd.results67, go_sem, y0, y1, y2, y3, y4, y5, y6, y7, tL]) rfl ⟨by rw [hp.out], hBB.out⟩

end Go.Proofs.YtcgcljfdfimfgaaDoor.Fn
