/- Contract of the reference's Read of a decimal: whatever text it is given. -/
import Derived.Test.YtebjicnjbiiioaaDoorDecTM
import Derived.Test.YtebjicnjbiiioaaDoorWideV
import Derived.Deep.RegionHeld3
import Derived.Deep.CutRange
import Derived.Deep.DeepCutAuto
namespace Go.Proofs.YtebjicnjbiiioaaDoor
open Go.RowKit
set_option linter.unusedVariables false

theorem rd_ne {b : Nat} {o o' : Nat} (h : o ≠ o') : (⟨b, o, none⟩ : Addr) ≠ ⟨b, o', none⟩ := fun e => h (by cases e; rfl)
theorem ixB (s : ByteArray) (k c : Nat) (h : k < s.size) (hc : byteAt s k = c) (w0 : World) : (Instr.index 9 (.string s) (.int .i64 (k : Int))).run Tryd.prog w0 = .ok (.int .u8 (c : Int)) w0 := by
  rw [run_index_string w0 9 s .i64 (k : Int) Tryd.underlying9, dif_pos ⟨by omega, by omega⟩]
  show Result.ok (Value.int .u8 ((s[((k : Nat) : Int).toNat]'_).toNat : Int)) w0 = _
  simp only [Int.toNat_natCast]
  rw [byteAt_lt s k h, hc]

/-- a number in parts in a block of its own, the answer's block, and nothing of what was is another. -/
def Rds (w : World) (nb : Nat) (g : Bool) (b : Nat) (X : Int) (W : World) : Prop :=
  (nb < W.heap.size ∧ W.cell? ⟨nb, 0, none⟩ = some (.bool g) ∧ W.cell? ⟨nb, 1, none⟩ = some (.slice (some ⟨b, 0, none⟩) 6 6) ∧ W.frozen? ⟨nb, 0, none⟩ = false ∧ W.frozen? ⟨nb, 1, none⟩ = false) ∧
  IsW W (.agg #[.bool g, .slice (some ⟨b, 0, none⟩) 6 6]) X ∧ Box W w.heap.size 0 0 ∧ w.heap.size < nb ∧ Below w.heap.size w W
theorem Rds.below {w : World} {nb : Nat} {g : Bool} {b : Nat} {X : Int} {W V : World} (h : Rds w nb g b X W) (hb : Below W.heap.size W V) : Rds w nb g b X V :=
  ⟨⟨Nat.lt_of_lt_of_le h.1.1 hb.size, (hb.cell (p := ⟨nb, 0, none⟩) h.1.1).trans h.1.2.1, (hb.cell (p := ⟨nb, 1, none⟩) h.1.1).trans h.1.2.2.1, (hb.frozen (p := ⟨nb, 0, none⟩) h.1.1).trans h.1.2.2.2.1, (hb.frozen (p := ⟨nb, 1, none⟩) h.1.1).trans h.1.2.2.2.2⟩,
   h.2.1.below hb, h.2.2.1.below hb h.2.2.1.1, h.2.2.2.1, h.2.2.2.2.trans (hb.mono h.2.2.2.2.size)⟩
theorem Rds.drew {w : World} {nb : Nat} {g : Bool} {b : Nat} {X : Int} {W : World} (h : Rds w nb g b X W) : Rds w nb g b X W.drew := h.below (Below.refl _ _).drew
theorem isW_split {w : World} {v : Value} {x : Int} (h : IsW w v x) : ∃ (g : Bool) (b : Nat), v = .agg #[.bool g, .slice (some ⟨b, 0, none⟩) 6 6] := by
  obtain ⟨b, e, _⟩ := h
  exact ⟨_, b, e⟩
theorem isW_parts {w : World} {g : Bool} {b : Nat} {x : Int} (h : IsW w (.agg #[.bool g, .slice (some ⟨b, 0, none⟩) 6 6]) x) : g = decide (x < 0) ∧ Row w b x.natAbs := by
  obtain ⟨b', e, r⟩ := h
  simp at e
  obtain ⟨e1, e2⟩ := e
  subst e2
  exact ⟨e1, r⟩
/-- another number in the block. -/
theorem Rds.set {w : World} {nb : Nat} {g g' : Bool} {b b' : Nat} {X Y : Int} {W : World} (h : Rds w nb g b X W) (hy : IsW W (.agg #[.bool g', .slice (some ⟨b', 0, none⟩) 6 6]) Y) :
    Rds w nb g' b' Y ((W.setCell ⟨nb, 0, none⟩ (.bool g')).setCell ⟨nb, 1, none⟩ (.slice (some ⟨b', 0, none⟩) 6 6)) := by
  obtain ⟨⟨h1, h2, h3, h4, h5⟩, _, hB, hn, hb⟩ := h
  have hne : nb ≠ w.heap.size := by omega
  have hr := (isW_parts hy).2
  have hbb : b' ≠ nb := by
    intro e
    have := hr.2.2 0 (by decide)
    rw [e, h2] at this
    simp at this
  refine ⟨⟨by simpa [World.setCell] using h1, (World.cell?_setCell_other _ _ _ _ (rd_ne (by decide))).trans (World.cell?_setCell_same _ _ _ h2), World.cell?_setCell_same _ _ _ ((World.cell?_setCell_other _ _ _ _ (rd_ne (by decide))).trans h3), by simpa using h4, by simpa using h5⟩, ?_, ?_, hn, (hb.setCell (by simp; omega) _).setCell (by simp; omega) _⟩
  · refine ⟨b', by rw [(isW_parts hy).1], hr.1, by simpa [World.setCell] using hr.2.1, fun i hi => ?_⟩
    exact ((keep2 hbb.symm _ _ i)).trans (hr.2.2 i hi)
  · obtain ⟨q1, q2, q3, q4, q5⟩ := hB
    exact ⟨by simpa [World.setCell] using q1, (keep2 hne _ _ 0).trans q2, (keep2 hne _ _ 1).trans q3, by simpa using q4, by simpa using q5⟩
/-- the block is new. -/
theorem Rds.new {w W : World} {g : Bool} {b : Nat} {X : Int} (t : TypeId) (hB : Box W w.heap.size 0 0) (hb : Below w.heap.size w W) (h : IsW W (.agg #[.bool g, .slice (some ⟨b, 0, none⟩) 6 6]) X) :
    Rds w W.heap.size g b X (W.alloc (.cells #[.bool g, .slice (some ⟨b, 0, none⟩) 6 6] t)) :=
  ⟨⟨by simp, by rw [World.cell?_alloc_at _ _ _ _ rfl]; rfl, by rw [World.cell?_alloc_at _ _ _ _ rfl]; rfl, by rw [World.frozen?_alloc_at _ _ _ _ rfl], by rw [World.frozen?_alloc_at _ _ _ _ rfl]⟩,
   h.below ((Below.refl _ _).alloc (Nat.le_refl _) _), hB.alloc _, hB.1, hb.alloc hb.size _⟩

/-- what the digits so far tell, or that they tell too much. -/
def Lx (T : List UInt8) (k : Nat) (L : Bool) (X : Int) : Prop :=
  (L = false → X = (valL ((T.take k).erase 46) : Int) ∧ X < 18446744073709551616) ∧ (L = true → 18446744073709551616 ≤ valL ((T.take k).erase 46)) ∧ 0 ≤ X
def Gd (T : List UInt8) (k : Nat) (P : Int) : Prop := ((T.take k).erase 46).all isD = true ∧ P = Lib.indexByte (T.take k) 46 ∧ P ≠ 0

theorem take_next {T : List UInt8} {k : Nat} {c : UInt8} (h : T[k]? = some c) : T.take (k + 1) = T.take k ++ [c] := by
  rw [List.take_add_one, h]; rfl
theorem erase_digit (l : List UInt8) {c : UInt8} (h : c ≠ 46) : (l ++ [c]).erase 46 = l.erase 46 ++ [c] := by
  by_cases hm : (46 : UInt8) ∈ l
  · rw [List.erase_append_left _ hm]
  · rw [List.erase_append_right _ hm, erase_none hm]
    congr 1
    rw [List.erase_cons_tail (by simpa using h)]; rfl
theorem index_digit (l : List UInt8) {c : UInt8} (h : c ≠ 46) : Lib.indexByte (l ++ [c]) 46 = Lib.indexByte l 46 := by
  rcases index_cases l with ⟨h1, e⟩ | ⟨a, b, e1, ha, e⟩
  · rw [e, index_none (fun k => by
      rcases List.mem_append.1 k with k | k
      · exact h1 k
      · exact h (List.mem_singleton.1 k).symm)]
  · rw [e, e1, List.append_assoc, List.cons_append, index_some ha]
theorem gd_digit {T : List UInt8} {k : Nat} {P : Int} {c : UInt8} (h : Gd T k P) (hc : T[k]? = some c) (hd : isD c = true) : Gd T (k + 1) P := by
  obtain ⟨h1, h2, h3⟩ := h
  unfold Gd
  rw [take_next hc, erase_digit _ (isD_point hd), index_digit _ (isD_point hd), List.all_append, h1]
  exact ⟨by simp [hd], h2, h3⟩
theorem gd_point {T : List UInt8} {k : Nat} {P : Int} (h : Gd T k P) (hc : T[k]? = some 46) (hp : P < 0) (hk : 0 < k) : Gd T (k + 1) (k : Int) ∧ (T.take (k + 1)).erase 46 = (T.take k).erase 46 := by
  obtain ⟨h1, h2, h3⟩ := h
  have hm : (46 : UInt8) ∉ T.take k := by
    rcases index_cases (T.take k) with ⟨q, _⟩ | ⟨a, b, e1, ha, e⟩
    · exact q
    · rw [e] at h2; omega
  have hl : k < T.length := (List.getElem?_eq_some_iff.1 hc).1
  have e1 : (T.take (k + 1)).erase 46 = (T.take k).erase 46 := by rw [take_next hc, erase_point hm, erase_none hm, List.append_nil]
  refine ⟨⟨by rw [e1]; exact h1, ?_, by omega⟩, e1⟩
  rw [take_next hc, index_some hm, List.length_take]
  congr 1; omega
/-- a text that is left so is none. -/
theorem bad_here {T : List UInt8} {k : Nat} {P : Int} {c : UInt8} (h : Gd T k P) (hc : T[k]? = some c) (hd : isD c = false) (hn : ¬ (c = 46 ∧ P < 0 ∧ 0 < k)) : ¬ OkL T := by
  rintro ⟨o1, o2, o3⟩
  obtain ⟨h1, h2, h3⟩ := h
  have hl : k < T.length := (List.getElem?_eq_some_iff.1 hc).1
  have hT : T = T.take k ++ c :: T.drop (k + 1) := by
    have : T.drop k = c :: T.drop (k + 1) := by
      rw [List.drop_eq_getElem_cons hl, (List.getElem?_eq_some_iff.1 hc).2]
    rw [← this, List.take_append_drop]
  by_cases h46 : c = 46
  · subst h46
    rcases index_cases (T.take k) with ⟨q, e⟩ | ⟨a, b, e1, ha, e⟩
    · by_cases hk : k = 0
      · subst hk
        rw [hT] at o3
        simp at o3
        have e0 : Lib.indexByte (46 :: T.tail) 46 = 0 := rfl
        rw [e0] at o3; omega
      · exact hn ⟨rfl, by omega, by omega⟩
    · rw [hT, e1, List.append_assoc, List.cons_append, erase_point ha] at o1
      have := List.all_eq_true.1 o1 46 (by simp)
      exact absurd this (by decide)
  · have hm : c ∈ T.erase 46 := by
      rw [List.mem_erase_of_ne h46, hT]; simp
    have := List.all_eq_true.1 o1 c hm
    rw [hd] at this; exact absurd this (by decide)
theorem lx_point {T : List UInt8} {k : Nat} {L : Bool} {X : Int} (h : Lx T k L X) (e : (T.take (k + 1)).erase 46 = (T.take k).erase 46) : Lx T (k + 1) L X := by
  unfold Lx; rw [e]; exact h
theorem lx_large {T : List UInt8} {k : Nat} {X : Int} {c : UInt8} (h : Lx T k true X) (hc : T[k]? = some c) (hd : isD c = true) : Lx T (k + 1) true X := by
  refine ⟨fun q => absurd q (by decide), fun _ => ?_, h.2.2⟩
  rw [take_next hc, erase_digit _ (isD_point hd), valL_snoc]
  have := h.2.1 rfl
  omega
theorem lx_more {T : List UInt8} {k : Nat} {X : Int} {c : UInt8} {d : Nat} (h : Lx T k false X) (hc : T[k]? = some c) (hd : isD c = true) (hv : c.toNat = 48 + d) (h9 : d ≤ 9) : Lx T (k + 1) (decide (18446744073709551616 ≤ X * 10 + (d : Int))) (X * 10 + d) := by
  obtain ⟨e, l⟩ := h.1 rfl
  have hv' : valL ((T.take (k + 1)).erase 46) = valL ((T.take k).erase 46) * 10 + d := by
    rw [take_next hc, erase_digit _ (isD_point hd), valL_snoc, hv]; omega
  have := h.2.2
  refine ⟨fun q => ?_, fun q => ?_, by omega⟩
  · have := of_decide_eq_false q
    rw [hv']; omega
  · have := of_decide_eq_true q
    rw [hv']; omega
theorem six_parts {X : Nat} (h : X < 18446744073709551616 * 4294967296) : (Wd.dg X 2 = 0 ↔ X < 18446744073709551616) ∧ ∀ j, 3 ≤ j → j < 6 → Wd.dg X j = 0 := by
  constructor
  · unfold Wd.dg
    rw [show (4294967296 : Nat) ^ 2 = 18446744073709551616 by decide]
    omega
  · intro j h1 h2
    unfold Wd.dg
    have : X / 4294967296 ^ j = 0 := by
      apply Nat.div_eq_of_lt
      refine Nat.lt_of_lt_of_le h ?_
      rw [show 18446744073709551616 * 4294967296 = 4294967296 ^ 3 by decide]
      exact Nat.pow_le_pow_right (by decide) h1
    rw [this]

end Go.Proofs.YtebjicnjbiiioaaDoor
