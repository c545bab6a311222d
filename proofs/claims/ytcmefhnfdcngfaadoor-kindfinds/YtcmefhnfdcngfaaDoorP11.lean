import Derived.Test.YtcmefhnfdcngfaaDoorP10
import Derived.Test.YtcmefhnfdcngfaaDoorP0
/- The reference's table of kinds in memory; its rows are the program's: mathematics of KindOne. -/
namespace Go.Proofs.YtcmefhnfdcngfaaDoor
open Go.RowKit
set_option linter.unusedVariables false

theorem rtb_find : rtb.all (fun x => decide (finF x.1 x.2.1 = some x.2.2)) = true := by decide +kernel
theorem rtb_small : rtb.all (fun x => decide (x.2.1.length ≤ 4 ∧ 1 ≤ x.2.1.length)) = true := by decide +kernel
theorem rtb_got {i : Nat} {x : ByteArray × List Int × Int} (hx : rtb[i]? = some x) : finF x.1 x.2.1 = some x.2.2 ∧ x.2.1.length ≤ 4 ∧ 1 ≤ x.2.1.length := by
  have h1 := List.all_eq_true.1 rtb_find x (List.mem_of_getElem? hx)
  have h2 := List.all_eq_true.1 rtb_small x (List.mem_of_getElem? hx)
  exact ⟨of_decide_eq_true h1, of_decide_eq_true h2⟩
theorem rtC_at (s : Nat) : ∀ (l : List (ByteArray × List Int × Int)) (j i : Nat) (x : ByteArray × List Int × Int), l[i]? = some x → (rtC s l j)[i * 3]? = some (.string x.1) ∧ (rtC s l j)[i * 3 + 1]? = some (.slice (some ⟨s + (j + i), 0, none⟩) x.2.1.length x.2.1.length) ∧ (rtC s l j)[i * 3 + 2]? = some (.int .i64 x.2.2)
  | [], j, i, x, h => by simp at h
  | y :: l, j, 0, x, h => by simp at h; subst h; exact ⟨rfl, rfl, rfl⟩
  | y :: l, j, i + 1, x, h => by
    have q := rtC_at s l (j + 1) i x (by simpa using h)
    rw [show (i + 1) * 3 = i * 3 + 1 + 1 + 1 by omega]
    simp only [rtC, List.getElem?_cons_succ]
    rw [show j + (i + 1) = j + 1 + i by omega]
    exact q
theorem rtW_low : ∀ (l : List (ByteArray × List Int × Int)) (w : World), Below w.heap.size w (rtW w l) ∧ (rtW w l).heap.size = w.heap.size + l.length
  | [], w => ⟨Below.refl _ _, rfl⟩
  | x :: l, w => by
    have q := rtW_low l (w.alloc (.cells (x.2.1.map (fun k => Value.int .i64 k)).toArray 3))
    have b : Below w.heap.size w (w.alloc (.cells (x.2.1.map (fun k => Value.int .i64 k)).toArray 3)) := (Below.refl _ w).alloc (Nat.le_refl _) _
    refine ⟨b.trans (q.1.mono b.size), ?_⟩
    rw [show rtW w (x :: l) = rtW (w.alloc (.cells (x.2.1.map (fun k => Value.int .i64 k)).toArray 3)) l from rfl, q.2]
    simp; omega
theorem rtW_cell : ∀ (l : List (ByteArray × List Int × Int)) (w : World) (i m : Nat) (x : ByteArray × List Int × Int) (k : Int), l[i]? = some x → x.2.1[m]? = some k → (rtW w l).cell? ⟨w.heap.size + i, m, none⟩ = some (.int .i64 k)
  | [], w, i, m, x, k, h, hk => by simp at h
  | y :: l, w, 0, m, x, k, h, hk => by
    simp at h; subst h
    have q := (rtW_low l (w.alloc (.cells (y.2.1.map (fun k => Value.int .i64 k)).toArray 3))).1
    have b := Bx.new w (y.2.1.map (fun k => Value.int .i64 k)) 3
    show (rtW (w.alloc (.cells (y.2.1.map (fun k => Value.int .i64 k)).toArray 3)) l).cell? ⟨w.heap.size + 0, m, none⟩ = _
    rw [Nat.add_zero, q.cell (p := ⟨w.heap.size, m, none⟩) b.1]
    exact b.c m (by rw [List.getElem?_map, hk]; rfl)
  | y :: l, w, i + 1, m, x, k, h, hk => by
    have q := rtW_cell l (w.alloc (.cells (y.2.1.map (fun k => Value.int .i64 k)).toArray 3)) i m x k (by simpa using h) hk
    rw [show (w.alloc (.cells (y.2.1.map (fun k => Value.int .i64 k)).toArray 3)).heap.size + i = w.heap.size + (i + 1) by simp; omega] at q
    exact q
/-- the reference's table lies in memory. -/
structure TB (w W : World) : Prop where
  low : Below w.heap.size w W
  hi : w.heap.size + 90 < W.heap.size
  tab : ∀ i x, rtb[i]? = some x → W.cell? ⟨w.heap.size + 90, i * 3, none⟩ = some (.string x.1) ∧ W.cell? ⟨w.heap.size + 90, i * 3 + 1, none⟩ = some (.slice (some ⟨w.heap.size + i, 0, none⟩) x.2.1.length x.2.1.length) ∧ W.cell? ⟨w.heap.size + 90, i * 3 + 2, none⟩ = some (.int .i64 x.2.2) ∧ ∀ m k, x.2.1[m]? = some k → W.cell? ⟨w.heap.size + i, m, none⟩ = some (.int .i64 k)
theorem TB.below {w W V : World} (h : TB w W) (hb : Below W.heap.size W V) : TB w V :=
  ⟨h.low.trans (hb.mono h.low.size), Nat.lt_of_lt_of_le h.hi hb.size, fun i x hx => by
    obtain ⟨q1, q2, q3, q4⟩ := h.tab i x hx
    have hi := (List.getElem?_eq_some_iff.1 hx).1
    rw [rtb_len] at hi
    have hz := h.hi
    exact ⟨(hb.cell (p := ⟨w.heap.size + 90, i * 3, none⟩) hz).trans q1, (hb.cell (p := ⟨w.heap.size + 90, i * 3 + 1, none⟩) hz).trans q2, (hb.cell (p := ⟨w.heap.size + 90, i * 3 + 2, none⟩) hz).trans q3, fun m k hk => (hb.cell (p := ⟨w.heap.size + i, m, none⟩) (by show w.heap.size + i < _; omega)).trans (q4 m k hk)⟩⟩
theorem TB.new (w : World) (t : TypeId) : TB w ((rtW w rtb).alloc (.cells (rtC w.heap.size rtb 0).toArray t)) := by
  obtain ⟨q1, q2⟩ := rtW_low rtb w
  rw [rtb_len] at q2
  have b := Bx.new (rtW w rtb) (rtC w.heap.size rtb 0) t
  rw [q2] at b
  have hal : Below (rtW w rtb).heap.size (rtW w rtb) ((rtW w rtb).alloc (.cells (rtC w.heap.size rtb 0).toArray t)) := (Below.refl _ _).alloc (Nat.le_refl _) _
  refine ⟨q1.trans (hal.mono q1.size), b.1, fun i x hx => ?_⟩
  obtain ⟨r1, r2, r3⟩ := rtC_at w.heap.size rtb 0 i x hx
  rw [Nat.zero_add] at r2
  have hi := (List.getElem?_eq_some_iff.1 hx).1
  rw [rtb_len] at hi
  exact ⟨b.c _ r1, b.c _ r2, b.c _ r3, fun m k hk => (hal.cell (p := ⟨w.heap.size + i, m, none⟩) (by rw [q2]; show w.heap.size + i < _; omega)).trans (rtW_cell rtb w i m x k hx hk)⟩

end Go.Proofs.YtcmefhnfdcngfaaDoor
