/- Contract of line.split: a line's fields, or that it can not be. -/
import Derived.Test.YtdonjdihffpghaaDoorLnM
import Derived.Laws.BytesArg
namespace Go.Proofs.YtdonjdihffpghaaDoor.Lin
open Go.RowKit
set_option linter.unusedVariables false

theorem infoStr : (Tryd.prog.info? 9).map (fun i => (i.zero, i.size, i.bytes)) = some (some (.string ByteArray.empty), 1, 16) := by kernel_rfl
def cellsS (l : List ByteArray) : List Value := l.map .string
theorem cellsS_more (l : List ByteArray) (c : ByteArray) : cellsS (l ++ [c]) = cellsS l ++ [.string c] := by simp [cellsS]
theorem cellsS_get {l : List ByteArray} {j : Nat} {c : ByteArray} (h : l[j]? = some c) : (cellsS l)[j]? = some (.string c) := by simp [cellsS, h]
theorem one_oneS (m : ByteArray) : ∀ u ∈ [Value.string m], u.oneCell' = true := by
  intro x hx; simp at hx; subst hx; rfl
theorem own_apart {W : World} {b1 b2 e1 e2 s1 s2 n1 n2 : Nat} {v u : Value} {xs ys : List Value} (h : W.ownsRow b1 e1 s1 v n1 xs) (k : W.ownsRow b2 e2 s2 u n2 ys) (he : e1 ≠ e2) : v.ownBlock = none ∨ v.ownBlock ≠ u.ownBlock := by
  rcases h.2 with ⟨rfl, _⟩ | ⟨g, cap, cur, rfl, _, hg, _⟩
  · exact .inl rfl
  · right
    rcases k.2 with ⟨rfl, _⟩ | ⟨g', cap', cur', rfl, _, hg', _⟩
    · simp [Value.ownBlock]
    · intro e
      simp [Value.ownBlock] at e
      subst e
      rw [hg] at hg'
      simp at hg'
      exact he hg'.2
theorem own_keep {w w1 : World} {base : Nat} {e : TypeId} {size : Nat} {v : Value} {n : Nat} {xs : List Value} (h : w.ownsRow base e size v n xs) (hk : ∀ k, base ≤ k → k < w.heap.size → w1.heap[k]? = w.heap[k]?) : w1.ownsRow base e size v n xs := by
  obtain ⟨h1, h2⟩ := h
  refine ⟨h1, ?_⟩
  rcases h2 with h2 | ⟨g, cap, cur, a, b, c, d⟩
  · exact .inl h2
  · exact .inr ⟨g, cap, cur, a, b, (hk g b (Array.getElem?_eq_some_iff.1 c).1).trans c, d⟩
theorem own_lower {w : World} {base base' : Nat} {e : TypeId} {size : Nat} {v : Value} {n : Nat} {xs : List Value} (h : w.ownsRow base e size v n xs) (hb : base' ≤ base) : w.ownsRow base' e size v n xs := by
  obtain ⟨h1, h2⟩ := h
  refine ⟨h1, ?_⟩
  rcases h2 with h2 | ⟨g, cap, cur, a, b, c⟩
  · exact .inl h2
  · exact .inr ⟨g, cap, cur, a, by omega, c⟩
/-- nothing of a row is taken. -/
theorem own_none {w : World} {base : Nat} {e : TypeId} {g n cap : Nat} {xs : List Value} (h : w.ownsRow base e 1 (.slice (some ⟨g, 0, none⟩) n cap) n xs) : w.ownsRow base e 1 (.slice (some ⟨g, 0, none⟩) 0 cap) 0 [] := by
  rcases h.2 with ⟨h2, _⟩ | ⟨g', cap', cur, e', hb, hg, hn, hm, hs, _⟩
  · simp at h2
  · simp at e'
    obtain ⟨rfl, rfl⟩ := e'
    exact ⟨rfl, .inr ⟨g, cap, cur, rfl, hb, hg, Nat.zero_le _, hm, hs, by simp⟩⟩

/-- what the loop keeps: the place, the fields, the field. -/
def SpI (w : World) (t : ByteArray) (W : World) (v u : Value) (k : Nat) (o : List ByteArray) (f : List UInt8) : Prop :=
  W.heap[w.heap.size]? = some (.stringIter t k) ∧ W.ownsRow (w.heap.size + 1) 9 1 v o.length (cellsS o) ∧ W.ownsRow (w.heap.size + 1) 5 1 u f.length (cellsB f) ∧ Below w.heap.size w W
theorem SpI.size {w : World} {t : ByteArray} {W : World} {v u : Value} {k : Nat} {o : List ByteArray} {f : List UInt8} (h : SpI w t W v u k o f) : w.heap.size < W.heap.size := (Array.getElem?_eq_some_iff.1 h.1).1
theorem SpI.moved {w : World} {t : ByteArray} {W : World} {v u : Value} {k : Nat} {o : List ByteArray} {f : List UInt8} (h : SpI w t W v u k o f) (k' : Nat) : SpI w t (W.iterAt w.heap.size t k') v u k' o f :=
  ⟨Lib.iterAt_heap W w.heap.size t k k' h.1, own_keep h.2.1 (fun k hk _ => Lib.iterAt_other _ _ _ _ _ (by omega)), own_keep h.2.2.1 (fun k hk _ => Lib.iterAt_other _ _ _ _ _ (by omega)), Lib.below_iterAt h.2.2.2 (k := w.heap.size) (by omega) t k'⟩
theorem SpI.below {w : World} {t : ByteArray} {W W1 : World} {v u : Value} {k : Nat} {o : List ByteArray} {f : List UInt8} (h : SpI w t W v u k o f) (hb : Below W.heap.size W W1) : SpI w t W1 v u k o f :=
  ⟨(hb.block _ h.size).trans h.1, own_keep h.2.1 (fun k _ hk => hb.block k hk), own_keep h.2.2.1 (fun k _ hk => hb.block k hk), h.2.2.2.trans (hb.mono h.2.2.2.size)⟩
/-- a byte more in the field. -/
theorem SpI.byte {w : World} {t : ByteArray} {W W3 : World} {v u u' : Value} {k : Nat} {o : List ByteArray} {f : List UInt8} {c : UInt8} {x : Int} (h : SpI w t W v u k o f) (obj : Obj)
    (hg : (W.alloc obj).grownBy W3 u.ownBlock) (ho : W3.ownsRow (w.heap.size + 1) 5 1 u' (f.length + 1) (cellsB f ++ [.int .u8 x])) (hc : (c.toNat : Int) = x) : SpI w t W3 v u' k o (f ++ [c]) := by
  have hs := h.size
  refine ⟨?_, ?_, ?_, ?_⟩
  · rw [hg.block _ (by simp; omega) (fun e => by have := (h.2.2.1.lt _ e.symm).1; omega), Below.heap_alloc _ _ _ hs]; exact h.1
  · exact (h.2.1.alloc obj).kept hg (own_apart h.2.1 h.2.2.1 (by decide))
  · rw [cellsB_more f c x hc, List.length_append]; exact ho
  · exact Below.grown (h.2.2.2.alloc h.2.2.2.size obj) hg (by have := h.2.2.2.size; simp; omega) (fun k hk => by have := (h.2.2.1.lt _ hk).1; omega)
/-- a field more. -/
theorem SpI.field {w : World} {t : ByteArray} {W W3 : World} {v u v' : Value} {k : Nat} {o : List ByteArray} {f : List UInt8} {x : ByteArray} (h : SpI w t W v u k o f) (obj : Obj)
    (hg : (W.alloc obj).grownBy W3 v.ownBlock) (ho : W3.ownsRow (w.heap.size + 1) 9 1 v' (o.length + 1) (cellsS o ++ [.string x])) : SpI w t W3 v' u k (o ++ [x]) f := by
  have hs := h.size
  refine ⟨?_, ?_, ?_, ?_⟩
  · rw [hg.block _ (by simp; omega) (fun e => by have := (h.2.1.lt _ e.symm).1; omega), Below.heap_alloc _ _ _ hs]; exact h.1
  · rw [cellsS_more o x, List.length_append]; exact ho
  · exact (h.2.2.1.alloc obj).kept hg (own_apart h.2.2.1 h.2.1 (by decide))
  · exact Below.grown (h.2.2.2.alloc h.2.2.2.size obj) hg (by have := h.2.2.2.size; simp; omega) (fun k hk => by have := (h.2.1.lt _ hk).1; omega)
theorem SpI.noField {w : World} {t : ByteArray} {W : World} {v : Value} {k g n cap : Nat} {o : List ByteArray} {f : List UInt8} (h : SpI w t W v (.slice (some ⟨g, 0, none⟩) n cap) k o f) (hn : f.length = n) : SpI w t W v (.slice (some ⟨g, 0, none⟩) 0 cap) k o [] :=
  ⟨h.1, h.2.1, own_none (n := n) (xs := cellsB f) (by have := h.2.2.1; rw [hn] at this; exact this), h.2.2.2⟩
theorem fin_yes {s : LSt} (h : s.bg = true) : fin s = s.out ++ [⟨s.fld.toArray⟩] := by unfold fin; rw [if_pos h]
theorem fin_no {s : LSt} (h : s.bg = false) : fin s = s.out := by unfold fin; rw [if_neg (by rw [h]; decide)]
theorem iterPos_at {w : World} {k : Nat} {s : ByteArray} {p : Nat} (h : w.heap[k]? = some (.stringIter s p)) : w.iterPos k = p := by simp [World.iterPos, h]

/-- what line.split answers. -/
def LineOf (w : World) (e : Ending) (w' : World) : Option (List ByteArray) → Prop
  | none => ∃ v, e = .returned (.tuple #[v, .bool false])
  | some L => ∃ v, e = .returned (.tuple #[v, .bool true]) ∧ w'.ownsRow w.heap.size 9 1 v L.length (cellsS L)
/-- a field as a text. -/
theorem conv_field {W : World} {base n g cap : Nat} {f : List UInt8} (h : W.ownsRow base 5 1 (.slice (some ⟨g, 0, none⟩) n cap) n (cellsB f)) (hn : f.length = n) :
    (convert 22 9 (.slice (some ⟨g, 0, none⟩) n cap)).run Tryd.prog W = .ok (.string ⟨f.toArray⟩) W := by
  subst hn
  exact run_convert_bytes_back (P := Tryd.prog) W 22 9 5 _ cap f Tryd.underlying22 Tryd.underlying5 Tryd.underlying9 (fun j hj => h.cells rfl j _ (cellsB_get (List.getElem?_eq_getElem hj)))
theorem below_dN {B : Nat} {a w : World} (h : Below B a w) (n : Nat) : Below B a (w.drewN n) := h.trans ⟨rfl, rfl, rfl, Nat.le_refl _, fun _ _ => rfl⟩
theorem SpI.dN {w : World} {t : ByteArray} {W : World} {v u : Value} {k : Nat} {o : List ByteArray} {f : List UInt8} (h : SpI w t W v u k o f) (n : Nat) : SpI w t (W.drewN n) v u k o f := h.below (below_dN (Below.refl _ _) n)

end Go.Proofs.YtdonjdihffpghaaDoor.Lin
