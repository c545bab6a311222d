/- Contract of line.split: a line's fields, or that it can not be. -/
import Derived.Test.YtgnfkkcagbbhmaaGreatDoorLnMq
import Derived.Laws.BytesArg
namespace Go.Proofs.YtgnfkkcagbbhmaaGreatDoor.Lin
open Go.RowKit
set_option linter.unusedVariables false

theorem infoStr : (Tryz.prog.info? 9).map (fun i => (i.zero, i.size, i.bytes)) = some (some (.string ByteArray.empty), 1, 16) := by kernel_rfl
def cellsS (l : List ByteArray) : List Value := l.map .string
theorem cellsS_more (l : List ByteArray) (c : ByteArray) : cellsS (l ++ [c]) = cellsS l ++ [.string c] := by simp [cellsS]
theorem cellsS_get {l : List ByteArray} {j : Nat} {c : ByteArray} (h : l[j]? = some c) : (cellsS l)[j]? = some (.string c) := by simp [cellsS, h]
theorem one_oneS (m : ByteArray) : ∀ u ∈ [Value.string m], u.oneCell' = true := by
  intro x hx; simp at hx; subst hx; rfl
theorem own_apart {W : World} {b1 b2 e1 e2 s1 s2 n1 n2 : Nat} {v u : Value} {xs ys : List Value} (h : W.ownsRow b1 e1 s1 v n1 xs) (k : W.ownsRow b2 e2 s2 u n2 ys) (he : e1 ≠ e2) : v.ownBlock = none ∨ v.ownBlock ≠ u.ownBlock := by
  rcases h.2 with ⟨rfl, _⟩ | ⟨g, cap, cur, rfl, _, hg, _⟩
  · exact .inl rfl
  · right
    rcases k.2 with ⟨rfl, _⟩ | ⟨g', cap', cur', rfl, _, hg', _⟩
    · simp [Value.ownBlock]
    · intro e
      simp [Value.ownBlock] at e
      subst e
      rw [hg] at hg'
      simp at hg'
      exact he hg'.2
theorem own_keep {w w1 : World} {base : Nat} {e : TypeId} {size : Nat} {v : Value} {n : Nat} {xs : List Value} (h : w.ownsRow base e size v n xs) (hk : ∀ k, base ≤ k → k < w.heap.size → w1.heap[k]? = w.heap[k]?) : w1.ownsRow base e size v n xs := by
  obtain ⟨h1, h2⟩ := h
  refine ⟨h1, ?_⟩
  rcases h2 with h2 | ⟨g, cap, cur, a, b, c, d⟩
  · exact .inl h2
  · exact .inr ⟨g, cap, cur, a, b, (hk g b (Array.getElem?_eq_some_iff.1 c).1).trans c, d⟩
theorem own_lower {w : World} {base base' : Nat} {e : TypeId} {size : Nat} {v : Value} {n : Nat} {xs : List Value} (h : w.ownsRow base e size v n xs) (hb : base' ≤ base) : w.ownsRow base' e size v n xs := by
  obtain ⟨h1, h2⟩ := h
  refine ⟨h1, ?_⟩
  rcases h2 with h2 | ⟨g, cap, cur, a, b, c⟩
  · exact .inl h2
  · exact .inr ⟨g, cap, cur, a, by omega, c⟩
/-- nothing of a row is taken. -/
theorem own_none {w : World} {base : Nat} {e : TypeId} {g n cap : Nat} {xs : List Value} (h : w.ownsRow base e 1 (.slice (some ⟨g, 0, none⟩) n cap) n xs) : w.ownsRow base e 1 (.slice (some ⟨g, 0, none⟩) 0 cap) 0 [] := by
  rcases h.2 with ⟨h2, _⟩ | ⟨g', cap', cur, e', hb, hg, hn, hm, hs, _⟩
  · simp at h2
  · simp at e'
    obtain ⟨rfl, rfl⟩ := e'
    exact ⟨rfl, .inr ⟨g, cap, cur, rfl, hb, hg, Nat.zero_le _, hm, hs, by simp⟩⟩

/-- what the loop keeps: the place, the fields, the field. -/
def SpI (w : World) (t : ByteArray) (W : World) (v u : Value) (k : Nat) (o : List ByteArray) (f : List UInt8) : Prop :=
  W.heap[w.heap.size]? = some (.stringIter t k) ∧ W.ownsRow (w.heap.size + 1) 9 1 v o.length (cellsS o) ∧ W.ownsRow (w.heap.size + 1) 5 1 u f.length (cellsB f) ∧ Below w.heap.size w W
theorem SpI.size {w : World} {t : ByteArray} {W : World} {v u : Value} {k : Nat} {o : List ByteArray} {f : List UInt8} (h : SpI w t W v u k o f) : w.heap.size < W.heap.size := (Array.getElem?_eq_some_iff.1 h.1).1
theorem SpI.moved {w : World} {t : ByteArray} {W : World} {v u : Value} {k : Nat} {o : List ByteArray} {f : List UInt8} (h : SpI w t W v u k o f) (k' : Nat) : SpI w t (W.iterAt w.heap.size t k') v u k' o f :=
  ⟨Lib.iterAt_heap W w.heap.size t k k' h.1, own_keep h.2.1 (fun k hk _ => Lib.iterAt_other _ _ _ _ _ (by omega)), own_keep h.2.2.1 (fun k hk _ => Lib.iterAt_other _ _ _ _ _ (by omega)), Lib.below_iterAt h.2.2.2 (k := w.heap.size) (by omega) t k'⟩
theorem SpI.below {w : World} {t : ByteArray} {W W1 : World} {v u : Value} {k : Nat} {o : List ByteArray} {f : List UInt8} (h : SpI w t W v u k o f) (hb : Below W.heap.size W W1) : SpI w t W1 v u k o f :=
  ⟨(hb.block _ h.size).trans h.1, own_keep h.2.1 (fun k _ hk => hb.block k hk), own_keep h.2.2.1 (fun k _ hk => hb.block k hk), h.2.2.2.trans (hb.mono h.2.2.2.size)⟩
/-- a byte more in the field. -/
theorem SpI.byte {w : World} {t : ByteArray} {W W3 : World} {v u u' : Value} {k : Nat} {o : List ByteArray} {f : List UInt8} {c : UInt8} {x : Int} (h : SpI w t W v u k o f) (obj : Obj)
    (hg : (W.alloc obj).grownBy W3 u.ownBlock) (ho : W3.ownsRow (w.heap.size + 1) 5 1 u' (f.length + 1) (cellsB f ++ [.int .u8 x])) (hc : (c.toNat : Int) = x) : SpI w t W3 v u' k o (f ++ [c]) := by
  have hs := h.size
  refine ⟨?_, ?_, ?_, ?_⟩
  · rw [hg.block _ (by simp; omega) (fun e => by have := (h.2.2.1.lt _ e.symm).1; omega), Below.heap_alloc _ _ _ hs]; exact h.1
  · exact (h.2.1.alloc obj).kept hg (own_apart h.2.1 h.2.2.1 (by decide))
  · rw [cellsB_more f c x hc, List.length_append]; exact ho
  · exact Below.grown (h.2.2.2.alloc h.2.2.2.size obj) hg (by have := h.2.2.2.size; simp; omega) (fun k hk => by have := (h.2.2.1.lt _ hk).1; omega)
/-- a field more. -/
theorem SpI.field {w : World} {t : ByteArray} {W W3 : World} {v u v' : Value} {k : Nat} {o : List ByteArray} {f : List UInt8} {x : ByteArray} (h : SpI w t W v u k o f) (obj : Obj)
    (hg : (W.alloc obj).grownBy W3 v.ownBlock) (ho : W3.ownsRow (w.heap.size + 1) 9 1 v' (o.length + 1) (cellsS o ++ [.string x])) : SpI w t W3 v' u k (o ++ [x]) f := by
  have hs := h.size
  refine ⟨?_, ?_, ?_, ?_⟩
  · rw [hg.block _ (by simp; omega) (fun e => by have := (h.2.1.lt _ e.symm).1; omega), Below.heap_alloc _ _ _ hs]; exact h.1
  · rw [cellsS_more o x, List.length_append]; exact ho
  · exact (h.2.2.1.alloc obj).kept hg (own_apart h.2.2.1 h.2.1 (by decide))
  · exact Below.grown (h.2.2.2.alloc h.2.2.2.size obj) hg (by have := h.2.2.2.size; simp; omega) (fun k hk => by have := (h.2.1.lt _ hk).1; omega)
theorem SpI.noField {w : World} {t : ByteArray} {W : World} {v : Value} {k g n cap : Nat} {o : List ByteArray} {f : List UInt8} (h : SpI w t W v (.slice (some ⟨g, 0, none⟩) n cap) k o f) (hn : f.length = n) : SpI w t W v (.slice (some ⟨g, 0, none⟩) 0 cap) k o [] :=
  ⟨h.1, h.2.1, own_none (n := n) (xs := cellsB f) (by have := h.2.2.1; rw [hn] at this; exact this), h.2.2.2⟩
theorem fin_yes {s : LSt} (h : s.bg = true) : fin s = s.out ++ [⟨s.fld.toArray⟩] := by unfold fin; rw [if_pos h]
theorem fin_no {s : LSt} (h : s.bg = false) : fin s = s.out := by unfold fin; rw [if_neg (by rw [h]; decide)]
theorem iterPos_at {w : World} {k : Nat} {s : ByteArray} {p : Nat} (h : w.heap[k]? = some (.stringIter s p)) : w.iterPos k = p := by simp [World.iterPos, h]

/-- what line.split answers. -/
def LineOf (w : World) (e : Ending) (w' : World) : Option (List ByteArray) → Prop
  | none => ∃ v, e = .returned (.tuple #[v, .bool false])
  | some L => ∃ v, e = .returned (.tuple #[v, .bool true]) ∧ w'.ownsRow w.heap.size 9 1 v L.length (cellsS L)
/-- a field as a text. -/
theorem conv_field {W : World} {base n g cap : Nat} {f : List UInt8} (h : W.ownsRow base 5 1 (.slice (some ⟨g, 0, none⟩) n cap) n (cellsB f)) (hn : f.length = n) :
    (convert 123 9 (.slice (some ⟨g, 0, none⟩) n cap)).run Tryz.prog W = .ok (.string ⟨f.toArray⟩) W := by
  subst hn
  exact run_convert_bytes_back (P := Tryz.prog) W 123 9 5 _ cap f Tryz.underlying123 Tryz.underlying5 Tryz.underlying9 (fun j hj => h.cells rfl j _ (cellsB_get (List.getElem?_eq_getElem hj)))
theorem below_dN {B : Nat} {a w : World} (h : Below B a w) (n : Nat) : Below B a (w.drewN n) := h.trans ⟨rfl, rfl, rfl, Nat.le_refl _, fun _ _ => rfl⟩
theorem SpI.dN {w : World} {t : ByteArray} {W : World} {v u : Value} {k : Nat} {o : List ByteArray} {f : List UInt8} (h : SpI w t W v u k o f) (n : Nat) : SpI w t (W.drewN n) v u k o f := h.below (below_dN (Below.refl _ _) n)

set_option maxRecDepth 1000000 in
set_option maxHeartbeats 8000000 in
theorem lsplit_any (t : ByteArray) (ht : t.size ≤ 8192) (w : World) :
    Calls Tryz.prog 46 #[.string t] w fun e w' => Below w.heap.size w w' ∧ LineOf w e w' (oneL t.data.toList) := by
  obtain ⟨i0, hi, hz0, hz1, hz2⟩ := info_parts infoU8
  obtain ⟨i1, hi', hy0, hy1, hy2⟩ := info_parts infoStr
  obtain ⟨G, hG⟩ : ∃ G, G = oneL t.data.toList := ⟨_, rfl⟩
  rw [← hG]
  have HG : Hid (oneR (runL t.data.toList lst0) = G) := hG.symm
  clear hG
  go_enter Tryz.func46, Tryz.ntmps46
  go_wp2_with fail
  go_loopw [4, 5, 6, 7, 8] (fun v u b q l wr => ∃ (k : Nat) (s : LSt), k ≤ t.size ∧ b = .bool s.bg ∧ q = .bool s.qu ∧ l = .bool s.lf ∧ s.out.length ≤ k ∧ s.fld.length ≤ k ∧ Hid (SpI w t wr v u k s.out s.fld) ∧ Hid (oneR (runL (t.data.toList.drop k) s) = G)) (fun _ _ _ _ _ wr => t.size - wr.iterPos w.heap.size)
  case atStart =>
    refine ⟨0, lst0, Nat.zero_le _, rfl, rfl, rfl, Nat.zero_le _, Nat.zero_le _, ⟨World.iter_heap w t 0, World.ownsRow_nil _ _ _ _, World.ownsRow_nil _ _ _ _, (Below.refl _ _).alloc (Nat.le_refl _) _⟩, HG⟩
  case round =>
    clear HG
    obtain ⟨k, s, hk, rfl, rfl, rfl, ho, hf, HI, HG⟩ := hrel
    have hpos0 : Hid (wr.iterPos w.heap.size = k) := iterPos_at HI.out.1
    cases s with
    | mk o f bg qu lf =>
    dsimp only at ho hf HI ⊢
    by_cases hkt : k < t.size
    · obtain ⟨c, hc1, hc2⟩ := drop_at hkt
      rw [hc1] at HG
      obtain ⟨C, hC⟩ : ∃ C, c.toNat = C := ⟨_, rfl⟩
      by_cases hasc : C < 128
      · have hnx : ∀ ty, (Instr.next (.pointer (some ⟨w.heap.size, 0, none⟩)) true ty).run Tryz.prog wr = _ := fun ty => Lib.run_next_ascii_at wr w.heap.size t k ty HI.out.1 hkt (by rw [hc2, hC]; exact hasc)
        rw [hc2, hC] at hnx
        have HI1 : Hid (SpI w t (wr.iterAt w.heap.size t (k + 1)) u4 u5 (k + 1) o f) := HI.out.moved (k + 1)
        have hC1 : (0 : Int) ≤ (C : Int) := by omega
        have hC2 : (C : Int) < 128 := by omega
        have hCw : IntKind.u8.wrap (C : Int) = (C : Int) := by rw [IntKind.wrap_u8]; omega
        have HKO : Hid (∀ w : World, Calls Tryz.prog 76 #[.int .i32 (C : Int), .bool qu] w fun e w' => e = .returned (.int .i64 (kindN C qu : Int)) ∧ w' = w) := kindOf_any C qu
        have HC : Hid ((c.toNat : Int) = (C : Int)) := by show _ = _; rw [hC]
        have hk4 := kind_le C qu
        obtain ⟨K, hK⟩ : ∃ K, kindN C qu = K := ⟨_, rfl⟩
        have HK : Hid (kindN c.toNat qu = K) := by show _ = _; rw [hC, hK]
        rw [hK] at HKO hk4
        clear hc1 hc2 hC hK HI hasc
        generalize wr.iterAt w.heap.size t (k + 1) = w1 at *
        obtain ⟨n, hn⟩ : ∃ n, f.length = n := ⟨_, rfl⟩
        obtain ⟨m, hm⟩ : ∃ m, o.length = m := ⟨_, rfl⟩
        have HO : Hid (w1.ownsRow (w.heap.size + 1) 5 1 u5 n (cellsB f)) := by have := HI1.out.2.2.1; rw [hn] at this; exact this
        have HQ : Hid (w1.ownsRow (w.heap.size + 1) 9 1 u4 m (cellsS o)) := by have := HI1.out.2.1; rw [hm] at this; exact this
        have hn8 : n ≤ 8192 := by omega
        have hm8 : m ≤ 8192 := by omega
        go_wp2_with fail
        refine (HKO.out _).mono ?_
        rintro e w2 ⟨rfl, rfl⟩
        clear HKO hnx
        by_cases K0 : K = 0
        · subst K0
          have HE : G = none := by rw [← HG.out, run_none HK.out]; rfl
          subst HE
          go_wp2_with fail
          go_ret2
          exact ⟨HI1.out.2.2.2, _, rfl⟩
        · cases lf
          · by_cases K4 : K = 4
            · subst K4
              have HE : Hid (oneR (runL (t.data.toList.drop (k + 1)) ⟨o, f ++ [c], true, qu, false⟩) = G) := by show _ = _; rw [← HG.out, run_plain HK.out rfl]
              clear HG HK K0 hk4 HQ
              rcases HO.out.2 with ⟨e0, -⟩ | ⟨g0, cap0, cur, e0, _, _, _, _, _, _⟩
              all_goals
                subst e0
                go_wp2_with (first
                | (at_builtin; refine wpList_append_own _ rfl _ _ 123 rfl (w.heap.size + 1) 5 i0 (.int .u8 0) 1 1 Tryz.underlying123 hi hz0 hz1 hz2 rfl (by decide) _ n (cellsB f) rfl (HO.out.alloc _) ⟨w2.heap.size, 0, none⟩ 1 1 [.int .u8 (C : Int)] rfl rfl (one_newB _ _ _) (one_oneB _) (by unfold maxLen; omega) (by omega) (by have := HI1.out.size; simp; omega) ?_; intro v' w3 hown' hgrow3 hnil3
                   have HJ : Hid (SpI w t w3 u4 v' (k + 1) o (f ++ [c])) := HI1.out.byte _ hgrow3 (by rw [hn]; exact hown') HC.out
                   clear hown' hgrow3 hnil3))
                go_roundw
                case rel => exact ⟨k + 1, ⟨o, f ++ [c], true, qu, false⟩, by omega, rfl, rfl, rfl, by show o.length ≤ _; omega, by show (f ++ [c]).length ≤ _; rw [List.length_append]; show _ + 1 ≤ _; omega, HJ, HE⟩
                case measure => rw [hpos0.out, iterPos_at HJ.out.1]; omega
            · by_cases K2 : K = 2
              · subst K2
                have HE : Hid (oneR (runL (t.data.toList.drop (k + 1)) ⟨o, f, true, !qu, false⟩) = G) := by show _ = _; rw [← HG.out, run_quote HK.out rfl]
                clear HG HK K0 K4 hk4 HQ HO
                go_wp2_with fail
                go_roundw
                case rel => exact ⟨k + 1, ⟨o, f, true, !qu, false⟩, by omega, rfl, rfl, rfl, by show o.length ≤ _; omega, by show f.length ≤ _; omega, HI1, HE⟩
                case measure => rw [hpos0.out, iterPos_at HI1.out.1]; omega
              · by_cases K3 : K = 3
                · subst K3
                  have HE : Hid (oneR (runL (t.data.toList.drop (k + 1)) ⟨o, f, bg, qu, true⟩) = G) := by show _ = _; rw [← HG.out, run_mark HK.out rfl]
                  clear HG HK K0 K4 K2 hk4 HQ HO
                  go_wp2_with fail
                  go_roundw
                  case rel => exact ⟨k + 1, ⟨o, f, bg, qu, true⟩, by omega, rfl, rfl, rfl, by show o.length ≤ _; omega, by show f.length ≤ _; omega, HI1, HE⟩
                  case measure => rw [hpos0.out, iterPos_at HI1.out.1]; omega
                · have K1 : K = 1 := by omega
                  subst K1
                  have HE : Hid (oneR (runL (t.data.toList.drop (k + 1)) ⟨fin ⟨o, f, bg, qu, false⟩, [], false, qu, false⟩) = G) := by show _ = _; rw [← HG.out, run_blank HK.out rfl]
                  clear HG HK K0 K4 K2 K3 hk4
                  rcases HO.out.2 with ⟨e5, en⟩ | ⟨g5, cap5, cur5, e5, _, _, h5n, h5c, _, _⟩
                  · subst e5
                    have ef : f = [] := List.eq_nil_of_length_eq_zero (by omega)
                    cases bg
                    · rw [fin_no rfl] at HE
                      subst ef
                      clear HO HQ
                      go_wp2_with fail
                      go_quiet (fail)
                      go_wp2_with fail
                      go_roundw
                      case rel => exact ⟨k + 1, ⟨o, [], false, qu, false⟩, by omega, rfl, rfl, rfl, by show o.length ≤ _; omega, by show 0 ≤ _; omega, HI1.out.dN nq, HE⟩
                      case measure => rw [hpos0.out, iterPos_at (HI1.out.dN nq).1]; omega
                    · rw [fin_yes rfl] at HE
                      dsimp only at HE
                      clear HO
                      have hcv := run_convert_bytes_nil (P := Tryz.prog) w2 123 5 Tryz.underlying123 Tryz.underlying5 0 0 9 Tryz.underlying9
                      have HF : Hid (ByteArray.empty = ⟨f.toArray⟩ ∧ f = []) := ⟨by rw [ef]; rfl, ef⟩
                      clear ef
                      rcases HQ.out.2 with ⟨e4, -⟩ | ⟨g4, cap4, cur4, e4, _, _, _, _, _, _⟩
                      all_goals
                        subst e4
                        go_wp2_with (first
                          | (at_builtin; refine wpList_append_own _ rfl _ _ 52 rfl (w.heap.size + 1) 9 i1 (.string ByteArray.empty) 1 16 Tryz.underlying52 hi' hy0 hy1 hy2 rfl (by decide) _ m (cellsS o) rfl (HQ.out.alloc _) ⟨w2.heap.size, 0, none⟩ 1 1 [.string ByteArray.empty] rfl rfl (one_newB _ _ _) (one_oneS _) (by unfold maxLen; omega) (by omega) (by have := HI1.out.size; simp; omega) ?_; intro v' w3 hown' hgrow3 hnil3
                             have HJ : Hid (SpI w t w3 v' (.slice none 0 0) (k + 1) (o ++ [ByteArray.empty]) f) := HI1.out.field _ hgrow3 (by rw [hm]; exact hown')
                             clear hown' hgrow3 hnil3))
                        have HI2 : Hid (SpI w t w3 v' (.slice none 0 0) (k + 1) (o ++ [(⟨f.toArray⟩ : ByteArray)]) []) := by have := HJ.out; rw [HF.out.1] at this; rw [HF.out.2] at this ⊢; exact this
                        clear HQ HI1 HJ HF
                        go_wp2_with fail
                        go_quiet (fail)
                        go_wp2_with fail
                        go_roundw
                        case rel => exact ⟨k + 1, ⟨o ++ [(⟨f.toArray⟩ : ByteArray)], [], false, qu, false⟩, by omega, rfl, rfl, rfl, by show (o ++ [_]).length ≤ _; rw [List.length_append]; show _ + 1 ≤ _; omega, by show 0 ≤ _; omega, HI2.out.dN nq, HE⟩
                        case measure => rw [hpos0.out, iterPos_at (HI2.out.dN nq).1]; omega
                  · subst e5
                    unfold maxLen at h5c
                    have h5a : (0 : Int) ≤ (cap5 : Int) := by omega
                    cases bg
                    · rw [fin_no rfl] at HE
                      have HI2 : Hid (SpI w t w2 u4 (.slice (some ⟨g5, 0, none⟩) 0 cap5) (k + 1) o []) := HI1.out.noField hn
                      clear HO HQ HI1
                      go_wp2_with fail
                      go_quiet (fail)
                      go_wp2_with fail
                      go_roundw
                      case rel => exact ⟨k + 1, ⟨o, [], false, qu, false⟩, by omega, rfl, rfl, rfl, by show o.length ≤ _; omega, by show 0 ≤ _; omega, HI2.out.dN nq, HE⟩
                      case measure => rw [hpos0.out, iterPos_at (HI2.out.dN nq).1]; omega
                    · rw [fin_yes rfl] at HE
                      dsimp only at HE
                      have hcv := conv_field HO.out hn
                      clear HO
                      rcases HQ.out.2 with ⟨e4, -⟩ | ⟨g4, cap4, cur4, e4, _, _, _, _, _, _⟩
                      all_goals
                        subst e4
                        go_wp2_with (first
                        | (at_builtin; refine wpList_append_own _ rfl _ _ 52 rfl (w.heap.size + 1) 9 i1 (.string ByteArray.empty) 1 16 Tryz.underlying52 hi' hy0 hy1 hy2 rfl (by decide) _ m (cellsS o) rfl (HQ.out.alloc _) ⟨w2.heap.size, 0, none⟩ 1 1 [.string ⟨f.toArray⟩] rfl rfl (one_newB _ _ _) (one_oneS _) (by unfold maxLen; omega) (by omega) (by have := HI1.out.size; simp; omega) ?_; intro v' w3 hown' hgrow3 hnil3
                           have HJ : Hid (SpI w t w3 v' (.slice (some ⟨g5, 0, none⟩) n cap5) (k + 1) (o ++ [⟨f.toArray⟩]) f) := HI1.out.field _ hgrow3 (by rw [hm]; exact hown')
                           clear hown' hgrow3 hnil3))
                        have HI2 : Hid (SpI w t w3 v' (.slice (some ⟨g5, 0, none⟩) 0 cap5) (k + 1) (o ++ [⟨f.toArray⟩]) []) := HJ.out.noField hn
                        clear HQ HI1 HJ
                        go_wp2_with fail
                        go_quiet (fail)
                        go_wp2_with fail
                        go_roundw
                        case rel => exact ⟨k + 1, ⟨o ++ [(⟨f.toArray⟩ : ByteArray)], [], false, qu, false⟩, by omega, rfl, rfl, rfl, by show (o ++ [_]).length ≤ _; rw [List.length_append]; show _ + 1 ≤ _; omega, by show 0 ≤ _; omega, HI2.out.dN nq, HE⟩
                        case measure => rw [hpos0.out, iterPos_at (HI2.out.dN nq).1]; omega
          · have HE : Hid (oneR (runL (t.data.toList.drop (k + 1)) ⟨o, f, bg, qu, true⟩) = G) := by show _ = _; rw [← HG.out, run_left (by rw [HK.out]; exact K0) rfl]
            have K0' : ((K : Int) == 0) = false := by rw [beq_eq_false_iff_ne]; omega
            clear HG HK HQ HO
            go_wp2_with fail
            go_roundw
            case rel => exact ⟨k + 1, ⟨o, f, bg, qu, true⟩, by omega, rfl, rfl, rfl, by show o.length ≤ _; omega, by show f.length ≤ _; omega, HI1, HE⟩
            case measure => rw [hpos0.out, iterPos_at HI1.out.1]; omega
      · have hd := (decode_high t k hkt (by rw [hc2, hC]; omega)).1
        have hnx : ∀ ty, (Instr.next (.pointer (some ⟨w.heap.size, 0, none⟩)) true ty).run Tryz.prog wr = _ := fun ty => Lib.run_next_any_at wr w.heap.size t k ty HI.out.1 hkt
        have HI1 : Hid (SpI w t (wr.iterAt w.heap.size t (k + (Utf8.decode t k).2)) u4 u5 (k + (Utf8.decode t k).2) o f) := HI.out.moved _
        have HE : G = none := by rw [← HG.out, run_none (by rw [hC]; exact kind_high (by omega) _)]; rfl
        subst HE
        have HKO : Hid (∀ w : World, Calls Tryz.prog 76 #[.int .i32 ((Utf8.decode t k).1 : Int), .bool qu] w fun e w' => e = .returned (.int .i64 0) ∧ w' = w) := fun w => by
          have := kindOf_any (Utf8.decode t k).1 qu w
          rw [kind_high (by omega) qu] at this
          exact this
        generalize (Utf8.decode t k).1 = R at *
        generalize k + (Utf8.decode t k).2 = k2 at *
        generalize wr.iterAt w.heap.size t k2 = w1 at *
        clear HG hc1 hc2 hC hasc HI hd
        go_wp2_with fail
        refine (HKO.out _).mono ?_
        rintro e w2 ⟨rfl, rfl⟩
        go_wp2_with fail
        go_ret2
        exact ⟨HI1.out.2.2.2, _, rfl⟩
    · have hnx : ∀ ty, (Instr.next (.pointer (some ⟨w.heap.size, 0, none⟩)) true ty).run Tryz.prog wr = _ := fun ty => Lib.run_next_end_at wr w.heap.size t k ty HI.out.1 hkt
      have HE : Hid (ends ⟨o, f, bg, qu, lf⟩ = G) := by
        show _ = _
        rw [← HG.out, List.drop_of_length_le (by simp; omega)]; rfl
      obtain ⟨n, hn⟩ : ∃ n, f.length = n := ⟨_, rfl⟩
      obtain ⟨m, hm⟩ : ∃ m, o.length = m := ⟨_, rfl⟩
      have HO : Hid (wr.ownsRow (w.heap.size + 1) 5 1 u5 n (cellsB f)) := by have := HI.out.2.2.1; rw [hn] at this; exact this
      have HQ : Hid (wr.ownsRow (w.heap.size + 1) 9 1 u4 m (cellsS o)) := by have := HI.out.2.1; rw [hm] at this; exact this
      have hn8 : n ≤ 8192 := by omega
      have hm8 : m ≤ 8192 := by omega
      clear HG
      cases bg
      · have HL : Hid (Below w.heap.size w wr ∧ (qu = true → G = none) ∧ (qu = false → G = some o)) := ⟨HI.out.2.2.2, fun e => by rw [← HE.out]; subst e; rfl, fun e => by rw [← HE.out]; subst e; rfl⟩
        have HR : Hid (wr.ownsRow w.heap.size 9 1 u4 o.length (cellsS o)) := own_lower HI.out.2.1 (by omega)
        clear HE HI HO HQ
        cases qu
        · obtain ⟨l1, _, l3⟩ := HL.out
          have := l3 rfl
          subst this
          clear HL l3
          go_wp2_with fail
          go_ret2
          exact ⟨l1, _, rfl, HR.out⟩
        · obtain ⟨l1, l3, _⟩ := HL.out
          have := l3 rfl
          subst this
          clear HL l3
          go_wp2_with fail
          go_ret2
          exact ⟨l1, _, rfl⟩
      · have HL : Hid ((qu = true → G = none) ∧ (qu = false → G = some (o ++ [(⟨f.toArray⟩ : ByteArray)]))) := ⟨fun e => by rw [← HE.out]; subst e; rfl, fun e => by rw [← HE.out]; subst e; rfl⟩
        clear HE
        rcases HO.out.2 with ⟨e5, en⟩ | ⟨g5, cap5, cur5, e5, _, _, h5n, h5c, _, _⟩
        · subst e5
          have ef : f = [] := List.eq_nil_of_length_eq_zero (by omega)
          have hcv := run_convert_bytes_nil (P := Tryz.prog) wr 123 5 Tryz.underlying123 Tryz.underlying5 0 0 9 Tryz.underlying9
          have HF : Hid (ByteArray.empty = ⟨f.toArray⟩) := by show _ = _; rw [ef]; rfl
          clear ef HO
          rcases HQ.out.2 with ⟨e4, -⟩ | ⟨g4, cap4, cur4, e4, _, _, _, _, _, _⟩
          all_goals
            subst e4
            cases qu
            · have hG := HL.out.2 rfl
              subst hG
              clear HL
              go_wp2_with (first
                | (at_builtin; refine wpList_append_own _ rfl _ _ 52 rfl (w.heap.size + 1) 9 i1 (.string ByteArray.empty) 1 16 Tryz.underlying52 hi' hy0 hy1 hy2 rfl (by decide) _ m (cellsS o) rfl (HQ.out.alloc _) ⟨wr.heap.size, 0, none⟩ 1 1 [.string ByteArray.empty] rfl rfl (one_newB _ _ _) (one_oneS _) (by unfold maxLen; omega) (by omega) (by have := HI.out.size; simp; omega) ?_; intro v' w3 hown' hgrow3 hnil3
                   have HJ : Hid (SpI w t w3 v' (.slice none 0 0) k (o ++ [ByteArray.empty]) f) := HI.out.field _ hgrow3 (by rw [hm]; exact hown')
                   clear hown' hgrow3 hnil3))
              have HR : Hid (w3.ownsRow w.heap.size 9 1 v' (o ++ [(⟨f.toArray⟩ : ByteArray)]).length (cellsS (o ++ [(⟨f.toArray⟩ : ByteArray)]))) := by have := own_lower HJ.out.2.1 (show w.heap.size ≤ w.heap.size + 1 by omega); rw [HF.out] at this; exact this
              have HB := HJ.out.2.2.2
              clear HQ HI HJ HF
              go_wp2_with fail
              go_ret2
              exact ⟨HB, _, rfl, HR.out⟩
            · have hG := HL.out.1 rfl
              subst hG
              clear HL
              go_wp2_with (first
                | (at_builtin; refine wpList_append_own _ rfl _ _ 52 rfl (w.heap.size + 1) 9 i1 (.string ByteArray.empty) 1 16 Tryz.underlying52 hi' hy0 hy1 hy2 rfl (by decide) _ m (cellsS o) rfl (HQ.out.alloc _) ⟨wr.heap.size, 0, none⟩ 1 1 [.string ByteArray.empty] rfl rfl (one_newB _ _ _) (one_oneS _) (by unfold maxLen; omega) (by omega) (by have := HI.out.size; simp; omega) ?_; intro v' w3 hown' hgrow3 hnil3
                   have HJ : Hid (SpI w t w3 v' (.slice none 0 0) k (o ++ [ByteArray.empty]) f) := HI.out.field _ hgrow3 (by rw [hm]; exact hown')
                   clear hown' hgrow3 hnil3))
              have HB := HJ.out.2.2.2
              clear HQ HI HJ HF
              go_wp2_with fail
              go_ret2
              exact ⟨HB, _, rfl⟩
        · subst e5
          have hcv := conv_field HO.out hn
          clear HO
          rcases HQ.out.2 with ⟨e4, -⟩ | ⟨g4, cap4, cur4, e4, _, _, _, _, _, _⟩
          all_goals
            subst e4
            cases qu
            · have hG := HL.out.2 rfl
              subst hG
              clear HL
              go_wp2_with (first
                | (at_builtin; refine wpList_append_own _ rfl _ _ 52 rfl (w.heap.size + 1) 9 i1 (.string ByteArray.empty) 1 16 Tryz.underlying52 hi' hy0 hy1 hy2 rfl (by decide) _ m (cellsS o) rfl (HQ.out.alloc _) ⟨wr.heap.size, 0, none⟩ 1 1 [.string ⟨f.toArray⟩] rfl rfl (one_newB _ _ _) (one_oneS _) (by unfold maxLen; omega) (by omega) (by have := HI.out.size; simp; omega) ?_; intro v' w3 hown' hgrow3 hnil3
                   have HJ : Hid (SpI w t w3 v' (.slice (some ⟨g5, 0, none⟩) n cap5) k (o ++ [⟨f.toArray⟩]) f) := HI.out.field _ hgrow3 (by rw [hm]; exact hown')
                   clear hown' hgrow3 hnil3))
              have HR : Hid (w3.ownsRow w.heap.size 9 1 v' (o ++ [(⟨f.toArray⟩ : ByteArray)]).length (cellsS (o ++ [(⟨f.toArray⟩ : ByteArray)]))) := own_lower HJ.out.2.1 (by omega)
              have HB := HJ.out.2.2.2
              clear HQ HI HJ
              go_wp2_with fail
              go_ret2
              exact ⟨HB, _, rfl, HR.out⟩
            · have hG := HL.out.1 rfl
              subst hG
              clear HL
              go_wp2_with (first
                | (at_builtin; refine wpList_append_own _ rfl _ _ 52 rfl (w.heap.size + 1) 9 i1 (.string ByteArray.empty) 1 16 Tryz.underlying52 hi' hy0 hy1 hy2 rfl (by decide) _ m (cellsS o) rfl (HQ.out.alloc _) ⟨wr.heap.size, 0, none⟩ 1 1 [.string ⟨f.toArray⟩] rfl rfl (one_newB _ _ _) (one_oneS _) (by unfold maxLen; omega) (by omega) (by have := HI.out.size; simp; omega) ?_; intro v' w3 hown' hgrow3 hnil3
                   have HJ : Hid (SpI w t w3 v' (.slice (some ⟨g5, 0, none⟩) n cap5) k (o ++ [⟨f.toArray⟩]) f) := HI.out.field _ hgrow3 (by rw [hm]; exact hown')
                   clear hown' hgrow3 hnil3))
              have HB := HJ.out.2.2.2
              clear HQ HI HJ
              go_wp2_with fail
              go_ret2
              exact ⟨HB, _, rfl⟩

end Go.Proofs.YtgnfkkcagbbhmaaGreatDoor.Lin
