/- Contract of word.Split: a text's parts, or the place where it is not right. -/
import Derived.Test.YtaoocecipacnhaaDoorWdCq
namespace Go.Proofs.YtaoocecipacnhaaDoor
open Go.RowKit
set_option linter.unusedVariables false

theorem infoPart : (Tryd.prog.info? 73).map (fun i => (i.zero, i.size, i.bytes)) = some (some (.agg #[.int .i64 0, .string ByteArray.empty, .int .i64 0]), 3, 32) := by kernel_rfl

/-- parts as they lie in memory. -/
def flatP (s : ByteArray) : List Prt → List Value
  | [] => []
  | p :: l => .int .i64 p.1 :: .string (s.extract p.2.1 p.2.2) :: .int .i64 (p.2.1 : Int) :: flatP s l
theorem flatP_length (s : ByteArray) : ∀ l : List Prt, (flatP s l).length = l.length * 3
  | [] => rfl
  | r :: l => by simp [flatP, flatP_length s l]; omega
theorem flatP_append (s : ByteArray) : ∀ (l k : List Prt), flatP s (l ++ k) = flatP s l ++ flatP s k
  | [], k => rfl
  | r :: l, k => by simp [flatP, flatP_append s l k]
theorem flatP_set (s : ByteArray) (l : List Prt) (k : Int) (t : Value) (x y : Nat) : (flatP s l ++ [.int .i64 k, t, .int .i64 (x : Int)]).set (l.length * 3 + 1) (.string (s.extract x y)) = flatP s (l ++ [(k, x, y)]) := by
  rw [flatP_append, List.set_append_right _ _ (by rw [flatP_length]; omega), flatP_length, show l.length * 3 + 1 - l.length * 3 = 1 by omega]
  rfl
theorem ownsRow_keep {w w1 : World} {base : Nat} {e : TypeId} {size : Nat} {v : Value} {n : Nat} {xs : List Value} (h : w.ownsRow base e size v n xs) (hk : ∀ k, base ≤ k → k < w.heap.size → w1.heap[k]? = w.heap[k]?) : w1.ownsRow base e size v n xs := by
  obtain ⟨h1, h2⟩ := h
  refine ⟨h1, ?_⟩
  rcases h2 with h2 | ⟨g, cap, cur, a, b, c, d⟩
  · exact .inl h2
  · exact .inr ⟨g, cap, cur, a, b, (hk g b (Array.getElem?_eq_some_iff.1 c).1).trans c, d⟩

theorem ownsRow_lower {w : World} {base base' : Nat} {e : TypeId} {size : Nat} {v : Value} {n : Nat} {xs : List Value} (h : w.ownsRow base e size v n xs) (hb : base' ≤ base) : w.ownsRow base' e size v n xs := by
  obtain ⟨h1, h2⟩ := h
  refine ⟨h1, ?_⟩
  rcases h2 with h2 | ⟨g, cap, cur, a, b, c⟩
  · exact .inl h2
  · exact .inr ⟨g, cap, cur, a, by omega, c⟩

/-- what the loop keeps: the place in the text, the parts. -/
def SInv (w : World) (s : ByteArray) (W : World) (v : Value) (pos n : Nat) (xs : List Value) : Prop :=
  W.heap[w.heap.size]? = some (.stringIter s pos) ∧ W.ownsRow (w.heap.size + 1) 73 3 v n xs ∧ Below w.heap.size w W
theorem SInv.it {w : World} {s : ByteArray} {W : World} {v : Value} {pos n : Nat} {xs : List Value} (h : SInv w s W v pos n xs) : W.heap[w.heap.size]? = some (.stringIter s pos) := h.1
theorem SInv.own {w : World} {s : ByteArray} {W : World} {v : Value} {pos n : Nat} {xs : List Value} (h : SInv w s W v pos n xs) : W.ownsRow (w.heap.size + 1) 73 3 v n xs := h.2.1
theorem SInv.low {w : World} {s : ByteArray} {W : World} {v : Value} {pos n : Nat} {xs : List Value} (h : SInv w s W v pos n xs) : Below w.heap.size w W := h.2.2
theorem SInv.drewed {w : World} {s : ByteArray} {W : World} {v : Value} {pos n : Nat} {xs : List Value} (h : SInv w s W v pos n xs) : SInv w s W.drew v pos n xs := ⟨h.1, h.2.1, h.2.2.drew⟩
theorem SInv.below {w : World} {s : ByteArray} {W W1 : World} {v : Value} {pos n : Nat} {xs : List Value} (h : SInv w s W v pos n xs) (hb : Below W.heap.size W W1) : SInv w s W1 v pos n xs :=
  ⟨(hb.block _ (Array.getElem?_eq_some_iff.1 h.it).1).trans h.it, ownsRow_keep h.own (fun k _ hk => hb.block k hk), h.low.trans (hb.mono h.low.size)⟩

/-- the last part, in its block. -/
theorem SInv.last {w : World} {s : ByteArray} {W : World} {g cap pos n : Nat} {l : List Prt} {k x : Int} {t : Value} (h : SInv w s W (.slice (some ⟨g, 0, none⟩) (n + 1) cap) pos (n + 1) (flatP s l ++ [.int .i64 k, t, .int .i64 x])) (hn : l.length = n) :
    W.cell? ⟨g, n * 3 + 1, none⟩ = some t ∧ W.cell? ⟨g, n * 3 + 2, none⟩ = some (.int .i64 x) ∧ W.frozen? ⟨g, n * 3 + 1, none⟩ = false := by
  have e := flatP_length s l
  refine ⟨?_, ?_, h.own.frozenAt _⟩
  · rw [h.own.cellAt _ (by omega), List.getElem?_append_right (by omega), e, hn, show n * 3 + 1 - n * 3 = 1 by omega]; rfl
  · rw [h.own.cellAt _ (by omega), List.getElem?_append_right (by omega), e, hn, show n * 3 + 2 - n * 3 = 2 by omega]; rfl
theorem SInv.form {w : World} {s : ByteArray} {W : World} {v : Value} {pos n : Nat} {xs : List Value} (h : SInv w s W v pos (n + 1) xs) : ∃ g cap, v = .slice (some ⟨g, 0, none⟩) (n + 1) cap ∧ w.heap.size + 1 ≤ g ∧ n + 1 ≤ cap ∧ cap ≤ maxLen := by
  rcases h.own.2 with ⟨_, h2⟩ | ⟨g, cap, cur, e, h1, _, h3, h4, _⟩
  · simp at h2
  · exact ⟨g, cap, e, h1, h3, h4⟩
theorem SInv.store {w : World} {s : ByteArray} {W : World} {g cap pos n : Nat} {l : List Prt} {k : Int} {x : Nat} {t : Value} (h : SInv w s W (.slice (some ⟨g, 0, none⟩) (n + 1) cap) pos (n + 1) (flatP s l ++ [.int .i64 k, t, .int .i64 (x : Int)])) (hn : l.length = n) (hg : w.heap.size + 1 ≤ g) (y : Nat) :
    SInv w s (W.setCell ⟨g, n * 3 + 1, none⟩ (.string (s.extract x y))) (.slice (some ⟨g, 0, none⟩) (n + 1) cap) pos (n + 1) (flatP s (l ++ [(k, x, y)])) := by
  have q := (h.own.stored (n * 3 + 1) (.string (s.extract x y))).1
  rw [← hn, flatP_set, hn] at q
  exact ⟨by rw [Below.heap_setCell _ _ _ _ (by simp; omega)]; exact h.it, q, h.low.setCell (by simp; omega) _⟩

/-- the last part at hand, whatever its text. -/
def SLast (w : World) (s : ByteArray) (W : World) (g cap pos n : Nat) (l : List Prt) (k : Int) (x : Nat) : Prop :=
  ∃ t, SInv w s W (.slice (some ⟨g, 0, none⟩) (n + 1) cap) pos (n + 1) (flatP s l ++ [.int .i64 k, t, .int .i64 (x : Int)])
theorem SInv.lastT {w : World} {s : ByteArray} {W : World} {g cap pos n : Nat} {l : List Prt} {k : Int} {x y : Nat} (h : SInv w s W (.slice (some ⟨g, 0, none⟩) (n + 1) cap) pos (n + 1) (flatP s (l ++ [(k, x, y)]))) : SLast w s W g cap pos n l k x :=
  ⟨.string (s.extract x y), by rw [flatP_append] at h; exact h⟩

/-- what word.Split hands back. -/
def SplitOf (w : World) (s : ByteArray) (e : Ending) (w' : World) : Sum Nat (List Prt) → Prop
  | .inl i => e = .returned (.tuple #[.slice none 0 0, .int .i64 (i : Int), .int .i64 21])
  | .inr l => ∃ v, e = .returned (.tuple #[v, .int .i64 0, .int .i64 0]) ∧ w'.ownsRow w.heap.size 73 3 v l.length (flatP s l)
theorem split_no {w : World} {s : ByteArray} {e : Ending} {w' : World} {i : Nat} (h : e = .returned (.tuple #[.slice none 0 0, .int .i64 (i : Int), .int .i64 21])) : SplitOf w s e w' (.inl i) := h
theorem split_yes {w : World} {s : ByteArray} {e : Ending} {w' : World} {l : List Prt} (v : Value) (h : e = .returned (.tuple #[v, .int .i64 0, .int .i64 0])) (ho : w'.ownsRow w.heap.size 73 3 v l.length (flatP s l)) : SplitOf w s e w' (.inr l) := ⟨v, h, ho⟩

theorem part_new (w : World) (a b c : Value) (t : TypeId) : ∀ j u, [a, b, c][j]? = some u → (w.alloc (.cells #[a, b, c] t)).cell? ((⟨w.heap.size, 0, none⟩ : Addr).add j) = some u := by
  intro j u hj
  match j, hj with
  | 0, hj => simp at hj; subst hj; simp [Addr.add]
  | 1, hj => simp at hj; subst hj; simp [Addr.add]
  | 2, hj => simp at hj; subst hj; simp [Addr.add]
  | j + 3, hj => simp at hj
theorem part_one (m : Int) (t : ByteArray) (n : Int) : ∀ u ∈ [Value.int .i64 m, .string t, .int .i64 n], u.oneCell' = true := by
  intro x hx; simp at hx; rcases hx with rfl | rfl | rfl <;> rfl

set_option maxRecDepth 1000000 in
set_option maxHeartbeats 4000000 in
theorem wsplit_any (s : ByteArray) (w : World) (hT : Tabs w) (hsz : s.size ≤ 2048) :
    Calls Tryd.prog 23 #[.string s] w fun e w' => Below w.heap.size w w' ∧ SplitOf w s e w' (splitB s) := by
  obtain ⟨i0, hi, hz0, hz1, hz2⟩ := info_parts infoPart
  have hs' : s.size ≤ maxLen := by unfold maxLen; omega
  have hsi : ¬ (2048 : Int) < (s.size : Int) := by omega
  obtain ⟨G, hG⟩ : ∃ G, G = splitB s := ⟨_, rfl⟩
  rw [← hG]
  have HG : Hid (splitF s s.size 0 [] 0 = G) := hG.symm
  clear hG
  go_enter Tryd.func23, Tryd.ntmps23
  go_wp2_with fail
  go_loopw [5, 6] (fun v a wr => ∃ (pos fuel : Nat) (l : List Prt) (k : Int), a = .int .i64 k ∧ 0 ≤ k ∧ k ≤ 3 ∧ SInv w s wr v pos l.length (flatP s l) ∧ Hid (splitF s fuel pos l k = G) ∧ s.size ≤ pos + fuel ∧ Cov s 0 l pos ∧ Lst l pos k) (fun _ _ wr => s.size - wr.iterPos w.heap.size)
  case atStart =>
    refine ⟨0, s.size, [], 0, rfl, by omega, by omega, ⟨?_, World.ownsRow_nil _ _ _ _, ?_⟩, HG, by omega, ⟨Nat.le_refl _, Nat.zero_le _, fun j h1 h2 => by omega⟩, .inl rfl⟩
    · exact World.iter_heap w s 0
    · exact (Below.refl _ _).alloc (Nat.le_refl _) _
  case round =>
    obtain ⟨pos, fuel, l, k, rfl, k0, k3, I, HS, hf, hC, hL⟩ := hrel
    have hpos0 : Hid (wr.iterPos w.heap.size = pos) := iterPos_eq I.it
    by_cases hp : pos < s.size
    · have hnx : ∀ ty, (Instr.next (.pointer (some ⟨w.heap.size, 0, none⟩)) true ty).run Tryd.prog wr = _ := fun ty => Lib.run_next_any_at wr w.heap.size s pos ty I.it hp
      have hwd := wd_pos s pos
      have hwl := wd_le s pos hp
      have hln := Cov_length s l 0 pos hC
      obtain ⟨fuel, rfl⟩ : ∃ f', fuel = f' + 1 := ⟨fuel - 1, by omega⟩
      have I2 : SInv w s (wr.iterAt w.heap.size s (pos + (Utf8.decode s pos).2)) u5 (pos + (Utf8.decode s pos).2) l.length (flatP s l) :=
        ⟨Lib.iterAt_heap wr w.heap.size s pos (pos + (Utf8.decode s pos).2) I.it, ownsRow_keep I.own (fun k hk _ => Lib.iterAt_other _ _ _ _ _ (by omega)), Lib.below_iterAt I.low (k := w.heap.size) (by omega) s (pos + (Utf8.decode s pos).2)⟩
      clear I
      have hka := fun w => kindAt_any s pos hs' hp w
      have hrl : kindP s pos ≠ -1 → _ := fun h w => Tryd.utf8_RuneLen ((Utf8.decode s pos).1 : Int) w
      have hrl2 : kindP s pos ≠ -1 → _ := wd_len s pos hp
      obtain ⟨R, hR⟩ : ∃ R : Int, ((Utf8.decode s pos).1 : Int) = R := ⟨_, rfl⟩
      obtain ⟨W1, hW1⟩ : ∃ W1, W1 = wr.iterAt w.heap.size s (pos + (Utf8.decode s pos).2) := ⟨_, rfl⟩
      rw [hR] at hnx hka hrl hrl2
      rw [← hW1] at hnx I2
      have R0 : 0 ≤ R := by omega
      have R1 : R ≤ 2147483647 := by have := decode_le s pos; omega
      clear hW1 hR
      obtain ⟨K, hK⟩ : ∃ K, kindP s pos = K := ⟨_, rfl⟩
      rw [hK] at hka hrl hrl2
      have HKA : Hid (∀ w : World, Tabs w → Calls Tryd.prog 43 #[.string s, .int .i64 (pos : Int), .int .i32 R] w fun e w' => e = .returned (.int .i64 K) ∧ Below w.heap.size w w') := hka
      have HRL : Hid (K ≠ -1 → ∀ w : World, Calls Tryd.prog 44 #[.int .i32 R] w fun e w' => e = .returned (.int .i64 ((Utf8.decode s pos).2 : Int)) ∧ w' = w) := fun h w => by have := hrl h w; rw [hrl2 h] at this; exact this
      have HI : Hid (SInv w s W1 u5 (pos + (Utf8.decode s pos).2) l.length (flatP s l)) := I2
      have HK : Hid (kindP s pos = K) := hK
      have hKr : K = -1 ∨ K = 0 ∨ K = 1 ∨ K = 2 ∨ K = 3 := by rw [← hK]; exact kindW_range _ _
      have HC : Hid (Cov s 0 l pos) := hC
      have HL : Hid (Lst l pos k) := hL
      have hT1 : Tabs W1 := Tabs_below hT I2.low
      clear hka hrl hrl2 I2 hK hC hL
      go_wp2_with fail
      refine (HKA.out _ hT1).mono ?_
      rintro e w2 ⟨rfl, b2⟩
      have HI2 : Hid (SInv w s w2 u5 (pos + (Utf8.decode s pos).2) l.length (flatP s l)) := HI.out.below b2
      clear HKA HI b2 hT1 hnx R0
      by_cases hw : K = -1
      · subst hw
        have HE : G = .inl pos := by rw [← HS.out, splitF_wrong hp HK.out]
        subst HE
        go_wp2_with fail
        go_ret3
        exact ⟨HI2.out.low, split_no rfl⟩
      · have HRL2 : Hid (∀ w : World, Calls Tryd.prog 44 #[.int .i32 R] w fun e w' => e = .returned (.int .i64 ((Utf8.decode s pos).2 : Int)) ∧ w' = w) := HRL.out hw
        by_cases hb0 : K = 0
        · subst hb0
          have HE : Hid (splitF s fuel (pos + (Utf8.decode s pos).2) l 0 = G) := by show _ = _; rw [← HS.out, splitF_blank hp HK.out]
          have HC2 : Hid (Cov s 0 l (pos + (Utf8.decode s pos).2)) := Cov_blank hp HK.out HC.out
          clear HRL HRL2
          go_wp2_with fail
          go_roundw
          case rel => exact ⟨pos + (Utf8.decode s pos).2, fuel, l, 0, rfl, by omega, by omega, HI2.out, HE, by omega, HC2.out, .inl rfl⟩
          case measure => rw [hpos0.out, iterPos_eq HI2.out.it]; omega
        · by_cases hnew : K = 3 ∨ K ≠ k
          · have HE : Hid (splitF s fuel (pos + (Utf8.decode s pos).2) (l ++ [(K, pos, pos + (Utf8.decode s pos).2)]) K = G) := by show _ = _; rw [← HS.out, splitF_new hp (by rw [HK.out]; exact hw) (by rw [HK.out]; exact hb0) (by rw [HK.out]; exact hnew), HK.out]
            have HC2 : Hid (Cov s 0 (l ++ [(K, pos, pos + (Utf8.decode s pos).2)]) (pos + (Utf8.decode s pos).2)) := Cov_new K hp HC.out
            obtain ⟨n, hn⟩ : ∃ n, l.length = n := ⟨_, rfl⟩
            have hn2 : n ≤ 2048 := by omega
            have hn3 : (0 : Int) ≤ (n : Int) := by omega
            have hn4 : (n : Int) ≤ 2048 := by omega
            have hwr : IntKind.i64.wrap ((pos : Int) + ((Utf8.decode s pos).2 : Int)) = ((pos + (Utf8.decode s pos).2 : Nat) : Int) := by rw [IntKind.wrap_i64]; omega
            have hb1 : (pos : Int) ≤ (pos : Int) + ((Utf8.decode s pos).2 : Int) := by omega
            have hb2 : (pos : Int) + ((Utf8.decode s pos).2 : Int) ≤ (s.size : Int) := by omega
            have hb3 : (0 : Int) ≤ (pos : Int) := by omega
            have hb4 : (0 : Int) ≤ (pos : Int) + ((Utf8.decode s pos).2 : Int) := by omega
            have c55 : Tryd.prog.cellsOf 73 = 3 := by kernel_rfl
            have HI3 : Hid (SInv w s w2 u5 (pos + (Utf8.decode s pos).2) n (flatP s l)) := by have := HI2.out; rw [hn] at this; exact this
            have hlt2 : w.heap.size < w2.heap.size := (Array.getElem?_eq_some_iff.1 HI3.out.it).1
            have hr1 : some w.heap.size ≠ u5.ownBlock := fun e => by have := (HI3.out.own.lt _ e.symm).1; omega
            have HRr : Hid (∀ k, u5.ownBlock = some k → w.heap.size ≤ k) := fun k hk => by have := (HI3.out.own.lt _ hk).1; omega
            have hK3 : (K = 3 ∨ (K == 3) = false ∧ (K == k) = false) := by
              by_cases z : K = 3
              · exact .inl z
              · right; constructor
                · simp; exact z
                · simp; omega
            have hKr2 : 1 ≤ K ∧ K ≤ 3 := by omega
            obtain ⟨K1, K2⟩ := hKr2
            have hK0 : (K == 0) = false := by simp; omega
            have hKm : (K == -1) = false := by simp; omega
            clear HRL hKr HI2 HS HL HC hln hnew hw hb0
            rcases HI3.out.own.2 with ⟨e0, -⟩ | ⟨g0, cap0, cur, e0, _, _, _, _, _, _⟩
            all_goals
              subst e0
              rcases hK3 with rfl | ⟨y1, y2⟩
              all_goals
                go_wp2_with (first
                  | (at_builtin; refine wpList_append_own _ rfl _ _ 69 rfl (w.heap.size + 1) 73 i0 (.agg #[.int .i64 0, .string ByteArray.empty, .int .i64 0]) 3 32 Tryd.underlying69 hi hz0 hz1 hz2 rfl (by decide) _ n (flatP s l) rfl (HI3.out.own.alloc _) ⟨w2.heap.size, 0, none⟩ 1 1 [.int .i64 _, .string ByteArray.empty, .int .i64 (pos : Int)] rfl rfl (part_new _ _ _ _ _) (part_one _ _ _) (by unfold maxLen; omega) (by omega) (by simp; omega) ?_; intro v' w3 hown' hgrow3 hnil3
                     have HJ : Hid (SInv w s w3 v' (pos + (Utf8.decode s pos).2) (n + 1) (flatP s l ++ [.int .i64 _, .string ByteArray.empty, .int .i64 (pos : Int)])) := ⟨by rw [hgrow3.block _ (by simp; omega) hr1, Below.heap_alloc _ _ _ hlt2]; exact HI3.out.it, hown', Below.grown (HI3.out.low.alloc (by omega) _) hgrow3 (by simp; omega) HRr.out⟩
                     clear hown' hgrow3 hnil3
                     obtain ⟨g, cap, e1, hg, hc1, hc2⟩ := HJ.out.form
                     subst e1
                     unfold maxLen at hc2))
                refine wp_region_held_drew (S := fun W => SLast w s W g cap (pos + (Utf8.decode s pos).2) n l _ pos) (by kernel_rfl) ⟨_, HJ.out.drewed⟩ (fun hHeld => ?_)
                refine wpAnyH_take (i := 0) (v := ?_) (oi := { dst := some 47, op := _, type := _, pos := _, after := _, guard := none }) rfl (by kernel_rfl) (by kernel_rfl) (by kernel_rfl) (fun _ _ _ h => h) (Or.inl ⟨by kernel_rfl, ?_⟩) (by assumption) ?_
                case refine_2 => (intro w9 hSw; clear hSw; go_simp; try with_reducible rfl)
                simp only [Act.put, List.setIfInBounds_toArray, List.set_cons_zero, List.set_cons_succ]
                refine wpAnyH_take (i := 1) (v := ?_) (oi := { dst := some 48, op := _, type := _, pos := _, after := _, guard := none }) rfl (by kernel_rfl) (by kernel_rfl) (by kernel_rfl) (fun _ _ _ h => h) (Or.inl ⟨by kernel_rfl, ?_⟩) (by assumption) ?_
                case refine_2 => (intro w9 hSw; clear hSw; go_simp; try with_reducible rfl)
                simp only [Act.put, List.setIfInBounds_toArray, List.set_cons_zero, List.set_cons_succ]
                refine wpAnyH_take (i := 2) (v := ?_) (oi := { dst := some 49, op := _, type := _, pos := _, after := _, guard := none }) rfl (by kernel_rfl) (by kernel_rfl) (by kernel_rfl) (fun _ _ _ h => h) (Or.inl ⟨by kernel_rfl, ?_⟩) (by assumption) ?_
                case refine_2 => (intro w9 hSw; clear hSw; go_simp; try with_reducible rfl)
                simp only [Act.put, List.setIfInBounds_toArray, List.set_cons_zero, List.set_cons_succ]
                refine wpAnyH_take (i := 3) (v := ?_) (oi := { dst := some 50, op := _, type := _, pos := _, after := _, guard := none }) rfl (by kernel_rfl) (by kernel_rfl) (by kernel_rfl) (fun _ _ _ h => h) (Or.inl ⟨by kernel_rfl, ?_⟩) (by assumption) ?_
                case refine_2 => (intro w9 hSw; clear hSw; go_simp; try with_reducible rfl)
                simp only [Act.put, List.setIfInBounds_toArray, List.set_cons_zero, List.set_cons_succ]
                refine wpAnyH_take (i := 4) (v := ?_) (oi := { dst := some 51, op := _, type := _, pos := _, after := _, guard := none }) rfl (by kernel_rfl) (by kernel_rfl) (by kernel_rfl) (fun _ _ _ h => h) (Or.inl ⟨by kernel_rfl, ?_⟩) (by assumption) ?_
                case refine_2 => (intro w9 hSw; clear hSw; go_simp; try with_reducible rfl)
                simp only [Act.put, List.setIfInBounds_toArray, List.set_cons_zero, List.set_cons_succ]
                refine wpAnyH_take (i := 5) (v := ?_) (oi := { dst := some 52, op := _, type := _, pos := _, after := _, guard := none }) rfl (by kernel_rfl) (by kernel_rfl) (by kernel_rfl) (fun _ _ _ h => h) (Or.inl ⟨by kernel_rfl, ?_⟩) (by assumption) ?_
                case refine_2 => (intro w9 hSw; obtain ⟨t, hSw⟩ := hSw; obtain ⟨sa, sb, sc⟩ := SInv.last hSw hn; clear hSw; go_simp; try with_reducible rfl)
                simp only [Act.put, List.setIfInBounds_toArray, List.set_cons_zero, List.set_cons_succ]
                refine wpAnyH_take (i := 6) (v := ?_) (oi := { dst := some 53, op := _, type := _, pos := _, after := _, guard := none }) rfl (by kernel_rfl) (by kernel_rfl) (by kernel_rfl) (fun _ _ _ h => h) (Or.inl ⟨by kernel_rfl, ?_⟩) (by assumption) ?_
                case refine_2 => (intro w9 hSw; clear hSw; go_simp; try with_reducible rfl)
                simp only [Act.put, List.setIfInBounds_toArray, List.set_cons_zero, List.set_cons_succ]
                refine wpAnyH_take (i := 7) (v := ?_) (oi := { dst := some 54, op := _, type := _, pos := _, after := _, guard := none }) rfl (by kernel_rfl) (by kernel_rfl) (by kernel_rfl) (fun _ _ _ h => h) (Or.inl ⟨by kernel_rfl, ?_⟩) (by assumption) ?_
                case refine_2 => (intro w9 hSw; clear hSw; go_simp; try with_reducible rfl)
                simp only [Act.put, List.setIfInBounds_toArray, List.set_cons_zero, List.set_cons_succ]
                refine wpAnyH_ready (rs := [8]) (by kernel_rfl) (by simp) (AllReadyH.cons (o := { dst := some 55, op := _, type := _, pos := _, after := _, guard := none }) rfl (fun K hK => ?_) AllReadyH.nil)
                go_simp
                refine (HRL2.out _).mono ?_
                rintro e w4 ⟨rfl, rfl⟩
                refine hK.out _ _ hHeld (fun hHeld => ?_)
                clear hK K
                refine wpAnyH_take (i := 9) (v := ?_) (oi := { dst := some 56, op := _, type := _, pos := _, after := _, guard := none }) rfl (by kernel_rfl) (by kernel_rfl) (by kernel_rfl) (fun _ _ _ h => h) (Or.inl ⟨by kernel_rfl, ?_⟩) (by assumption) ?_
                case refine_2 => (intro w9 hSw; clear hSw; go_simp; try with_reducible rfl)
                simp only [Act.put, List.setIfInBounds_toArray, List.set_cons_zero, List.set_cons_succ]
                refine wpAnyH_take (i := 10) (v := ?_) (oi := { dst := some 57, op := _, type := _, pos := _, after := _, guard := none }) rfl (by kernel_rfl) (by kernel_rfl) (by kernel_rfl) (fun _ _ _ h => h) (Or.inl ⟨by kernel_rfl, ?_⟩) (by assumption) ?_
                case refine_2 => (intro w9 hSw; clear hSw; go_simp; try with_reducible rfl)
                simp only [Act.put, List.setIfInBounds_toArray, List.set_cons_zero, List.set_cons_succ]
                refine wpAnyH_take (i := 11) (v := ?_) (oi := { dst := some 58, op := _, type := _, pos := _, after := _, guard := none }) rfl (by kernel_rfl) (by kernel_rfl) (by kernel_rfl) (fun _ _ _ h => h) (Or.inl ⟨by kernel_rfl, ?_⟩) (by assumption) ?_
                case refine_2 => (intro w9 hSw; clear hSw; go_simp; try with_reducible rfl)
                simp only [Act.put, List.setIfInBounds_toArray, List.set_cons_zero, List.set_cons_succ]
                refine wpAnyH_take (i := 12) (v := ?_) (oi := { dst := some 59, op := _, type := _, pos := _, after := _, guard := none }) rfl (by kernel_rfl) (by kernel_rfl) (by kernel_rfl) (fun _ _ _ h => h) (Or.inl ⟨by kernel_rfl, ?_⟩) (by assumption) ?_
                case refine_2 => (intro w9 hSw; clear hSw; go_simp; try with_reducible rfl)
                simp only [Act.put, List.setIfInBounds_toArray, List.set_cons_zero, List.set_cons_succ]
                obtain ⟨t0, hh⟩ := hHeld
                obtain ⟨sa, sb, sc⟩ := SInv.last hh hn
                have HN := hh.store hn hg (pos + (Utf8.decode s pos).2)
                refine wpAnyH_ready (rs := [13]) (by kernel_rfl) (by simp) (AllReadyH.cons (o := { dst := none, op := _, type := _, pos := _, after := _, guard := none }) rfl (fun K hK => ?_) AllReadyH.nil)
                go_simp
                refine hK.out _ _ HN.lastT (fun hHeld2 => ?_)
                clear hK K hHeld2 sa sb sc
                have HM : Hid (SInv w s _ (.slice (some ⟨g, 0, none⟩) (n + 1) cap) (pos + (Utf8.decode s pos).2) (n + 1) (flatP s (l ++ [(_, pos, pos + (Utf8.decode s pos).2)]))) := HN
                clear HN hh
                refine wpAnyH_done (by kernel_rfl) ?_ _
                go_wp2_with fail
                go_roundw
                case rel =>
                  refine ⟨pos + (Utf8.decode s pos).2, fuel, l ++ [(_, pos, pos + (Utf8.decode s pos).2)], _, rfl, by omega, by omega, ?_, HE, by omega, HC2.out, .inr ⟨_, _, _, rfl⟩⟩
                  have := HM.out
                  rw [List.length_append, hn]
                  exact this
                case measure => rw [hpos0.out]; exact Nat.lt_of_le_of_lt (Nat.le_of_eq (congrArg (fun z => s.size - z) (iterPos_eq HM.out.it))) (by show s.size - (pos + (Utf8.decode s pos).2) < s.size - pos; omega)
          · obtain ⟨h3, hk⟩ : K ≠ 3 ∧ K = k := by omega
            subst hk
            rcases HL.out with z | ⟨l', q, x, rfl⟩
            · exact absurd z hb0
            · have hKr2 : K = 1 ∨ K = 2 := by omega
              have HE : Hid (splitF s fuel (pos + (Utf8.decode s pos).2) (l' ++ [(q, x, pos + (Utf8.decode s pos).2)]) K = G) := by show _ = _; rw [← HS.out, splitF_more hp (by rw [HK.out]; exact hw) (by rw [HK.out]; exact hb0) (by rw [HK.out]; exact h3) HK.out]
              have HC2 : Hid (Cov s 0 (l' ++ [(q, x, pos + (Utf8.decode s pos).2)]) (pos + (Utf8.decode s pos).2)) := Cov_ext hp HC.out
              obtain ⟨n, hn⟩ : ∃ n, l'.length = n := ⟨_, rfl⟩
              have HI3 : Hid (SInv w s w2 u5 (pos + (Utf8.decode s pos).2) (n + 1) (flatP s l' ++ [.int .i64 q, .string (s.extract x pos), .int .i64 (x : Int)])) := by
                have := HI2.out
                rw [flatP_append, List.length_append, hn] at this
                exact this
              obtain ⟨g, cap, e0, hg, hc1, hc2⟩ := HI3.out.form
              subst e0
              have hxp : x < pos := ((Cov_snoc s q x pos pos l' 0).1 HC.out).2.1
              have hn2 : n ≤ 2048 := by simp only [List.length_append, hn] at hln; omega
              have hn3 : (0 : Int) ≤ (n : Int) := by omega
              have hn4 : (n : Int) ≤ 2048 := by omega
              have hwr : IntKind.i64.wrap ((pos : Int) + ((Utf8.decode s pos).2 : Int)) = ((pos + (Utf8.decode s pos).2 : Nat) : Int) := by rw [IntKind.wrap_i64]; omega
              have hb1 : (x : Int) ≤ (pos : Int) + ((Utf8.decode s pos).2 : Int) := by omega
              have hb2 : (pos : Int) + ((Utf8.decode s pos).2 : Int) ≤ (s.size : Int) := by omega
              have hb3 : (0 : Int) ≤ (x : Int) := by omega
              have hb4 : (0 : Int) ≤ (pos : Int) + ((Utf8.decode s pos).2 : Int) := by omega
              have c55 : Tryd.prog.cellsOf 73 = 3 := by kernel_rfl
              unfold maxLen at hc2
              clear HRL hKr HI2 HS HL HC hln hnew hw hb0 h3 k0 k3
              rcases hKr2 with rfl | rfl
              all_goals
                go_wp2_with fail
                refine wp_region_held_drew (S := fun W => SLast w s W g cap (pos + (Utf8.decode s pos).2) n l' q x) (by kernel_rfl) ⟨_, HI3.out.drewed⟩ (fun hHeld => ?_)
                refine wpAnyH_take (i := 0) (v := ?_) (oi := { dst := some 47, op := _, type := _, pos := _, after := _, guard := none }) rfl (by kernel_rfl) (by kernel_rfl) (by kernel_rfl) (fun _ _ _ h => h) (Or.inl ⟨by kernel_rfl, ?_⟩) (by assumption) ?_
                case refine_2 => (intro w9 hSw; clear hSw; go_simp; try with_reducible rfl)
                simp only [Act.put, List.setIfInBounds_toArray, List.set_cons_zero, List.set_cons_succ]
                refine wpAnyH_take (i := 1) (v := ?_) (oi := { dst := some 48, op := _, type := _, pos := _, after := _, guard := none }) rfl (by kernel_rfl) (by kernel_rfl) (by kernel_rfl) (fun _ _ _ h => h) (Or.inl ⟨by kernel_rfl, ?_⟩) (by assumption) ?_
                case refine_2 => (intro w9 hSw; clear hSw; go_simp; try with_reducible rfl)
                simp only [Act.put, List.setIfInBounds_toArray, List.set_cons_zero, List.set_cons_succ]
                refine wpAnyH_take (i := 2) (v := ?_) (oi := { dst := some 49, op := _, type := _, pos := _, after := _, guard := none }) rfl (by kernel_rfl) (by kernel_rfl) (by kernel_rfl) (fun _ _ _ h => h) (Or.inl ⟨by kernel_rfl, ?_⟩) (by assumption) ?_
                case refine_2 => (intro w9 hSw; clear hSw; go_simp; try with_reducible rfl)
                simp only [Act.put, List.setIfInBounds_toArray, List.set_cons_zero, List.set_cons_succ]
                refine wpAnyH_take (i := 3) (v := ?_) (oi := { dst := some 50, op := _, type := _, pos := _, after := _, guard := none }) rfl (by kernel_rfl) (by kernel_rfl) (by kernel_rfl) (fun _ _ _ h => h) (Or.inl ⟨by kernel_rfl, ?_⟩) (by assumption) ?_
                case refine_2 => (intro w9 hSw; clear hSw; go_simp; try with_reducible rfl)
                simp only [Act.put, List.setIfInBounds_toArray, List.set_cons_zero, List.set_cons_succ]
                refine wpAnyH_take (i := 4) (v := ?_) (oi := { dst := some 51, op := _, type := _, pos := _, after := _, guard := none }) rfl (by kernel_rfl) (by kernel_rfl) (by kernel_rfl) (fun _ _ _ h => h) (Or.inl ⟨by kernel_rfl, ?_⟩) (by assumption) ?_
                case refine_2 => (intro w9 hSw; clear hSw; go_simp; try with_reducible rfl)
                simp only [Act.put, List.setIfInBounds_toArray, List.set_cons_zero, List.set_cons_succ]
                refine wpAnyH_take (i := 5) (v := ?_) (oi := { dst := some 52, op := _, type := _, pos := _, after := _, guard := none }) rfl (by kernel_rfl) (by kernel_rfl) (by kernel_rfl) (fun _ _ _ h => h) (Or.inl ⟨by kernel_rfl, ?_⟩) (by assumption) ?_
                case refine_2 => (intro w9 hSw; obtain ⟨t, hSw⟩ := hSw; obtain ⟨sa, sb, sc⟩ := SInv.last hSw hn; clear hSw; go_simp; try with_reducible rfl)
                simp only [Act.put, List.setIfInBounds_toArray, List.set_cons_zero, List.set_cons_succ]
                refine wpAnyH_take (i := 6) (v := ?_) (oi := { dst := some 53, op := _, type := _, pos := _, after := _, guard := none }) rfl (by kernel_rfl) (by kernel_rfl) (by kernel_rfl) (fun _ _ _ h => h) (Or.inl ⟨by kernel_rfl, ?_⟩) (by assumption) ?_
                case refine_2 => (intro w9 hSw; clear hSw; go_simp; try with_reducible rfl)
                simp only [Act.put, List.setIfInBounds_toArray, List.set_cons_zero, List.set_cons_succ]
                refine wpAnyH_take (i := 7) (v := ?_) (oi := { dst := some 54, op := _, type := _, pos := _, after := _, guard := none }) rfl (by kernel_rfl) (by kernel_rfl) (by kernel_rfl) (fun _ _ _ h => h) (Or.inl ⟨by kernel_rfl, ?_⟩) (by assumption) ?_
                case refine_2 => (intro w9 hSw; clear hSw; go_simp; try with_reducible rfl)
                simp only [Act.put, List.setIfInBounds_toArray, List.set_cons_zero, List.set_cons_succ]
                refine wpAnyH_ready (rs := [8]) (by kernel_rfl) (by simp) (AllReadyH.cons (o := { dst := some 55, op := _, type := _, pos := _, after := _, guard := none }) rfl (fun K hK => ?_) AllReadyH.nil)
                go_simp
                refine (HRL2.out _).mono ?_
                rintro e w4 ⟨rfl, rfl⟩
                refine hK.out _ _ hHeld (fun hHeld => ?_)
                clear hK K
                refine wpAnyH_take (i := 9) (v := ?_) (oi := { dst := some 56, op := _, type := _, pos := _, after := _, guard := none }) rfl (by kernel_rfl) (by kernel_rfl) (by kernel_rfl) (fun _ _ _ h => h) (Or.inl ⟨by kernel_rfl, ?_⟩) (by assumption) ?_
                case refine_2 => (intro w9 hSw; clear hSw; go_simp; try with_reducible rfl)
                simp only [Act.put, List.setIfInBounds_toArray, List.set_cons_zero, List.set_cons_succ]
                refine wpAnyH_take (i := 10) (v := ?_) (oi := { dst := some 57, op := _, type := _, pos := _, after := _, guard := none }) rfl (by kernel_rfl) (by kernel_rfl) (by kernel_rfl) (fun _ _ _ h => h) (Or.inl ⟨by kernel_rfl, ?_⟩) (by assumption) ?_
                case refine_2 => (intro w9 hSw; clear hSw; go_simp; try with_reducible rfl)
                simp only [Act.put, List.setIfInBounds_toArray, List.set_cons_zero, List.set_cons_succ]
                refine wpAnyH_take (i := 11) (v := ?_) (oi := { dst := some 58, op := _, type := _, pos := _, after := _, guard := none }) rfl (by kernel_rfl) (by kernel_rfl) (by kernel_rfl) (fun _ _ _ h => h) (Or.inl ⟨by kernel_rfl, ?_⟩) (by assumption) ?_
                case refine_2 => (intro w9 hSw; clear hSw; go_simp; try with_reducible rfl)
                simp only [Act.put, List.setIfInBounds_toArray, List.set_cons_zero, List.set_cons_succ]
                refine wpAnyH_take (i := 12) (v := ?_) (oi := { dst := some 59, op := _, type := _, pos := _, after := _, guard := none }) rfl (by kernel_rfl) (by kernel_rfl) (by kernel_rfl) (fun _ _ _ h => h) (Or.inl ⟨by kernel_rfl, ?_⟩) (by assumption) ?_
                case refine_2 => (intro w9 hSw; clear hSw; go_simp; try with_reducible rfl)
                simp only [Act.put, List.setIfInBounds_toArray, List.set_cons_zero, List.set_cons_succ]
                obtain ⟨t0, hh⟩ := hHeld
                obtain ⟨sa, sb, sc⟩ := SInv.last hh hn
                have HN := hh.store hn hg (pos + (Utf8.decode s pos).2)
                refine wpAnyH_ready (rs := [13]) (by kernel_rfl) (by simp) (AllReadyH.cons (o := { dst := none, op := _, type := _, pos := _, after := _, guard := none }) rfl (fun K hK => ?_) AllReadyH.nil)
                go_simp
                refine hK.out _ _ HN.lastT (fun hHeld2 => ?_)
                clear hK K hHeld2 sa sb sc
                have HM : Hid (SInv w s _ (.slice (some ⟨g, 0, none⟩) (n + 1) cap) (pos + (Utf8.decode s pos).2) (n + 1) (flatP s (l' ++ [(q, x, pos + (Utf8.decode s pos).2)]))) := HN
                clear HN hh
                refine wpAnyH_done (by kernel_rfl) ?_ _
                go_wp2_with fail
                go_roundw
                case rel =>
                  refine ⟨pos + (Utf8.decode s pos).2, fuel, l' ++ [(q, x, pos + (Utf8.decode s pos).2)], _, rfl, by omega, by omega, ?_, HE, by omega, HC2.out, .inr ⟨_, _, _, rfl⟩⟩
                  have := HM.out
                  rw [List.length_append, hn]
                  exact this
                case measure => rw [hpos0.out]; exact Nat.lt_of_le_of_lt (Nat.le_of_eq (congrArg (fun z => s.size - z) (iterPos_eq HM.out.it))) (by show s.size - (pos + (Utf8.decode s pos).2) < s.size - pos; omega)
    · have hnx : ∀ ty, (Instr.next (.pointer (some ⟨w.heap.size, 0, none⟩)) true ty).run Tryd.prog wr = _ := fun ty => Lib.run_next_end_at wr w.heap.size s pos ty I.it hp
      have e : G = .inr l := by rw [← HS.out]; exact splitF_end s fuel pos l _ hp
      subst e
      have HI : Hid (SInv w s wr u5 pos l.length (flatP s l)) := I
      clear I
      go_wp2_with fail
      go_ret3
      exact ⟨HI.out.low, split_yes _ rfl (ownsRow_lower HI.out.own (by omega))⟩

theorem wsplit_long (s : ByteArray) (w : World) (hs : s.size ≤ maxLen) (hsz : ¬ s.size ≤ 2048) :
    Calls Tryd.prog 23 #[.string s] w fun e w' => e = .returned (.tuple #[.slice none 0 0, .int .i64 0, .int .i64 3]) ∧ w' = w := by
  unfold maxLen at hs
  have hsi : (2048 : Int) < (s.size : Int) := by omega
  go_enter Tryd.func23, Tryd.ntmps23
  go_wp2_with fail
  go_ret3
  exact ⟨rfl, rfl⟩

end Go.Proofs.YtaoocecipacnhaaDoor
