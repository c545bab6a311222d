/- Contract of clock.runs: a text parted at its marks. -/
import Derived.Test.YtgnfkkcagbbhmaaGreatDoorClkFq
import Derived.Deep.LoopGhost
import Derived.Lib.OthersKept
import Derived.Deep.RegionWith
import Derived.Deep.DeepMust
import Derived.Deep.RegionHeld3
namespace Go.Proofs.YtgnfkkcagbbhmaaGreatDoor.Clk
open Go.RowKit
set_option linter.unusedVariables false

theorem info48 : (Tryz.prog.info? 280).map (fun i => (i.zero, i.size, i.bytes)) = some (some (.agg #[.int .i32 0, .int .i64 0, .int .i64 0]), 3, 24) := by kernel_rfl

/-- a run of digits: its mark, how many, what they are. -/
abbrev Run := Int × Nat × Int
def flat : List Run → List Value
  | [] => []
  | r :: l => .int .i32 r.1 :: .int .i64 (r.2.1 : Int) :: .int .i64 r.2.2 :: flat l
theorem flat_length : ∀ l : List Run, (flat l).length = l.length * 3
  | [] => rfl
  | r :: l => by simp [flat, flat_length l]; omega
theorem flat_append : ∀ (l k : List Run), flat (l ++ k) = flat l ++ flat k
  | [], k => rfl
  | r :: l, k => by simp [flat, flat_append l k]

/-- the run at hand, in its block. -/
def Last (w : World) (b : Nat) (m : Int) (d : Nat) (n : Int) : Prop :=
  b < w.heap.size ∧ w.cell? ⟨b, 0, none⟩ = some (.int .i32 m) ∧ w.cell? ⟨b, 1, none⟩ = some (.int .i64 (d : Int)) ∧ w.cell? ⟨b, 2, none⟩ = some (.int .i64 n) ∧ w.frozen? ⟨b, 0, none⟩ = false ∧ w.frozen? ⟨b, 1, none⟩ = false ∧ w.frozen? ⟨b, 2, none⟩ = false
theorem Last.keep {w w1 : World} {b : Nat} {m : Int} {d : Nat} {n : Int} (h : Last w b m d n) (hb : w1.heap[b]? = w.heap[b]?) (hz : w.heap.size ≤ w1.heap.size) : Last w1 b m d n :=
  ⟨Nat.lt_of_lt_of_le h.1 hz, (World.cell?_of_block (a := ⟨b, 0, none⟩) hb).trans h.2.1, (World.cell?_of_block (a := ⟨b, 1, none⟩) hb).trans h.2.2.1, (World.cell?_of_block (a := ⟨b, 2, none⟩) hb).trans h.2.2.2.1,
   (World.frozen?_of_block (a := ⟨b, 0, none⟩) hb).trans h.2.2.2.2.1, (World.frozen?_of_block (a := ⟨b, 1, none⟩) hb).trans h.2.2.2.2.2.1, (World.frozen?_of_block (a := ⟨b, 2, none⟩) hb).trans h.2.2.2.2.2.2⟩
theorem addr_ne {b i j : Nat} (h : i ≠ j) : (⟨b, i, none⟩ : Addr) ≠ ⟨b, j, none⟩ := fun e => h (by cases e; rfl)
theorem Last.set12 {w : World} {b : Nat} {m : Int} {d : Nat} {n : Int} (h : Last w b m d n) (d' : Nat) (n' : Int) : Last ((w.setCell ⟨b, 1, none⟩ (.int .i64 (d' : Int))).setCell ⟨b, 2, none⟩ (.int .i64 n')) b m d' n' := by
  obtain ⟨h1, h2, h3, h4, h5, h6, h7⟩ := h
  have k2 : (w.setCell ⟨b, 1, none⟩ (.int .i64 (d' : Int))).cell? ⟨b, 2, none⟩ = some (.int .i64 n) := (World.cell?_setCell_other _ _ _ _ (addr_ne (by decide))).trans h4
  exact ⟨by simpa [World.setCell] using h1, (World.cell?_setCell_other _ _ _ _ (addr_ne (by decide))).trans ((World.cell?_setCell_other _ _ _ _ (addr_ne (by decide))).trans h2),
    (World.cell?_setCell_other _ _ _ _ (addr_ne (by decide))).trans (World.cell?_setCell_same _ _ _ h3), World.cell?_setCell_same _ _ _ k2, by simpa using h5, by simpa using h6, by simpa using h7⟩
theorem Last.set012 {w : World} {b : Nat} {m : Int} {d : Nat} {n : Int} (h : Last w b m d n) (m' : Int) (d' : Nat) (n' : Int) : Last (((w.setCell ⟨b, 0, none⟩ (.int .i32 m')).setCell ⟨b, 1, none⟩ (.int .i64 (d' : Int))).setCell ⟨b, 2, none⟩ (.int .i64 n')) b m' d' n' := by
  obtain ⟨h1, h2, h3, h4, h5, h6, h7⟩ := h
  have q : Last (w.setCell ⟨b, 0, none⟩ (.int .i32 m')) b m' d n :=
    ⟨by simpa [World.setCell] using h1, World.cell?_setCell_same _ _ _ h2, (World.cell?_setCell_other _ _ _ _ (addr_ne (by decide))).trans h3, (World.cell?_setCell_other _ _ _ _ (addr_ne (by decide))).trans h4, by simpa using h5, by simpa using h6, by simpa using h7⟩
  exact q.set12 d' n'

/-- what comes of a text, from a place on. -/
def runsF (s : ByteArray) : Nat → Nat → List Run → Run → Option (List Run)
  | 0, _, l, r => some (l ++ [r])
  | f + 1, pos, l, r =>
    if pos < s.size then
      if 48 ≤ ((Utf8.decode s pos).1 : Int) ∧ ((Utf8.decode s pos).1 : Int) ≤ 57 ∧ r.2.1 < 6 then runsF s f (pos + (Utf8.decode s pos).2) l (r.1, r.2.1 + 1, r.2.2 * 10 + (((Utf8.decode s pos).1 : Int) - 48))
      else if (((Utf8.decode s pos).1 : Int) = 58 ∨ ((Utf8.decode s pos).1 : Int) = 46) ∧ 0 < r.2.1 ∧ l.length < 3 then runsF s f (pos + (Utf8.decode s pos).2) (l ++ [r]) (((Utf8.decode s pos).1 : Int), 0, 0)
      else none
    else some (l ++ [r])
theorem runsF_end (s : ByteArray) (f pos : Nat) (l : List Run) (r : Run) (h : ¬ pos < s.size) : runsF s f pos l r = some (l ++ [r]) := by
  cases f with
  | zero => rfl
  | succ f => simp [runsF, h]

theorem ite_of {c : Prop} [Decidable c] {A B : Prop} (h : c) (a : A) : if c then A else B := by rw [if_pos h]; exact a
theorem iterPos_of {w : World} {k : Nat} {s : ByteArray} {p : Nat} (h : w.heap[k]? = some (.stringIter s p)) : w.iterPos k = p := by simp [World.iterPos, h]
theorem width_pos (s : ByteArray) (pos : Nat) (h : pos < s.size) : 1 ≤ (Utf8.decode s pos).2 := by
  by_cases ha : (s[pos]'h).toNat < 128
  · rw [decode_ascii s pos h ha]; exact Nat.le_refl _
  · exact (decode_high s pos h (by omega)).2
theorem ownsRow_block {w w1 : World} {base : Nat} {e : TypeId} {size : Nat} {v : Value} {n : Nat} {xs : List Value} (h : w.ownsRow base e size v n xs) (hk : ∀ k, base ≤ k → k < w.heap.size → w1.heap[k]? = w.heap[k]?) : w1.ownsRow base e size v n xs := by
  obtain ⟨h1, h2⟩ := h
  refine ⟨h1, ?_⟩
  rcases h2 with h2 | ⟨g, cap, cur, a, b, c, d⟩
  · exact .inl h2
  · exact .inr ⟨g, cap, cur, a, b, (hk g b (Array.getElem?_eq_some_iff.1 c).1).trans c, d⟩

/-- what the loop keeps. -/
structure Inv (w : World) (s : ByteArray) (wr : World) (v : Value) (pos : Nat) (l : List Run) (m : Int) (d : Nat) (n : Int) : Prop where
  it : wr.heap[w.heap.size + 1]? = some (.stringIter s pos)
  last : Last wr w.heap.size m d n
  own : wr.ownsRow (w.heap.size + 1 + 1) 280 3 v l.length (flat l)
  low : Below w.heap.size w wr
  len : l.length ≤ 3
  dig : d ≤ 6
  lo : 0 ≤ n
  hi : n < 10 ^ d

theorem runsF_digit {s : ByteArray} {f pos : Nat} {l : List Run} {m : Int} {d : Nat} {n R : Int} (hp : pos < s.size) (hR : ((Utf8.decode s pos).1 : Int) = R) (h1 : 48 ≤ R) (h2 : R ≤ 57) (hd : d < 6) :
    runsF s (f + 1) pos l (m, d, n) = runsF s f (pos + (Utf8.decode s pos).2) l (m, d + 1, n * 10 + (R - 48)) := by
  rw [runsF, if_pos hp, hR, if_pos ⟨h1, h2, hd⟩]
theorem runsF_mark {s : ByteArray} {f pos : Nat} {l : List Run} {m : Int} {d : Nat} {n R : Int} (hp : pos < s.size) (hR : ((Utf8.decode s pos).1 : Int) = R) (h1 : R = 58 ∨ R = 46) (hd : 0 < d) (hl : l.length < 3) :
    runsF s (f + 1) pos l (m, d, n) = runsF s f (pos + (Utf8.decode s pos).2) (l ++ [(m, d, n)]) (R, 0, 0) := by
  rw [runsF, if_pos hp, hR, if_neg (fun k => by omega), if_pos ⟨h1, hd, hl⟩]
theorem runsF_no {s : ByteArray} {f pos : Nat} {l : List Run} {m : Int} {d : Nat} {n R : Int} (hp : pos < s.size) (hR : ((Utf8.decode s pos).1 : Int) = R) (h1 : ¬ (48 ≤ R ∧ R ≤ 57 ∧ d < 6)) (h2 : ¬ ((R = 58 ∨ R = 46) ∧ 0 < d ∧ l.length < 3)) :
    runsF s (f + 1) pos l (m, d, n) = none := by
  rw [runsF, if_pos hp, hR, if_neg h1, if_neg h2]
theorem cell_three_new (w : World) (a b c : Value) (t : TypeId) : ∀ j u, [a, b, c][j]? = some u → (w.alloc (.cells #[a, b, c] t)).cell? ((⟨w.heap.size, 0, none⟩ : Addr).add j) = some u := by
  intro j u hj
  match j, hj with
  | 0, hj => simp at hj; subst hj; simp [Addr.add]
  | 1, hj => simp at hj; subst hj; simp [Addr.add]
  | 2, hj => simp at hj; subst hj; simp [Addr.add]
  | j + 3, hj => simp at hj
theorem three_one (m : Int) (d n : Int) : ∀ u ∈ [Value.int .i32 m, .int .i64 d, .int .i64 n], u.oneCell' = true := by
  intro x hx; simp at hx; rcases hx with rfl | rfl | rfl <;> rfl
theorem Last.new (w : World) (t : TypeId) : Last (w.alloc (.cells #[.int .i32 0, .int .i64 0, .int .i64 0] t)) w.heap.size 0 0 0 :=
  ⟨by simp, by rw [World.cell?_alloc_at _ _ _ _ rfl]; rfl, by rw [World.cell?_alloc_at _ _ _ _ rfl]; rfl, by rw [World.cell?_alloc_at _ _ _ _ rfl]; rfl, by rw [World.frozen?_alloc_at _ _ _ _ rfl], by rw [World.frozen?_alloc_at _ _ _ _ rfl], by rw [World.frozen?_alloc_at _ _ _ _ rfl]⟩
theorem Last.alloc {w : World} {b : Nat} {m : Int} {d : Nat} {n : Int} (h : Last w b m d n) (o : Obj) : Last (w.alloc o) b m d n := h.keep (Below.heap_alloc _ _ _ h.1) (by simp)
theorem Last.grown {w w1 : World} {b : Nat} {m : Int} {d : Nat} {n : Int} {row : Option Nat} (h : Last w b m d n) (hg : w.grownBy w1 row) (hr : some b ≠ row) : Last w1 b m d n := h.keep (hg.block b h.1 hr) hg.size
theorem pow_bd {d : Nat} {n : Int} (h : n < 10 ^ d) (hd : d < 6) : n ≤ 99999 := by
  have : ∀ k : Fin 6, (10 : Int) ^ k.val ≤ 100000 := by decide
  have := this ⟨d, hd⟩
  simp only at this
  omega

/-- what clock.runs hands back. -/
def RunsOf (w : World) (e : Ending) (w' : World) : Option (List Run) → Prop
  | none => ∃ v, e = .returned (.tuple #[v, .bool false])
  | some l => ∃ (v : Value) (d : Nat), e = .returned (.tuple #[v, .bool (decide (0 < d))]) ∧ w'.ownsRow w.heap.size 280 3 v l.length (flat l) ∧ (l.getLast?.map (·.2.1)) = some d

theorem runs_no (w w' : World) (v : Value) {e : Ending} (h : e = .returned (.tuple #[v, .bool false])) : RunsOf w e w' none := ⟨v, h⟩
theorem runs_yes {w w' : World} {l : List Run} (v : Value) (d : Nat) {e : Ending} (h : e = .returned (.tuple #[v, .bool (decide (0 < d))])) (ho : w'.ownsRow w.heap.size 280 3 v l.length (flat l)) (hd : (l.getLast?.map (·.2.1)) = some d) : RunsOf w e w' (some l) := ⟨v, d, h, ho, hd⟩

set_option maxRecDepth 1000000 in
set_option maxHeartbeats 4000000 in
theorem runs_any (s : ByteArray) (w : World) :
    Calls Tryz.prog 199 #[.string s] w fun e w' => Below w.heap.size w w' ∧ RunsOf w e w' (runsF s s.size 0 [] (0, 0, 0)) := by
  obtain ⟨i0, hi, hz0, hz1, hz2⟩ := info_parts info48
  obtain ⟨G, hG⟩ : ∃ G, G = runsF s s.size 0 [] (0, 0, 0) := ⟨_, rfl⟩
  rw [← hG]
  have HG : Hid (G = runsF s s.size 0 [] (0, 0, 0)) := hG
  clear hG
  go_enter Tryz.func199, Tryz.ntmps199
  go_wp2_with fail
  go_loopw [4] (fun v wr => ∃ (pos fuel : Nat) (l : List Run) (m : Int) (d : Nat) (n : Int), Inv w s wr v pos l m d n ∧ Hid (runsF s fuel pos l (m, d, n) = G) ∧ s.size ≤ pos + fuel) (fun _ wr => s.size - wr.iterPos (w.heap.size + 1))
  case atStart =>
    refine ⟨0, s.size, [], 0, 0, 0, ⟨?_, ?_, World.ownsRow_nil _ _ _ _, ?_, by simp, by simp, by simp, by simp⟩, HG.out.symm, by omega⟩
    · have := World.iter_heap (w.alloc (.cells #[.int .i32 0, .int .i64 0, .int .i64 0] 280)) s 0
      simpa using this
    · exact (Last.new w _).alloc _
    · exact ((Below.refl _ _).alloc (Nat.le_refl _) _).alloc (by simp) _
  case round =>
    obtain ⟨pos, fuel, l, m, d, n, I, HS, hb⟩ := hrel
    have hpos0 := iterPos_of I.it
    by_cases hp : pos < s.size
    · have hnx : ∀ ty, (Instr.next (.pointer (some ⟨w.heap.size + 1, 0, none⟩)) true ty).run Tryz.prog wr = _ := fun ty => Lib.run_next_any_at wr (w.heap.size + 1) s pos ty I.it hp
      have hwd := width_pos s pos hp
      obtain ⟨fuel, rfl⟩ : ∃ f', fuel = f' + 1 := ⟨fuel - 1, by omega⟩
      have hit2 := Lib.iterAt_heap wr (w.heap.size + 1) s pos (pos + (Utf8.decode s pos).2) I.it
      have hbw2 := Lib.below_iterAt I.low (k := w.heap.size + 1) (by omega) s (pos + (Utf8.decode s pos).2)
      have L2 : Last (wr.iterAt (w.heap.size + 1) s (pos + (Utf8.decode s pos).2)) w.heap.size m d n := I.last.keep (Lib.iterAt_other _ _ _ _ _ (by omega)) (by rw [Lib.iterAt_size]; exact Nat.le_refl _)
      have hown2 : (wr.iterAt (w.heap.size + 1) s (pos + (Utf8.decode s pos).2)).ownsRow (w.heap.size + 1 + 1) 280 3 u4 l.length (flat l) := ownsRow_block I.own (fun k hk _ => Lib.iterAt_other _ _ _ _ _ (by omega))
      obtain ⟨i1, i2, i3, i4⟩ : l.length ≤ 3 ∧ d ≤ 6 ∧ 0 ≤ n ∧ n < 10 ^ d := ⟨I.len, I.dig, I.lo, I.hi⟩
      clear I
      obtain ⟨R, hR⟩ : ∃ R : Int, ((Utf8.decode s pos).1 : Int) = R := ⟨_, rfl⟩
      obtain ⟨W1, hW1⟩ : ∃ W1, W1 = wr.iterAt (w.heap.size + 1) s (pos + (Utf8.decode s pos).2) := ⟨_, rfl⟩
      rw [hR] at hnx
      rw [← hW1] at hnx hit2 hbw2 L2 hown2
      have R0 : 0 ≤ R := by omega
      have R1 : R ≤ 2147483647 := by have := decode_le s pos; omega
      clear hW1
      obtain ⟨x1, x2, x3, x4, x5, x6, x7⟩ := id L2
      have hlt1 : w.heap.size + 1 < W1.heap.size := (Array.getElem?_eq_some_iff.1 hit2).1
      have HI : Hid (W1.heap[w.heap.size + 1]? = some (.stringIter s (pos + (Utf8.decode s pos).2))) := hit2
      have HB : Hid (Below w.heap.size w W1) := hbw2
      have HO : Hid (W1.ownsRow (w.heap.size + 1 + 1) 280 3 u4 l.length (flat l)) := hown2
      have HL : Hid (Last W1 w.heap.size m d n) := L2
      clear hit2 hbw2 hown2 L2
      by_cases hdig : 48 ≤ R ∧ R ≤ 57 ∧ d < 6
      · obtain ⟨c1, c2, c3⟩ := hdig
        have c3' : (d : Int) < 6 := by omega
        have n9 := pow_bd i4 c3
        have HE : Hid (runsF s fuel (pos + (Utf8.decode s pos).2) l (m, d + 1, n * 10 + (R - 48)) = G) := by
          show _ = _; rw [← HS.out, runsF_digit hp hR c1 c2 c3]
        have HP : Hid (n * 10 + (R - 48) < 10 ^ (d + 1)) := by show _ < _; rw [Int.pow_succ]; omega
        clear i4 hR
        go_wp2_with fail
        go_roundw
        case rel =>
          refine ⟨pos + (Utf8.decode s pos).2, fuel, l, m, d + 1, n * 10 + (R - 48), ⟨?_, HL.out.set12 (d + 1) _, ?_, (HB.out.setCell (Nat.le_refl _) _).setCell (Nat.le_refl _) _, i1, by omega, by omega, HP.out⟩, HE, by omega⟩
          · rw [Below.heap_setCell _ _ _ _ (by simp), Below.heap_setCell _ _ _ _ (by simp)]; exact HI.out
          · exact ownsRow_setCell_below (ownsRow_setCell_below HO.out (show w.heap.size < w.heap.size + 1 + 1 by omega) _) (show w.heap.size < w.heap.size + 1 + 1 by omega) _
        case measure =>
          rw [hpos0, iterPos_of (p := pos + (Utf8.decode s pos).2) (by rw [Below.heap_setCell _ _ _ _ (by simp), Below.heap_setCell _ _ _ _ (by simp)]; exact HI.out)]
          omega
      · by_cases hmk : (R = 58 ∨ R = 46) ∧ 0 < d ∧ l.length < 3
        · obtain ⟨c1, c2, c3⟩ := hmk
          have HE : Hid (runsF s fuel (pos + (Utf8.decode s pos).2) (l ++ [(m, d, n)]) (R, 0, 0) = G) := by
            show _ = _; rw [← HS.out, runsF_mark hp hR c1 c2 c3]
          have c2' : (0 : Int) < (d : Int) := by omega
          have hR' := hR
          clear hdig hR
          have hr : some w.heap.size ≠ u4.ownBlock := fun e => by have := (HO.out.lt _ e.symm).1; omega
          have hr1 : some (w.heap.size + 1) ≠ u4.ownBlock := fun e => by have := (HO.out.lt _ e.symm).1; omega
          have HR : Hid (∀ k, u4.ownBlock = some k → w.heap.size ≤ k) := fun k hk => by have := (HO.out.lt _ hk).1; omega
          rcases HO.out.2 with ⟨e0, h0⟩ | ⟨g, cap, cur, e0, _, _, _, _, _, _⟩
          all_goals
            subst e0
            have c3' : (l.length : Int) < 3 := by omega
            rcases c1 with rfl | rfl
            all_goals
              go_wp2_with (first
                | (at_builtin; refine wpList_append_own _ rfl _ _ 275 rfl (w.heap.size + 1 + 1) 280 i0 (.agg #[.int .i32 0, .int .i64 0, .int .i64 0]) 3 24 Tryz.underlying275 hi hz0 hz1 hz2 rfl (by decide) _ l.length (flat l) rfl (HO.out.alloc _) ⟨W1.heap.size, 0, none⟩ 1 1 [.int .i32 m, .int .i64 (d : Int), .int .i64 n] rfl rfl (cell_three_new _ _ _ _ _) (three_one _ _ _) (by unfold maxLen; omega) (by omega) (by simp; omega) ?_; intro v' w3 hown' hgrow3 hnil3
                   have L3 : Last w3 w.heap.size m d n := (HL.out.alloc _).grown hgrow3 hr
                   have X : Aside (w3.ownsRow (w.heap.size + 1 + 1) 280 3 v' (l ++ [(m, d, n)]).length (flat (l ++ [(m, d, n)])) ∧ w3.heap[w.heap.size + 1]? = some (.stringIter s (pos + (Utf8.decode s pos).2)) ∧ Below w.heap.size w w3 ∧ Last w3 w.heap.size m d n) := ⟨by rw [flat_append, List.length_append]; exact hown', by rw [hgrow3.block _ (by simp; omega) hr1, Below.heap_alloc _ _ _ hlt1]; exact HI.out, Below.grown (HB.out.alloc HB.out.size _) hgrow3 (by simp; omega) HR.out, L3⟩
                   obtain ⟨y1, y2, y3, y4, y5, y6, y7⟩ := L3
                   clear hown' hgrow3 hnil3))
              go_roundw
              case rel =>
                obtain ⟨X1, X2, X3, X4⟩ := X.out
                refine ⟨pos + (Utf8.decode s pos).2, fuel, l ++ [(m, d, n)], _, 0, 0, ⟨?_, X4.set012 _ 0 0, ?_, ((X3.setCell (Nat.le_refl _) _).setCell (Nat.le_refl _) _).setCell (Nat.le_refl _) _, by simp; omega, by omega, by omega, by decide⟩, HE, by omega⟩
                · rw [Below.heap_setCell _ _ _ _ (by simp), Below.heap_setCell _ _ _ _ (by simp), Below.heap_setCell _ _ _ _ (by simp)]; exact X2
                · exact ownsRow_setCell_below (ownsRow_setCell_below (ownsRow_setCell_below X1 (show w.heap.size < w.heap.size + 1 + 1 by omega) _) (show w.heap.size < w.heap.size + 1 + 1 by omega) _) (show w.heap.size < w.heap.size + 1 + 1 by omega) _
              case measure =>
                obtain ⟨X1, X2, X3, X4⟩ := X.out
                rw [hpos0, iterPos_of (p := pos + (Utf8.decode s pos).2) (by rw [Below.heap_setCell _ _ _ _ (by simp), Below.heap_setCell _ _ _ _ (by simp), Below.heap_setCell _ _ _ _ (by simp)]; exact X2)]
                omega
        · have HE : G = none := by rw [← HS.out, runsF_no hp hR hdig hmk]
          subst HE
          clear hR
          rcases HO.out.2 with ⟨e0, h0⟩ | ⟨g, cap, cur, e0, _, _, _, _, _, _⟩
          all_goals
            subst e0
            go_wp2_with fail
            all_goals first
              | (go_ret2; exact ⟨HB.out, runs_no _ _ _ rfl⟩)
              | (exfalso; omega)
    · have hnx : ∀ ty, (Instr.next (.pointer (some ⟨w.heap.size + 1, 0, none⟩)) true ty).run Tryz.prog wr = _ := fun ty => Lib.run_next_end_at wr (w.heap.size + 1) s pos ty I.it hp
      have e : G = some (l ++ [(m, d, n)]) := by rw [← HS.out]; exact runsF_end s fuel pos l _ hp
      have HL : Hid (Last wr w.heap.size m d n) := I.last
      have HO : Hid (wr.ownsRow (w.heap.size + 1 + 1) 280 3 u4 l.length (flat l)) := I.own
      have HB : Hid (Below w.heap.size w wr) := I.low
      have HZ : Hid (w.heap.size + 1 < wr.heap.size) := (Array.getElem?_eq_some_iff.1 I.it).1
      have i1 := I.len
      subst e
      clear I
      go_wp2_with fail
      refine wp_region_held_drew (S := fun W => Last W w.heap.size m d n) (by kernel_rfl) HL.out (fun hHeld => ?_)
      refine wpAnyH_take (i := 0) (v := ?_) (oi := { dst := some 61, op := _, type := _, pos := _, after := _, guard := none }) rfl (by kernel_rfl) (by kernel_rfl) (by kernel_rfl) (fun _ _ _ h => h) (Or.inl ⟨by kernel_rfl, ?_⟩) (by assumption) ?_
      case refine_2 => (intro w9 hSw; clear hSw; go_simp; try with_reducible rfl)
      simp only [Act.put, List.setIfInBounds_toArray, List.set_cons_zero, List.set_cons_succ]
      refine wpAnyH_take (i := 1) (v := ?_) (oi := { dst := some 62, op := _, type := _, pos := _, after := _, guard := none }) rfl (by kernel_rfl) (by kernel_rfl) (by kernel_rfl) (fun _ _ _ h => h) (Or.inl ⟨by kernel_rfl, ?_⟩) (by assumption) ?_
      case refine_2 => (intro w9 hSw; obtain ⟨sa, sb, sc, sd, se, sf, sg⟩ := hSw; go_simp; try with_reducible rfl)
      simp only [Act.put, List.setIfInBounds_toArray, List.set_cons_zero, List.set_cons_succ]
      refine wpAnyH_take (i := 4) (v := ?_) (oi := { dst := some 65, op := _, type := _, pos := _, after := _, guard := none }) rfl (by kernel_rfl) (by kernel_rfl) (by kernel_rfl) (fun _ _ _ h => h) (Or.inl ⟨by kernel_rfl, ?_⟩) (by assumption) ?_
      case refine_2 => (intro w9 hSw; clear hSw; go_simp; try with_reducible rfl)
      simp only [Act.put, List.setIfInBounds_toArray, List.set_cons_zero, List.set_cons_succ]
      refine wpAnyH_take (i := 5) (v := ?_) (oi := { dst := some 66, op := _, type := _, pos := _, after := _, guard := none }) rfl (by kernel_rfl) (by kernel_rfl) (by kernel_rfl) (fun _ _ _ h => h) (Or.inl ⟨by kernel_rfl, ?_⟩) (by assumption) ?_
      case refine_2 => (intro w9 hSw; obtain ⟨sa, sb, sc, sd, se, sf, sg⟩ := hSw; go_simp; try with_reducible rfl)
      simp only [Act.put, List.setIfInBounds_toArray, List.set_cons_zero, List.set_cons_succ]
      refine wpAnyH_take (i := 6) (v := ?_) (oi := { dst := some 67, op := _, type := _, pos := _, after := _, guard := none }) rfl (by kernel_rfl) (by kernel_rfl) (by kernel_rfl) (fun _ _ _ h => h) (Or.inl ⟨by kernel_rfl, ?_⟩) (by assumption) ?_
      case refine_2 => (intro w9 hSw; clear hSw; go_simp; try with_reducible rfl)
      simp only [Act.put, List.setIfInBounds_toArray, List.set_cons_zero, List.set_cons_succ]
      refine wpAnyH_ready (rs := [2]) (by kernel_rfl) (by simp) (AllReadyH.cons (o := { dst := some 63, op := _, type := _, pos := _, after := _, guard := none }) rfl (fun K hK => ?_) AllReadyH.nil)
      go_simp
      refine hK.out _ _ (HL.out.alloc _) (fun hHeld => ?_)
      clear hK K
      refine wpAnyH_ready (rs := [3]) (by kernel_rfl) (by simp) (AllReadyH.cons (o := { dst := some 64, op := _, type := _, pos := _, after := _, guard := none }) rfl (fun K hK => ?_) AllReadyH.nil)
      refine ite_of (by kernel_rfl) (wp_append_own _ (.tmp 61) (.tmp 63) 275 rfl (w.heap.size + 1 + 1) 280 i0 (.agg #[.int .i32 0, .int .i64 0, .int .i64 0]) 3 24 Tryz.underlying275 hi hz0 hz1 hz2 rfl (by decide) u4 l.length (flat l) rfl (HO.out.alloc _) ⟨wr.heap.size, 0, none⟩ 1 1 [.int .i32 m, .int .i64 (d : Int), .int .i64 n] rfl rfl (cell_three_new _ _ _ _ _) (three_one _ _ _) (by unfold maxLen; omega) (by omega) (by have := HZ.out; simp; omega) ?_)
      intro v' w3 ho hg hn
      have hr : some w.heap.size ≠ u4.ownBlock := fun e => by have := (HO.out.lt _ e.symm).1; omega
      have L3 : Last w3 w.heap.size m d n := (show Last (wr.alloc (.cells #[.int .i32 m, .int .i64 (d : Int), .int .i64 n] 280)).drew w.heap.size m d n from HL.out.alloc _).grown hg hr
      have B3 : Below w.heap.size w w3 := Below.grown ((HB.out.alloc HB.out.size _).drew) hg (by have := HZ.out; simp; omega) (fun k hk => by have := (HO.out.lt _ hk).1; omega)
      refine hK.out _ _ L3 (fun hHeld => ?_)
      clear hK K
      refine wpAnyH_take (i := 7) (v := ?_) (oi := { dst := some 2, op := _, type := _, pos := _, after := _, guard := none }) rfl (by kernel_rfl) (by kernel_rfl) (by kernel_rfl) (fun _ _ _ h => h) (Or.inl ⟨by kernel_rfl, ?_⟩) (by assumption) ?_
      case refine_2 => (intro w9 hSw; clear hSw; go_simp; try with_reducible rfl)
      simp only [Act.put, List.setIfInBounds_toArray, List.set_cons_zero, List.set_cons_succ]
      refine wpAnyH_take (i := 8) (v := ?_) (oi := { dst := some 3, op := _, type := _, pos := _, after := _, guard := none }) rfl (by kernel_rfl) (by kernel_rfl) (by kernel_rfl) (fun _ _ _ h => h) (Or.inl ⟨by kernel_rfl, ?_⟩) (by assumption) ?_
      case refine_2 => (intro w9 hSw; clear hSw; go_simp; try with_reducible rfl)
      simp only [Act.put, List.setIfInBounds_toArray, List.set_cons_zero, List.set_cons_succ]
      refine wpAnyH_done (by kernel_rfl) ?_ _
      go_wp2
      go_ret2
      refine ⟨B3, runs_yes v' d rfl ?_ (by simp)⟩
      rw [flat_append, List.length_append]
      obtain ⟨o1, o2⟩ := ho
      refine ⟨o1, ?_⟩
      rcases o2 with o2 | ⟨g, cap, cur, q1, q2, q3⟩
      · exact .inl o2
      · exact .inr ⟨g, cap, cur, q1, by omega, q3⟩

end Go.Proofs.YtgnfkkcagbbhmaaGreatDoor.Clk
