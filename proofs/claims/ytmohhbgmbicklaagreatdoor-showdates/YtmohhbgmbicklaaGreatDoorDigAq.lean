/- Contract of the reference's Digits: a number's digits, below nought with a sign. -/
import Derived.Test.YtmohhbgmbicklaaGreatDoorRows
import Derived.WalkKit
import Derived.WalkSpells
import Derived.WalkLawsBesides
import Derived.Laws.IdiomStrings
import Derived.Lib.ItoaNum
import Derived.Lib.ItoaLen
import Derived.Lib.OthersKept
import Derived.Deep.LoopGhost
import Derived.Deep.RegionWith
import Derived.Below
import Derived.ChangeSlices
import Derived.Carry
namespace Go.Proofs.YtmohhbgmbicklaaGreatDoor.Clk
open Go.RowKit
set_option linter.unusedVariables false

theorem infoU8 : (Tryz.prog.info? 5).map (fun i => (i.zero, i.size, i.bytes)) = some (some (.int .u8 0), 1, 1) := by kernel_rfl
def cellsB (l : List UInt8) : List Value := l.map fun b => .int .u8 (b.toNat : Int)
theorem cellsB_get {l : List UInt8} {j : Nat} {c : UInt8} (h : l[j]? = some c) : (cellsB l)[j]? = some (.int .u8 (c.toNat : Int)) := by simp [cellsB, h]
theorem cellsB_more (l : List UInt8) (c : UInt8) (x : Int) (h : (c.toNat : Int) = x) : cellsB (l ++ [c]) = cellsB l ++ [.int .u8 x] := by simp [cellsB, ← h]
theorem one_newB (w : World) (a : Value) (t : TypeId) : ∀ j u, [a][j]? = some u → (w.alloc (.cells #[a] t)).cell? ((⟨w.heap.size, 0, none⟩ : Addr).add j) = some u := by
  intro j u hj
  match j, hj with
  | 0, hj => simp at hj; subst hj; simp [Addr.add]
  | j + 1, hj => simp at hj
theorem one_oneB (m : Int) : ∀ u ∈ [Value.int .u8 m], u.oneCell' = true := by
  intro x hx; simp at hx; subst hx; rfl
theorem drop_turnB {L : List UInt8} {j : Nat} {x : UInt8} (h : L[j]? = some x) : (L.drop j).reverse = (L.drop (j + 1)).reverse ++ [x] := by
  obtain ⟨hl, he⟩ := List.getElem?_eq_some_iff.1 h
  rw [List.drop_eq_getElem_cons hl, he, List.reverse_cons]
theorem digit_nat {k : Nat} (h : k < 10) : ((UInt8.ofNat (48 + k)).toNat : Int) = 48 + (k : Int) := by
  have : (UInt8.ofNat (48 + k)).toNat = 48 + k := by simp; omega
  rw [this]; rfl
theorem dec_step {x : Nat} (h : 10 ≤ x) : Lib.decDigits x = Lib.decDigits (x / 10) ++ [UInt8.ofNat (48 + x % 10)] := by
  rw [Lib.decDigits, dif_neg (by omega)]
theorem own_form {W : World} {base m : Nat} {v : Value} {L : List UInt8} (h : W.ownsRow base 5 1 v m (cellsB L)) (hm : L.length = m) (h0 : 0 < m) :
    ∃ a cap, v = .slice (some a) m cap ∧ m ≤ cap ∧ cap ≤ maxLen ∧ Hid (∀ (j : Nat) (c : UInt8), L[j]? = some c → W.cell? (a.add j) = some (.int .u8 (c.toNat : Int))) := by
  rcases h.2 with ⟨e0, z⟩ | ⟨g, cap, cur, e0, _, _, h3, h4, _⟩
  · omega
  · exact ⟨_, cap, e0, h3, h4, fun j c hj => h.cells (by rw [e0]; rfl) j _ (cellsB_get hj)⟩
theorem dig_ret {a b : ByteArray} (h : a = b) : Ending.returned (.string a) = .returned (.string b) := by rw [h]

set_option maxRecDepth 100000 in
set_option maxHeartbeats 8000000 in
theorem digits_pos (n : Int) (U : Nat) (h0 : ¬ n < 0) (hv : n = (U : Int)) (hU : U ≤ 9223372036854775808 - 1) (HL : Hid ((Lib.decDigits U).length ≤ 21)) (w : World) :
    Calls Tryz.prog 45 #[.int .i64 n] w fun e w' => e = .returned (.string ⟨(Lib.decDigits U).toArray⟩) ∧ Below w.heap.size w w' := by
  obtain ⟨i0, hi, hz0, hz1, hz2⟩ := info_parts infoU8
  have n1 : 0 ≤ n := by omega
  have n2 : n ≤ 9223372036854775807 := by omega
  have HV : Hid (n = (U : Int)) := hv
  clear hv
  go_enter Tryz.func45, Tryz.ntmps45
  go_wp2_with fail
  go_loopw [3, 4] (fun u v W => ∃ (x : Nat) (l : List UInt8), x ≤ 9223372036854775808 ∧ u = .int .u64 (x : Int) ∧ W.ownsRow w.heap.size 5 1 v l.length (cellsB l) ∧ Below w.heap.size w W ∧ Hid (Lib.decDigits x ++ l.reverse = Lib.decDigits U)) (fun u _ _ => (intOf u).toNat)
  case atStart => exact ⟨U, [], by omega, by first | rfl | (rw [HV.out]), World.ownsRow_nil _ _ _ _, Below.refl _ _, by show _ = _; simp⟩
  case round =>
    obtain ⟨x, l, hx, rfl, ho, B, HD⟩ := hrel
    have HO : Hid (wr.ownsRow w.heap.size 5 1 u4 l.length (cellsB l)) := ho
    have HB : Hid (Below w.heap.size w wr) := B
    have hlen : l.length ≤ 21 := by
      have a := congrArg List.length HD.out
      have b := HL.out
      simp only [List.length_append, List.length_reverse] at a
      omega
    clear ho B
    by_cases h10 : 10 ≤ x
    · have t1 : (x : Int).tmod 10 = ((x % 10 : Nat) : Int) := by rw [Int.tmod_eq_emod_of_nonneg (by omega)]; omega
      have t2 : (x : Int).tdiv 10 = ((x / 10 : Nat) : Int) := by rw [Int.tdiv_eq_ediv_of_nonneg (by omega)]; omega
      have hc := digit_nat (k := x % 10) (by omega)
      have HD' : Hid (Lib.decDigits (x / 10) ++ (l ++ [UInt8.ofNat (48 + x % 10)]).reverse = Lib.decDigits U) := by
        show _ = _
        rw [← HD.out, dec_step h10]; simp
      obtain ⟨c, hcc⟩ : ∃ c, c = UInt8.ofNat (48 + x % 10) := ⟨_, rfl⟩
      rw [← hcc] at hc HD'
      clear hcc
      obtain ⟨M, hM⟩ : ∃ M : Int, M = ((x % 10 : Nat) : Int) := ⟨_, rfl⟩
      obtain ⟨y, hy⟩ : ∃ y : Nat, y = x / 10 := ⟨_, rfl⟩
      rw [← hM] at t1 hc
      rw [← hy] at t2 HD'
      have m1 : 0 ≤ M := by omega
      have m2 : M ≤ 9 := by omega
      have hyx : y < x := by omega
      have h10' : (10 : Int) ≤ (x : Int) := by omega
      have HC : Hid ((c.toNat : Int) = 48 + M) := hc
      clear hM hy hc
      rcases HO.out.2 with ⟨e0', -⟩ | ⟨g0, cap0, cur, e0', _, _, _, _, _, _⟩
      all_goals
        subst e0'
        go_wp2_with (first
          | (at_builtin; refine wpList_append_own _ rfl _ _ 76 rfl w.heap.size 5 i0 (.int .u8 0) 1 1 Tryz.underlying76 hi hz0 hz1 hz2 rfl (by decide) _ l.length (cellsB l) rfl (HO.out.alloc _) ⟨wr.heap.size, 0, none⟩ 1 1 [.int .u8 (48 + M)] rfl rfl (one_newB _ _ _) (one_oneB _) (by unfold maxLen; omega) (by omega) (by have := HB.out.size; simp; omega) ?_; intro v' w3 hown' hgrow3 hnil3
             have HJ : Hid (w3.ownsRow w.heap.size 5 1 v' (l ++ [c]).length (cellsB (l ++ [c])) ∧ Below w.heap.size w w3) := ⟨by rw [cellsB_more l c _ HC.out, List.length_append]; exact hown', Below.grown (HB.out.alloc HB.out.size _) hgrow3 (by have := HB.out.size; simp; omega) (fun k hk => by have := (HO.out.lt _ hk).1; omega)⟩
             clear hown' hgrow3 hnil3))
        go_roundw
        case rel => exact ⟨y, l ++ [c], by omega, rfl, HJ.out.1, HJ.out.2, HD'⟩
        case measure => simp [intOf]; omega
    · have hx9 : x < 10 := by omega
      have hx' : ¬ (10 : Int) ≤ (x : Int) := by omega
      have hc := digit_nat hx9
      have HD' : Hid ((l ++ [UInt8.ofNat (48 + x)]).reverse = Lib.decDigits U) := by
        show _ = _
        rw [← HD.out, Lib.decDigits_one hx9]; simp
      obtain ⟨c, hcc⟩ : ∃ c, c = UInt8.ofNat (48 + x) := ⟨_, rfl⟩
      rw [← hcc] at hc HD'
      have HC : Hid ((c.toNat : Int) = 48 + (x : Int)) := hc
      clear hcc hc
      have x9 : (x : Int) ≤ 9 := by omega
      have hlen' : l.length ≤ 20 := by
        have a := congrArg List.length HD.out
        have b := HL.out
        have d := Lib.decDigits_one hx9
        rw [d] at a
        simp only [List.length_append, List.length_reverse, List.length_cons, List.length_nil] at a
        omega
      clear HD
      obtain ⟨L0, hL0⟩ : ∃ L0, L0 = l ++ [c] := ⟨_, rfl⟩
      obtain ⟨k0, hk0⟩ : ∃ k0, k0 = l.length + 1 := ⟨_, rfl⟩
      have HL0 : Hid (L0 = l ++ [c]) := hL0
      have HK0 : Hid (L0.length = k0) := by show _ = _; rw [hL0, hk0]; simp
      have HKl : Hid (k0 = l.length + 1) := hk0
      have k1 : 1 ≤ k0 := by omega
      have k2 : k0 ≤ 21 := by omega
      rw [← hL0] at HD'
      clear hL0 hk0
      rcases HO.out.2 with ⟨e0', -⟩ | ⟨g0, cap0, cur, e0', _, _, _, _, _, _⟩
      all_goals
        subst e0'
        unfold maxLen at *
        go_wp2_with (first
          | (at_builtin; refine wpList_append_own _ rfl _ _ 76 rfl w.heap.size 5 i0 (.int .u8 0) 1 1 Tryz.underlying76 hi hz0 hz1 hz2 rfl (by decide) _ l.length (cellsB l) rfl (HO.out.alloc _) ⟨wr.heap.size, 0, none⟩ 1 1 [.int .u8 (48 + (x : Int))] rfl rfl (one_newB _ _ _) (one_oneB _) (by unfold maxLen; omega) (by omega) (by have := HB.out.size; simp; omega) ?_; intro v' w3 hown' hgrow3 hnil3
             have HJ1 : Hid (w3.ownsRow w.heap.size 5 1 v' k0 (cellsB L0) ∧ Below w.heap.size w w3) := ⟨by rw [HL0.out, cellsB_more l c _ HC.out, HKl.out]; exact hown', Below.grown (HB.out.alloc HB.out.size _) hgrow3 (by have := HB.out.size; simp; omega) (fun k hk => by have := (HO.out.lt _ hk).1; omega)⟩
             clear hown' hgrow3 hnil3
             obtain ⟨a1, cap1, rfl, c1, c2, HC1⟩ := own_form HJ1.out.1 HK0.out k1))
        have HT : Hid (L0.reverse = Lib.decDigits U) := HD'
        have HC3 := HC1
        have HJ3 := HJ1
        have HK3 := HK0
        clear HO HB
        go_loopw [5, 6] (fun v iv W => ∃ j : Nat, j ≤ k0 ∧ iv = .int .i64 ((j : Int) - 1) ∧ W.ownsRow w3.heap.size 5 1 v (k0 - j) (cellsB (L0.drop j).reverse) ∧ Below w3.heap.size w3 W) (fun _ iv _ => (intOf iv + 1).toNat)
        case atStart =>
          refine ⟨k0, Nat.le_refl _, by first | rfl | (congr 1), ?_, Below.refl _ _⟩
          rw [Nat.sub_self, List.drop_of_length_le (by rw [HK3.out]; exact Nat.le_refl _)]
          exact World.ownsRow_nil _ _ _ _
        case round =>
          obtain ⟨j, hj, rfl, ho2, B2⟩ := hrel
          have HO2 : Hid (wr.ownsRow w3.heap.size 5 1 u5 (k0 - j) (cellsB (L0.drop j).reverse)) := ho2
          have HB2 : Hid (Below w3.heap.size w3 wr) := B2
          clear ho2 B2
          by_cases hj0 : 0 < j
          · obtain ⟨i, rfl⟩ : ∃ i, j = i + 1 := ⟨j - 1, by omega⟩
            obtain ⟨y, hy⟩ : ∃ y, L0[i]? = some y := ⟨L0[i]'(by rw [HK3.out]; omega), List.getElem?_eq_getElem (by rw [HK3.out]; omega)⟩
            have hcw := HC3.out i y hy
            have hcell : wr.cell? (a1.add i) = some (.int .u8 (y.toNat : Int)) := (HB2.out.cell (World.block_lt_of_cell? w3 _ hcw)).trans hcw
            have HY : Hid (L0[i]? = some y) := hy
            obtain ⟨z, hz⟩ : ∃ z : Int, z = (y.toNat : Int) := ⟨_, rfl⟩
            rw [← hz] at hcell
            have HZ : Hid ((y.toNat : Int) = z) := hz.symm
            have i1' : (((i + 1 : Nat) : Int) - 1) = (i : Int) := by omega
            have i0' : (0 : Int) ≤ (i : Int) := by omega
            have i2 : (i : Int) < (k0 : Int) := by omega
            rw [i1']
            clear hy hcw hz
            rcases HO2.out.2 with ⟨e1', -⟩ | ⟨g2, cap4, cur2, e1', _, _, _, _, _, _⟩
            all_goals
              subst e1'
              go_wp2_with (first
                | (at_builtin; refine wpList_append_own _ rfl _ _ 76 rfl w3.heap.size 5 i0 (.int .u8 0) 1 1 Tryz.underlying76 hi hz0 hz1 hz2 rfl (by decide) _ (k0 - (i + 1)) (cellsB (L0.drop (i + 1)).reverse) rfl (HO2.out.alloc _) ⟨wr.heap.size, 0, none⟩ 1 1 [.int .u8 z] rfl rfl (one_newB _ _ _) (one_oneB _) (by unfold maxLen; omega) (by omega) (by have := HB2.out.size; simp; omega) ?_; intro v9 w9 hown' hgrow3 hnil3
                   have HJ9 : Hid (w9.ownsRow w3.heap.size 5 1 v9 (k0 - i) (cellsB (L0.drop i).reverse) ∧ Below w3.heap.size w3 w9) := ⟨by rw [drop_turnB HY.out, show k0 - i = k0 - (i + 1) + 1 by omega, cellsB_more _ y _ HZ.out]; exact hown', Below.grown (HB2.out.alloc HB2.out.size _) hgrow3 (by have := HB2.out.size; simp; omega) (fun k hk => by have := (HO2.out.lt _ hk).1; omega)⟩
                   clear hown' hgrow3 hnil3))
              go_roundw
              case rel => exact ⟨i, by omega, rfl, HJ9.out.1, HJ9.out.2⟩
              case measure => simp [intOf]
          · obtain rfl : j = 0 := by omega
            have hof : wr.ownsRow w3.heap.size 5 1 u5 k0 (cellsB L0.reverse) := by have := HO2.out; rw [List.drop_zero, Nat.sub_zero] at this; exact this
            have hlr : L0.reverse.length = k0 := by rw [List.length_reverse]; exact HK3.out
            clear HO2
            obtain ⟨a9, cap9, rfl, f1, f2, HC9⟩ := own_form hof hlr (by omega)
            have hcb := run_convert_bytes_back (P := Tryz.prog) wr 76 9 5 a9 cap9 L0.reverse Tryz.underlying76 Tryz.underlying5 Tryz.underlying9 (fun j hj => HC9.out j _ (List.getElem?_eq_getElem hj))
            rw [hlr, HT.out] at hcb
            clear hof hlr HC9
            go_wp2_with fail
            go_ret
            exact ⟨rfl, HJ3.out.2.trans (HB2.out.mono HJ3.out.2.size)⟩

set_option maxRecDepth 100000 in
set_option maxHeartbeats 8000000 in
theorem digits_neg (n : Int) (U : Nat) (h0 : n < 0) (hv : -n = (U : Int)) (hU : U ≤ 9223372036854775808) (HL : Hid ((Lib.decDigits U).length ≤ 21)) (w : World) :
    Calls Tryz.prog 45 #[.int .i64 n] w fun e w' => e = .returned (.string ⟨(45 :: Lib.decDigits U).toArray⟩) ∧ Below w.heap.size w w' := by
  obtain ⟨i0, hi, hz0, hz1, hz2⟩ := info_parts infoU8
  have e0 : IntKind.u64.wrap (-(IntKind.u64.wrap n)) = (U : Int) := by rw [IntKind.wrap_u64, IntKind.wrap_u64]; omega
  have HV : Hid (-n = (U : Int)) := hv
  clear hv
  go_enter Tryz.func45, Tryz.ntmps45
  go_wp2_with fail
  go_loopw [3, 4] (fun u v W => ∃ (x : Nat) (l : List UInt8), x ≤ 9223372036854775808 ∧ u = .int .u64 (x : Int) ∧ W.ownsRow w.heap.size 5 1 v l.length (cellsB l) ∧ Below w.heap.size w W ∧ Hid (Lib.decDigits x ++ l.reverse = Lib.decDigits U)) (fun u _ _ => (intOf u).toNat)
  case atStart => exact ⟨U, [], by omega, by first | rfl | (rw [HV.out]), World.ownsRow_nil _ _ _ _, Below.refl _ _, by show _ = _; simp⟩
  case round =>
    obtain ⟨x, l, hx, rfl, ho, B, HD⟩ := hrel
    have HO : Hid (wr.ownsRow w.heap.size 5 1 u4 l.length (cellsB l)) := ho
    have HB : Hid (Below w.heap.size w wr) := B
    have hlen : l.length ≤ 21 := by
      have a := congrArg List.length HD.out
      have b := HL.out
      simp only [List.length_append, List.length_reverse] at a
      omega
    clear ho B
    by_cases h10 : 10 ≤ x
    · have t1 : (x : Int).tmod 10 = ((x % 10 : Nat) : Int) := by rw [Int.tmod_eq_emod_of_nonneg (by omega)]; omega
      have t2 : (x : Int).tdiv 10 = ((x / 10 : Nat) : Int) := by rw [Int.tdiv_eq_ediv_of_nonneg (by omega)]; omega
      have hc := digit_nat (k := x % 10) (by omega)
      have HD' : Hid (Lib.decDigits (x / 10) ++ (l ++ [UInt8.ofNat (48 + x % 10)]).reverse = Lib.decDigits U) := by
        show _ = _
        rw [← HD.out, dec_step h10]; simp
      obtain ⟨c, hcc⟩ : ∃ c, c = UInt8.ofNat (48 + x % 10) := ⟨_, rfl⟩
      rw [← hcc] at hc HD'
      clear hcc
      obtain ⟨M, hM⟩ : ∃ M : Int, M = ((x % 10 : Nat) : Int) := ⟨_, rfl⟩
      obtain ⟨y, hy⟩ : ∃ y : Nat, y = x / 10 := ⟨_, rfl⟩
      rw [← hM] at t1 hc
      rw [← hy] at t2 HD'
      have m1 : 0 ≤ M := by omega
      have m2 : M ≤ 9 := by omega
      have hyx : y < x := by omega
      have h10' : (10 : Int) ≤ (x : Int) := by omega
      have HC : Hid ((c.toNat : Int) = 48 + M) := hc
      clear hM hy hc
      rcases HO.out.2 with ⟨e0', -⟩ | ⟨g0, cap0, cur, e0', _, _, _, _, _, _⟩
      all_goals
        subst e0'
        go_wp2_with (first
          | (at_builtin; refine wpList_append_own _ rfl _ _ 76 rfl w.heap.size 5 i0 (.int .u8 0) 1 1 Tryz.underlying76 hi hz0 hz1 hz2 rfl (by decide) _ l.length (cellsB l) rfl (HO.out.alloc _) ⟨wr.heap.size, 0, none⟩ 1 1 [.int .u8 (48 + M)] rfl rfl (one_newB _ _ _) (one_oneB _) (by unfold maxLen; omega) (by omega) (by have := HB.out.size; simp; omega) ?_; intro v' w3 hown' hgrow3 hnil3
             have HJ : Hid (w3.ownsRow w.heap.size 5 1 v' (l ++ [c]).length (cellsB (l ++ [c])) ∧ Below w.heap.size w w3) := ⟨by rw [cellsB_more l c _ HC.out, List.length_append]; exact hown', Below.grown (HB.out.alloc HB.out.size _) hgrow3 (by have := HB.out.size; simp; omega) (fun k hk => by have := (HO.out.lt _ hk).1; omega)⟩
             clear hown' hgrow3 hnil3))
        go_roundw
        case rel => exact ⟨y, l ++ [c], by omega, rfl, HJ.out.1, HJ.out.2, HD'⟩
        case measure => simp [intOf]; omega
    · have hx9 : x < 10 := by omega
      have hx' : ¬ (10 : Int) ≤ (x : Int) := by omega
      have hc := digit_nat hx9
      have HD' : Hid ((l ++ [UInt8.ofNat (48 + x)]).reverse = Lib.decDigits U) := by
        show _ = _
        rw [← HD.out, Lib.decDigits_one hx9]; simp
      obtain ⟨c, hcc⟩ : ∃ c, c = UInt8.ofNat (48 + x) := ⟨_, rfl⟩
      rw [← hcc] at hc HD'
      have HC : Hid ((c.toNat : Int) = 48 + (x : Int)) := hc
      clear hcc hc
      have x9 : (x : Int) ≤ 9 := by omega
      have hlen' : l.length ≤ 20 := by
        have a := congrArg List.length HD.out
        have b := HL.out
        have d := Lib.decDigits_one hx9
        rw [d] at a
        simp only [List.length_append, List.length_reverse, List.length_cons, List.length_nil] at a
        omega
      clear HD
      obtain ⟨L0, hL0⟩ : ∃ L0, L0 = l ++ [c] := ⟨_, rfl⟩
      obtain ⟨k0, hk0⟩ : ∃ k0, k0 = l.length + 1 := ⟨_, rfl⟩
      have HL0 : Hid (L0 = l ++ [c]) := hL0
      have HK0 : Hid (L0.length = k0) := by show _ = _; rw [hL0, hk0]; simp
      have HKl : Hid (k0 = l.length + 1) := hk0
      have k1 : 1 ≤ k0 := by omega
      have k2 : k0 ≤ 21 := by omega
      rw [← hL0] at HD'
      clear hL0 hk0
      obtain ⟨L, hL⟩ : ∃ L, L = L0 ++ [45] := ⟨_, rfl⟩
      obtain ⟨k, hk⟩ : ∃ k, k = k0 + 1 := ⟨_, rfl⟩
      have HLL : Hid (L = L0 ++ [45]) := hL
      have HK : Hid (L.length = k) := by show _ = _; rw [hL, hk, List.length_append, HK0.out]; rfl
      have HKk : Hid (k = k0 + 1) := hk
      have kk1 : 1 ≤ k := by omega
      have kk2 : k ≤ 22 := by omega
      clear hL hk
      rcases HO.out.2 with ⟨e0', -⟩ | ⟨g0, cap0, cur, e0', _, _, _, _, _, _⟩
      all_goals
        subst e0'
        unfold maxLen at *
        go_wp2_with (first
          | (at_builtin; refine wpList_append_own _ rfl _ _ 76 rfl w.heap.size 5 i0 (.int .u8 0) 1 1 Tryz.underlying76 hi hz0 hz1 hz2 rfl (by decide) _ l.length (cellsB l) rfl (HO.out.alloc _) ⟨wr.heap.size, 0, none⟩ 1 1 [.int .u8 (48 + (x : Int))] rfl rfl (one_newB _ _ _) (one_oneB _) (by unfold maxLen; omega) (by omega) (by have := HB.out.size; simp; omega) ?_; intro v' w3 hown' hgrow3 hnil3
             have HJ1 : Hid (w3.ownsRow w.heap.size 5 1 v' k0 (cellsB L0) ∧ Below w.heap.size w w3) := ⟨by rw [HL0.out, cellsB_more l c _ HC.out, HKl.out]; exact hown', Below.grown (HB.out.alloc HB.out.size _) hgrow3 (by have := HB.out.size; simp; omega) (fun k hk => by have := (HO.out.lt _ hk).1; omega)⟩
             clear hown' hgrow3 hnil3
             obtain ⟨a1, cap1, rfl, c1, c2, HC1⟩ := own_form HJ1.out.1 HK0.out k1)
          | (at_builtin; refine wpList_append_own _ rfl _ _ 76 rfl w.heap.size 5 i0 (.int .u8 0) 1 1 Tryz.underlying76 hi hz0 hz1 hz2 rfl (by decide) _ k0 (cellsB L0) rfl (HJ1.out.1.alloc _) ⟨w3.heap.size, 0, none⟩ 1 1 [.int .u8 (45)] rfl rfl (one_newB _ _ _) (one_oneB _) (by unfold maxLen; omega) (by omega) (by have := HJ1.out.2.size; simp; omega) ?_; intro v'' w5 hown' hgrow3 hnil3
             have HJ2 : Hid (w5.ownsRow w.heap.size 5 1 v'' k (cellsB L) ∧ Below w.heap.size w w5) := ⟨by rw [HLL.out, cellsB_more L0 45 45 rfl, HKk.out]; exact hown', Below.grown (HJ1.out.2.alloc HJ1.out.2.size _) hgrow3 (by have := HJ1.out.2.size; simp; omega) (fun k hk => by have := (HJ1.out.1.lt _ hk).1; omega)⟩
             clear hown' hgrow3 hnil3
             obtain ⟨a2, cap2, rfl, d1, d2, HC2⟩ := own_form HJ2.out.1 HK.out kk1))
        have HT : Hid (L.reverse = 45 :: Lib.decDigits U) := by show _ = _; rw [HLL.out, List.reverse_append, HD'.out]; rfl
        have HC3 := HC2
        have HJ3 := HJ2
        have HK3 := HK
        clear HO HB
        go_loopw [5, 6] (fun v iv W => ∃ j : Nat, j ≤ k ∧ iv = .int .i64 ((j : Int) - 1) ∧ W.ownsRow w5.heap.size 5 1 v (k - j) (cellsB (L.drop j).reverse) ∧ Below w5.heap.size w5 W) (fun _ iv _ => (intOf iv + 1).toNat)
        case atStart =>
          refine ⟨k, Nat.le_refl _, by first | rfl | (congr 1), ?_, Below.refl _ _⟩
          rw [Nat.sub_self, List.drop_of_length_le (by rw [HK3.out]; exact Nat.le_refl _)]
          exact World.ownsRow_nil _ _ _ _
        case round =>
          obtain ⟨j, hj, rfl, ho2, B2⟩ := hrel
          have HO2 : Hid (wr.ownsRow w5.heap.size 5 1 u5 (k - j) (cellsB (L.drop j).reverse)) := ho2
          have HB2 : Hid (Below w5.heap.size w5 wr) := B2
          clear ho2 B2
          by_cases hj0 : 0 < j
          · obtain ⟨i, rfl⟩ : ∃ i, j = i + 1 := ⟨j - 1, by omega⟩
            obtain ⟨y, hy⟩ : ∃ y, L[i]? = some y := ⟨L[i]'(by rw [HK3.out]; omega), List.getElem?_eq_getElem (by rw [HK3.out]; omega)⟩
            have hcw := HC3.out i y hy
            have hcell : wr.cell? (a2.add i) = some (.int .u8 (y.toNat : Int)) := (HB2.out.cell (World.block_lt_of_cell? w5 _ hcw)).trans hcw
            have HY : Hid (L[i]? = some y) := hy
            obtain ⟨z, hz⟩ : ∃ z : Int, z = (y.toNat : Int) := ⟨_, rfl⟩
            rw [← hz] at hcell
            have HZ : Hid ((y.toNat : Int) = z) := hz.symm
            have i1' : (((i + 1 : Nat) : Int) - 1) = (i : Int) := by omega
            have i0' : (0 : Int) ≤ (i : Int) := by omega
            have i2 : (i : Int) < (k : Int) := by omega
            rw [i1']
            clear hy hcw hz
            rcases HO2.out.2 with ⟨e1', -⟩ | ⟨g2, cap4, cur2, e1', _, _, _, _, _, _⟩
            all_goals
              subst e1'
              go_wp2_with (first
                | (at_builtin; refine wpList_append_own _ rfl _ _ 76 rfl w5.heap.size 5 i0 (.int .u8 0) 1 1 Tryz.underlying76 hi hz0 hz1 hz2 rfl (by decide) _ (k - (i + 1)) (cellsB (L.drop (i + 1)).reverse) rfl (HO2.out.alloc _) ⟨wr.heap.size, 0, none⟩ 1 1 [.int .u8 z] rfl rfl (one_newB _ _ _) (one_oneB _) (by unfold maxLen; omega) (by omega) (by have := HB2.out.size; simp; omega) ?_; intro v9 w9 hown' hgrow3 hnil3
                   have HJ9 : Hid (w9.ownsRow w5.heap.size 5 1 v9 (k - i) (cellsB (L.drop i).reverse) ∧ Below w5.heap.size w5 w9) := ⟨by rw [drop_turnB HY.out, show k - i = k - (i + 1) + 1 by omega, cellsB_more _ y _ HZ.out]; exact hown', Below.grown (HB2.out.alloc HB2.out.size _) hgrow3 (by have := HB2.out.size; simp; omega) (fun k hk => by have := (HO2.out.lt _ hk).1; omega)⟩
                   clear hown' hgrow3 hnil3))
              go_roundw
              case rel => exact ⟨i, by omega, rfl, HJ9.out.1, HJ9.out.2⟩
              case measure => simp [intOf]
          · obtain rfl : j = 0 := by omega
            have hof : wr.ownsRow w5.heap.size 5 1 u5 k (cellsB L.reverse) := by have := HO2.out; rw [List.drop_zero, Nat.sub_zero] at this; exact this
            have hlr : L.reverse.length = k := by rw [List.length_reverse]; exact HK3.out
            clear HO2
            obtain ⟨a9, cap9, rfl, f1, f2, HC9⟩ := own_form hof hlr (by omega)
            have hcb := run_convert_bytes_back (P := Tryz.prog) wr 76 9 5 a9 cap9 L.reverse Tryz.underlying76 Tryz.underlying5 Tryz.underlying9 (fun j hj => HC9.out j _ (List.getElem?_eq_getElem hj))
            rw [hlr, HT.out] at hcb
            clear hof hlr HC9
            go_wp2_with fail
            go_ret
            exact ⟨rfl, HJ3.out.2.trans (HB2.out.mono HJ3.out.2.size)⟩

/-- the reference's Digits, whatever it is given. -/
theorem digits_any (n : Int) (h1 : -9223372036854775808 ≤ n) (h2 : n ≤ 9223372036854775807) (w : World) :
    Calls Tryz.prog 45 #[.int .i64 n] w fun e w' => e = .returned (.string ⟨(Lib.itoa n).toArray⟩) ∧ Below w.heap.size w w' := by
  have hl := Lib.itoa_length_le n h1 h2
  by_cases h : n < 0
  · have e : Lib.itoa n = 45 :: Lib.decDigits n.natAbs := by unfold Lib.itoa; rw [if_pos h]
    rw [e] at hl ⊢
    exact digits_neg n n.natAbs h (by omega) (by omega) (by show _ ≤ _; simp at hl; omega) w
  · have e : Lib.itoa n = Lib.decDigits n.toNat := by unfold Lib.itoa; rw [if_neg h]
    rw [e] at hl ⊢
    exact digits_pos n n.toNat h (by omega) (by omega) hl w

end Go.Proofs.YtmohhbgmbicklaaGreatDoor.Clk
