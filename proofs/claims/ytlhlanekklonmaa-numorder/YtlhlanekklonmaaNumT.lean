/- Contract of num.Sum at slices, nil or not; the law NumOrder, walked; a slice of numbers among a law's arguments. -/
import Derived.Test.YtlhlanekklonmaaNumS
import Derived.ChangeSlices
import Derived.SizedLaws
import Derived.Carry
import Derived.OpenShut
namespace Go.Proofs.Ytlhlanekklonmaa
open Go.RowKit Go.ChangeShapes
set_option linter.unusedVariables false

/-- a slice of numbers. -/
def SlI (w : World) (v : Value) (L : List Int) : Prop := (v = .slice none 0 0 ∧ L = []) ∨ ∃ a cap, v = .slice (some a) L.length cap ∧ L.length ≤ cap ∧ cap ≤ maxLen ∧ IntsA w a L
theorem SlI.below {w w1 : World} {v : Value} {L : List Int} (h : SlI w v L) (hb : Below w.heap.size w w1) : SlI w1 v L := by
  rcases h with h | ⟨a, cap, h1, h2, h3, h4⟩
  · exact .inl h
  · exact .inr ⟨a, cap, h1, h2, h3, h4.below hb⟩
def sumV (L : List Int) : Int := if -9223372036854775808 ≤ tot L ∧ tot L ≤ 9223372036854775807 then (if 4096 < L.length then 0 else tot L) else 0
def sumE (L : List Int) : Int := if -9223372036854775808 ≤ tot L ∧ tot L ≤ 9223372036854775807 then (if 4096 < L.length then 3 else 0) else 10
theorem sum_turned (L : List Int) : sumV L.reverse = sumV L ∧ sumE L.reverse = sumE L := by
  unfold sumV sumE; rw [tot_reverse, List.length_reverse]; exact ⟨rfl, rfl⟩
theorem sum_sl (L : List Int) (v : Value) (w : World) (h : SlI w v L) (hr : ∀ (j : Nat) (x : Int), L[j]? = some x → -9223372036854775808 ≤ x ∧ x ≤ 9223372036854775807) (hn : L.length ≤ 17592186044416) :
    Calls Try.prog 4 #[v] w fun e w' => e = .returned (.tuple #[.int .i64 (sumV L), .int .i64 (sumE L)]) ∧ Below w.heap.size w w' := by
  rcases h with ⟨rfl, rfl⟩ | ⟨a, cap, rfl, h2, h3, h4⟩
  · exact sum_none w
  · exact sum_some L a cap w _ _ h4 hr hn h2 h3 rfl rfl

theorem infoI64 : (Try.prog.info? 2).map (fun i => (i.zero, i.size, i.bytes)) = some (some (.int .i64 0), 1, 8) := by kernel_rfl
def cellsI (l : List Int) : List Value := l.map (Value.int .i64)
theorem one_newI (w : World) (a : Value) (t : TypeId) : ∀ j u, [a][j]? = some u → (w.alloc (.cells #[a] t)).cell? ((⟨w.heap.size, 0, none⟩ : Addr).add j) = some u := by
  intro j u hj
  match j, hj with
  | 0, hj => simp at hj; subst hj; simp [Addr.add]
  | j + 1, hj => simp at hj
theorem one_oneI (m : Int) : ∀ u ∈ [Value.int .i64 m], u.oneCell' = true := by
  intro x hx; simp at hx; subst hx; rfl
theorem drop_turn {L : List Int} {j : Nat} {x : Int} (h : L[j]? = some x) : (L.drop j).reverse = (L.drop (j + 1)).reverse ++ [x] := by
  obtain ⟨hl, he⟩ := List.getElem?_eq_some_iff.1 h
  rw [List.drop_eq_getElem_cons hl, he, List.reverse_cons]
theorem SlI.own {w : World} {base : Nat} {v : Value} {L : List Int} {e : TypeId} (h : w.ownsRow base e 1 v L.length (cellsI L)) : SlI w v L := by
  rcases h.2 with ⟨e0, z⟩ | ⟨g, cap, cur, e0, _, _, h3, h4, _⟩
  · exact .inl ⟨e0, List.eq_nil_of_length_eq_zero z⟩
  · exact .inr ⟨_, cap, e0, h3, h4, fun j t hj => h.cells (by rw [e0]; rfl) j _ (by simp [cellsI, hj])⟩

set_option maxRecDepth 100000 in
set_option maxHeartbeats 4000000 in
theorem norder_any (L : List Int) (p : Option Addr) (cap : Nat) (w : World) (hS : SlI w (.slice p L.length cap) L) (hr : ∀ (j : Nat) (x : Int), L[j]? = some x → -9223372036854775808 ≤ x ∧ x ≤ 9223372036854775807) (hn : L.length ≤ 17592186044416) :
    Calls Try.prog 3 #[.slice p L.length cap] w fun e w' => e = .returned (.bool true) ∧ Below w.heap.size w w' := by
  obtain ⟨i0, hi, hz0, hz1, hz2⟩ := info_parts infoI64
  have HS : Hid (SlI w (.slice p L.length cap) L) := hS
  have HR : Hid (∀ (j : Nat) (x : Int), L[j]? = some x → -9223372036854775808 ≤ x ∧ x ≤ 9223372036854775807) := hr
  have HRr : Hid (∀ (j : Nat) (x : Int), L.reverse[j]? = some x → -9223372036854775808 ≤ x ∧ x ≤ 9223372036854775807) := fun j x h => by
    have hm : x ∈ L := List.mem_reverse.1 (List.mem_of_getElem? h)
    obtain ⟨i, hi⟩ := List.getElem?_of_mem hm
    exact hr i x hi
  obtain ⟨st1, st2⟩ := sum_turned L
  obtain ⟨V, hV⟩ : ∃ V, sumV L = V := ⟨_, rfl⟩
  obtain ⟨E, hE⟩ : ∃ V, sumE L = V := ⟨_, rfl⟩
  rw [hV] at st1
  rw [hE] at st2
  have HSum : Hid (∀ (v : Value) (w : World), SlI w v L → Calls Try.prog 4 #[v] w fun e w' => e = .returned (.tuple #[.int .i64 V, .int .i64 E]) ∧ Below w.heap.size w w') := fun v w h => by
    have := sum_sl L v w h hr hn
    rw [hV, hE] at this
    exact this
  have HSum2 : Hid (∀ (v : Value) (w : World), SlI w v L.reverse → Calls Try.prog 4 #[v] w fun e w' => e = .returned (.tuple #[.int .i64 V, .int .i64 E]) ∧ Below w.heap.size w w') := fun v w h => by
    have := sum_sl L.reverse v w h HRr.out (by rw [List.length_reverse]; exact hn)
    rw [st1, st2] at this
    exact this
  obtain ⟨n, hnn⟩ : ∃ n, L.length = n := ⟨_, rfl⟩
  have HN : Hid (L.length = n) := hnn
  rw [hnn] at hn ⊢
  clear hr hS hV hE st1 st2 hnn
  go_enter Try.func3, Try.ntmps3
  go_wp2_with fail
  go_loopw [3, 4] (fun v iv W => ∃ j : Nat, j ≤ n ∧ iv = .int .i64 ((j : Int) - 1) ∧ W.ownsRow w.heap.size 2 1 v (n - j) (cellsI (L.drop j).reverse) ∧ Below w.heap.size w W) (fun _ iv _ => (intOf iv + 1).toNat)
  case atStart =>
    refine ⟨n, Nat.le_refl _, by rfl, ?_, Below.refl _ _⟩
    rw [Nat.sub_self, List.drop_of_length_le (by rw [HN.out]; exact Nat.le_refl _)]
    exact World.ownsRow_nil _ _ _ _
  case round =>
    obtain ⟨j, hjn, rfl, ho, B⟩ := hrel
    have HO : Hid (wr.ownsRow w.heap.size 2 1 u3 (n - j) (cellsI (L.drop j).reverse)) := ho
    have HB : Hid (Below w.heap.size w wr) := B
    clear ho B
    by_cases hj : 0 < j
    · obtain ⟨i, rfl⟩ : ∃ i, j = i + 1 := ⟨j - 1, by omega⟩
      obtain ⟨x, hx⟩ : ∃ x, L[i]? = some x := ⟨L[i]'(by rw [HN.out]; omega), List.getElem?_eq_getElem (by rw [HN.out]; omega)⟩
      rcases HS.out with ⟨e1, e2⟩ | ⟨a, cap', e1, h2, h3, h4⟩
      · rw [e2] at hx; simp at hx
      · rw [HN.out] at e1 h2
        simp only [Value.slice.injEq, true_and] at e1
        obtain ⟨rfl, rfl⟩ := e1
        have hc : wr.cell? (a.add i) = some (.int .i64 x) := (h4.below HB.out) i x hx
        have HX : Hid (L[i]? = some x) := hx
        unfold maxLen at h3
        have i1 : ((i : Nat) + 1 : Int) - 1 = (i : Int) := by omega
        have i1' : (((i + 1 : Nat) : Int) - 1) = (i : Int) := by omega
        have i0' : (0 : Int) ≤ (i : Int) := by omega
        have i2 : (i : Int) < (n : Int) := by omega
        rw [i1']
        clear hx h4
        rcases HO.out.2 with ⟨e0, -⟩ | ⟨g0, cap0, cur, e0, _, _, _, _, _, _⟩
        all_goals
          subst e0
          go_wp2_with (first
            | (at_builtin; refine wpList_append_own _ rfl _ _ 22 rfl w.heap.size 2 i0 (.int .i64 0) 1 8 Try.underlying22 hi hz0 hz1 hz2 rfl (by decide) _ (n - (i + 1)) (cellsI (L.drop (i + 1)).reverse) rfl (HO.out.alloc _) ⟨wr.heap.size, 0, none⟩ 1 1 [.int .i64 x] rfl rfl (one_newI _ _ _) (one_oneI _) (by unfold maxLen; omega) (by omega) (by have := HB.out.size; simp; omega) ?_; intro v' w3 hown' hgrow3 hnil3
               have HJ : Hid (w3.ownsRow w.heap.size 2 1 v' (n - i) (cellsI (L.drop i).reverse) ∧ Below w.heap.size w w3) := ⟨by rw [drop_turn HX.out, show n - i = n - (i + 1) + 1 by omega]; unfold cellsI; rw [List.map_append]; exact hown', Below.grown (HB.out.alloc HB.out.size _) hgrow3 (by have := HB.out.size; simp; omega) (fun k hk => by have := (HO.out.lt _ hk).1; omega)⟩
               clear hown' hgrow3 hnil3))
          go_roundw
          case rel => exact ⟨i, by omega, rfl, HJ.out.1, HJ.out.2⟩
          case measure => simp [intOf]
    · obtain rfl : j = 0 := by omega
      have HOw : Hid (SlI wr u3 L.reverse) := SlI.own (by rw [List.length_reverse, HN.out]; have := HO.out; rw [List.drop_zero, Nat.sub_zero] at this; exact this)
      go_wp2_with fail
      refine (HSum.out _ _ (by have := HS.out.below HB.out; rw [HN.out] at this; exact this)).mono ?_
      rintro e w2 ⟨rfl, b2⟩
      have HB2 : Hid (Below w.heap.size w w2) := HB.out.trans (b2.mono HB.out.size)
      have HO2 : Hid (SlI w2 u3 L.reverse) := HOw.out.below b2
      clear b2 HOw
      go_wp2_with fail
      refine (HSum2.out _ _ HO2.out).mono ?_
      rintro e w3 ⟨rfl, b3⟩
      have HB3 : Hid (Below w.heap.size w w3) := HB2.out.trans (b3.mono HB2.out.size)
      clear b3 HB2 HO2
      go_wp2_with fail
      refine (known_any _).mono ?_
      rintro e w4 ⟨rfl, b4⟩
      have HB4 : Hid (Below w.heap.size w w4) := HB3.out.trans (b4.mono HB3.out.size)
      clear b4 HB3
      go_wp2
      go_ret
      exact ⟨rfl, HB4.out⟩

theorem laidOutP : laidOutB Try.prog = true := by kernel_rfl
theorem cells2 : Try.prog.cellsOf 2 = 1 := by kernel_rfl
theorem bytes2 : Try.prog.bytesOf 2 = 8 := by kernel_rfl
theorem ints_arg {H : Type} {enc : TypeId × Value → H} {W : World} {fuel : Nat} {v : Value} {d : DataW H} {ps : List MemPlace} (hf : DataW.trod enc Try.prog W 0 (fun _ => true) true fuel 22 [v] = some (d, ps))
    {ts : List TypeId} {ds : List (DataW H)} (hsz : (DataW.weightsEach Try.prog ts ds).all (· ≤ reachBytes) = true) {j : Nat} (ht : ts[j]? = some 22) (hd : ds[j]? = some d) :
    ∃ L : List Int, SlI W v L ∧ L.length ≤ 17592186044416 ∧ ∀ (i : Nat) (x : Int), L[i]? = some x → -9223372036854775808 ≤ x ∧ x ≤ 9223372036854775807 := by
  rcases open_ints Try.underlying22 Try.underlying2 cells2 hf with ⟨hcs, hx⟩ | ⟨a, len, cap, zs, hcs, _, hl, hm, hz, hx, hcell, hs2⟩
  · simp only [List.cons.injEq, and_true] at hcs
    exact ⟨[], .inl ⟨hcs, rfl⟩, by simp, fun i t h => by simp at h⟩
  · simp only [List.cons.injEq, and_true] at hcs
    simp only [if_true] at hz
    have hdx : d = .slice (lits .i64 (zs.take len)) (lits .i64 (zs.drop len)) := congrArg Prod.fst hx
    rw [hdx] at hd
    have hlen : (zs.take len).length = len := by rw [List.length_take]; omega
    refine ⟨zs.take len, .inr ⟨a, cap, by rw [hlen]; exact hcs, by rw [hlen]; exact hl, hm, ?_⟩, ?_, ?_⟩
    · intro i t hi
      have hi' : i < len := by have := (List.getElem?_eq_some_iff.1 hi).1; omega
      rw [hcell i (by omega)]
      rw [List.getElem?_take, if_pos hi'] at hi
      simp [hi]
    · have := sized_slice hsz ht hd Try.underlying22
      rw [bytes2] at this
      simp only [lits, List.length_map] at this
      unfold reachBytes at this
      have h2 : (zs.take len).length * 8 ≤ ((zs.take len).length + (zs.drop len).length) * 8 := Nat.mul_le_mul_right _ (Nat.le_add_right _ _)
      omega
    · intro i x hi
      have hw := hs2 x (List.mem_of_mem_take (List.mem_of_getElem? hi))
      exact bounds_i64 hw

end Go.Proofs.Ytlhlanekklonmaa
