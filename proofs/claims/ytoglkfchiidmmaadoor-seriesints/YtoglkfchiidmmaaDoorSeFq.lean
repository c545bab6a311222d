/- series: the reference's Ints. -/
import Derived.Test.YtoglkfchiidmmaaDoorSeEq
namespace Go.Proofs.YtoglkfchiidmmaaDoor
open Go.RowKit
set_option linter.unusedVariables false

theorem own_form {W : World} {base : Nat} {e : TypeId} {size : Nat} {v : Value} {n : Nat} {xs : List Value} (h : W.ownsRow base e size v n xs) : ∃ ao c, v = .slice ao n c ∧ n ≤ c ∧ c ≤ maxLen := by
  rcases h.2 with ⟨e, z⟩ | ⟨g, cap, cur, e, h3, h4, h5, h6, _⟩
  · exact ⟨none, 0, by rw [e]; simp [z], by simp [z], by unfold maxLen; omega⟩
  · exact ⟨_, _, e, h5, h6⟩
theorem bxc {w : World} {b : Nat} {cs : List Value} (h : Bx w b cs) : ∀ j u, cs[j]? = some u → w.cell? ((⟨b, 0, none⟩ : Addr).add j) = some u := fun j t ht => by
  have := h.c j ht
  unfold Addr.add
  split
  · rename_i h; subst h; exact this
  · simpa using this
theorem cI_one (L : List Int) : ∀ u ∈ cI L, u.oneCell' = true := fun u hu => by
  simp only [cI, List.mem_map] at hu
  obtain ⟨x, _, rfl⟩ := hu
  rfl

set_option maxRecDepth 100000 in
set_option maxHeartbeats 4000000 in
theorem rints_most (a b s m : Int) (h : mostB m = false) (w : World) : Calls Tryd.prog 6 #[.int .i64 a, .int .i64 b, .int .i64 s, .int .i64 m] w fun r w' => r = .returned (.tuple #[.slice none 0 0, .int .i64 1]) ∧ Below w.heap.size w w' := by
  unfold mostB at h
  by_cases h0 : 0 ≤ m
  · have h1 : ¬ m ≤ 1000 := by rw [decide_eq_true h0, Bool.true_and] at h; exact of_decide_eq_false h
    clear h
    go_enter Tryd.func6, Tryd.ntmps6
    go_wp2_with fail
    go_ret2
    exact ⟨rfl, Below.refl _ _⟩
  · clear h
    go_enter Tryd.func6, Tryd.ntmps6
    go_wp2_with fail
    go_ret2
    exact ⟨rfl, Below.refl _ _⟩

set_option maxRecDepth 100000 in
set_option maxHeartbeats 4000000 in
theorem rints_zero (a b m : Int) (m1 : 0 ≤ m) (m2 : m ≤ 1000) (w : World) : Calls Tryd.prog 6 #[.int .i64 a, .int .i64 b, .int .i64 0, .int .i64 m] w fun r w' => r = .returned (.tuple #[.slice none 0 0, .int .i64 11]) ∧ Below w.heap.size w w' := by
  go_enter Tryd.func6, Tryd.ntmps6
  go_wp2_with fail
  go_ret2
  exact ⟨rfl, Below.refl _ _⟩

theorem own_keepS {w w1 : World} {base : Nat} {e : TypeId} {size : Nat} {v : Value} {n : Nat} {xs : List Value} (h : w.ownsRow base e size v n xs) (hb : Below w.heap.size w w1) : w1.ownsRow base e size v n xs := by
  refine ⟨h.1, ?_⟩
  rcases h.2 with h2 | ⟨g, cap, cur, e1, h3, h4, h5⟩
  · exact .inl h2
  · exact .inr ⟨g, cap, cur, e1, h3, (hb.block g (Array.getElem?_eq_some_iff.1 h4).1).trans h4, h5⟩
def lenOf : Value → Nat
  | .slice _ n _ => n
  | _ => 0

set_option maxRecDepth 100000 in
set_option maxHeartbeats 4000000 in
theorem rints_up (a b s : Int) (m N : Nat) (m2 : m ≤ 1000) (hs : 0 < s) (s1 : -9223372036854775808 ≤ s) (s2 : s ≤ 9223372036854775807) (ha : -9223372036854775808 ≤ a ∧ a ≤ 9223372036854775807) (HT : Hid (∀ i : Nat, i < N → a + (i : Int) * s ≤ b)) (HF : Hid (b < a + (N : Int) * s)) (b1 : -9223372036854775808 ≤ b) (b2 : b ≤ 9223372036854775807) (w : World) :
    Calls Tryd.prog 6 #[.int .i64 a, .int .i64 b, .int .i64 s, .int .i64 (m : Int)] w fun r w' => ∃ v E, r = .returned (.tuple #[v, .int .i64 E]) ∧ Below w.heap.size w w' ∧ ((N ≤ m ∧ E = 0 ∧ IRow w' v (arI a s N)) ∨ (m < N ∧ v = .slice none 0 0 ∧ E = 14)) := by
  obtain ⟨i0, hi, hz0, hz1, hz2⟩ := info_parts infoI64
  have AD : Hid (∀ x : Int, -9223372036854775808 ≤ x ∧ x ≤ 9223372036854775807 → ∀ w : World, Calls Tryd.prog 12 #[.int .i64 x, .int .i64 s] w fun r' w' => r' = .returned (.tuple #[.int .i64 (smV (x + s)), .int .i64 (smE (x + s))]) ∧ Below w.heap.size w w') := fun x hx w => refadd_any x s hx.1 hx.2 s1 s2 w
  have hs0 : (s == 0) = false := by simpa using (show ¬ s = 0 by omega)
  go_enter Tryd.func6, Tryd.ntmps6
  go_wp2_with fail
  go_loopw [10, 11] (fun ov xv W => ∃ (i c : Nat) (ao : Option Addr) (x : Int), i ≤ N ∧ i ≤ m ∧ ov = .slice ao i c ∧ xv = .int .i64 x ∧ Hid (x = a + (i : Int) * s) ∧ (-9223372036854775808 ≤ x ∧ x ≤ 9223372036854775807) ∧ Hid (W.ownsRow w.heap.size 2 1 (.slice ao i c) i (cI (arI a s i))) ∧ Hid (Below w.heap.size w W)) (fun ov _ _ => m - (lenOf ov))
  case atStart => exact ⟨0, 0, none, a, Nat.zero_le _, Nat.zero_le _, rfl, rfl, by show _ = _; simp, ha, World.ownsRow_nil _ _ _ _, Below.refl _ _⟩
  case round =>
    obtain ⟨i, c, ao, x, hiN, him, rfl, rfl, HX, hx, HO, HB⟩ := hrel
    by_cases hlt : i < N
    · have hc : x ≤ b := by have := HT.out i hlt; rw [← HX.out] at this; exact this
      by_cases hm : i < m
      · have hlen : ¬ (m : Int) ≤ (i : Int) := by omega
        have hb0 := HB.out.size
        have AX : Hid (∀ w : World, Calls Tryd.prog 12 #[.int .i64 x, .int .i64 s] w fun r' w' => r' = .returned (.tuple #[.int .i64 (smV (x + s)), .int .i64 (smE (x + s))]) ∧ Below w.heap.size w w') := AD.out x hx
        go_upto_region 11 with (at_builtin; refine wpList_append_own _ rfl _ _ 22 rfl w.heap.size 2 i0 (.int .i64 0) 1 8 Tryd.underlying22 hi hz0 hz1 hz2 rfl (by decide) (.slice ao i c) i (cI (arI a s i)) rfl (HO.out.alloc _) ⟨wr.heap.size, 0, none⟩ 1 1 (cI [x]) rfl rfl (bxc (Bx.new wr (cI [x]) 2)) (cI_one _) (by unfold maxLen; omega) (by omega) (by simp; omega) ?_; intro v' w3 hown' hgrow3 _)
        have HB3 : Hid (Below w.heap.size w w3) := Below.grown (HB.out.alloc hb0 _) hgrow3 (by simp; omega) (fun k hk => (HO.out.lt _ hk).1)
        have hown2 : w3.ownsRow w.heap.size 2 1 v' (i + 1) (cI (arI a s (i + 1))) := by rw [arI_succ, cI_app, ← HX.out]; exact hown'
        obtain ⟨ao2, c2, rfl, _, _⟩ := own_form hown2
        have HO2 : Hid (w3.ownsRow w.heap.size 2 1 (.slice ao2 (i + 1) c2) (i + 1) (cI (arI a s (i + 1)))) := hown2
        clear hown' hown2 hgrow3 HO HB
        go_wp2_with fail
        refine (AX.out _).mono ?_
        rintro e w4 ⟨rfl, hb4⟩
        have HB4 : Hid (Below w.heap.size w w4) := HB3.out.trans (hb4.mono HB3.out.size)
        have HO4 : Hid (w4.ownsRow w.heap.size 2 1 (.slice ao2 (i + 1) c2) (i + 1) (cI (arI a s (i + 1)))) := own_keepS HO2.out hb4
        clear hb4 HO2 HB3 AX
        have HX2 : Hid (x + s = a + ((i + 1 : Nat) : Int) * s) := by show _ = _; rw [HX.out, Int.natCast_add, Int.add_mul]; simp only [Int.natCast_one, Int.one_mul]; omega
        by_cases hr : -9223372036854775808 ≤ x + s ∧ x + s ≤ 9223372036854775807
        · rw [smV_in hr.1 hr.2, smE_in hr.1 hr.2]
          go_wp2_with fail
          go_roundw
          case rel => exact ⟨i + 1, c2, ao2, x + s, by omega, by omega, rfl, rfl, HX2, hr, HO4, HB4⟩
          case measure => simp [lenOf]; omega
        · rw [smV_out (by omega), smE_out (by omega)]
          have hN : N = i + 1 := by
            rcases Nat.lt_or_ge (i + 1) N with g | g
            · have := HT.out (i + 1) g; rw [← HX2.out] at this; omega
            · omega
          subst hN
          have HI : Hid (IRow w4 (.slice ao2 (i + 1) c2) (arI a s (i + 1))) := IRow.of_own HO4.out (arI_len _ _ _)
          have HM : Hid (i + 1 ≤ m) := hm
          clear HT HF HX2 hr hm him
          go_wp2_with fail
          exact bodyPost_ret (v := .tuple #[.slice ao2 (i + 1) c2, .int .i64 0]) (by simp [results, Tryd.results6, go_sem]) rfl ⟨_, _, rfl, HB4.out, .inl ⟨HM.out, rfl, HI.out⟩⟩
      · have hlen : (m : Int) ≤ (i : Int) := by omega
        go_wp2_with fail
        exact bodyPost_ret (v := .tuple #[.slice none 0 0, .int .i64 14]) (by simp [results, Tryd.results6, go_sem]) rfl ⟨_, _, rfl, HB.out, .inr ⟨by omega, rfl, rfl⟩⟩
    · have hN : i = N := by omega
      subst hN
      have hc : b < x := by have := HF.out; rw [← HX.out] at this; exact this
      have HI : Hid (IRow wr (.slice ao i c) (arI a s i)) := IRow.of_own HO.out (arI_len _ _ _)
      have HM : Hid (i ≤ m) := him
      clear HT HF HX him
      go_wp2_with fail
      exact bodyPost_ret (v := .tuple #[.slice ao i c, .int .i64 0]) (by simp [results, Tryd.results6, go_sem]) rfl ⟨_, _, rfl, HB.out, .inl ⟨HM.out, rfl, HI.out⟩⟩

set_option maxRecDepth 100000 in
set_option maxHeartbeats 4000000 in
theorem rints_dn (a b s : Int) (m N : Nat) (m2 : m ≤ 1000) (hs : s < 0) (s1 : -9223372036854775808 ≤ s) (s2 : s ≤ 9223372036854775807) (ha : -9223372036854775808 ≤ a ∧ a ≤ 9223372036854775807) (HT : Hid (∀ i : Nat, i < N → b ≤ a + (i : Int) * s)) (HF : Hid (a + (N : Int) * s < b)) (b1 : -9223372036854775808 ≤ b) (b2 : b ≤ 9223372036854775807) (w : World) :
    Calls Tryd.prog 6 #[.int .i64 a, .int .i64 b, .int .i64 s, .int .i64 (m : Int)] w fun r w' => ∃ v E, r = .returned (.tuple #[v, .int .i64 E]) ∧ Below w.heap.size w w' ∧ ((N ≤ m ∧ E = 0 ∧ IRow w' v (arI a s N)) ∨ (m < N ∧ v = .slice none 0 0 ∧ E = 14)) := by
  obtain ⟨i0, hi, hz0, hz1, hz2⟩ := info_parts infoI64
  have AD : Hid (∀ x : Int, -9223372036854775808 ≤ x ∧ x ≤ 9223372036854775807 → ∀ w : World, Calls Tryd.prog 12 #[.int .i64 x, .int .i64 s] w fun r' w' => r' = .returned (.tuple #[.int .i64 (smV (x + s)), .int .i64 (smE (x + s))]) ∧ Below w.heap.size w w') := fun x hx w => refadd_any x s hx.1 hx.2 s1 s2 w
  have hs0 : (s == 0) = false := by simpa using (show ¬ s = 0 by omega)
  go_enter Tryd.func6, Tryd.ntmps6
  go_wp2_with fail
  go_loopw [10, 11] (fun ov xv W => ∃ (i c : Nat) (ao : Option Addr) (x : Int), i ≤ N ∧ i ≤ m ∧ ov = .slice ao i c ∧ xv = .int .i64 x ∧ Hid (x = a + (i : Int) * s) ∧ (-9223372036854775808 ≤ x ∧ x ≤ 9223372036854775807) ∧ Hid (W.ownsRow w.heap.size 2 1 (.slice ao i c) i (cI (arI a s i))) ∧ Hid (Below w.heap.size w W)) (fun ov _ _ => m - (lenOf ov))
  case atStart => exact ⟨0, 0, none, a, Nat.zero_le _, Nat.zero_le _, rfl, rfl, by show _ = _; simp, ha, World.ownsRow_nil _ _ _ _, Below.refl _ _⟩
  case round =>
    obtain ⟨i, c, ao, x, hiN, him, rfl, rfl, HX, hx, HO, HB⟩ := hrel
    by_cases hlt : i < N
    · have hc : b ≤ x := by have := HT.out i hlt; rw [← HX.out] at this; exact this
      by_cases hm : i < m
      · have hlen : ¬ (m : Int) ≤ (i : Int) := by omega
        have hb0 := HB.out.size
        have AX : Hid (∀ w : World, Calls Tryd.prog 12 #[.int .i64 x, .int .i64 s] w fun r' w' => r' = .returned (.tuple #[.int .i64 (smV (x + s)), .int .i64 (smE (x + s))]) ∧ Below w.heap.size w w') := AD.out x hx
        go_upto_region 11 with (at_builtin; refine wpList_append_own _ rfl _ _ 22 rfl w.heap.size 2 i0 (.int .i64 0) 1 8 Tryd.underlying22 hi hz0 hz1 hz2 rfl (by decide) (.slice ao i c) i (cI (arI a s i)) rfl (HO.out.alloc _) ⟨wr.heap.size, 0, none⟩ 1 1 (cI [x]) rfl rfl (bxc (Bx.new wr (cI [x]) 2)) (cI_one _) (by unfold maxLen; omega) (by omega) (by simp; omega) ?_; intro v' w3 hown' hgrow3 _)
        have HB3 : Hid (Below w.heap.size w w3) := Below.grown (HB.out.alloc hb0 _) hgrow3 (by simp; omega) (fun k hk => (HO.out.lt _ hk).1)
        have hown2 : w3.ownsRow w.heap.size 2 1 v' (i + 1) (cI (arI a s (i + 1))) := by rw [arI_succ, cI_app, ← HX.out]; exact hown'
        obtain ⟨ao2, c2, rfl, _, _⟩ := own_form hown2
        have HO2 : Hid (w3.ownsRow w.heap.size 2 1 (.slice ao2 (i + 1) c2) (i + 1) (cI (arI a s (i + 1)))) := hown2
        clear hown' hown2 hgrow3 HO HB
        go_wp2_with fail
        refine (AX.out _).mono ?_
        rintro e w4 ⟨rfl, hb4⟩
        have HB4 : Hid (Below w.heap.size w w4) := HB3.out.trans (hb4.mono HB3.out.size)
        have HO4 : Hid (w4.ownsRow w.heap.size 2 1 (.slice ao2 (i + 1) c2) (i + 1) (cI (arI a s (i + 1)))) := own_keepS HO2.out hb4
        clear hb4 HO2 HB3 AX
        have HX2 : Hid (x + s = a + ((i + 1 : Nat) : Int) * s) := by show _ = _; rw [HX.out, Int.natCast_add, Int.add_mul]; simp only [Int.natCast_one, Int.one_mul]; omega
        by_cases hr : -9223372036854775808 ≤ x + s ∧ x + s ≤ 9223372036854775807
        · rw [smV_in hr.1 hr.2, smE_in hr.1 hr.2]
          go_wp2_with fail
          go_roundw
          case rel => exact ⟨i + 1, c2, ao2, x + s, by omega, by omega, rfl, rfl, HX2, hr, HO4, HB4⟩
          case measure => simp [lenOf]; omega
        · rw [smV_out (by omega), smE_out (by omega)]
          have hN : N = i + 1 := by
            rcases Nat.lt_or_ge (i + 1) N with g | g
            · have := HT.out (i + 1) g; rw [← HX2.out] at this; omega
            · omega
          subst hN
          have HI : Hid (IRow w4 (.slice ao2 (i + 1) c2) (arI a s (i + 1))) := IRow.of_own HO4.out (arI_len _ _ _)
          have HM : Hid (i + 1 ≤ m) := hm
          clear HT HF HX2 hr hm him
          go_wp2_with fail
          exact bodyPost_ret (v := .tuple #[.slice ao2 (i + 1) c2, .int .i64 0]) (by simp [results, Tryd.results6, go_sem]) rfl ⟨_, _, rfl, HB4.out, .inl ⟨HM.out, rfl, HI.out⟩⟩
      · have hlen : (m : Int) ≤ (i : Int) := by omega
        go_wp2_with fail
        exact bodyPost_ret (v := .tuple #[.slice none 0 0, .int .i64 14]) (by simp [results, Tryd.results6, go_sem]) rfl ⟨_, _, rfl, HB.out, .inr ⟨by omega, rfl, rfl⟩⟩
    · have hN : i = N := by omega
      subst hN
      have hc : x < b := by have := HF.out; rw [← HX.out] at this; exact this
      have HI : Hid (IRow wr (.slice ao i c) (arI a s i)) := IRow.of_own HO.out (arI_len _ _ _)
      have HM : Hid (i ≤ m) := him
      clear HT HF HX him
      go_wp2_with fail
      exact bodyPost_ret (v := .tuple #[.slice ao i c, .int .i64 0]) (by simp [results, Tryd.results6, go_sem]) rfl ⟨_, _, rfl, HB.out, .inl ⟨HM.out, rfl, HI.out⟩⟩


end Go.Proofs.YtoglkfchiidmmaaDoor
