/- The reference's ReadAt and ReadSave, put together: they tell what the program's tell. -/
import Derived.Test.YtgnfkkcagbbhmaaGreatDoorQrTq
namespace Go.Proofs.YtgnfkkcagbbhmaaGreatDoor
open Go.RowKit Lin Sr
set_option linter.unusedVariables false

theorem sec_of (s : ByteArray) (d : List UInt8) (hd : s.data.toList = d) (hs : s.size ≤ 1048576) : Hid (∀ w : World, Calls Tryz.prog 120 #[.string s] w fun e w' => e = .returned (.int .i64 (secN d)) ∧ Below w.heap.size w w') := fun w => by
  rw [← hd]; exact sec_any s hs w
theorem ra_yes {n k : Int} (h : 0 ≤ n ∧ n ≤ 86400) (hk : k = 119 ∨ k = 115 ∨ k = 117) : Hid (∀ w : World, Calls Tryz.prog 66 #[.agg #[.int .i64 n, .int .u8 k]] w fun e w' => e = .returned (.bool true) ∧ Below w.heap.size w w') := fun w => rightAt_yes n k ⟨h.1, h.2, hk⟩ w
theorem ra_no {n k : Int} (h : ¬ (0 ≤ n ∧ n ≤ 86400)) : Hid (∀ w : World, Calls Tryz.prog 66 #[.agg #[.int .i64 n, .int .u8 k]] w fun e w' => e = .returned (.bool false) ∧ Below w.heap.size w w') := fun w => rightAt_no n k (fun q => h ⟨q.1, q.2.1⟩) w
theorem atR_yes {d : List UInt8} (k : Int) (h : 0 ≤ secN d ∧ secN d ≤ 86400) : atR' d k = ((secN d, k), true) := if_pos h
theorem atR_no {d : List UInt8} (k : Int) (h : ¬ (0 ≤ secN d ∧ secN d ≤ 86400)) : atR' d k = ((0, 0), false) := if_neg h
theorem u8_ne {c : UInt8} {k : UInt8} (h : c ≠ k) : ((c.toNat : Int) == (k.toNat : Int)) = false := beq_eq_false_iff_ne.2 (fun e => h (UInt8.toNat_inj.1 (by omega)))

theorem atF_dash : atF [45] = ((0, 119), true) := rfl
theorem atF_nil : atF [] = atR' [] 119 := by rw [atF_same]; rfl
theorem atF_kind {l : List UInt8} {c : UInt8} {k : Int} (h : l ≠ [45]) (hg : l.getLast? = some c) (hk : kindR c = k) (k0 : k ≠ 0) : atF l = atR' l.dropLast k := by
  rw [atF_same]; unfold atRd; rw [if_neg h, hg]; simp only; rw [hk, if_neg k0]
theorem atF_no {l : List UInt8} {c : UInt8} (h : l ≠ [45]) (hg : l.getLast? = some c) (hk : kindR c = 0) : atF l = atR' l 119 := by
  rw [atF_same]; unfold atRd; rw [if_neg h, hg]; simp only; rw [hk, if_pos rfl]
theorem svF_dash : svF [45] = (0, true) := rfl
theorem svF_neg {r : List UInt8} (h : (45 : UInt8) :: r ≠ [45]) : svF (45 :: r) = if 0 ≤ secN r ∧ secN r ≤ 86400 then (-(secN r), true) else (0, false) := by
  rw [svF_same]; unfold svR; rw [if_neg h, if_pos (by simp [Lib.hasPrefix, List.isPrefixOf])]; rfl
theorem svF_pos {l : List UInt8} (h : l ≠ [45]) (hp : Lib.hasPrefix l [45] = false) : svF l = if 0 ≤ secN l ∧ secN l ≤ 86400 then (secN l, true) else (0, false) := by
  rw [svF_same]; unfold svR; rw [if_neg h, if_neg (by rw [hp]; decide)]

theorem rreadAt_any (s : ByteArray) (hs : s.size ≤ 1048576) (w : World) :
    Calls Tryz.prog 89 #[.string s] w fun e w' => e = .returned (.tuple #[.agg #[.int .i64 (atF s.data.toList).1.1, .int .u8 (atF s.data.toList).1.2], .int .i64 (if (atF s.data.toList).2 = true then 0 else 21)]) ∧ Below w.heap.size w w' := by
  obtain ⟨l, hl⟩ : ∃ l, s.data.toList = l := ⟨_, rfl⟩
  have hz : s.size = l.length := by rw [← hl]; simp
  rw [hl]
  by_cases h : l = [45]
  · rw [h, atF_dash]
    exact era_dash s (by rw [← arr_of s, hl, h]) w
  · have hd : (s.toList == [45]) = false := by rw [Lib.toList_data, hl]; exact beq_eq_false_iff_ne.2 h
    cases hg : l.getLast? with
    | none =>
      have l0 : l = [] := List.getLast?_eq_none_iff.1 hg
      have s0 : s = ⟨#[]⟩ := by rw [← arr_of s, hl, l0]
      rw [l0, atF_nil, ← l0]
      by_cases k : 0 ≤ secN l ∧ secN l ≤ 86400
      · rw [atR_yes 119 k]; exact era_e s _ s0 (sec_of s l hl hs) (ra_yes k (.inl rfl)) w
      · rw [atR_no 119 k]; exact era_e s _ s0 (sec_of s l hl hs) (ra_no k) w
    | some c =>
      obtain ⟨m, hm⟩ : ∃ m, l.length = m + 1 := by
        cases l with
        | nil => simp at hg
        | cons a l => exact ⟨l.length, by simp⟩
      have hg2 := hg
      rw [List.getLast?_eq_getElem?, hm, show m + 1 - 1 = m by omega] at hg2
      have hx := Clk.ix_of s l m c (by rw [← arr_of s, hl]) hg2
      have hz2 : s.size = m + 1 := by omega
      have hm2 : m ≤ 2097152 := by omega
      have hdl : (s.extract 0 m).data.toList = l.dropLast := by
        rw [ByteArray.data_extract, Array.toList_extract, hl, List.dropLast_eq_take, hm]; simp
      have hs2 : (s.extract 0 m).size ≤ 1048576 := by rw [ByteArray.size_extract]; omega
      by_cases d0 : c = 119
      · subst d0
        rw [atF_kind h hg (show kindR 119 = 119 by decide) (by decide)]
        by_cases k : 0 ≤ secN l.dropLast ∧ secN l.dropLast ≤ 86400
        · rw [atR_yes 119 k]; exact era_119 s _ hd m hm2 hz2 hx (sec_of _ _ hdl hs2) (ra_yes k (by decide)) w
        · rw [atR_no 119 k]; exact era_119 s _ hd m hm2 hz2 hx (sec_of _ _ hdl hs2) (ra_no k) w
      by_cases d1 : c = 115
      · subst d1
        rw [atF_kind h hg (show kindR 115 = 115 by decide) (by decide)]
        by_cases k : 0 ≤ secN l.dropLast ∧ secN l.dropLast ≤ 86400
        · rw [atR_yes 115 k]; exact era_115 s _ hd m hm2 hz2 hx (sec_of _ _ hdl hs2) (ra_yes k (by decide)) w
        · rw [atR_no 115 k]; exact era_115 s _ hd m hm2 hz2 hx (sec_of _ _ hdl hs2) (ra_no k) w
      by_cases d2 : c = 117
      · subst d2
        rw [atF_kind h hg (show kindR 117 = 117 by decide) (by decide)]
        by_cases k : 0 ≤ secN l.dropLast ∧ secN l.dropLast ≤ 86400
        · rw [atR_yes 117 k]; exact era_117 s _ hd m hm2 hz2 hx (sec_of _ _ hdl hs2) (ra_yes k (by decide)) w
        · rw [atR_no 117 k]; exact era_117 s _ hd m hm2 hz2 hx (sec_of _ _ hdl hs2) (ra_no k) w
      by_cases d3 : c = 103
      · subst d3
        rw [atF_kind h hg (show kindR 103 = 117 by decide) (by decide)]
        by_cases k : 0 ≤ secN l.dropLast ∧ secN l.dropLast ≤ 86400
        · rw [atR_yes 117 k]; exact era_103 s _ hd m hm2 hz2 hx (sec_of _ _ hdl hs2) (ra_yes k (by decide)) w
        · rw [atR_no 117 k]; exact era_103 s _ hd m hm2 hz2 hx (sec_of _ _ hdl hs2) (ra_no k) w
      by_cases d4 : c = 122
      · subst d4
        rw [atF_kind h hg (show kindR 122 = 117 by decide) (by decide)]
        by_cases k : 0 ≤ secN l.dropLast ∧ secN l.dropLast ≤ 86400
        · rw [atR_yes 117 k]; exact era_122 s _ hd m hm2 hz2 hx (sec_of _ _ hdl hs2) (ra_yes k (by decide)) w
        · rw [atR_no 117 k]; exact era_122 s _ hd m hm2 hz2 hx (sec_of _ _ hdl hs2) (ra_no k) w
      have k0 : kindR c = 0 := by unfold kindR; rw [if_neg d0, if_neg d1, if_neg (fun q => q.elim d2 (fun q => q.elim d3 d4))]
      rw [atF_no h hg k0]
      by_cases k : 0 ≤ secN l ∧ secN l ≤ 86400
      · rw [atR_yes 119 k]; exact era_o s _ hd m hm2 hz2 _ (u8_ne d0) (u8_ne d1) (u8_ne d2) (u8_ne d3) (u8_ne d4) hx (sec_of _ _ hl hs) (ra_yes k (.inl rfl)) w
      · rw [atR_no 119 k]; exact era_o s _ hd m hm2 hz2 _ (u8_ne d0) (u8_ne d1) (u8_ne d2) (u8_ne d3) (u8_ne d4) hx (sec_of _ _ hl hs) (ra_no k) w

theorem rreadSave_any (s : ByteArray) (hs : s.size ≤ 1048576) (w : World) :
    Calls Tryz.prog 90 #[.string s] w fun e w' => e = .returned (.tuple #[.int .i64 (svF s.data.toList).1, .int .i64 (if (svF s.data.toList).2 = true then 0 else 21)]) ∧ Below w.heap.size w w' := by
  obtain ⟨l, hl⟩ : ∃ l, s.data.toList = l := ⟨_, rfl⟩
  have hz : s.size = l.length := by rw [← hl]; simp
  rw [hl]
  by_cases h : l = [45]
  · rw [h, svF_dash]
    exact ers_dash s (by rw [← arr_of s, hl, h]) w
  · have hd : s.toList ≠ [45] := by rw [Lib.toList_data, hl]; exact h
    cases hc : l with
    | nil =>
      have s0 : s = ⟨#[]⟩ := by rw [← arr_of s, hl, hc]
      have n0 : secN ([] : List UInt8) = -1 := by decide
      rw [svF_pos (by decide) rfl, n0, if_neg (by decide)]
      exact ers_e_lo s (-1) s0 (by decide) (by have := sec_of s l hl hs; rw [hc, n0] at this; exact this) w
    | cons c r =>
      have hz2 : s.size = r.length + 1 := by rw [hz, hc]; simp
      have hx := Clk.ix_of s l 0 c (by rw [← arr_of s, hl]) (by rw [hc]; rfl)
      by_cases h45 : c = 45
      · subst h45
        rw [svF_neg (by rw [← hc]; exact h)]
        have hdl : (s.extract 1 (r.length + 1)).data.toList = r := by
          rw [ByteArray.data_extract, Array.toList_extract, hl, hc]; simp
        have S := sec_of (s.extract 1 (r.length + 1)) r hdl (by rw [ByteArray.size_extract]; omega)
        by_cases k0 : 0 ≤ secN r
        · by_cases k1 : secN r ≤ 86400
          · rw [if_pos ⟨k0, k1⟩]; exact ers_n_yes s _ hd r.length (by omega) hz2 hx k0 k1 S w
          · rw [if_neg (fun q => k1 q.2)]; exact ers_n_hi s _ hd r.length (by omega) hz2 hx (by omega) S w
        · rw [if_neg (fun q => k0 q.1)]; exact ers_n_lo s _ hd r.length (by omega) hz2 hx (by omega) S w
      · have hp : Lib.hasPrefix (c :: r) [45] = false := by
          have : ((45 : UInt8) == c) = false := beq_eq_false_iff_ne.2 (fun e => h45 e.symm)
          simp [Lib.hasPrefix, List.isPrefixOf, this]
        have hci : (c.toNat : Int) ≠ 45 := fun e => h45 (UInt8.toNat_inj.1 (by have : (45 : UInt8).toNat = 45 := rfl; omega))
        rw [svF_pos (by rw [← hc]; exact h) hp]
        have S := sec_of s (c :: r) (by rw [hl, hc]) hs
        by_cases k0 : 0 ≤ secN (c :: r)
        · by_cases k1 : secN (c :: r) ≤ 86400
          · rw [if_pos ⟨k0, k1⟩]; exact ers_p_yes s _ hd _ hci (by omega) hx k0 k1 S w
          · rw [if_neg (fun q => k1 q.2)]; exact ers_p_hi s _ hd _ hci (by omega) hx (by omega) S w
        · rw [if_neg (fun q => k0 q.1)]; exact ers_p_lo s _ hd _ hci (by omega) hx (by omega) S w

end Go.Proofs.YtgnfkkcagbbhmaaGreatDoor
