/- Contracts of Known and Short at slices, nil or not; the law WordKnown, walked. -/
import Derived.Test.YtlhlanekklonmabDoorWdR
import Derived.Test.YtlhlanekklonmabDoorWdK
namespace Go.Proofs.YtlhlanekklonmabDoor
open Go.RowKit
set_option linter.unusedVariables false

/-- a slice of texts. -/
def SlS (w : World) (v : Value) (L : List ByteArray) : Prop := (v = .slice none 0 0 ∧ L = []) ∨ ∃ a cap, v = .slice (some a) L.length cap ∧ L.length ≤ cap ∧ cap ≤ maxLen ∧ TxtA w a L
theorem SlS.below {w w1 : World} {v : Value} {L : List ByteArray} (h : SlS w v L) (hb : Below w.heap.size w w1) : SlS w1 v L := by
  rcases h with h | ⟨a, cap, h1, h2, h3, h4⟩
  · exact .inl h
  · exact .inr ⟨a, cap, h1, h2, h3, h4.below hb⟩

set_option maxRecDepth 100000 in
set_option maxHeartbeats 2000000 in
theorem known_nil (s : ByteArray) (hs : s.size ≤ maxLen) (w : World) :
    Calls Tryd.prog 32 #[.string s, .slice none 0 0] w fun e w' => e = .returned (.int .i64 (-1)) ∧ Below w.heap.size w w' := by
  have hs' := hs
  unfold maxLen at hs
  go_enter Tryd.func32, Tryd.ntmps32
  go_wp2_with fail
  refine (lower_any s hs' _).mono ?_
  rintro e w1 ⟨rfl, B1⟩
  have HB1 : Hid (Below w.heap.size w w1) := B1
  clear B1
  go_wp2_with fail
  go_loopw [12] (fun k W => k = .int .i64 0 ∧ W = w1) (fun _ _ => 0)
  case atStart => exact ⟨rfl, rfl⟩
  case round =>
    obtain ⟨rfl, rfl⟩ := hrel
    go_wp2_with fail
    go_ret
    exact ⟨rfl, HB1.out⟩

set_option maxRecDepth 100000 in
set_option maxHeartbeats 2000000 in
theorem rknown_nil (s : ByteArray) (hs : s.size ≤ 140737488351232) (w : World) :
    Calls Tryd.prog 33 #[.string s, .slice none 0 0] w fun e w' => e = .returned (.int .i64 (-1)) ∧ Below w.heap.size w w' := by
  go_enter Tryd.func33, Tryd.ntmps33
  go_wp2_with fail
  have HB1 : Hid (Below w.heap.size w w) := Below.refl _ _
  go_loopw [5] (fun k W => k = .int .i64 0 ∧ W = w) (fun _ _ => 0)
  case atStart => exact ⟨rfl, rfl⟩
  case round =>
    obtain ⟨rfl, rfl⟩ := hrel
    go_wp2_with fail
    go_ret
    exact ⟨rfl, HB1.out⟩

set_option maxRecDepth 100000 in
set_option maxHeartbeats 2000000 in
theorem short_nil (s : ByteArray) (hs : s.size ≤ maxLen) (w : World) :
    Calls Tryd.prog 34 #[.string s, .slice none 0 0] w fun e w' => e = .returned (.int .i64 (-1)) ∧ Below w.heap.size w w' := by
  have hs' := hs
  unfold maxLen at hs
  by_cases h3 : (s.size : Int) < 3
  · go_enter Tryd.func34, Tryd.ntmps34
    go_wp2_with fail
    go_ret
    exact ⟨rfl, Below.refl _ _⟩
  · go_enter Tryd.func34, Tryd.ntmps34
    go_wp2_with fail
    refine (lower_any s hs' _).mono ?_
    rintro e w1 ⟨rfl, B1⟩
    have HB1 : Hid (Below w.heap.size w w1) := B1
    clear B1
    go_wp2_with fail
    go_loopw [15] (fun k W => k = .int .i64 0 ∧ W = w1) (fun _ _ => 0)
    case atStart => exact ⟨rfl, rfl⟩
    case round =>
      obtain ⟨rfl, rfl⟩ := hrel
      go_wp2_with fail
      go_ret
      exact ⟨rfl, HB1.out⟩

set_option maxRecDepth 100000 in
set_option maxHeartbeats 2000000 in
theorem rshort_nil (s : ByteArray) (hs : s.size ≤ 140737488351232) (w : World) :
    Calls Tryd.prog 35 #[.string s, .slice none 0 0] w fun e w' => e = .returned (.int .i64 (-1)) ∧ Below w.heap.size w w' := by
  go_enter Tryd.func35, Tryd.ntmps35
  go_wp2_with fail
  have HB1 : Hid (Below w.heap.size w w) := Below.refl _ _
  go_loopw [5] (fun k W => k = .int .i64 0 ∧ W = w) (fun _ _ => 0)
  case atStart => exact ⟨rfl, rfl⟩
  case round =>
    obtain ⟨rfl, rfl⟩ := hrel
    go_wp2_with fail
    go_ret
    exact ⟨rfl, HB1.out⟩

theorem known_sl (s : ByteArray) (L : List ByteArray) (v : Value) (w : World) (hs : s.size ≤ maxLen) (hL : ∀ (j : Nat) (t : ByteArray), L[j]? = some t → t.size ≤ maxLen) (h : SlS w v L) :
    Calls Tryd.prog 32 #[.string s, v] w fun e w' => e = .returned (.int .i64 (knownB s L)) ∧ Below w.heap.size w w' := by
  rcases h with ⟨rfl, rfl⟩ | ⟨a, cap, rfl, h2, h3, h4⟩
  · rw [show knownB s [] = -1 by rfl]
    exact known_nil s hs w
  · exact knownA_any s L a cap w hs hL h2 h3 h4

theorem rknown_sl (s : ByteArray) (L : List ByteArray) (v : Value) (w : World) (hs : s.size ≤ 140737488351232) (hL : ∀ (j : Nat) (t : ByteArray), L[j]? = some t → t.size ≤ 140737488351232) (h : SlS w v L) :
    Calls Tryd.prog 33 #[.string s, v] w fun e w' => e = .returned (.int .i64 (knownB s L)) ∧ Below w.heap.size w w' := by
  rcases h with ⟨rfl, rfl⟩ | ⟨a, cap, rfl, h2, h3, h4⟩
  · rw [show knownB s [] = -1 by rfl]
    exact rknown_nil s hs w
  · exact rknownA_any s L a cap w hs hL h2 h3 h4

theorem short_sl (s : ByteArray) (L : List ByteArray) (v : Value) (w : World) (hs : s.size ≤ maxLen) (hL : ∀ (j : Nat) (t : ByteArray), L[j]? = some t → t.size ≤ maxLen) (h : SlS w v L) :
    Calls Tryd.prog 34 #[.string s, v] w fun e w' => e = .returned (.int .i64 (shortB s L)) ∧ Below w.heap.size w w' := by
  rcases h with ⟨rfl, rfl⟩ | ⟨a, cap, rfl, h2, h3, h4⟩
  · rw [show shortB s [] = -1 by unfold shortB; split <;> rfl]
    exact short_nil s hs w
  · exact shortA_any s L a cap w hs hL h2 h3 h4

theorem rshort_sl (s : ByteArray) (L : List ByteArray) (v : Value) (w : World) (hs : s.size ≤ 140737488351232) (hL : ∀ (j : Nat) (t : ByteArray), L[j]? = some t → t.size ≤ 140737488351232) (h : SlS w v L) :
    Calls Tryd.prog 35 #[.string s, v] w fun e w' => e = .returned (.int .i64 (shortB s L)) ∧ Below w.heap.size w w' := by
  rcases h with ⟨rfl, rfl⟩ | ⟨a, cap, rfl, h2, h3, h4⟩
  · rw [show shortB s [] = -1 by unfold shortB; split <;> rfl]
    exact rshort_nil s hs w
  · exact rshortA_any s L a cap w hs hL h2 h3 h4

theorem infoStr : (Tryd.prog.info? 9).map (fun i => (i.zero, i.size, i.bytes)) = some (some (.string ByteArray.empty), 1, 16) := by kernel_rfl
theorem strs_one (L : List ByteArray) : ∀ u ∈ L.map Value.string, u.oneCell' = true := by
  intro x hx; obtain ⟨t, _, rfl⟩ := List.mem_map.1 hx; rfl
theorem SlS.own {w : World} {base : Nat} {v : Value} {L : List ByteArray} {e : TypeId} (h : w.ownsRow base e 1 v L.length (L.map Value.string)) : SlS w v L := by
  rcases h.2 with ⟨e0, z⟩ | ⟨g, cap, cur, e0, _, _, h3, h4, _⟩
  · exact .inl ⟨e0, List.eq_nil_of_length_eq_zero z⟩
  · exact .inr ⟨_, cap, e0, h3, h4, trivial, fun j t hj => h.cells (by rw [e0]; rfl) j _ (by simp [hj])⟩

set_option maxRecDepth 100000 in
set_option maxHeartbeats 4000000 in
theorem lknown_nil (s : ByteArray) (hs : s.size ≤ 140737488351232) (w : World) (hT : Tabs w) :
    Calls Tryd.prog 6 #[.string s, .slice none 0 0] w fun e w' => e = .returned (.bool true) ∧ Below w.heap.size w w' := by
  have hs' : s.size ≤ maxLen := by unfold maxLen; omega
  go_enter Tryd.func6, Tryd.ntmps6
  go_wp2_with fail
  refine (known_nil s hs' _).mono ?_
  rintro e w1 ⟨rfl, b⟩
  have HB1 : Hid (Below w.heap.size w w1) := b
  clear b
  go_wp2_with fail
  refine (rknown_nil s hs _).mono ?_
  rintro e w2 ⟨rfl, b⟩
  have HB2 : Hid (Below w.heap.size w w2) := HB1.out.trans (b.mono HB1.out.size)
  clear b HB1
  go_wp2_with fail
  refine (short_nil s hs' _).mono ?_
  rintro e w3 ⟨rfl, b⟩
  have HB3 : Hid (Below w.heap.size w w3) := HB2.out.trans (b.mono HB2.out.size)
  clear b HB2
  go_wp2_with fail
  refine (rshort_nil s hs _).mono ?_
  rintro e w4 ⟨rfl, b⟩
  have HB4 : Hid (Below w.heap.size w w4) := HB3.out.trans (b.mono HB3.out.size)
  clear b HB3
  go_wp2_with fail
  go_loopw [6] (fun k W => k = .int .i64 0 ∧ W = w4) (fun _ _ => 0)
  case atStart => exact ⟨rfl, rfl⟩
  case round =>
    obtain ⟨rfl, rfl⟩ := hrel
    go_wp2_with fail
    refine (known_any _ (Tabs_below hT HB4.out)).mono ?_
    rintro e w5 ⟨rfl, b⟩
    have HB5 : Hid (Below w.heap.size w w5) := HB4.out.trans (b.mono HB4.out.size)
    clear b
    go_wp2
    go_ret
    exact ⟨rfl, HB5.out⟩

set_option maxRecDepth 100000 in
set_option maxHeartbeats 4000000 in
theorem lknown_some (s : ByteArray) (L : List ByteArray) (a : Addr) (cap : Nat) (hs : s.size ≤ 140737488351232) (hL : ∀ (j : Nat) (t : ByteArray), L[j]? = some t → t.size ≤ 140737488351232) (hn : L.length * 16 ≤ 140737488351232) (hcap : L.length ≤ cap) (hcap2 : cap ≤ maxLen) (w : World) (hA : TxtA w a L) (hT : Tabs w) :
    Calls Tryd.prog 6 #[.string s, .slice (some a) L.length cap] w fun e w' => e = .returned (.bool true) ∧ Below w.heap.size w w' := by
  have hs' : s.size ≤ maxLen := by unfold maxLen; omega
  have hL' : ∀ (j : Nat) (t : ByteArray), L[j]? = some t → t.size ≤ maxLen := fun j t h => by have := hL j t h; unfold maxLen; omega
  have hm : L.length ≤ maxLen := by unfold maxLen; omega
  obtain ⟨i0, hi, hz0, hz1, hz2⟩ := info_parts infoStr
  have HA : Hid (SlS w (.slice (some a) L.length cap) L) := .inr ⟨a, cap, rfl, hcap, hcap2, hA⟩
  have HX : Hid (TxtA w a L) := hA
  have HL : Hid (∀ (j : Nat) (t : ByteArray), L[j]? = some t → t.size ≤ 140737488351232) := hL
  have HL' : Hid (∀ (j : Nat) (t : ByteArray), L[j]? = some t → t.size ≤ maxLen) := hL'
  unfold maxLen at hcap2
  clear hA hL hL'
  go_enter Tryd.func6, Tryd.ntmps6
  go_wp2_with (first
    | (at_builtin; refine wpList_append_own _ rfl _ _ 51 rfl w.heap.size 9 i0 (.string ByteArray.empty) 1 16 Tryd.underlying51 hi hz0 hz1 hz2 rfl (by decide) _ 0 [] rfl (World.ownsRow_nil _ _ _ _) a L.length cap (L.map Value.string) rfl (by simp) (fun j u hj => by
          obtain ⟨t, ht, rfl⟩ : ∃ t, L[j]? = some t ∧ Value.string t = u := by simpa using hj
          exact HX.out.2 j t ht) (strs_one L) (by rw [Nat.zero_add]; exact hm) (by omega) (Nat.le_refl _) ?_; intro v' w1 hown' hgrow1 hnil1
       rw [Nat.zero_add, List.nil_append] at hown'
       have HO : Hid (SlS w1 v' L) := SlS.own hown'
       have HB1 : Hid (Below w.heap.size w w1) := Below.grown (Below.refl _ _) hgrow1 (Nat.le_refl _) (fun k hk => by cases hk)
       clear hown' hgrow1 hnil1))
  refine (known_sl s L v' _ hs' HL'.out HO.out).mono ?_
  rintro e w2 ⟨rfl, b⟩
  have HB2 : Hid (Below w.heap.size w w2) := HB1.out.trans (b.mono HB1.out.size)
  have HO2 : Hid (SlS w2 v' L) := HO.out.below b
  clear b HB1 HO
  go_wp2_with fail
  refine (rknown_sl s L _ _ hs HL.out (HA.out.below HB2.out)).mono ?_
  rintro e w3 ⟨rfl, b⟩
  have HB3 : Hid (Below w.heap.size w w3) := HB2.out.trans (b.mono HB2.out.size)
  have HO3 : Hid (SlS w3 v' L) := HO2.out.below b
  clear b HB2 HO2
  go_wp2_with fail
  refine (short_sl s L v' _ hs' HL'.out HO3.out).mono ?_
  rintro e w4 ⟨rfl, b⟩
  have HB4 : Hid (Below w.heap.size w w4) := HB3.out.trans (b.mono HB3.out.size)
  have HO4 : Hid (SlS w4 v' L) := HO3.out.below b
  clear b HB3 HO3
  go_wp2_with fail
  refine (rshort_sl s L _ _ hs HL.out (HA.out.below HB4.out)).mono ?_
  rintro e w5 ⟨rfl, b⟩
  have HB5 : Hid (Below w.heap.size w w5) := HB4.out.trans (b.mono HB4.out.size)
  have HO5 : Hid (SlS w5 v' L) := HO4.out.below b
  clear b HB4 HO4
  go_wp2_with fail
  go_loopw [6] (fun k W => ∃ i : Nat, i ≤ L.length ∧ k = .int .i64 (i : Int) ∧ Below w5.heap.size w5 W) (fun k _ => L.length - (intOf k).toNat)
  case atStart => exact ⟨0, Nat.zero_le _, rfl, Below.refl _ _⟩
  case round =>
    obtain ⟨i, hil, rfl, B⟩ := hrel
    have HB : Hid (Below w5.heap.size w5 wr) := B
    clear B
    by_cases hlt : i < L.length
    · have hlt' : (i : Int) < (L.length : Int) := by omega
      have i0' : (0 : Int) ≤ (i : Int) := by omega
      obtain ⟨t, ht⟩ : ∃ t, L[i]? = some t := ⟨L[i]'hlt, List.getElem?_eq_getElem hlt⟩
      rcases HO5.out with ⟨_, e1⟩ | ⟨a2, cap2, e1, k2, k3, k4⟩
      · rw [e1] at hlt; simp at hlt
      · subst e1
        have hc1 : wr.cell? (a2.add i) = some (.string t) := (k4.below HB.out).2 i t ht
        have hc2 : wr.cell? (a.add i) = some (.string t) := ((HX.out.below HB5.out).below HB.out).2 i t ht
        unfold maxLen at k3
        clear k4 ht
        go_wp2_with fail
        refine wp_region_held_drew (S := fun W => W.cell? (a2.add i) = some (.string t) ∧ W.cell? (a.add i) = some (.string t)) (by kernel_rfl) ⟨hc1, hc2⟩ (fun hHeld => ?_)
        refine wpAnyH_take (i := 0) (v := ?_) (oi := { dst := some 32, op := _, type := _, pos := _, after := _, guard := none }) rfl (by kernel_rfl) (by kernel_rfl) (by kernel_rfl) (fun _ _ _ h => h) (Or.inl ⟨by kernel_rfl, ?_⟩) (by assumption) ?_
        case refine_2 => (intro w9 hSw; clear hSw; go_simp; try with_reducible rfl)
        simp only [Act.put, List.setIfInBounds_toArray, List.set_cons_zero, List.set_cons_succ]
        refine wpAnyH_take (i := 1) (v := ?_) (oi := { dst := some 33, op := _, type := _, pos := _, after := _, guard := none }) rfl (by kernel_rfl) (by kernel_rfl) (by kernel_rfl) (fun _ _ _ h => h) (Or.inl ⟨by kernel_rfl, ?_⟩) (by assumption) ?_
        case refine_2 => (intro w9 hSw; clear hSw; go_simp; try with_reducible rfl)
        simp only [Act.put, List.setIfInBounds_toArray, List.set_cons_zero, List.set_cons_succ]
        refine wpAnyH_take (i := 2) (v := ?_) (oi := { dst := some 34, op := _, type := _, pos := _, after := _, guard := none }) rfl (by kernel_rfl) (by kernel_rfl) (by kernel_rfl) (fun _ _ _ h => h) (Or.inl ⟨by kernel_rfl, ?_⟩) (by assumption) ?_
        case refine_2 => (intro w9 hSw; clear hSw; go_simp; try with_reducible rfl)
        simp only [Act.put, List.setIfInBounds_toArray, List.set_cons_zero, List.set_cons_succ]
        refine wpAnyH_take (i := 3) (v := ?_) (oi := { dst := some 35, op := _, type := _, pos := _, after := _, guard := none }) rfl (by kernel_rfl) (by kernel_rfl) (by kernel_rfl) (fun _ _ _ h => h) (Or.inl ⟨by kernel_rfl, ?_⟩) (by assumption) ?_
        case refine_2 => (intro w9 hSw; obtain ⟨ra, rb⟩ := hSw; go_simp; try with_reducible rfl)
        simp only [Act.put, List.setIfInBounds_toArray, List.set_cons_zero, List.set_cons_succ]
        refine wpAnyH_take (i := 4) (v := ?_) (oi := { dst := some 36, op := _, type := _, pos := _, after := _, guard := none }) rfl (by kernel_rfl) (by kernel_rfl) (by kernel_rfl) (fun _ _ _ h => h) (Or.inl ⟨by kernel_rfl, ?_⟩) (by assumption) ?_
        case refine_2 => (intro w9 hSw; clear hSw; go_simp; try with_reducible rfl)
        simp only [Act.put, List.setIfInBounds_toArray, List.set_cons_zero, List.set_cons_succ]
        refine wpAnyH_take (i := 5) (v := ?_) (oi := { dst := some 37, op := _, type := _, pos := _, after := _, guard := none }) rfl (by kernel_rfl) (by kernel_rfl) (by kernel_rfl) (fun _ _ _ h => h) (Or.inl ⟨by kernel_rfl, ?_⟩) (by assumption) ?_
        case refine_2 => (intro w9 hSw; clear hSw; go_simp; try with_reducible rfl)
        simp only [Act.put, List.setIfInBounds_toArray, List.set_cons_zero, List.set_cons_succ]
        refine wpAnyH_take (i := 6) (v := ?_) (oi := { dst := some 38, op := _, type := _, pos := _, after := _, guard := none }) rfl (by kernel_rfl) (by kernel_rfl) (by kernel_rfl) (fun _ _ _ h => h) (Or.inl ⟨by kernel_rfl, ?_⟩) (by assumption) ?_
        case refine_2 => (intro w9 hSw; clear hSw; go_simp; try with_reducible rfl)
        simp only [Act.put, List.setIfInBounds_toArray, List.set_cons_zero, List.set_cons_succ]
        refine wpAnyH_take (i := 7) (v := ?_) (oi := { dst := some 39, op := _, type := _, pos := _, after := _, guard := none }) rfl (by kernel_rfl) (by kernel_rfl) (by kernel_rfl) (fun _ _ _ h => h) (Or.inl ⟨by kernel_rfl, ?_⟩) (by assumption) ?_
        case refine_2 => (intro w9 hSw; obtain ⟨ra, rb⟩ := hSw; go_simp; try with_reducible rfl)
        simp only [Act.put, List.setIfInBounds_toArray, List.set_cons_zero, List.set_cons_succ]
        refine wpAnyH_take (i := 8) (v := ?_) (oi := { dst := some 40, op := _, type := _, pos := _, after := _, guard := none }) rfl (by kernel_rfl) (by kernel_rfl) (by kernel_rfl) (fun _ _ _ h => h) (Or.inl ⟨by kernel_rfl, ?_⟩) (by assumption) ?_
        case refine_2 => (intro w9 hSw; clear hSw; go_simp; try with_reducible rfl)
        simp only [Act.put, List.setIfInBounds_toArray, List.set_cons_zero, List.set_cons_succ]
        clear hHeld
        refine wpAnyH_done (by kernel_rfl) ?_ _
        go_wp2_with fail
        go_roundw
        case rel => exact ⟨i + 1, by omega, by go_num, HB.out.drew⟩
        case measure => simp [intOf]; omega
    · have hlt' : ¬ (i : Int) < (L.length : Int) := by omega
      go_wp2_with fail
      refine (known_any _ (Tabs_below (Tabs_below hT HB5.out) HB.out)).mono ?_
      rintro e w6 ⟨rfl, b⟩
      have HB6 : Hid (Below w.heap.size w w6) := (HB5.out.trans (HB.out.mono HB5.out.size)).trans (b.mono (Nat.le_trans HB5.out.size HB.out.size))
      clear b
      go_wp2
      go_ret
      exact ⟨rfl, HB6.out⟩

end Go.Proofs.YtlhlanekklonmabDoor
