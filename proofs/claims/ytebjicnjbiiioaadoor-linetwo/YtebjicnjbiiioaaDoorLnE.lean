/- Contracts of the law's taken, and of the reference's Same of two lists that are alike. -/
import Derived.Test.YtebjicnjbiiioaaDoorLnD
import Derived.Deep.RegionHeld3
namespace Go.Proofs.YtebjicnjbiiioaaDoor
open Go.RowKit
set_option linter.unusedVariables false

theorem flatL_at : ∀ (l : List LnV) (k : Nat) (r : LnV), l[k]? = some r → (flatL l)[k * 2]? = some (.int .i64 r.1) ∧ (flatL l)[k * 2 + 1]? = some r.2.1
  | [], k, r, h => by simp at h
  | p :: l, 0, r, h => by simp at h; subst h; exact ⟨rfl, rfl⟩
  | p :: l, k + 1, r, h => by
    have h' : l[k]? = some r := by simpa using h
    obtain ⟨a, b⟩ := flatL_at l k r h'
    rw [show (k + 1) * 2 = k * 2 + 2 by omega, show k * 2 + 2 + 1 = (k * 2 + 1) + 2 by omega]
    exact ⟨by simpa [flatL] using a, by simpa [flatL] using b⟩
theorem ownL_at {w : World} {base g cap n : Nat} {e : TypeId} {l : List LnV} (h : w.ownsRow base e 2 (.slice (some ⟨g, 0, none⟩) n cap) n (flatL l)) (hn : l.length = n) : ∀ (k : Nat) (r : LnV), l[k]? = some r → w.cell? ⟨g, k * 2, none⟩ = some (.int .i64 r.1) ∧ w.cell? ⟨g, k * 2 + 1, none⟩ = some r.2.1 := by
  intro k r hr
  have hk : k < l.length := (List.getElem?_eq_some_iff.1 hr).1
  obtain ⟨q1, q2⟩ := flatL_at l k r hr
  exact ⟨(h.cellAt _ (by omega)).trans q1, (h.cellAt _ (by omega)).trans q2⟩
theorem ownS_at {w : World} {base g cap n : Nat} {F : List ByteArray} (h : w.ownsRow base 9 1 (.slice (some ⟨g, 0, none⟩) n cap) n (cellsS F)) (hn : F.length = n) : ∀ (k : Nat) (r : ByteArray), F[k]? = some r → w.cell? ⟨g, k, none⟩ = some (.string r) := by
  intro k r hr
  have hk : k < F.length := (List.getElem?_eq_some_iff.1 hr).1
  exact (h.cellAt _ (by omega)).trans (cellsS_get hr)

abbrev zLine : Value := .agg #[.int .i64 0, .slice none 0 0]
theorem ite_yesL {c : Prop} [Decidable c] {A B : Prop} (h : c) (k : A) : if c then A else B := by rw [if_pos h]; exact k

set_option maxRecDepth 1000000 in
set_option maxHeartbeats 8000000 in
theorem ltaken_any (l : List LnV) (v : Value) (base : Nat) (w : World) (hl : l.length ≤ 400) (hbs : base ≤ w.heap.size) (h : OwnL w base 78 v l) :
    Calls Tryd.prog 20 #[v] w fun e w' => Below w.heap.size w w' ∧ ∃ v', e = .returned v' ∧ OwnL w' base 79 v' l := by
  obtain ⟨i0, hi, hz0, hz1, hz2⟩ := info_parts infoLineE
  have c78 : Tryd.prog.cellsOf 78 = 2 := by kernel_rfl
  rcases h.1.2 with ⟨e0, h1⟩ | ⟨g, cap, cur, e0, hg, hh, h3, h4, _⟩
  · subst e0
    have hl0 : l = [] := by
      cases l with
      | nil => rfl
      | cons a b => simp at h1
    subst hl0
    clear h
    go_enter Tryd.func20, Tryd.ntmps20
    go_wp2_with fail
    go_loopw [3, 4] (fun v i W => v = .slice none 0 0 ∧ i = .int .i64 0 ∧ W = w) (fun _ _ _ => 0)
    case atStart => exact ⟨rfl, rfl, rfl⟩
    case round =>
      obtain ⟨rfl, rfl, rfl⟩ := hrel
      go_wp2_with fail
      go_ret
      exact ⟨Below.refl _ _, _, rfl, OwnL.nil _ _ _⟩
  · subst e0
    obtain ⟨n, hn⟩ : ∃ n, l.length = n := ⟨_, rfl⟩
    have HL : Hid (OwnL w base 78 (.slice (some ⟨g, 0, none⟩) n cap) l) := by have := h; rw [hn] at this; exact this
    rw [hn]
    rw [hn] at hl h3
    have HN : Hid (l.length = n) := hn
    unfold maxLen at h4
    have hglt : g < w.heap.size := (Array.getElem?_eq_some_iff.1 hh).1
    clear h hn hh
    go_enter Tryd.func20, Tryd.ntmps20
    go_wp2_with fail
    go_loopw [3, 4] (fun v i wr => ∃ k : Nat, k ≤ n ∧ i = .int .i64 (k : Int) ∧ Hid (wr.ownsRow w.heap.size 79 2 v k (flatL (l.take k))) ∧ Hid (Below w.heap.size w wr)) (fun _ i _ => n - (intOf i).toNat)
    case atStart => exact ⟨0, Nat.zero_le _, rfl, World.ownsRow_nil _ _ _ _, Below.refl _ _⟩
    case round =>
      obtain ⟨k, hk, rfl, HQ, HB⟩ := hrel
      by_cases hkn : k < n
      · have hkn' : (k : Int) < (n : Int) := by omega
        have hk0 : (0 : Int) ≤ (k : Int) := by omega
        have hkw : IntKind.i64.wrap ((k : Int) + 1) = (k : Int) + 1 := by rw [IntKind.wrap_i64]; omega
        have hkl : k < l.length := by rw [HN.out]; exact hkn
        obtain ⟨⟨N, u, F⟩, hr⟩ : ∃ r, l[k]? = some r := ⟨_, List.getElem?_eq_getElem hkl⟩
        have hat := ownL_at (by have := HL.out.1; rw [HN.out] at this; exact this) HN.out k _ hr
        have HA : Hid (w.cell? ⟨g, k * 2, none⟩ = some (.int .i64 N) ∧ w.cell? ⟨g, k * 2 + 1, none⟩ = some u) := hat
        have hform : ∃ a m c, u = .slice a m c := by
          have := HL.out.2 _ (List.mem_of_getElem? hr)
          rcases this.2 with ⟨h0, _⟩ | ⟨g', cap', _, h0, _⟩
          · exact ⟨_, _, _, h0⟩
          · exact ⟨_, _, _, h0⟩
        have HTk : Hid (flatL (l.take (k + 1)) = flatL (l.take k) ++ [.int .i64 N, u]) := by
          show _ = _
          rw [List.take_add_one, hr, flatL_append]; rfl
        obtain ⟨a, m, c, rfl⟩ := hform
        clear hat hr hkl
        go_wp2_with fail
        refine wp_region_held_drew (S := fun W => Below w.heap.size w W) (by kernel_rfl) HB.out.drew (fun hHeld => ?_)
        refine wpAnyH_take (i := 0) (v := ?_) (oi := { dst := some 11, op := _, type := _, pos := _, after := _, guard := none }) rfl (by kernel_rfl) (by kernel_rfl) (by kernel_rfl) (fun _ _ _ h => h) (Or.inl ⟨by kernel_rfl, ?_⟩) (by assumption) ?_
        case refine_2 => (intro w9 hSw; clear hSw; go_simp; try with_reducible rfl)
        simp only [Act.put, List.setIfInBounds_toArray, List.set_cons_zero, List.set_cons_succ]
        refine wpAnyH_take (i := 1) (v := ?_) (oi := { dst := some 12, op := _, type := _, pos := _, after := _, guard := none }) rfl (by kernel_rfl) (by kernel_rfl) (by kernel_rfl) (fun _ _ _ h => h) (Or.inl ⟨by kernel_rfl, ?_⟩) (by assumption) ?_
        case refine_2 => (intro w9 hSw; clear hSw; go_simp; try with_reducible rfl)
        simp only [Act.put, List.setIfInBounds_toArray, List.set_cons_zero, List.set_cons_succ]
        refine wpAnyH_take (i := 2) (v := ?_) (oi := { dst := some 13, op := _, type := _, pos := _, after := _, guard := none }) rfl (by kernel_rfl) (by kernel_rfl) (by kernel_rfl) (fun _ _ _ h => h) (Or.inl ⟨by kernel_rfl, ?_⟩) (by assumption) ?_
        case refine_2 => (intro w9 hSw; clear hSw; go_simp; try with_reducible rfl)
        simp only [Act.put, List.setIfInBounds_toArray, List.set_cons_zero, List.set_cons_succ]
        refine wpAnyH_take (i := 3) (v := ?_) (oi := { dst := some 14, op := _, type := _, pos := _, after := _, guard := none }) rfl (by kernel_rfl) (by kernel_rfl) (by kernel_rfl) (fun _ _ _ h => h) (Or.inl ⟨by kernel_rfl, ?_⟩) (by assumption) ?_
        case refine_2 => (intro w9 hSw; clear hSw; go_simp; try with_reducible rfl)
        simp only [Act.put, List.setIfInBounds_toArray, List.set_cons_zero, List.set_cons_succ]
        refine wpAnyH_take (i := 4) (v := ?_) (oi := { dst := some 15, op := _, type := _, pos := _, after := _, guard := none }) rfl (by kernel_rfl) (by kernel_rfl) (by kernel_rfl) (fun _ _ _ h => h) (Or.inl ⟨by kernel_rfl, ?_⟩) (by assumption) ?_
        case refine_2 => (intro w9 hSw; clear hSw; go_simp; try with_reducible rfl)
        simp only [Act.put, List.setIfInBounds_toArray, List.set_cons_zero, List.set_cons_succ]
        refine wpAnyH_take (i := 5) (v := ?_) (oi := { dst := some 16, op := _, type := _, pos := _, after := _, guard := none }) rfl (by kernel_rfl) (by kernel_rfl) (by kernel_rfl) (fun _ _ _ h => h) (Or.inl ⟨by kernel_rfl, ?_⟩) (by assumption) ?_
        case refine_2 => (intro w9 hSw; have ca := (hSw.cell (p := ⟨g, k * 2, none⟩) hglt).trans HA.out.1; have cb := (hSw.cell (p := ⟨g, k * 2 + 1, none⟩) hglt).trans HA.out.2; clear hSw; go_simp; try with_reducible rfl)
        simp only [Act.put, List.setIfInBounds_toArray, List.set_cons_zero, List.set_cons_succ]
        refine wpAnyH_take (i := 6) (v := ?_) (oi := { dst := some 17, op := _, type := _, pos := _, after := _, guard := none }) rfl (by kernel_rfl) (by kernel_rfl) (by kernel_rfl) (fun _ _ _ h => h) (Or.inl ⟨by kernel_rfl, ?_⟩) (by assumption) ?_
        case refine_2 => (intro w9 hSw; clear hSw; go_simp; try with_reducible rfl)
        simp only [Act.put, List.setIfInBounds_toArray, List.set_cons_zero, List.set_cons_succ]
        refine wpAnyH_take (i := 7) (v := ?_) (oi := { dst := some 18, op := _, type := _, pos := _, after := _, guard := none }) rfl (by kernel_rfl) (by kernel_rfl) (by kernel_rfl) (fun _ _ _ h => h) (Or.inl ⟨by kernel_rfl, ?_⟩) (by assumption) ?_
        case refine_2 => (intro w9 hSw; clear hSw; go_simp; try with_reducible rfl)
        simp only [Act.put, List.setIfInBounds_toArray, List.set_cons_zero, List.set_cons_succ]
        refine wpAnyH_take (i := 8) (v := ?_) (oi := { dst := some 19, op := _, type := _, pos := _, after := _, guard := none }) rfl (by kernel_rfl) (by kernel_rfl) (by kernel_rfl) (fun _ _ _ h => h) (Or.inl ⟨by kernel_rfl, ?_⟩) (by assumption) ?_
        case refine_2 => (intro w9 hSw; clear hSw; go_simp; try with_reducible rfl)
        simp only [Act.put, List.setIfInBounds_toArray, List.set_cons_zero, List.set_cons_succ]
        refine wpAnyH_take (i := 9) (v := ?_) (oi := { dst := some 20, op := _, type := _, pos := _, after := _, guard := none }) rfl (by kernel_rfl) (by kernel_rfl) (by kernel_rfl) (fun _ _ _ h => h) (Or.inl ⟨by kernel_rfl, ?_⟩) (by assumption) ?_
        case refine_2 => (intro w9 hSw; clear hSw; go_simp; try with_reducible rfl)
        simp only [Act.put, List.setIfInBounds_toArray, List.set_cons_zero, List.set_cons_succ]
        refine wpAnyH_take (i := 10) (v := ?_) (oi := { dst := some 21, op := _, type := _, pos := _, after := _, guard := none }) rfl (by kernel_rfl) (by kernel_rfl) (by kernel_rfl) (fun _ _ _ h => h) (Or.inl ⟨by kernel_rfl, ?_⟩) (by assumption) ?_
        case refine_2 => (intro w9 hSw; have ca := (hSw.cell (p := ⟨g, k * 2, none⟩) hglt).trans HA.out.1; have cb := (hSw.cell (p := ⟨g, k * 2 + 1, none⟩) hglt).trans HA.out.2; clear hSw; go_simp; try with_reducible rfl)
        simp only [Act.put, List.setIfInBounds_toArray, List.set_cons_zero, List.set_cons_succ]
        refine wpAnyH_take (i := 11) (v := ?_) (oi := { dst := some 22, op := _, type := _, pos := _, after := _, guard := none }) rfl (by kernel_rfl) (by kernel_rfl) (by kernel_rfl) (fun _ _ _ h => h) (Or.inl ⟨by kernel_rfl, ?_⟩) (by assumption) ?_
        case refine_2 => (intro w9 hSw; clear hSw; go_simp; try with_reducible rfl)
        simp only [Act.put, List.setIfInBounds_toArray, List.set_cons_zero, List.set_cons_succ]
        refine wpAnyH_ready (rs := [12]) (by kernel_rfl) (by simp) (AllReadyH.cons (o := { dst := some 23, op := _, type := _, pos := _, after := _, guard := none }) rfl (fun K hK => ?_) AllReadyH.nil)
        go_simp
        refine hK.out _ _ (hHeld.alloc hHeld.size _) (fun hHeld2 => ?_)
        clear hK K
        refine wpAnyH_ready (rs := [13]) (by kernel_rfl) (by simp) (AllReadyH.cons (o := { dst := some 24, op := _, type := _, pos := _, after := _, guard := none }) rfl (fun K hK => ?_) AllReadyH.nil)
        refine ite_yesL (by kernel_rfl) (wp_append_own _ (.tmp 11) (.tmp 23) 40 rfl w.heap.size 79 i0 zLine 2 32 Tryd.underlying40 hi hz0 hz1 hz2 rfl (by decide) u3 k (flatL (l.take k)) rfl (HQ.out.alloc _) ⟨wr.heap.size, 0, none⟩ 1 1 [.int .i64 N, .slice a m c] rfl rfl (two_newB _ _ _ _) (by intro x hx; simp at hx; rcases hx with rfl | rfl <;> rfl) (by unfold maxLen; omega) (by omega) (by have := HB.out.size; simp; omega) ?_)
        intro v' w3 hown' hgrow3 hnil3
        have HJ : Hid (w3.ownsRow w.heap.size 79 2 v' (k + 1) (flatL (l.take (k + 1))) ∧ Below w.heap.size w w3) := ⟨by rw [HTk.out]; exact hown', Below.grown (HB.out.drew.alloc HB.out.size _) hgrow3 (by have := HB.out.size; simp; omega) (fun k hk => (HQ.out.lt _ hk).1)⟩
        refine hK.out _ _ HJ.out.2 (fun hHeld3 => ?_)
        clear hK K hHeld hHeld2 hown' hgrow3 hnil3
        refine wpAnyH_take (i := 14) (v := ?_) (oi := { dst := some 3, op := _, type := _, pos := _, after := _, guard := none }) rfl (by kernel_rfl) (by kernel_rfl) (by kernel_rfl) (fun _ _ _ h => h) (Or.inl ⟨by kernel_rfl, ?_⟩) (by assumption) ?_
        case refine_2 => (intro w9 hSw; clear hSw; go_simp; try with_reducible rfl)
        simp only [Act.put, List.setIfInBounds_toArray, List.set_cons_zero, List.set_cons_succ]
        refine wpAnyH_done (by kernel_rfl) ?_ _
        go_wp2_with fail
        go_roundw
        case rel => exact ⟨k + 1, by omega, by go_num, HJ.out.1, HJ.out.2⟩
        case measure => simp [intOf]; omega
      · have hkn' : ¬ (k : Int) < (n : Int) := by omega
        have hke : k = n := by omega
        have HO2 : Hid (OwnL wr base 79 u3 l) := by
          refine ⟨?_, fun p hp => own_keep (HL.out.2 p hp) (fun k _ hk => HB.out.block k hk)⟩
          have := HQ.out
          rw [hke, List.take_of_length_le (by rw [HN.out]; exact Nat.le_refl _)] at this
          rw [HN.out]
          exact own_lower this hbs
        have hB := HB.out
        clear HQ HB
        go_wp2_with fail
        go_ret
        exact ⟨hB, _, rfl, HO2.out⟩

end Go.Proofs.YtebjicnjbiiioaaDoor
