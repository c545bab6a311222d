/- ExprParses: both Parses answer the same. -/
import Derived.Test.YtaoocecipacnhaaDoorExKnq
import Derived.Test.YtaoocecipacnhaaDoorExTkq
import Derived.Test.YtaoocecipacnhaaDoorExSzq
import Derived.Test.YtaoocecipacnhaaDoorRxZq
namespace Go.Proofs.YtaoocecipacnhaaDoor
open Go.RowKit
set_option linter.unusedVariables false

/-- what both Parses answer. -/
theorem parse_both (s : ByteArray) (hs : s.size ≤ 140737488351232) : ∃ (n : Nd) (A E : Int), cnN n ≤ 100000 ∧ (∀ w, Gl w → Calls Tryd.prog 5 #[.string s] w fun e w' => Below w.heap.size w w' ∧ ∃ k t sq sn sc a, e = .returned (.tuple #[.agg #[.int .i64 k, .string t, .slice sq sn sc, .int .i64 a], .int .i64 A, .int .i64 E]) ∧ NdAt (fun c => w.heap.size < c) w' n [.int .i64 k, .string t, .slice sq sn sc, .int .i64 a]) ∧ (∀ w, Calls Tryd.prog 6 #[.string s] w fun e w' => Below w.heap.size w w' ∧ ∃ k t sq sn sc a, e = .returned (.tuple #[.agg #[.int .i64 k, .string t, .slice sq sn sc, .int .i64 a], .int .i64 A, .int .i64 E]) ∧ NdAt (fun c => w.heap.size < c) w' n [.int .i64 k, .string t, .slice sq sn sc, .int .i64 a]) := by
  by_cases h : s.size ≤ 2048
  · cases hp : parseB s with
    | inl x =>
      refine ⟨.mk 0 ⟨#[]⟩ [] 0, x.1, x.2, by decide, fun w hG => ?_, fun w => ?_⟩
      · refine (parse_gl s w hG h).mono ?_
        rw [hp]
        rintro e w' ⟨hb, rfl⟩
        exact ⟨hb, _, _, _, _, _, _, rfl, NdAt.leaf _ _ _ _ _⟩
      · refine (rparse_any s w h).mono ?_
        rw [hp]
        rintro e w' ⟨hb, rfl⟩
        exact ⟨hb, _, _, _, _, _, _, rfl, NdAt.leaf _ _ _ _ _⟩
    | inr n =>
      refine ⟨n, 0, 0, Nat.le_trans (parse_sz h hp).2 (by decide), fun w hG => ?_, fun w => ?_⟩
      · refine (parse_gl s w hG h).mono ?_
        rw [hp]
        exact fun e w' h => h
      · refine (rparse_any s w h).mono ?_
        rw [hp]
        exact fun e w' h => h
  · refine ⟨.mk 0 ⟨#[]⟩ [] 0, 0, 3, by decide, fun w hG => ?_, fun w => ?_⟩
    · refine (parse_long s w (by unfold maxLen; omega) h).mono ?_
      rintro e w' ⟨hb, rfl⟩
      exact ⟨hb, _, _, _, _, _, _, rfl, NdAt.leaf _ _ _ _ _⟩
    · refine (rparse_long s w (by unfold maxLen; omega) h).mono ?_
      rintro e w' ⟨hb, rfl⟩
      exact ⟨hb, _, _, _, _, _, _, rfl, NdAt.leaf _ _ _ _ _⟩

set_option maxRecDepth 100000 in
set_option maxHeartbeats 4000000 in
theorem ep_run (s : ByteArray) (n : Nd) (A E : Int) (hcn : cnN n ≤ 100000) (h1 : ∀ w, Gl w → Calls Tryd.prog 5 #[.string s] w fun e w' => Below w.heap.size w w' ∧ ∃ k t sq sn sc a, e = .returned (.tuple #[.agg #[.int .i64 k, .string t, .slice sq sn sc, .int .i64 a], .int .i64 A, .int .i64 E]) ∧ NdAt (fun c => w.heap.size < c) w' n [.int .i64 k, .string t, .slice sq sn sc, .int .i64 a]) (h2 : ∀ w, Calls Tryd.prog 6 #[.string s] w fun e w' => Below w.heap.size w w' ∧ ∃ k t sq sn sc a, e = .returned (.tuple #[.agg #[.int .i64 k, .string t, .slice sq sn sc, .int .i64 a], .int .i64 A, .int .i64 E]) ∧ NdAt (fun c => w.heap.size < c) w' n [.int .i64 k, .string t, .slice sq sn sc, .int .i64 a]) (w : World) (hGl : Gl w) :
    Calls Tryd.prog 3 #[.string s] w fun e w' => e = .returned (.bool true) ∧ Below w.heap.size w w' := by
  have HG : Hid (Gl w) := hGl
  have HC1 : Hid (∀ w, Gl w → Calls Tryd.prog 5 #[.string s] w fun e w' => Below w.heap.size w w' ∧ ∃ k t sq sn sc a, e = .returned (.tuple #[.agg #[.int .i64 k, .string t, .slice sq sn sc, .int .i64 a], .int .i64 A, .int .i64 E]) ∧ NdAt (fun c => w.heap.size < c) w' n [.int .i64 k, .string t, .slice sq sn sc, .int .i64 a]) := h1
  have HC2 : Hid (∀ w, Calls Tryd.prog 6 #[.string s] w fun e w' => Below w.heap.size w w' ∧ ∃ k t sq sn sc a, e = .returned (.tuple #[.agg #[.int .i64 k, .string t, .slice sq sn sc, .int .i64 a], .int .i64 A, .int .i64 E]) ∧ NdAt (fun c => w.heap.size < c) w' n [.int .i64 k, .string t, .slice sq sn sc, .int .i64 a]) := h2
  clear hGl h1 h2
  go_enter Tryd.func3, Tryd.ntmps3
  go_wp2_with fail
  refine (HC1.out w HG.out).mono ?_
  rintro e V ⟨hb, k, t, sq, sn, sc, a, rfl, hnd⟩
  have HB : Hid (Below w.heap.size w V) := hb
  have HN1 : Hid (NdAt (fun c => w.heap.size < c) V n [.int .i64 k, .string t, .slice sq sn sc, .int .i64 a]) := hnd
  have BV : Hid (BS V [(V.heap.size, [.int .i64 k, .string t, .slice sq sn sc, .int .i64 a])] (V.alloc (.cells [.int .i64 k, .string t, .slice sq sn sc, .int .i64 a].toArray 24))) := (BS.start V).new [.int .i64 k, .string t, .slice sq sn sc, .int .i64 a] 24 rfl
  clear hb hnd HC1
  go_wp2_with fail
  refine (HC2.out _).mono ?_
  rintro e U ⟨hb, k2, t2, sq2, sn2, sc2, a2, rfl, hnd⟩
  have BU : Hid (BS V [(V.heap.size, [.int .i64 k, .string t, .slice sq sn sc, .int .i64 a])] U) := BV.out.below hb
  have BW : Hid (BS V [(U.heap.size, [.int .i64 k2, .string t2, .slice sq2 sn2 sc2, .int .i64 a2]), (V.heap.size, [.int .i64 k, .string t, .slice sq sn sc, .int .i64 a])] (U.alloc (.cells [.int .i64 k2, .string t2, .slice sq2 sn2 sc2, .int .i64 a2].toArray 30))) := BU.out.new [.int .i64 k2, .string t2, .slice sq2 sn2 sc2, .int .i64 a2] 30 rfl
  have HN2 : Hid (NdAt (fun c => V.heap.size + 1 < c) (U.alloc (.cells [.int .i64 k2, .string t2, .slice sq2 sn2 sc2, .int .i64 a2].toArray 30)).drew n [.int .i64 k2, .string t2, .slice sq2 sn2 sc2, .int .i64 a2]) := by
    have q : NdAt (fun c => V.heap.size + 1 < c) (U.alloc (.cells [.int .i64 k2, .string t2, .slice sq2 sn2 sc2, .int .i64 a2].toArray 30)) n [.int .i64 k2, .string t2, .slice sq2 sn2 sc2, .int .i64 a2] := NdAt.keep (by simp) (fun c hc hl => ⟨by simpa using hc, Below.heap_alloc _ _ _ hl⟩) _ _ hnd
    exact q.below (bdrew _)
  clear hb hnd BV BU HC2
  go_upto_region 3 with fail
  refine wp_region_held_drew (S := BS V [(U.heap.size, [.int .i64 k2, .string t2, .slice sq2 sn2 sc2, .int .i64 a2]), (V.heap.size, [.int .i64 k, .string t, .slice sq sn sc, .int .i64 a])]) (by kernel_rfl) BW.out.drew (fun hHeld => ?_)
  refine wpAnyH_take (i := 0) (v := ?_) (oi := { dst := some 21, op := _, type := _, pos := _, after := _, guard := none }) rfl (by kernel_rfl) (by kernel_rfl) (by kernel_rfl) (fun _ _ _ h => h) (Or.inl ⟨by kernel_rfl, ?_⟩) (by assumption) ?_
  case refine_2 => (intro w9 hSw; have c0 := (hSw.at (V.heap.size) [.int .i64 k, .string t, .slice sq sn sc, .int .i64 a] (by simp)).c 0 rfl; have c1 := (hSw.at (V.heap.size) [.int .i64 k, .string t, .slice sq sn sc, .int .i64 a] (by simp)).c 1 rfl; have c2 := (hSw.at (V.heap.size) [.int .i64 k, .string t, .slice sq sn sc, .int .i64 a] (by simp)).c 2 rfl; have c3 := (hSw.at (V.heap.size) [.int .i64 k, .string t, .slice sq sn sc, .int .i64 a] (by simp)).c 3 rfl; have e0 := (hSw.at (U.heap.size) [.int .i64 k2, .string t2, .slice sq2 sn2 sc2, .int .i64 a2] (by simp)).c 0 rfl; have e1 := (hSw.at (U.heap.size) [.int .i64 k2, .string t2, .slice sq2 sn2 sc2, .int .i64 a2] (by simp)).c 1 rfl; have e2 := (hSw.at (U.heap.size) [.int .i64 k2, .string t2, .slice sq2 sn2 sc2, .int .i64 a2] (by simp)).c 2 rfl; have e3 := (hSw.at (U.heap.size) [.int .i64 k2, .string t2, .slice sq2 sn2 sc2, .int .i64 a2] (by simp)).c 3 rfl; have g1 := (hSw.at (V.heap.size) [.int .i64 k, .string t, .slice sq sn sc, .int .i64 a] (by simp)).1; have g2 := (hSw.at (U.heap.size) [.int .i64 k2, .string t2, .slice sq2 sn2 sc2, .int .i64 a2] (by simp)).1; clear hSw; go_simp; try with_reducible rfl)
  simp only [Act.put, List.setIfInBounds_toArray, List.set_cons_zero, List.set_cons_succ]
  refine wpAnyH_take (i := 2) (v := ?_) (oi := { dst := some 23, op := _, type := _, pos := _, after := _, guard := none }) rfl (by kernel_rfl) (by kernel_rfl) (by kernel_rfl) (fun _ _ _ h => h) (Or.inl ⟨by kernel_rfl, ?_⟩) (by assumption) ?_
  case refine_2 => (intro w9 hSw; have c0 := (hSw.at (V.heap.size) [.int .i64 k, .string t, .slice sq sn sc, .int .i64 a] (by simp)).c 0 rfl; have c1 := (hSw.at (V.heap.size) [.int .i64 k, .string t, .slice sq sn sc, .int .i64 a] (by simp)).c 1 rfl; have c2 := (hSw.at (V.heap.size) [.int .i64 k, .string t, .slice sq sn sc, .int .i64 a] (by simp)).c 2 rfl; have c3 := (hSw.at (V.heap.size) [.int .i64 k, .string t, .slice sq sn sc, .int .i64 a] (by simp)).c 3 rfl; have e0 := (hSw.at (U.heap.size) [.int .i64 k2, .string t2, .slice sq2 sn2 sc2, .int .i64 a2] (by simp)).c 0 rfl; have e1 := (hSw.at (U.heap.size) [.int .i64 k2, .string t2, .slice sq2 sn2 sc2, .int .i64 a2] (by simp)).c 1 rfl; have e2 := (hSw.at (U.heap.size) [.int .i64 k2, .string t2, .slice sq2 sn2 sc2, .int .i64 a2] (by simp)).c 2 rfl; have e3 := (hSw.at (U.heap.size) [.int .i64 k2, .string t2, .slice sq2 sn2 sc2, .int .i64 a2] (by simp)).c 3 rfl; have g1 := (hSw.at (V.heap.size) [.int .i64 k, .string t, .slice sq sn sc, .int .i64 a] (by simp)).1; have g2 := (hSw.at (U.heap.size) [.int .i64 k2, .string t2, .slice sq2 sn2 sc2, .int .i64 a2] (by simp)).1; clear hSw; go_simp; try with_reducible rfl)
  simp only [Act.put, List.setIfInBounds_toArray, List.set_cons_zero, List.set_cons_succ]
  refine wpAnyH_ready (rs := [1]) (by kernel_rfl) (by simp) (AllReadyH.cons (o := { dst := some 22, op := _, type := _, pos := _, after := _, guard := none }) rfl (fun K hK => ?_) AllReadyH.nil)
  go_simp
  refine (taken_any n hcn (fun c => w.heap.size < c) _ _ _ _ _ (HN1.out.below hHeld.1)).mono ?_
  rintro e v1 ⟨hb1, k3, t3, sq3, sn3, sc3, a3, rfl, hnd1⟩
  have HT1 : Hid (NdAt (fun _ => True) v1 n [.int .i64 k3, .string t3, .slice sq3 sn3 sc3, .int .i64 a3]) := NdAt.keep (Nat.le_refl _) (fun _ _ _ => ⟨trivial, rfl⟩) _ _ hnd1
  have HN3 : Hid (NdAt (fun c => V.heap.size + 1 < c) v1 n [.int .i64 k2, .string t2, .slice sq2 sn2 sc2, .int .i64 a2]) := HN2.out.below hb1
  refine hK.out _ _ (hHeld.below hb1) (fun hHeld => ?_)
  clear hK K hb1 hnd1 HN2
  refine wpAnyH_ready (rs := [3]) (by kernel_rfl) (by simp) (AllReadyH.cons (o := { dst := some 24, op := _, type := _, pos := _, after := _, guard := none }) rfl (fun K hK => ?_) AllReadyH.nil)
  go_simp
  refine (same_any true n n (AlP.refl true n) (fun _ => True) (fun c => V.heap.size + 1 < c) _ _ _ _ _ _ _ _ _ HT1.out HN3.out).mono ?_
  rintro e v2 ⟨rfl, hb2⟩
  refine hK.out _ _ (hHeld.below hb2) (fun hHeld => ?_)
  clear hK K hb2 HT1 HN3
  refine wpAnyH_take (i := 4) (v := ?_) (oi := { dst := some 25, op := _, type := _, pos := _, after := _, guard := none }) rfl (by kernel_rfl) (by kernel_rfl) (by kernel_rfl) (fun _ _ _ h => h) (Or.inl ⟨by kernel_rfl, ?_⟩) (by assumption) ?_
  case refine_2 => (intro w9 hSw; clear hSw; go_simp; try with_reducible rfl)
  simp only [Act.put, List.setIfInBounds_toArray, List.set_cons_zero, List.set_cons_succ]
  refine wpAnyH_take (i := 5) (v := ?_) (oi := { dst := some 26, op := _, type := _, pos := _, after := _, guard := some (4, true) }) rfl (by kernel_rfl) (by kernel_rfl) (by kernel_rfl) (fun _ _ _ h => h) (Or.inl ⟨by kernel_rfl, ?_⟩) (by assumption) ?_
  case refine_2 => (intro w9 hSw; clear hSw; go_simp; try with_reducible rfl)
  simp only [Act.put, List.setIfInBounds_toArray, List.set_cons_zero, List.set_cons_succ]
  refine wpAnyH_take (i := 6) (v := ?_) (oi := { dst := some 27, op := _, type := _, pos := _, after := _, guard := some (4, true) }) rfl (by kernel_rfl) (by kernel_rfl) (by kernel_rfl) (fun _ _ _ h => h) (Or.inl ⟨by kernel_rfl, ?_⟩) (by assumption) ?_
  case refine_2 => (intro w9 hSw; clear hSw; go_simp; try with_reducible rfl)
  simp only [Act.put, List.setIfInBounds_toArray, List.set_cons_zero, List.set_cons_succ]
  refine wpAnyH_take (i := 7) (v := ?_) (oi := { dst := some 28, op := _, type := _, pos := _, after := _, guard := some (4, true) }) rfl (by kernel_rfl) (by kernel_rfl) (by kernel_rfl) (fun _ _ _ h => h) (Or.inl ⟨by kernel_rfl, ?_⟩) (by assumption) ?_
  case refine_2 => (intro w9 hSw; clear hSw; go_simp; try with_reducible rfl)
  simp only [Act.put, List.setIfInBounds_toArray, List.set_cons_zero, List.set_cons_succ]
  refine wpAnyH_take (i := 8) (v := ?_) (oi := { dst := some 29, op := _, type := _, pos := _, after := _, guard := none }) rfl (by kernel_rfl) (by kernel_rfl) (by kernel_rfl) (fun _ _ _ h => h) (Or.inl ⟨by kernel_rfl, ?_⟩) (by assumption) ?_
  case refine_2 => (intro w9 hSw; clear hSw; go_simp; try with_reducible rfl)
  simp only [Act.put, List.setIfInBounds_toArray, List.set_cons_zero, List.set_cons_succ]
  refine wpAnyH_take (i := 9) (v := ?_) (oi := { dst := some 30, op := _, type := _, pos := _, after := _, guard := none }) rfl (by kernel_rfl) (by kernel_rfl) (by kernel_rfl) (fun _ _ _ h => h) (Or.inl ⟨by kernel_rfl, ?_⟩) (by assumption) ?_
  case refine_2 => (intro w9 hSw; clear hSw; go_simp; try with_reducible rfl)
  simp only [Act.put, List.setIfInBounds_toArray, List.set_cons_zero, List.set_cons_succ]
  refine wpAnyH_take (i := 10) (v := ?_) (oi := { dst := some 31, op := _, type := _, pos := _, after := _, guard := some (9, true) }) rfl (by kernel_rfl) (by kernel_rfl) (by kernel_rfl) (fun _ _ _ h => h) (Or.inl ⟨by kernel_rfl, ?_⟩) (by assumption) ?_
  case refine_2 => (intro w9 hSw; clear hSw; go_simp; try with_reducible rfl)
  simp only [Act.put, List.setIfInBounds_toArray, List.set_cons_zero, List.set_cons_succ]
  refine wpAnyH_take (i := 11) (v := ?_) (oi := { dst := some 32, op := _, type := _, pos := _, after := _, guard := some (9, true) }) rfl (by kernel_rfl) (by kernel_rfl) (by kernel_rfl) (fun _ _ _ h => h) (Or.inl ⟨by kernel_rfl, ?_⟩) (by assumption) ?_
  case refine_2 => (intro w9 hSw; clear hSw; go_simp; try with_reducible rfl)
  simp only [Act.put, List.setIfInBounds_toArray, List.set_cons_zero, List.set_cons_succ]
  refine wpAnyH_take (i := 12) (v := ?_) (oi := { dst := some 33, op := _, type := _, pos := _, after := _, guard := some (9, true) }) rfl (by kernel_rfl) (by kernel_rfl) (by kernel_rfl) (fun _ _ _ h => h) (Or.inl ⟨by kernel_rfl, ?_⟩) (by assumption) ?_
  case refine_2 => (intro w9 hSw; clear hSw; go_simp; try with_reducible rfl)
  simp only [Act.put, List.setIfInBounds_toArray, List.set_cons_zero, List.set_cons_succ]
  refine wpAnyH_take (i := 13) (v := ?_) (oi := { dst := some 34, op := _, type := _, pos := _, after := _, guard := none }) rfl (by kernel_rfl) (by kernel_rfl) (by kernel_rfl) (fun _ _ _ h => h) (Or.inl ⟨by kernel_rfl, ?_⟩) (by assumption) ?_
  case refine_2 => (intro w9 hSw; clear hSw; go_simp; try with_reducible rfl)
  simp only [Act.put, List.setIfInBounds_toArray, List.set_cons_zero, List.set_cons_succ]
  refine wpAnyH_take (i := 14) (v := ?_) (oi := { dst := some 35, op := _, type := _, pos := _, after := _, guard := none }) rfl (by kernel_rfl) (by kernel_rfl) (by kernel_rfl) (fun _ _ _ h => h) (Or.inl ⟨by kernel_rfl, ?_⟩) (by assumption) ?_
  case refine_2 => (intro w9 hSw; clear hSw; go_simp; try with_reducible rfl)
  simp only [Act.put, List.setIfInBounds_toArray, List.set_cons_zero, List.set_cons_succ]
  refine wpAnyH_ready (rs := [15]) (by kernel_rfl) (by simp) (AllReadyH.cons (o := { dst := some 36, op := _, type := _, pos := _, after := _, guard := some (14, true) }) rfl (fun K hK => ?_) AllReadyH.nil)
  go_simp
  refine (known22_any _ (HG.out.below (HB.out.trans (hHeld.1.mono HB.out.size)))).mono ?_
  rintro e v3 ⟨rfl, hb3⟩
  refine hK.out _ _ (hHeld.below hb3) (fun hHeld => ?_)
  clear hK K hb3
  refine wpAnyH_take (i := 16) (v := ?_) (oi := { dst := some 37, op := _, type := _, pos := _, after := _, guard := none }) rfl (by kernel_rfl) (by kernel_rfl) (by kernel_rfl) (fun _ _ _ h => h) (Or.inl ⟨by kernel_rfl, ?_⟩) (by assumption) ?_
  case refine_2 => (intro w9 hSw; clear hSw; go_simp; try with_reducible rfl)
  simp only [Act.put, List.setIfInBounds_toArray, List.set_cons_zero, List.set_cons_succ]
  refine wpAnyH_take (i := 17) (v := ?_) (oi := { dst := some 2, op := _, type := _, pos := _, after := _, guard := none }) rfl (by kernel_rfl) (by kernel_rfl) (by kernel_rfl) (fun _ _ _ h => h) (Or.inl ⟨by kernel_rfl, ?_⟩) (by assumption) ?_
  case refine_2 => (intro w9 hSw; clear hSw; go_simp; try with_reducible rfl)
  simp only [Act.put, List.setIfInBounds_toArray, List.set_cons_zero, List.set_cons_succ]
  refine wpAnyH_done (by kernel_rfl) ?_ _
  have HF : Hid (Below w.heap.size w _) := HB.out.trans (hHeld.1.mono HB.out.size)
  clear hHeld HB HG
  go_wp2
  go_ret
  exact ⟨rfl, HF.out⟩

theorem parses_any (s : ByteArray) (hs : s.size ≤ 140737488351232) (w : World) (hGl : Gl w) :
    Calls Tryd.prog 3 #[.string s] w fun e w' => e = .returned (.bool true) ∧ Below w.heap.size w w' := by
  obtain ⟨n, A, E, hcn, h1, h2⟩ := parse_both s hs
  exact ep_run s n A E hcn h1 h2 w hGl

end Go.Proofs.YtaoocecipacnhaaDoor
