/- ExprBrackets: brackets about an expression change nothing but places. -/
import Derived.Test.YtmlgfjkndnjocaaDoorExKnq
import Derived.Test.YtmlgfjkndnjocaaDoorExTkq
namespace Go.Proofs.YtmlgfjkndnjocaaDoor
open Go.RowKit
set_option linter.unusedVariables false

set_option maxRecDepth 100000 in
set_option maxHeartbeats 4000000 in
theorem eb_bad (s : ByteArray) (A E : Int) (h3 : E ≠ 0) (w : World) (hGl : Gl w) (hC : Calls Tryd.prog 8 #[.string s] w fun e w' => Below w.heap.size w w' ∧ e = .returned (.tuple #[.agg #[.int .i64 0, .string ⟨#[]⟩, .slice none 0 0, .int .i64 0], .int .i64 A, .int .i64 E])) :
    Calls Tryd.prog 5 #[.string s] w fun e w' => e = .returned (.bool true) ∧ Below w.heap.size w w' := by
  have HG : Hid (Gl w) := hGl
  have HC : Hid (Calls Tryd.prog 8 #[.string s] w fun e w' => Below w.heap.size w w' ∧ e = .returned (.tuple #[.agg #[.int .i64 0, .string ⟨#[]⟩, .slice none 0 0, .int .i64 0], .int .i64 A, .int .i64 E])) := hC
  have g3 : (E == 0) = false := by simpa using h3
  clear hGl hC
  go_enter Tryd.func5, Tryd.ntmps5
  go_wp2_with fail
  refine HC.out.mono ?_
  rintro e V ⟨hb, rfl⟩
  have HB : Hid (Below w.heap.size w (V.alloc (.cells [.int .i64 0, .string ⟨#[]⟩, .slice none 0 0, .int .i64 0].toArray 24))) := hb.alloc hb.size _
  clear hb HC
  go_wp2_with fail
  refine (known22_any _ (HG.out.below HB.out)).mono ?_
  rintro e U9 ⟨rfl, hk⟩
  have HF : Hid (Below w.heap.size w U9) := HB.out.trans (hk.mono HB.out.size)
  clear hk HB
  go_wp2
  go_ret
  exact ⟨rfl, HF.out⟩

set_option maxRecDepth 100000 in
set_option maxHeartbeats 4000000 in
theorem eb_long (s : ByteArray) (hs : s.size ≤ 2048) (hl : 2047 ≤ s.size) (n : Nd) (hp : parseB s = .inr n) (w : World) (hGl : Gl w) :
    Calls Tryd.prog 5 #[.string s] w fun e w' => e = .returned (.bool true) ∧ Below w.heap.size w w' := by
  have HG : Hid (Gl w) := hGl
  have HP : Hid (parseB s = .inr n) := hp
  have hsI : (s.size : Int) ≤ 2048 := by omega
  have hlI : (2047 : Int) ≤ (s.size : Int) := by omega
  clear hGl hp
  go_enter Tryd.func5, Tryd.ntmps5
  go_wp2_with fail
  refine (parse_node HP.out w HG.out hs).mono ?_
  rintro e V ⟨hb, k, t, sq, sn, sc, a, rfl, -⟩
  have HB : Hid (Below w.heap.size w (V.alloc (.cells [.int .i64 k, .string t, .slice sq sn sc, .int .i64 a].toArray 24))) := hb.alloc hb.size _
  clear hb
  go_wp2_with fail
  refine (known22_any _ (HG.out.below HB.out)).mono ?_
  rintro e U9 ⟨rfl, hk⟩
  have HF : Hid (Below w.heap.size w U9) := HB.out.trans (hk.mono HB.out.size)
  clear hk HB
  go_wp2
  go_ret
  exact ⟨rfl, HF.out⟩

set_option maxRecDepth 100000 in
set_option maxHeartbeats 4000000 in
theorem eb_deep (s : ByteArray) (hs : s.size ≤ 2046) (n : Nd) (hp : parseB s = .inr n) (b : Int) (hq : parseB ((⟨#[40]⟩ : ByteArray) ++ s ++ (⟨#[41]⟩ : ByteArray)) = .inl (b, 31)) (w : World) (hGl : Gl w) :
    Calls Tryd.prog 5 #[.string s] w fun e w' => e = .returned (.bool true) ∧ Below w.heap.size w w' := by
  have HC : Hid (∀ w, Gl w → Calls Tryd.prog 8 #[.string ((⟨#[40]⟩ : ByteArray) ++ s ++ (⟨#[41]⟩ : ByteArray))] w fun e w' => Below w.heap.size w w' ∧ e = .returned (.tuple #[.agg #[.int .i64 0, .string ⟨#[]⟩, .slice none 0 0, .int .i64 0], .int .i64 b, .int .i64 31])) := fun w hg => by
    have := parse_gl ((⟨#[40]⟩ : ByteArray) ++ s ++ (⟨#[41]⟩ : ByteArray)) w hg (by rw [ByteArray.size_append, ByteArray.size_append]; show 1 + _ + 1 ≤ _; omega)
    rw [hq] at this
    exact this
  clear hq
  have HG : Hid (Gl w) := hGl
  have HP : Hid (parseB s = .inr n) := hp
  have hsI : (s.size : Int) ≤ 2046 := by omega
  have z1 : (⟨#[40]⟩ : ByteArray).size + s.size ≤ 9223372036854775807 := by show 1 + _ ≤ _; omega
  have z2 : ((⟨#[40]⟩ : ByteArray) ++ s).size + (⟨#[41]⟩ : ByteArray).size ≤ 9223372036854775807 := by rw [ByteArray.size_append]; show 1 + _ + 1 ≤ _; omega
  have hz : ((⟨#[40]⟩ : ByteArray) ++ s ++ (⟨#[41]⟩ : ByteArray)).size ≤ 2048 := by rw [ByteArray.size_append, ByteArray.size_append]; show 1 + _ + 1 ≤ _; omega
  clear hGl hp
  go_enter Tryd.func5, Tryd.ntmps5
  go_wp2_with fail
  refine (parse_node HP.out w HG.out (by omega)).mono ?_
  rintro e V ⟨hb, k, t, sq, sn, sc, a, rfl, hnd⟩
  have HB : Hid (Below w.heap.size w V) := hb
  have HN1 : Hid (NdAt (fun c => w.heap.size < c) V n [.int .i64 k, .string t, .slice sq sn sc, .int .i64 a]) := hnd
  have BV : Hid (BS V [(V.heap.size, [.int .i64 k, .string t, .slice sq sn sc, .int .i64 a])] (V.alloc (.cells [.int .i64 k, .string t, .slice sq sn sc, .int .i64 a].toArray 24))) := (BS.start V).new [.int .i64 k, .string t, .slice sq sn sc, .int .i64 a] 24 rfl
  clear hb hnd
  go_wp2_with fail
  refine (HC.out _ (HG.out.below (HB.out.trans (BV.out.1.mono HB.out.size)))).mono ?_
  rintro e U ⟨hb, rfl⟩
  have HU : Hid (Below w.heap.size w U) := (HB.out.trans (BV.out.1.mono HB.out.size)).trans (hb.mono (Nat.le_trans HB.out.size BV.out.1.size))
  have HA : Hid (Below w.heap.size w (U.alloc (.cells [.int .i64 0, .string ⟨#[]⟩, .slice none 0 0, .int .i64 0].toArray 24))) := HU.out.alloc HU.out.size _
  clear hb BV HC HN1 HB HU
  go_wp2_with fail
  refine (known22_any _ (HG.out.below HA.out)).mono ?_
  rintro e U9 ⟨rfl, hk⟩
  have HF : Hid (Below w.heap.size w U9) := HA.out.trans (hk.mono HA.out.size)
  clear hk HA
  go_wp2
  go_ret
  exact ⟨rfl, HF.out⟩

set_option maxRecDepth 100000 in
set_option maxHeartbeats 4000000 in
theorem eb_good (s : ByteArray) (hs : s.size ≤ 2046) (n m : Nd) (hp : parseB s = .inr n) (hq : parseB ((⟨#[40]⟩ : ByteArray) ++ s ++ (⟨#[41]⟩ : ByteArray)) = .inr m) (hal : AlP false n m) (hcn1 : cnN n ≤ 100000) (hcn2 : cnN m ≤ 100000) (w : World) (hGl : Gl w) :
    Calls Tryd.prog 5 #[.string s] w fun e w' => e = .returned (.bool true) ∧ Below w.heap.size w w' := by
  have HQ : Hid (parseB ((⟨#[40]⟩ : ByteArray) ++ s ++ (⟨#[41]⟩ : ByteArray)) = .inr m) := hq
  clear hq
  have HG : Hid (Gl w) := hGl
  have HP : Hid (parseB s = .inr n) := hp
  have hsI : (s.size : Int) ≤ 2046 := by omega
  have z1 : (⟨#[40]⟩ : ByteArray).size + s.size ≤ 9223372036854775807 := by show 1 + _ ≤ _; omega
  have z2 : ((⟨#[40]⟩ : ByteArray) ++ s).size + (⟨#[41]⟩ : ByteArray).size ≤ 9223372036854775807 := by rw [ByteArray.size_append]; show 1 + _ + 1 ≤ _; omega
  have hz : ((⟨#[40]⟩ : ByteArray) ++ s ++ (⟨#[41]⟩ : ByteArray)).size ≤ 2048 := by rw [ByteArray.size_append, ByteArray.size_append]; show 1 + _ + 1 ≤ _; omega
  clear hGl hp
  go_enter Tryd.func5, Tryd.ntmps5
  go_wp2_with fail
  refine (parse_node HP.out w HG.out (by omega)).mono ?_
  rintro e V ⟨hb, k, t, sq, sn, sc, a, rfl, hnd⟩
  have HB : Hid (Below w.heap.size w V) := hb
  have HN1 : Hid (NdAt (fun c => w.heap.size < c) V n [.int .i64 k, .string t, .slice sq sn sc, .int .i64 a]) := hnd
  have BV : Hid (BS V [(V.heap.size, [.int .i64 k, .string t, .slice sq sn sc, .int .i64 a])] (V.alloc (.cells [.int .i64 k, .string t, .slice sq sn sc, .int .i64 a].toArray 24))) := (BS.start V).new [.int .i64 k, .string t, .slice sq sn sc, .int .i64 a] 24 rfl
  clear hb hnd
  go_wp2_with fail
  refine (parse_node HQ.out _ (HG.out.below (HB.out.trans (BV.out.1.mono HB.out.size))) hz).mono ?_
  rintro e U ⟨hb, k2, t2, sq2, sn2, sc2, a2, rfl, hnd⟩
  have BU : Hid (BS V [(V.heap.size, [.int .i64 k, .string t, .slice sq sn sc, .int .i64 a])] U) := BV.out.below hb
  have BW : Hid (BS V [(U.heap.size, [.int .i64 k2, .string t2, .slice sq2 sn2 sc2, .int .i64 a2]), (V.heap.size, [.int .i64 k, .string t, .slice sq sn sc, .int .i64 a])] (U.alloc (.cells [.int .i64 k2, .string t2, .slice sq2 sn2 sc2, .int .i64 a2].toArray 24))) := BU.out.new [.int .i64 k2, .string t2, .slice sq2 sn2 sc2, .int .i64 a2] 24 rfl
  have HN2 : Hid (NdAt (fun c => V.heap.size + 1 < c) (U.alloc (.cells [.int .i64 k2, .string t2, .slice sq2 sn2 sc2, .int .i64 a2].toArray 24)).drew m [.int .i64 k2, .string t2, .slice sq2 sn2 sc2, .int .i64 a2]) := by
    have q : NdAt (fun c => V.heap.size + 1 < c) (U.alloc (.cells [.int .i64 k2, .string t2, .slice sq2 sn2 sc2, .int .i64 a2].toArray 24)) m [.int .i64 k2, .string t2, .slice sq2 sn2 sc2, .int .i64 a2] := NdAt.keep (by simp) (fun c hc hl => ⟨by simpa using hc, Below.heap_alloc _ _ _ hl⟩) _ _ hnd
    exact q.below (bdrew _)
  clear hb hnd BV BU
  go_upto_region 7 with fail
  refine wp_region_held_drew (S := BS V [(U.heap.size, [.int .i64 k2, .string t2, .slice sq2 sn2 sc2, .int .i64 a2]), (V.heap.size, [.int .i64 k, .string t, .slice sq sn sc, .int .i64 a])]) (by kernel_rfl) BW.out.drew (fun hHeld => ?_)
  refine wpAnyH_take (i := 0) (v := ?_) (oi := { dst := some 34, op := _, type := _, pos := _, after := _, guard := none }) rfl (by kernel_rfl) (by kernel_rfl) (by kernel_rfl) (fun _ _ _ h => h) (Or.inl ⟨by kernel_rfl, ?_⟩) (by assumption) ?_
  case refine_2 => (intro w9 hSw; clear hSw; go_simp; try with_reducible rfl)
  simp only [Act.put, List.setIfInBounds_toArray, List.set_cons_zero, List.set_cons_succ]
  refine wpAnyH_take (i := 1) (v := ?_) (oi := { dst := some 35, op := _, type := _, pos := _, after := _, guard := none }) rfl (by kernel_rfl) (by kernel_rfl) (by kernel_rfl) (fun _ _ _ h => h) (Or.inl ⟨by kernel_rfl, ?_⟩) (by assumption) ?_
  case refine_2 => (intro w9 hSw; clear hSw; go_simp; try with_reducible rfl)
  simp only [Act.put, List.setIfInBounds_toArray, List.set_cons_zero, List.set_cons_succ]
  refine wpAnyH_take (i := 2) (v := ?_) (oi := { dst := some 36, op := _, type := _, pos := _, after := _, guard := none }) rfl (by kernel_rfl) (by kernel_rfl) (by kernel_rfl) (fun _ _ _ h => h) (Or.inl ⟨by kernel_rfl, ?_⟩) (by assumption) ?_
  case refine_2 => (intro w9 hSw; clear hSw; go_simp; try with_reducible rfl)
  simp only [Act.put, List.setIfInBounds_toArray, List.set_cons_zero, List.set_cons_succ]
  refine wpAnyH_take (i := 3) (v := ?_) (oi := { dst := some 37, op := _, type := _, pos := _, after := _, guard := some (2, true) }) rfl (by kernel_rfl) (by kernel_rfl) (by kernel_rfl) (fun _ _ _ h => h) (Or.inl ⟨by kernel_rfl, ?_⟩) (by assumption) ?_
  case refine_2 => (intro w9 hSw; have c0 := (hSw.at (V.heap.size) [.int .i64 k, .string t, .slice sq sn sc, .int .i64 a] (by simp)).c 0 rfl; have c1 := (hSw.at (V.heap.size) [.int .i64 k, .string t, .slice sq sn sc, .int .i64 a] (by simp)).c 1 rfl; have c2 := (hSw.at (V.heap.size) [.int .i64 k, .string t, .slice sq sn sc, .int .i64 a] (by simp)).c 2 rfl; have c3 := (hSw.at (V.heap.size) [.int .i64 k, .string t, .slice sq sn sc, .int .i64 a] (by simp)).c 3 rfl; have e0 := (hSw.at (U.heap.size) [.int .i64 k2, .string t2, .slice sq2 sn2 sc2, .int .i64 a2] (by simp)).c 0 rfl; have e1 := (hSw.at (U.heap.size) [.int .i64 k2, .string t2, .slice sq2 sn2 sc2, .int .i64 a2] (by simp)).c 1 rfl; have e2 := (hSw.at (U.heap.size) [.int .i64 k2, .string t2, .slice sq2 sn2 sc2, .int .i64 a2] (by simp)).c 2 rfl; have e3 := (hSw.at (U.heap.size) [.int .i64 k2, .string t2, .slice sq2 sn2 sc2, .int .i64 a2] (by simp)).c 3 rfl; have g1 := (hSw.at (V.heap.size) [.int .i64 k, .string t, .slice sq sn sc, .int .i64 a] (by simp)).1; have g2 := (hSw.at (U.heap.size) [.int .i64 k2, .string t2, .slice sq2 sn2 sc2, .int .i64 a2] (by simp)).1; clear hSw; go_simp; try with_reducible rfl)
  simp only [Act.put, List.setIfInBounds_toArray, List.set_cons_zero, List.set_cons_succ]
  refine wpAnyH_take (i := 5) (v := ?_) (oi := { dst := some 39, op := _, type := _, pos := _, after := _, guard := some (2, true) }) rfl (by kernel_rfl) (by kernel_rfl) (by kernel_rfl) (fun _ _ _ h => h) (Or.inl ⟨by kernel_rfl, ?_⟩) (by assumption) ?_
  case refine_2 => (intro w9 hSw; have c0 := (hSw.at (V.heap.size) [.int .i64 k, .string t, .slice sq sn sc, .int .i64 a] (by simp)).c 0 rfl; have c1 := (hSw.at (V.heap.size) [.int .i64 k, .string t, .slice sq sn sc, .int .i64 a] (by simp)).c 1 rfl; have c2 := (hSw.at (V.heap.size) [.int .i64 k, .string t, .slice sq sn sc, .int .i64 a] (by simp)).c 2 rfl; have c3 := (hSw.at (V.heap.size) [.int .i64 k, .string t, .slice sq sn sc, .int .i64 a] (by simp)).c 3 rfl; have e0 := (hSw.at (U.heap.size) [.int .i64 k2, .string t2, .slice sq2 sn2 sc2, .int .i64 a2] (by simp)).c 0 rfl; have e1 := (hSw.at (U.heap.size) [.int .i64 k2, .string t2, .slice sq2 sn2 sc2, .int .i64 a2] (by simp)).c 1 rfl; have e2 := (hSw.at (U.heap.size) [.int .i64 k2, .string t2, .slice sq2 sn2 sc2, .int .i64 a2] (by simp)).c 2 rfl; have e3 := (hSw.at (U.heap.size) [.int .i64 k2, .string t2, .slice sq2 sn2 sc2, .int .i64 a2] (by simp)).c 3 rfl; have g1 := (hSw.at (V.heap.size) [.int .i64 k, .string t, .slice sq sn sc, .int .i64 a] (by simp)).1; have g2 := (hSw.at (U.heap.size) [.int .i64 k2, .string t2, .slice sq2 sn2 sc2, .int .i64 a2] (by simp)).1; clear hSw; go_simp; try with_reducible rfl)
  simp only [Act.put, List.setIfInBounds_toArray, List.set_cons_zero, List.set_cons_succ]
  refine wpAnyH_ready (rs := [4]) (by kernel_rfl) (by simp) (AllReadyH.cons (o := { dst := some 38, op := _, type := _, pos := _, after := _, guard := some (2, true) }) rfl (fun K hK => ?_) AllReadyH.nil)
  go_simp
  refine (taken_any n hcn1 (fun c => w.heap.size < c) _ _ _ _ _ (HN1.out.below hHeld.1)).mono ?_
  rintro e v1 ⟨hb1, k3, t3, sq3, sn3, sc3, a3, rfl, hnd1⟩
  have HT1 : Hid (NdAt (fun _ => True) v1 n [.int .i64 k3, .string t3, .slice sq3 sn3 sc3, .int .i64 a3]) := NdAt.keep (Nat.le_refl _) (fun _ _ _ => ⟨trivial, rfl⟩) _ _ hnd1
  have HN3 : Hid (NdAt (fun c => V.heap.size + 1 < c) v1 m [.int .i64 k2, .string t2, .slice sq2 sn2 sc2, .int .i64 a2]) := HN2.out.below hb1
  refine hK.out _ _ (hHeld.below hb1) (fun hHeld => ?_)
  clear hK K hb1 hnd1 HN2
  refine wpAnyH_ready (rs := [6]) (by kernel_rfl) (by simp) (AllReadyH.cons (o := { dst := some 40, op := _, type := _, pos := _, after := _, guard := some (2, true) }) rfl (fun K hK => ?_) AllReadyH.nil)
  go_simp
  refine (taken_any m hcn2 (fun c => V.heap.size + 1 < c) _ _ _ _ _ HN3.out).mono ?_
  rintro e v2 ⟨hb2, k4, t4, sq4, sn4, sc4, a4, rfl, hnd2⟩
  have HT2 : Hid (NdAt (fun _ => True) v2 m [.int .i64 k4, .string t4, .slice sq4 sn4 sc4, .int .i64 a4]) := NdAt.keep (Nat.le_refl _) (fun _ _ _ => ⟨trivial, rfl⟩) _ _ hnd2
  have HT3 : Hid (NdAt (fun _ => True) v2 n [.int .i64 k3, .string t3, .slice sq3 sn3 sc3, .int .i64 a3]) := HT1.out.below hb2
  refine hK.out _ _ (hHeld.below hb2) (fun hHeld => ?_)
  clear hK K hb2 hnd2 HN3 HT1
  refine wpAnyH_ready (rs := [7]) (by kernel_rfl) (by simp) (AllReadyH.cons (o := { dst := some 41, op := _, type := _, pos := _, after := _, guard := some (2, true) }) rfl (fun K hK => ?_) AllReadyH.nil)
  go_simp
  refine (same_any false n m hal (fun _ => True) (fun _ => True) _ _ _ _ _ _ _ _ _ HT3.out HT2.out).mono ?_
  rintro e v3 ⟨rfl, hb3⟩
  refine hK.out _ _ (hHeld.below hb3) (fun hHeld => ?_)
  clear hK K hb3 HT2 HT3
  refine wpAnyH_take (i := 8) (v := ?_) (oi := { dst := some 42, op := _, type := _, pos := _, after := _, guard := none }) rfl (by kernel_rfl) (by kernel_rfl) (by kernel_rfl) (fun _ _ _ h => h) (Or.inl ⟨by kernel_rfl, ?_⟩) (by assumption) ?_
  case refine_2 => (intro w9 hSw; clear hSw; go_simp; try with_reducible rfl)
  simp only [Act.put, List.setIfInBounds_toArray, List.set_cons_zero, List.set_cons_succ]
  refine wpAnyH_take (i := 9) (v := ?_) (oi := { dst := some 43, op := _, type := _, pos := _, after := _, guard := none }) rfl (by kernel_rfl) (by kernel_rfl) (by kernel_rfl) (fun _ _ _ h => h) (Or.inl ⟨by kernel_rfl, ?_⟩) (by assumption) ?_
  case refine_2 => (intro w9 hSw; clear hSw; go_simp; try with_reducible rfl)
  simp only [Act.put, List.setIfInBounds_toArray, List.set_cons_zero, List.set_cons_succ]
  refine wpAnyH_ready (rs := [10]) (by kernel_rfl) (by simp) (AllReadyH.cons (o := { dst := some 44, op := _, type := _, pos := _, after := _, guard := some (9, true) }) rfl (fun K hK => ?_) AllReadyH.nil)
  go_simp
  refine (known22_any _ (HG.out.below (HB.out.trans (hHeld.1.mono HB.out.size)))).mono ?_
  rintro e v4 ⟨rfl, hb4⟩
  refine hK.out _ _ (hHeld.below hb4) (fun hHeld => ?_)
  clear hK K hb4
  refine wpAnyH_take (i := 11) (v := ?_) (oi := { dst := some 45, op := _, type := _, pos := _, after := _, guard := none }) rfl (by kernel_rfl) (by kernel_rfl) (by kernel_rfl) (fun _ _ _ h => h) (Or.inl ⟨by kernel_rfl, ?_⟩) (by assumption) ?_
  case refine_2 => (intro w9 hSw; clear hSw; go_simp; try with_reducible rfl)
  simp only [Act.put, List.setIfInBounds_toArray, List.set_cons_zero, List.set_cons_succ]
  refine wpAnyH_take (i := 12) (v := ?_) (oi := { dst := some 2, op := _, type := _, pos := _, after := _, guard := none }) rfl (by kernel_rfl) (by kernel_rfl) (by kernel_rfl) (fun _ _ _ h => h) (Or.inl ⟨by kernel_rfl, ?_⟩) (by assumption) ?_
  case refine_2 => (intro w9 hSw; clear hSw; go_simp; try with_reducible rfl)
  simp only [Act.put, List.setIfInBounds_toArray, List.set_cons_zero, List.set_cons_succ]
  refine wpAnyH_done (by kernel_rfl) ?_ _
  have HF : Hid (Below w.heap.size w _) := HB.out.trans (hHeld.1.mono HB.out.size)
  clear hHeld HB HG
  go_wp2
  go_ret
  exact ⟨rfl, HF.out⟩

theorem brackets_any (s : ByteArray) (hs : s.size ≤ 140737488351232) (w : World) (hGl : Gl w) :
    Calls Tryd.prog 5 #[.string s] w fun e w' => e = .returned (.bool true) ∧ Below w.heap.size w w' := by
  by_cases h : s.size ≤ 2048
  · cases hp : parseB s with
    | inl x =>
      have q := parse_pl s h
      rw [hp] at q
      refine eb_bad s x.1 x.2 q.2.2 w hGl ?_
      have := parse_gl s w hGl h
      rw [hp] at this
      exact this
    | inr n =>
      by_cases hl : 2047 ≤ s.size
      · exact eb_long s h hl n hp w hGl
      · have hz : ((⟨#[40]⟩ : ByteArray) ++ s ++ (⟨#[41]⟩ : ByteArray)).size ≤ 2048 := by rw [ByteArray.size_append, ByteArray.size_append]; show 1 + _ + 1 ≤ _; omega
        rcases parse_br h hp with ⟨m, ha, hq⟩ | ⟨b, hq⟩
        · exact eb_good s (by omega) n m hp hq (AlN.p n m ha) (Nat.le_trans (parse_sz h hp).2 (by decide)) (Nat.le_trans (parse_sz hz hq).2 (by decide)) w hGl
        · exact eb_deep s (by omega) n hp b hq w hGl
  · exact eb_bad s 0 3 (by omega) w hGl (parse_long s w (by unfold maxLen; omega) h)

end Go.Proofs.YtmlgfjkndnjocaaDoor
