/- ExprSum: two expressions in brackets, with a plus between, are an Op of both. -/
import Derived.Test.YtmlgfjkndnjocaaDoorExKnq
import Derived.Test.YtmlgfjkndnjocaaDoorExTkq
import Derived.Test.YtmlgfjkndnjocaaDoorExGsq
namespace Go.Proofs.YtmlgfjkndnjocaaDoor
open Go.RowKit
set_option linter.unusedVariables false

theorem parse_some (s : ByteArray) (hs : s.size ≤ 140737488351232) : ∀ w, Gl w → Calls Tryd.prog 8 #[.string s] w fun e w' => Below w.heap.size w w' ∧ ∃ k t sq sn sc a p E, e = .returned (.tuple #[.agg #[.int .i64 k, .string t, .slice sq sn sc, .int .i64 a], .int .i64 p, .int .i64 E]) ∧ ((E == 0) = true ∨ (E == 0) = false) := by
  intro w hg
  by_cases h : s.size ≤ 2048
  · refine (parse_gl s w hg h).mono ?_
    rintro e w' ⟨hb, hp⟩
    refine ⟨hb, ?_⟩
    cases hq : parseB s with
    | inl x => rw [hq] at hp; exact ⟨_, _, _, _, _, _, _, _, hp, by cases (x.2 == 0) <;> simp⟩
    | inr n =>
      rw [hq] at hp
      obtain ⟨k, t, sq, sn, sc, a, e, _⟩ := hp
      exact ⟨_, _, _, _, _, _, _, _, e, by simp⟩
  · refine (parse_long s w (by unfold maxLen; omega) h).mono ?_
    rintro e w' ⟨hb, he⟩
    exact ⟨hb, _, _, _, _, _, _, _, _, he, by simp⟩
theorem parse_bad {s : ByteArray} (hs : s.size ≤ 140737488351232) (h : ¬ (s.size ≤ 2048 ∧ ∃ n, parseB s = .inr n)) : ∀ w, Gl w → Calls Tryd.prog 8 #[.string s] w fun e w' => Below w.heap.size w w' ∧ ∃ k t sq sn sc a p E, e = .returned (.tuple #[.agg #[.int .i64 k, .string t, .slice sq sn sc, .int .i64 a], .int .i64 p, .int .i64 E]) ∧ (E == 0) = false := by
  intro w hg
  by_cases h8 : s.size ≤ 2048
  · cases hq : parseB s with
    | inl x =>
      have q := parse_pl s h8
      rw [hq] at q
      refine (parse_gl s w hg h8).mono ?_
      rintro e w' ⟨hb, hp⟩
      rw [hq] at hp
      exact ⟨hb, _, _, _, _, _, _, _, _, hp, by simpa using q.2.2⟩
    | inr n => exact absurd ⟨h8, n, hq⟩ h
  · refine (parse_long s w (by unfold maxLen; omega) h8).mono ?_
    rintro e w' ⟨hb, he⟩
    exact ⟨hb, _, _, _, _, _, _, _, _, he, by simp⟩

set_option maxRecDepth 100000 in
set_option maxHeartbeats 4000000 in
theorem es_a (A B : ByteArray) (hA : ∀ w, Gl w → Calls Tryd.prog 8 #[.string A] w fun e w' => Below w.heap.size w w' ∧ ∃ k t sq sn sc a p E, e = .returned (.tuple #[.agg #[.int .i64 k, .string t, .slice sq sn sc, .int .i64 a], .int .i64 p, .int .i64 E]) ∧ (E == 0) = false) (hB : ∀ w, Gl w → Calls Tryd.prog 8 #[.string B] w fun e w' => Below w.heap.size w w' ∧ ∃ k t sq sn sc a p E, e = .returned (.tuple #[.agg #[.int .i64 k, .string t, .slice sq sn sc, .int .i64 a], .int .i64 p, .int .i64 E]) ∧ ((E == 0) = true ∨ (E == 0) = false)) (w : World) (hGl : Gl w) :
    Calls Tryd.prog 7 #[.string A, .string B] w fun e w' => e = .returned (.bool true) ∧ Below w.heap.size w w' := by
  have HG : Hid (Gl w) := hGl
  have HA : Hid (∀ w, Gl w → Calls Tryd.prog 8 #[.string A] w fun e w' => Below w.heap.size w w' ∧ ∃ k t sq sn sc a p E, e = .returned (.tuple #[.agg #[.int .i64 k, .string t, .slice sq sn sc, .int .i64 a], .int .i64 p, .int .i64 E]) ∧ (E == 0) = false) := hA
  have HB : Hid (∀ w, Gl w → Calls Tryd.prog 8 #[.string B] w fun e w' => Below w.heap.size w w' ∧ ∃ k t sq sn sc a p E, e = .returned (.tuple #[.agg #[.int .i64 k, .string t, .slice sq sn sc, .int .i64 a], .int .i64 p, .int .i64 E]) ∧ ((E == 0) = true ∨ (E == 0) = false)) := hB
  clear hGl hA hB
  go_enter Tryd.func7, Tryd.ntmps7
  go_wp2_with fail
  refine (HA.out w HG.out).mono ?_
  rintro e V ⟨hb, k1, t1, sq1, sn1, sc1, a1, p1, E1, rfl, hE1⟩
  have hE1' : E1 ≠ 0 := by simpa using hE1
  have H1 : Hid (Below w.heap.size w (V.alloc (.cells [.int .i64 k1, .string t1, .slice sq1 sn1 sc1, .int .i64 a1].toArray 24))) := hb.alloc hb.size _
  clear hb HA
  go_wp2_with fail
  refine (HB.out _ (HG.out.below H1.out)).mono ?_
  rintro e U ⟨hb, k2, t2, sq2, sn2, sc2, a2, p2, E2, rfl, -⟩
  have H2 : Hid (Below w.heap.size w (U.alloc (.cells [.int .i64 k2, .string t2, .slice sq2 sn2 sc2, .int .i64 a2].toArray 24))) := by
    have q := H1.out.trans (hb.mono H1.out.size)
    exact q.alloc q.size _
  clear hb H1 HB
  go_wp2_with fail
  refine (known22_any _ (HG.out.below H2.out)).mono ?_
  rintro e U9 ⟨rfl, hk⟩
  have HF : Hid (Below w.heap.size w U9) := H2.out.trans (hk.mono H2.out.size)
  clear hk H2
  go_wp2
  go_ret
  exact ⟨rfl, HF.out⟩

set_option maxRecDepth 100000 in
set_option maxHeartbeats 4000000 in
theorem es_b (A B : ByteArray) (hsA : A.size ≤ 2048) (x : Nd) (hx : parseB A = .inr x) (hB : ∀ w, Gl w → Calls Tryd.prog 8 #[.string B] w fun e w' => Below w.heap.size w w' ∧ ∃ k t sq sn sc a p E, e = .returned (.tuple #[.agg #[.int .i64 k, .string t, .slice sq sn sc, .int .i64 a], .int .i64 p, .int .i64 E]) ∧ (E == 0) = false) (w : World) (hGl : Gl w) :
    Calls Tryd.prog 7 #[.string A, .string B] w fun e w' => e = .returned (.bool true) ∧ Below w.heap.size w w' := by
  have HG : Hid (Gl w) := hGl
  have HX : Hid (parseB A = .inr x) := hx
  have HB : Hid (∀ w, Gl w → Calls Tryd.prog 8 #[.string B] w fun e w' => Below w.heap.size w w' ∧ ∃ k t sq sn sc a p E, e = .returned (.tuple #[.agg #[.int .i64 k, .string t, .slice sq sn sc, .int .i64 a], .int .i64 p, .int .i64 E]) ∧ (E == 0) = false) := hB
  clear hGl hx hB
  go_enter Tryd.func7, Tryd.ntmps7
  go_wp2_with fail
  refine (parse_node HX.out w HG.out hsA).mono ?_
  rintro e V ⟨hb, k1, t1, sq1, sn1, sc1, a1, rfl, -⟩
  have H1 : Hid (Below w.heap.size w (V.alloc (.cells [.int .i64 k1, .string t1, .slice sq1 sn1 sc1, .int .i64 a1].toArray 24))) := hb.alloc hb.size _
  clear hb
  go_wp2_with fail
  refine (HB.out _ (HG.out.below H1.out)).mono ?_
  rintro e U ⟨hb, k2, t2, sq2, sn2, sc2, a2, p2, E2, rfl, hE2⟩
  have hE2' : E2 ≠ 0 := by simpa using hE2
  have H2 : Hid (Below w.heap.size w (U.alloc (.cells [.int .i64 k2, .string t2, .slice sq2 sn2 sc2, .int .i64 a2].toArray 24))) := by
    have q := H1.out.trans (hb.mono H1.out.size)
    exact q.alloc q.size _
  clear hb H1 HB
  go_wp2_with fail
  refine (known22_any _ (HG.out.below H2.out)).mono ?_
  rintro e U9 ⟨rfl, hk⟩
  have HF : Hid (Below w.heap.size w U9) := H2.out.trans (hk.mono H2.out.size)
  clear hk H2
  go_wp2
  go_ret
  exact ⟨rfl, HF.out⟩

set_option maxRecDepth 100000 in
set_option maxHeartbeats 4000000 in
theorem es_long (A B : ByteArray) (hsA : A.size ≤ 2048) (hsB : B.size ≤ 2048) (x y : Nd) (hx : parseB A = .inr x) (hy : parseB B = .inr y) (hl : 2048 - (A.size : Int) - 10 ≤ (B.size : Int)) (w : World) (hGl : Gl w) :
    Calls Tryd.prog 7 #[.string A, .string B] w fun e w' => e = .returned (.bool true) ∧ Below w.heap.size w w' := by
  have HG : Hid (Gl w) := hGl
  have HX : Hid (parseB A = .inr x) := hx
  have HY : Hid (parseB B = .inr y) := hy
  have hAI : (A.size : Int) ≤ 2048 := by omega
  have hBI : (B.size : Int) ≤ 2048 := by omega
  have w1 : IntKind.i64.wrap (2048 - (A.size : Int)) = 2048 - (A.size : Int) := by rw [IntKind.wrap_i64]; omega
  have w2 : IntKind.i64.wrap (2048 - (A.size : Int) - 10) = 2048 - (A.size : Int) - 10 := by rw [IntKind.wrap_i64]; omega
  clear hGl hx hy
  go_enter Tryd.func7, Tryd.ntmps7
  go_wp2_with fail
  refine (parse_node HX.out w HG.out hsA).mono ?_
  rintro e V ⟨hb, k1, t1, sq1, sn1, sc1, a1, rfl, hnd⟩
  have H1 : Hid (Below w.heap.size w (V.alloc (.cells [.int .i64 k1, .string t1, .slice sq1 sn1 sc1, .int .i64 a1].toArray 24))) := hb.alloc hb.size _
  have N1 : Hid (NdAt (fun _ => True) (V.alloc (.cells [.int .i64 k1, .string t1, .slice sq1 sn1 sc1, .int .i64 a1].toArray 24)) x [.int .i64 k1, .string t1, .slice sq1 sn1 sc1, .int .i64 a1]) := NdAt.keep (by simp) (fun c hc hl => ⟨trivial, Below.heap_alloc _ _ _ hl⟩) _ _ hnd
  have B1 : Hid (Bx (V.alloc (.cells [.int .i64 k1, .string t1, .slice sq1 sn1 sc1, .int .i64 a1].toArray 24)) V.heap.size [.int .i64 k1, .string t1, .slice sq1 sn1 sc1, .int .i64 a1]) := Bx.new V [.int .i64 k1, .string t1, .slice sq1 sn1 sc1, .int .i64 a1] 24
  clear hb hnd
  go_wp2_with fail
  refine (parse_node HY.out _ (HG.out.below H1.out) hsB).mono ?_
  rintro e U ⟨hb, k2, t2, sq2, sn2, sc2, a2, rfl, hnd⟩
  have hBU : Below U.heap.size U (U.alloc (.cells [.int .i64 k2, .string t2, .slice sq2 sn2 sc2, .int .i64 a2].toArray 24)) := (Below.refl _ U).alloc (Nat.le_refl _) _
  have H2 : Hid (Below w.heap.size w (U.alloc (.cells [.int .i64 k2, .string t2, .slice sq2 sn2 sc2, .int .i64 a2].toArray 24))) := by
    have q := H1.out.trans (hb.mono H1.out.size)
    exact q.alloc q.size _
  have N2 : Hid (NdAt (fun _ => True) (U.alloc (.cells [.int .i64 k2, .string t2, .slice sq2 sn2 sc2, .int .i64 a2].toArray 24)) y [.int .i64 k2, .string t2, .slice sq2 sn2 sc2, .int .i64 a2]) := NdAt.keep (by simp) (fun c hc hl => ⟨trivial, Below.heap_alloc _ _ _ hl⟩) _ _ hnd
  have B2 : Hid (Bx (U.alloc (.cells [.int .i64 k2, .string t2, .slice sq2 sn2 sc2, .int .i64 a2].toArray 24)) U.heap.size [.int .i64 k2, .string t2, .slice sq2 sn2 sc2, .int .i64 a2]) := Bx.new U [.int .i64 k2, .string t2, .slice sq2 sn2 sc2, .int .i64 a2] 24
  have N3 : Hid (NdAt (fun _ => True) (U.alloc (.cells [.int .i64 k2, .string t2, .slice sq2 sn2 sc2, .int .i64 a2].toArray 24)) x [.int .i64 k1, .string t1, .slice sq1 sn1 sc1, .int .i64 a1]) := (N1.out.below hb).below hBU
  have B3 : Hid (Bx (U.alloc (.cells [.int .i64 k2, .string t2, .slice sq2 sn2 sc2, .int .i64 a2].toArray 24)) V.heap.size [.int .i64 k1, .string t1, .slice sq1 sn1 sc1, .int .i64 a1]) := (B1.out.below hb).below hBU
  clear hb hnd hBU N1 B1 H1
  go_wp2_with fail
  clear N2 B2 N3 B3
  refine (known22_any _ (HG.out.below H2.out)).mono ?_
  rintro e U9 ⟨rfl, hk⟩
  have HF : Hid (Below w.heap.size w U9) := H2.out.trans (hk.mono H2.out.size)
  clear hk H2
  go_wp2
  go_ret
  exact ⟨rfl, HF.out⟩

set_option maxRecDepth 100000 in
set_option maxHeartbeats 4000000 in
theorem es_deep (A B : ByteArray) (hsA : A.size ≤ 2048) (hsB : B.size ≤ 2048) (x y : Nd) (hx : parseB A = .inr x) (hy : parseB B = .inr y) (hl : (B.size : Int) < 2048 - (A.size : Int) - 10) (b : Int) (hq : parseB (sumB A B) = .inl (b, 31)) (w : World) (hGl : Gl w) :
    Calls Tryd.prog 7 #[.string A, .string B] w fun e w' => e = .returned (.bool true) ∧ Below w.heap.size w w' := by
  have HC : Hid (∀ w, Gl w → Calls Tryd.prog 8 #[.string ((⟨#[40]⟩ : ByteArray) ++ A ++ (⟨#[41, 32, 43, 32, 40]⟩ : ByteArray) ++ B ++ (⟨#[41]⟩ : ByteArray))] w fun e w' => Below w.heap.size w w' ∧ e = .returned (.tuple #[.agg #[.int .i64 0, .string ⟨#[]⟩, .slice none 0 0, .int .i64 0], .int .i64 b, .int .i64 31])) := fun w hg => by
    have := parse_gl (sumB A B) w hg (by rw [sumB_size]; omega)
    rw [hq] at this
    exact this
  have z1 : (⟨#[40]⟩ : ByteArray).size + A.size ≤ 9223372036854775807 := by show 1 + _ ≤ _; omega
  have z2 : ((⟨#[40]⟩ : ByteArray) ++ A).size + (⟨#[41, 32, 43, 32, 40]⟩ : ByteArray).size ≤ 9223372036854775807 := by rw [ByteArray.size_append]; show 1 + _ + 5 ≤ _; omega
  have z3 : ((⟨#[40]⟩ : ByteArray) ++ A ++ (⟨#[41, 32, 43, 32, 40]⟩ : ByteArray)).size + B.size ≤ 9223372036854775807 := by rw [ByteArray.size_append, ByteArray.size_append]; show 1 + _ + 5 + _ ≤ _; omega
  have z4 : ((⟨#[40]⟩ : ByteArray) ++ A ++ (⟨#[41, 32, 43, 32, 40]⟩ : ByteArray) ++ B).size + (⟨#[41]⟩ : ByteArray).size ≤ 9223372036854775807 := by rw [ByteArray.size_append, ByteArray.size_append, ByteArray.size_append]; show 1 + _ + 5 + _ + 1 ≤ _; omega
  clear hq
  have HG : Hid (Gl w) := hGl
  have HX : Hid (parseB A = .inr x) := hx
  have HY : Hid (parseB B = .inr y) := hy
  have hAI : (A.size : Int) ≤ 2048 := by omega
  have hBI : (B.size : Int) ≤ 2048 := by omega
  have w1 : IntKind.i64.wrap (2048 - (A.size : Int)) = 2048 - (A.size : Int) := by rw [IntKind.wrap_i64]; omega
  have w2 : IntKind.i64.wrap (2048 - (A.size : Int) - 10) = 2048 - (A.size : Int) - 10 := by rw [IntKind.wrap_i64]; omega
  clear hGl hx hy
  go_enter Tryd.func7, Tryd.ntmps7
  go_wp2_with fail
  refine (parse_node HX.out w HG.out hsA).mono ?_
  rintro e V ⟨hb, k1, t1, sq1, sn1, sc1, a1, rfl, hnd⟩
  have H1 : Hid (Below w.heap.size w (V.alloc (.cells [.int .i64 k1, .string t1, .slice sq1 sn1 sc1, .int .i64 a1].toArray 24))) := hb.alloc hb.size _
  have N1 : Hid (NdAt (fun _ => True) (V.alloc (.cells [.int .i64 k1, .string t1, .slice sq1 sn1 sc1, .int .i64 a1].toArray 24)) x [.int .i64 k1, .string t1, .slice sq1 sn1 sc1, .int .i64 a1]) := NdAt.keep (by simp) (fun c hc hl => ⟨trivial, Below.heap_alloc _ _ _ hl⟩) _ _ hnd
  have B1 : Hid (Bx (V.alloc (.cells [.int .i64 k1, .string t1, .slice sq1 sn1 sc1, .int .i64 a1].toArray 24)) V.heap.size [.int .i64 k1, .string t1, .slice sq1 sn1 sc1, .int .i64 a1]) := Bx.new V [.int .i64 k1, .string t1, .slice sq1 sn1 sc1, .int .i64 a1] 24
  clear hb hnd
  go_wp2_with fail
  refine (parse_node HY.out _ (HG.out.below H1.out) hsB).mono ?_
  rintro e U ⟨hb, k2, t2, sq2, sn2, sc2, a2, rfl, hnd⟩
  have hBU : Below U.heap.size U (U.alloc (.cells [.int .i64 k2, .string t2, .slice sq2 sn2 sc2, .int .i64 a2].toArray 24)) := (Below.refl _ U).alloc (Nat.le_refl _) _
  have H2 : Hid (Below w.heap.size w (U.alloc (.cells [.int .i64 k2, .string t2, .slice sq2 sn2 sc2, .int .i64 a2].toArray 24))) := by
    have q := H1.out.trans (hb.mono H1.out.size)
    exact q.alloc q.size _
  have N2 : Hid (NdAt (fun _ => True) (U.alloc (.cells [.int .i64 k2, .string t2, .slice sq2 sn2 sc2, .int .i64 a2].toArray 24)) y [.int .i64 k2, .string t2, .slice sq2 sn2 sc2, .int .i64 a2]) := NdAt.keep (by simp) (fun c hc hl => ⟨trivial, Below.heap_alloc _ _ _ hl⟩) _ _ hnd
  have B2 : Hid (Bx (U.alloc (.cells [.int .i64 k2, .string t2, .slice sq2 sn2 sc2, .int .i64 a2].toArray 24)) U.heap.size [.int .i64 k2, .string t2, .slice sq2 sn2 sc2, .int .i64 a2]) := Bx.new U [.int .i64 k2, .string t2, .slice sq2 sn2 sc2, .int .i64 a2] 24
  have N3 : Hid (NdAt (fun _ => True) (U.alloc (.cells [.int .i64 k2, .string t2, .slice sq2 sn2 sc2, .int .i64 a2].toArray 24)) x [.int .i64 k1, .string t1, .slice sq1 sn1 sc1, .int .i64 a1]) := (N1.out.below hb).below hBU
  have B3 : Hid (Bx (U.alloc (.cells [.int .i64 k2, .string t2, .slice sq2 sn2 sc2, .int .i64 a2].toArray 24)) V.heap.size [.int .i64 k1, .string t1, .slice sq1 sn1 sc1, .int .i64 a1]) := (B1.out.below hb).below hBU
  clear hb hnd hBU N1 B1 H1
  go_wp2_with fail
  clear N2 B2 N3 B3
  refine (HC.out _ (HG.out.below H2.out)).mono ?_
  rintro e U3 ⟨hb, rfl⟩
  have H3 : Hid (Below w.heap.size w (U3.alloc (.cells [.int .i64 0, .string ⟨#[]⟩, .slice none 0 0, .int .i64 0].toArray 24))) := by
    have q := H2.out.trans (hb.mono H2.out.size)
    exact q.alloc q.size _
  clear hb H2 HC
  go_wp2_with fail
  refine (known22_any _ (HG.out.below H3.out)).mono ?_
  rintro e U9 ⟨rfl, hk⟩
  have HF : Hid (Below w.heap.size w U9) := H3.out.trans (hk.mono H3.out.size)
  clear hk H3
  go_wp2
  go_ret
  exact ⟨rfl, HF.out⟩

set_option maxRecDepth 100000 in
set_option maxHeartbeats 4000000 in
theorem es_good (A B : ByteArray) (hsA : A.size ≤ 2048) (hsB : B.size ≤ 2048) (x y : Nd) (hx : parseB A = .inr x) (hy : parseB B = .inr y) (hl : (B.size : Int) < 2048 - (A.size : Int) - 10) (x2 y2 : Nd) (z : Int) (hq : parseB (sumB A B) = .inr (.mk 8 ⟨#[43]⟩ [x2, y2] z)) (hal1 : AlP false x2 x) (hal2 : AlP false y2 y) (hc1 : cnN x ≤ 100000) (hc2 : cnN y ≤ 100000) (hc3 : cnN x2 ≤ 100000) (hc4 : cnN y2 ≤ 100000) (w : World) (hGl : Gl w) :
    Calls Tryd.prog 7 #[.string A, .string B] w fun e w' => e = .returned (.bool true) ∧ Below w.heap.size w w' := by
  have hsz : (sumB A B).size ≤ 2048 := by rw [sumB_size]; omega
  unfold sumB at hq hsz
  have HQ : Hid (parseB ((⟨#[40]⟩ : ByteArray) ++ A ++ (⟨#[41, 32, 43, 32, 40]⟩ : ByteArray) ++ B ++ (⟨#[41]⟩ : ByteArray)) = .inr (.mk 8 ⟨#[43]⟩ [x2, y2] z)) := hq
  have z1 : (⟨#[40]⟩ : ByteArray).size + A.size ≤ 9223372036854775807 := by show 1 + _ ≤ _; omega
  have z2 : ((⟨#[40]⟩ : ByteArray) ++ A).size + (⟨#[41, 32, 43, 32, 40]⟩ : ByteArray).size ≤ 9223372036854775807 := by rw [ByteArray.size_append]; show 1 + _ + 5 ≤ _; omega
  have z3 : ((⟨#[40]⟩ : ByteArray) ++ A ++ (⟨#[41, 32, 43, 32, 40]⟩ : ByteArray)).size + B.size ≤ 9223372036854775807 := by rw [ByteArray.size_append, ByteArray.size_append]; show 1 + _ + 5 + _ ≤ _; omega
  have z4 : ((⟨#[40]⟩ : ByteArray) ++ A ++ (⟨#[41, 32, 43, 32, 40]⟩ : ByteArray) ++ B).size + (⟨#[41]⟩ : ByteArray).size ≤ 9223372036854775807 := by rw [ByteArray.size_append, ByteArray.size_append, ByteArray.size_append]; show 1 + _ + 5 + _ + 1 ≤ _; omega
  clear hq
  have HG : Hid (Gl w) := hGl
  have HX : Hid (parseB A = .inr x) := hx
  have HY : Hid (parseB B = .inr y) := hy
  have hAI : (A.size : Int) ≤ 2048 := by omega
  have hBI : (B.size : Int) ≤ 2048 := by omega
  have w1 : IntKind.i64.wrap (2048 - (A.size : Int)) = 2048 - (A.size : Int) := by rw [IntKind.wrap_i64]; omega
  have w2 : IntKind.i64.wrap (2048 - (A.size : Int) - 10) = 2048 - (A.size : Int) - 10 := by rw [IntKind.wrap_i64]; omega
  clear hGl hx hy
  go_enter Tryd.func7, Tryd.ntmps7
  go_wp2_with fail
  refine (parse_node HX.out w HG.out hsA).mono ?_
  rintro e V ⟨hb, k1, t1, sq1, sn1, sc1, a1, rfl, hnd⟩
  have H1 : Hid (Below w.heap.size w (V.alloc (.cells [.int .i64 k1, .string t1, .slice sq1 sn1 sc1, .int .i64 a1].toArray 24))) := hb.alloc hb.size _
  have N1 : Hid (NdAt (fun _ => True) (V.alloc (.cells [.int .i64 k1, .string t1, .slice sq1 sn1 sc1, .int .i64 a1].toArray 24)) x [.int .i64 k1, .string t1, .slice sq1 sn1 sc1, .int .i64 a1]) := NdAt.keep (by simp) (fun c hc hl => ⟨trivial, Below.heap_alloc _ _ _ hl⟩) _ _ hnd
  have B1 : Hid (Bx (V.alloc (.cells [.int .i64 k1, .string t1, .slice sq1 sn1 sc1, .int .i64 a1].toArray 24)) V.heap.size [.int .i64 k1, .string t1, .slice sq1 sn1 sc1, .int .i64 a1]) := Bx.new V [.int .i64 k1, .string t1, .slice sq1 sn1 sc1, .int .i64 a1] 24
  clear hb hnd
  go_wp2_with fail
  refine (parse_node HY.out _ (HG.out.below H1.out) hsB).mono ?_
  rintro e U ⟨hb, k2, t2, sq2, sn2, sc2, a2, rfl, hnd⟩
  have hBU : Below U.heap.size U (U.alloc (.cells [.int .i64 k2, .string t2, .slice sq2 sn2 sc2, .int .i64 a2].toArray 24)) := (Below.refl _ U).alloc (Nat.le_refl _) _
  have H2 : Hid (Below w.heap.size w (U.alloc (.cells [.int .i64 k2, .string t2, .slice sq2 sn2 sc2, .int .i64 a2].toArray 24))) := by
    have q := H1.out.trans (hb.mono H1.out.size)
    exact q.alloc q.size _
  have N2 : Hid (NdAt (fun _ => True) (U.alloc (.cells [.int .i64 k2, .string t2, .slice sq2 sn2 sc2, .int .i64 a2].toArray 24)) y [.int .i64 k2, .string t2, .slice sq2 sn2 sc2, .int .i64 a2]) := NdAt.keep (by simp) (fun c hc hl => ⟨trivial, Below.heap_alloc _ _ _ hl⟩) _ _ hnd
  have B2 : Hid (Bx (U.alloc (.cells [.int .i64 k2, .string t2, .slice sq2 sn2 sc2, .int .i64 a2].toArray 24)) U.heap.size [.int .i64 k2, .string t2, .slice sq2 sn2 sc2, .int .i64 a2]) := Bx.new U [.int .i64 k2, .string t2, .slice sq2 sn2 sc2, .int .i64 a2] 24
  have N3 : Hid (NdAt (fun _ => True) (U.alloc (.cells [.int .i64 k2, .string t2, .slice sq2 sn2 sc2, .int .i64 a2].toArray 24)) x [.int .i64 k1, .string t1, .slice sq1 sn1 sc1, .int .i64 a1]) := (N1.out.below hb).below hBU
  have B3 : Hid (Bx (U.alloc (.cells [.int .i64 k2, .string t2, .slice sq2 sn2 sc2, .int .i64 a2].toArray 24)) V.heap.size [.int .i64 k1, .string t1, .slice sq1 sn1 sc1, .int .i64 a1]) := (B1.out.below hb).below hBU
  clear hb hnd hBU N1 B1 H1
  go_wp2_with fail
  refine (parse_node HQ.out _ (HG.out.below H2.out) hsz).mono ?_
  rintro e U3 ⟨hb, k0, t0, sq0, sn0, sc0, a0, rfl, hnd⟩
  obtain ⟨q0, q1, q3, r, cap, q2, hcap, hmx, hXr, hrU, d0, d1, d2, d3, e0, e1, e2, e3, y0, y1, y2', y3, u0, u1, u2, u3, hk1, hk2⟩ := hnd.two
  simp only [Value.int.injEq, Value.string.injEq, Value.slice.injEq, true_and] at q0 q1 q2 q3
  obtain ⟨rfl, rfl, rfl⟩ := q2
  subst q0 q1 q3
  unfold maxLen at hmx
  have hA3 : Below U3.heap.size U3 (U3.alloc (.cells [.int .i64 8, .string ⟨#[43]⟩, .slice (some ⟨r, 0, none⟩) 2 sc0, .int .i64 a0].toArray 24)) := (Below.refl _ U3).alloc (Nat.le_refl _) _
  have HW : Hid ((fun W => Below w.heap.size w W ∧ Bx W V.heap.size [.int .i64 k1, .string t1, .slice sq1 sn1 sc1, .int .i64 a1] ∧ Bx W U.heap.size [.int .i64 k2, .string t2, .slice sq2 sn2 sc2, .int .i64 a2] ∧ Bx W U3.heap.size [.int .i64 8, .string ⟨#[43]⟩, .slice (some ⟨r, 0, none⟩) 2 sc0, .int .i64 a0] ∧ NdAt (fun _ => True) W x [.int .i64 k1, .string t1, .slice sq1 sn1 sc1, .int .i64 a1] ∧ NdAt (fun _ => True) W y [.int .i64 k2, .string t2, .slice sq2 sn2 sc2, .int .i64 a2] ∧ r < W.heap.size ∧ (∃ d0 d1 d2 d3 e0 e1 e2 e3, W.cell? ⟨r, 0, none⟩ = some d0 ∧ W.cell? ⟨r, 1, none⟩ = some d1 ∧ W.cell? ⟨r, 2, none⟩ = some d2 ∧ W.cell? ⟨r, 3, none⟩ = some d3 ∧ W.cell? ⟨r, 4, none⟩ = some e0 ∧ W.cell? ⟨r, 5, none⟩ = some e1 ∧ W.cell? ⟨r, 6, none⟩ = some e2 ∧ W.cell? ⟨r, 7, none⟩ = some e3 ∧ NdAt (fun _ => True) W x2 [d0, d1, d2, d3] ∧ NdAt (fun _ => True) W y2 [e0, e1, e2, e3])) (U3.alloc (.cells [.int .i64 8, .string ⟨#[43]⟩, .slice (some ⟨r, 0, none⟩) 2 sc0, .int .i64 a0].toArray 24))) := by
    have q := H2.out.trans (hb.mono H2.out.size)
    refine ⟨q.alloc q.size _, (B3.out.below hb).below hA3, (B2.out.below hb).below hA3, Bx.new U3 [.int .i64 8, .string ⟨#[43]⟩, .slice (some ⟨r, 0, none⟩) 2 sc0, .int .i64 a0] 24, (N3.out.below hb).below hA3, (N2.out.below hb).below hA3, Nat.lt_of_lt_of_le hrU hA3.size, d0, d1, d2, d3, e0, e1, e2, e3, ?_⟩
    exact ⟨(hA3.cell (p := ⟨r, 0, none⟩) hrU).trans y0, (hA3.cell (p := ⟨r, 1, none⟩) hrU).trans y1, (hA3.cell (p := ⟨r, 2, none⟩) hrU).trans y2', (hA3.cell (p := ⟨r, 3, none⟩) hrU).trans y3, (hA3.cell (p := ⟨r, 4, none⟩) hrU).trans u0, (hA3.cell (p := ⟨r, 5, none⟩) hrU).trans u1, (hA3.cell (p := ⟨r, 6, none⟩) hrU).trans u2, (hA3.cell (p := ⟨r, 7, none⟩) hrU).trans u3, NdAt.below (NdAt.keep (Nat.le_refl _) (fun _ _ _ => ⟨trivial, rfl⟩) _ _ hk1) hA3, NdAt.below (NdAt.keep (Nat.le_refl _) (fun _ _ _ => ⟨trivial, rfl⟩) _ _ hk2) hA3⟩
  clear hb hnd y0 y1 y2' y3 u0 u1 u2 u3 hk1 hk2 hA3 H2 N2 B2 N3 B3 hXr
  go_upto_region 6 with fail
  refine gen_to (fun W => Below w.heap.size w W ∧ Bx W V.heap.size [.int .i64 k1, .string t1, .slice sq1 sn1 sc1, .int .i64 a1] ∧ Bx W U.heap.size [.int .i64 k2, .string t2, .slice sq2 sn2 sc2, .int .i64 a2] ∧ Bx W U3.heap.size [.int .i64 8, .string ⟨#[43]⟩, .slice (some ⟨r, 0, none⟩) 2 sc0, .int .i64 a0] ∧ NdAt (fun _ => True) W x [.int .i64 k1, .string t1, .slice sq1 sn1 sc1, .int .i64 a1] ∧ NdAt (fun _ => True) W y [.int .i64 k2, .string t2, .slice sq2 sn2 sc2, .int .i64 a2] ∧ r < W.heap.size ∧ (∃ d0 d1 d2 d3 e0 e1 e2 e3, W.cell? ⟨r, 0, none⟩ = some d0 ∧ W.cell? ⟨r, 1, none⟩ = some d1 ∧ W.cell? ⟨r, 2, none⟩ = some d2 ∧ W.cell? ⟨r, 3, none⟩ = some d3 ∧ W.cell? ⟨r, 4, none⟩ = some e0 ∧ W.cell? ⟨r, 5, none⟩ = some e1 ∧ W.cell? ⟨r, 6, none⟩ = some e2 ∧ W.cell? ⟨r, 7, none⟩ = some e3 ∧ NdAt (fun _ => True) W x2 [d0, d1, d2, d3] ∧ NdAt (fun _ => True) W y2 [e0, e1, e2, e3])) HW.out ?_
  clear HW d0 d1 d2 d3 e0 e1 e2 e3
  rintro W ⟨hW0, hP, hQ, hM, hN5, hN6, hr, d0, d1, d2, d3, e0, e1, e2, e3, r0, r1, r2, r3, r4, r5, r6, r7, hM1, hM2⟩
  have HW : Hid (Below w.heap.size w W.drew) := hW0.trans ((bdrew W).mono hW0.size)
  have N5 : Hid (NdAt (fun _ => True) W.drew x [.int .i64 k1, .string t1, .slice sq1 sn1 sc1, .int .i64 a1]) := hN5.below (bdrew W)
  have N6 : Hid (NdAt (fun _ => True) W.drew y [.int .i64 k2, .string t2, .slice sq2 sn2 sc2, .int .i64 a2]) := hN6.below (bdrew W)
  have M1 : Hid (NdAt (fun _ => True) W.drew x2 [d0, d1, d2, d3]) := hM1.below (bdrew W)
  have M2 : Hid (NdAt (fun _ => True) W.drew y2 [e0, e1, e2, e3]) := hM2.below (bdrew W)
  have p0 := hP.c 0 rfl
  have p1 := hP.c 1 rfl
  have p2 := hP.c 2 rfl
  have p3 := hP.c 3 rfl
  have hp := hP.1
  have q0 := hQ.c 0 rfl
  have q1 := hQ.c 1 rfl
  have q2 := hQ.c 2 rfl
  have q3 := hQ.c 3 rfl
  have hq := hQ.1
  have m0 := hM.c 0 rfl
  have m1 := hM.c 1 rfl
  have m2 := hM.c 2 rfl
  have m3 := hM.c 3 rfl
  have hm := hM.1
  clear hW0 hN5 hN6 hM1 hM2
  go_upto_region 10 with fail
  have p0' := (hP.below (bdrew W)).c 0 rfl
  have p1' := (hP.below (bdrew W)).c 1 rfl
  have p2' := (hP.below (bdrew W)).c 2 rfl
  have p3' := (hP.below (bdrew W)).c 3 rfl
  have hp' := (hP.below (bdrew W)).1
  have q0' := (hQ.below (bdrew W)).c 0 rfl
  have q1' := (hQ.below (bdrew W)).c 1 rfl
  have q2' := (hQ.below (bdrew W)).c 2 rfl
  have q3' := (hQ.below (bdrew W)).c 3 rfl
  have hq' := (hQ.below (bdrew W)).1
  have m0' := (hM.below (bdrew W)).c 0 rfl
  have m1' := (hM.below (bdrew W)).c 1 rfl
  have m2' := (hM.below (bdrew W)).c 2 rfl
  have m3' := (hM.below (bdrew W)).c 3 rfl
  have hm' := (hM.below (bdrew W)).1
  have r0' := ((bdrew W).cell (p := ⟨r, 0, none⟩) hr).trans r0
  have r1' := ((bdrew W).cell (p := ⟨r, 1, none⟩) hr).trans r1
  have r2' := ((bdrew W).cell (p := ⟨r, 2, none⟩) hr).trans r2
  have r3' := ((bdrew W).cell (p := ⟨r, 3, none⟩) hr).trans r3
  have r4' := ((bdrew W).cell (p := ⟨r, 4, none⟩) hr).trans r4
  have r5' := ((bdrew W).cell (p := ⟨r, 5, none⟩) hr).trans r5
  have r6' := ((bdrew W).cell (p := ⟨r, 6, none⟩) hr).trans r6
  have r7' := ((bdrew W).cell (p := ⟨r, 7, none⟩) hr).trans r7
  have hr' : r < W.drew.heap.size := hr
  clear hP hQ hM p0 p1 p2 p3 q0 q1 q2 q3 m0 m1 m2 m3 r0 r1 r2 r3 r4 r5 r6 r7
  refine wp_region_held_drew (S := fun W' => Below W.drew.heap.size W.drew W') (by kernel_rfl) (Below.refl _ _) (fun hHeld => ?_)
  refine wpAnyH_take (i := 0) (v := ?_) (oi := { dst := some 74, op := _, type := _, pos := _, after := _, guard := none }) rfl (by kernel_rfl) (by kernel_rfl) (by kernel_rfl) (fun _ _ _ h => h) (Or.inl ⟨by kernel_rfl, ?_⟩) (by assumption) ?_
  case refine_2 => (intro w9 hSw; clear hSw; go_simp; try with_reducible rfl)
  simp only [Act.put, List.setIfInBounds_toArray, List.set_cons_zero, List.set_cons_succ]
  refine wpAnyH_take (i := 1) (v := ?_) (oi := { dst := some 75, op := _, type := _, pos := _, after := _, guard := none }) rfl (by kernel_rfl) (by kernel_rfl) (by kernel_rfl) (fun _ _ _ h => h) (Or.inl ⟨by kernel_rfl, ?_⟩) (by assumption) ?_
  case refine_2 => (intro w9 hSw; have p0 := (hSw.cell (p := ⟨V.heap.size, 0, none⟩) hp').trans p0'; have p1 := (hSw.cell (p := ⟨V.heap.size, 1, none⟩) hp').trans p1'; have p2 := (hSw.cell (p := ⟨V.heap.size, 2, none⟩) hp').trans p2'; have p3 := (hSw.cell (p := ⟨V.heap.size, 3, none⟩) hp').trans p3'; have q0 := (hSw.cell (p := ⟨U.heap.size, 0, none⟩) hq').trans q0'; have q1 := (hSw.cell (p := ⟨U.heap.size, 1, none⟩) hq').trans q1'; have q2 := (hSw.cell (p := ⟨U.heap.size, 2, none⟩) hq').trans q2'; have q3 := (hSw.cell (p := ⟨U.heap.size, 3, none⟩) hq').trans q3'; have m0 := (hSw.cell (p := ⟨U3.heap.size, 0, none⟩) hm').trans m0'; have m1 := (hSw.cell (p := ⟨U3.heap.size, 1, none⟩) hm').trans m1'; have m2 := (hSw.cell (p := ⟨U3.heap.size, 2, none⟩) hm').trans m2'; have m3 := (hSw.cell (p := ⟨U3.heap.size, 3, none⟩) hm').trans m3'; have r0 := (hSw.cell (p := ⟨r, 0, none⟩) hr').trans r0'; have r1 := (hSw.cell (p := ⟨r, 1, none⟩) hr').trans r1'; have r2 := (hSw.cell (p := ⟨r, 2, none⟩) hr').trans r2'; have r3 := (hSw.cell (p := ⟨r, 3, none⟩) hr').trans r3'; have r4 := (hSw.cell (p := ⟨r, 4, none⟩) hr').trans r4'; have r5 := (hSw.cell (p := ⟨r, 5, none⟩) hr').trans r5'; have r6 := (hSw.cell (p := ⟨r, 6, none⟩) hr').trans r6'; have r7 := (hSw.cell (p := ⟨r, 7, none⟩) hr').trans r7'; have hz := hSw.size; have g1 : V.heap.size < w9.heap.size := (by omega); have g2 : U.heap.size < w9.heap.size := (by omega); have g3 : U3.heap.size < w9.heap.size := (by omega); have g4 : r < w9.heap.size := (by omega); clear hSw; go_simp; try with_reducible rfl)
  simp only [Act.put, List.setIfInBounds_toArray, List.set_cons_zero, List.set_cons_succ]
  refine wpAnyH_take (i := 2) (v := ?_) (oi := { dst := some 76, op := _, type := _, pos := _, after := _, guard := none }) rfl (by kernel_rfl) (by kernel_rfl) (by kernel_rfl) (fun _ _ _ h => h) (Or.inl ⟨by kernel_rfl, ?_⟩) (by assumption) ?_
  case refine_2 => (intro w9 hSw; clear hSw; go_simp; try with_reducible rfl)
  simp only [Act.put, List.setIfInBounds_toArray, List.set_cons_zero, List.set_cons_succ]
  refine wpAnyH_take (i := 3) (v := ?_) (oi := { dst := some 77, op := _, type := _, pos := _, after := _, guard := none }) rfl (by kernel_rfl) (by kernel_rfl) (by kernel_rfl) (fun _ _ _ h => h) (Or.inl ⟨by kernel_rfl, ?_⟩) (by assumption) ?_
  case refine_2 => (intro w9 hSw; have p0 := (hSw.cell (p := ⟨V.heap.size, 0, none⟩) hp').trans p0'; have p1 := (hSw.cell (p := ⟨V.heap.size, 1, none⟩) hp').trans p1'; have p2 := (hSw.cell (p := ⟨V.heap.size, 2, none⟩) hp').trans p2'; have p3 := (hSw.cell (p := ⟨V.heap.size, 3, none⟩) hp').trans p3'; have q0 := (hSw.cell (p := ⟨U.heap.size, 0, none⟩) hq').trans q0'; have q1 := (hSw.cell (p := ⟨U.heap.size, 1, none⟩) hq').trans q1'; have q2 := (hSw.cell (p := ⟨U.heap.size, 2, none⟩) hq').trans q2'; have q3 := (hSw.cell (p := ⟨U.heap.size, 3, none⟩) hq').trans q3'; have m0 := (hSw.cell (p := ⟨U3.heap.size, 0, none⟩) hm').trans m0'; have m1 := (hSw.cell (p := ⟨U3.heap.size, 1, none⟩) hm').trans m1'; have m2 := (hSw.cell (p := ⟨U3.heap.size, 2, none⟩) hm').trans m2'; have m3 := (hSw.cell (p := ⟨U3.heap.size, 3, none⟩) hm').trans m3'; have r0 := (hSw.cell (p := ⟨r, 0, none⟩) hr').trans r0'; have r1 := (hSw.cell (p := ⟨r, 1, none⟩) hr').trans r1'; have r2 := (hSw.cell (p := ⟨r, 2, none⟩) hr').trans r2'; have r3 := (hSw.cell (p := ⟨r, 3, none⟩) hr').trans r3'; have r4 := (hSw.cell (p := ⟨r, 4, none⟩) hr').trans r4'; have r5 := (hSw.cell (p := ⟨r, 5, none⟩) hr').trans r5'; have r6 := (hSw.cell (p := ⟨r, 6, none⟩) hr').trans r6'; have r7 := (hSw.cell (p := ⟨r, 7, none⟩) hr').trans r7'; have hz := hSw.size; have g1 : V.heap.size < w9.heap.size := (by omega); have g2 : U.heap.size < w9.heap.size := (by omega); have g3 : U3.heap.size < w9.heap.size := (by omega); have g4 : r < w9.heap.size := (by omega); clear hSw; go_simp; try with_reducible rfl)
  simp only [Act.put, List.setIfInBounds_toArray, List.set_cons_zero, List.set_cons_succ]
  refine wpAnyH_take (i := 5) (v := ?_) (oi := { dst := some 79, op := _, type := _, pos := _, after := _, guard := none }) rfl (by kernel_rfl) (by kernel_rfl) (by kernel_rfl) (fun _ _ _ h => h) (Or.inl ⟨by kernel_rfl, ?_⟩) (by assumption) ?_
  case refine_2 => (intro w9 hSw; have p0 := (hSw.cell (p := ⟨V.heap.size, 0, none⟩) hp').trans p0'; have p1 := (hSw.cell (p := ⟨V.heap.size, 1, none⟩) hp').trans p1'; have p2 := (hSw.cell (p := ⟨V.heap.size, 2, none⟩) hp').trans p2'; have p3 := (hSw.cell (p := ⟨V.heap.size, 3, none⟩) hp').trans p3'; have q0 := (hSw.cell (p := ⟨U.heap.size, 0, none⟩) hq').trans q0'; have q1 := (hSw.cell (p := ⟨U.heap.size, 1, none⟩) hq').trans q1'; have q2 := (hSw.cell (p := ⟨U.heap.size, 2, none⟩) hq').trans q2'; have q3 := (hSw.cell (p := ⟨U.heap.size, 3, none⟩) hq').trans q3'; have m0 := (hSw.cell (p := ⟨U3.heap.size, 0, none⟩) hm').trans m0'; have m1 := (hSw.cell (p := ⟨U3.heap.size, 1, none⟩) hm').trans m1'; have m2 := (hSw.cell (p := ⟨U3.heap.size, 2, none⟩) hm').trans m2'; have m3 := (hSw.cell (p := ⟨U3.heap.size, 3, none⟩) hm').trans m3'; have r0 := (hSw.cell (p := ⟨r, 0, none⟩) hr').trans r0'; have r1 := (hSw.cell (p := ⟨r, 1, none⟩) hr').trans r1'; have r2 := (hSw.cell (p := ⟨r, 2, none⟩) hr').trans r2'; have r3 := (hSw.cell (p := ⟨r, 3, none⟩) hr').trans r3'; have r4 := (hSw.cell (p := ⟨r, 4, none⟩) hr').trans r4'; have r5 := (hSw.cell (p := ⟨r, 5, none⟩) hr').trans r5'; have r6 := (hSw.cell (p := ⟨r, 6, none⟩) hr').trans r6'; have r7 := (hSw.cell (p := ⟨r, 7, none⟩) hr').trans r7'; have hz := hSw.size; have g1 : V.heap.size < w9.heap.size := (by omega); have g2 : U.heap.size < w9.heap.size := (by omega); have g3 : U3.heap.size < w9.heap.size := (by omega); have g4 : r < w9.heap.size := (by omega); clear hSw; go_simp; try with_reducible rfl)
  simp only [Act.put, List.setIfInBounds_toArray, List.set_cons_zero, List.set_cons_succ]
  refine wpAnyH_ready (rs := [4]) (by kernel_rfl) (by simp) (AllReadyH.cons (o := { dst := some 78, op := _, type := _, pos := _, after := _, guard := none }) rfl (fun K hK => ?_) AllReadyH.nil)
  go_simp
  refine (taken_any x2 hc3 (fun _ => True) _ _ _ _ _ (M1.out.below hHeld)).mono ?_
  rintro e v1 ⟨hb1, k3, t3, sq3, sn3, sc3, a3, rfl, hnd1⟩
  have T3 : Hid (NdAt (fun _ => True) v1 x2 [.int .i64 k3, .string t3, .slice sq3 sn3 sc3, .int .i64 a3]) := NdAt.keep (Nat.le_refl _) (fun _ _ _ => ⟨trivial, rfl⟩) _ _ hnd1
  refine hK.out _ _ (hHeld.trans (hb1.mono hHeld.size)) (fun hHeld => ?_)
  clear hK K hb1 hnd1
  refine wpAnyH_ready (rs := [6]) (by kernel_rfl) (by simp) (AllReadyH.cons (o := { dst := some 80, op := _, type := _, pos := _, after := _, guard := none }) rfl (fun K hK => ?_) AllReadyH.nil)
  go_simp
  refine (taken_any x hc1 (fun _ => True) _ _ _ _ _ (N5.out.below hHeld)).mono ?_
  rintro e v2 ⟨hb2, k4, t4, sq4, sn4, sc4, a4, rfl, hnd2⟩
  have T4 : Hid (NdAt (fun _ => True) v2 x [.int .i64 k4, .string t4, .slice sq4 sn4 sc4, .int .i64 a4]) := NdAt.keep (Nat.le_refl _) (fun _ _ _ => ⟨trivial, rfl⟩) _ _ hnd2
  have T3b : Hid (NdAt (fun _ => True) v2 x2 [.int .i64 k3, .string t3, .slice sq3 sn3 sc3, .int .i64 a3]) := T3.out.below hb2
  refine hK.out _ _ (hHeld.trans (hb2.mono hHeld.size)) (fun hHeld => ?_)
  clear hK K hb2 hnd2 T3
  refine wpAnyH_ready (rs := [7]) (by kernel_rfl) (by simp) (AllReadyH.cons (o := { dst := some 81, op := _, type := _, pos := _, after := _, guard := none }) rfl (fun K hK => ?_) AllReadyH.nil)
  go_simp
  refine (same_any false x2 x hal1 (fun _ => True) (fun _ => True) _ _ _ _ _ _ _ _ _ T3b.out T4.out).mono ?_
  rintro e v3 ⟨rfl, hb3⟩
  refine hK.out _ _ (hHeld.trans (hb3.mono hHeld.size)) (fun hHeld => ?_)
  clear hK K hb3 T3b T4
  refine wpAnyH_take (i := 8) (v := ?_) (oi := { dst := some 82, op := _, type := _, pos := _, after := _, guard := none }) rfl (by kernel_rfl) (by kernel_rfl) (by kernel_rfl) (fun _ _ _ h => h) (Or.inl ⟨by kernel_rfl, ?_⟩) (by assumption) ?_
  case refine_2 => (intro w9 hSw; clear hSw; go_simp; try with_reducible rfl)
  simp only [Act.put, List.setIfInBounds_toArray, List.set_cons_zero, List.set_cons_succ]
  refine wpAnyH_take (i := 9) (v := ?_) (oi := { dst := some 83, op := _, type := _, pos := _, after := _, guard := some (8, true) }) rfl (by kernel_rfl) (by kernel_rfl) (by kernel_rfl) (fun _ _ _ h => h) (Or.inl ⟨by kernel_rfl, ?_⟩) (by assumption) ?_
  case refine_2 => (intro w9 hSw; clear hSw; go_simp; try with_reducible rfl)
  simp only [Act.put, List.setIfInBounds_toArray, List.set_cons_zero, List.set_cons_succ]
  refine wpAnyH_take (i := 10) (v := ?_) (oi := { dst := some 84, op := _, type := _, pos := _, after := _, guard := some (8, true) }) rfl (by kernel_rfl) (by kernel_rfl) (by kernel_rfl) (fun _ _ _ h => h) (Or.inl ⟨by kernel_rfl, ?_⟩) (by assumption) ?_
  case refine_2 => (intro w9 hSw; have p0 := (hSw.cell (p := ⟨V.heap.size, 0, none⟩) hp').trans p0'; have p1 := (hSw.cell (p := ⟨V.heap.size, 1, none⟩) hp').trans p1'; have p2 := (hSw.cell (p := ⟨V.heap.size, 2, none⟩) hp').trans p2'; have p3 := (hSw.cell (p := ⟨V.heap.size, 3, none⟩) hp').trans p3'; have q0 := (hSw.cell (p := ⟨U.heap.size, 0, none⟩) hq').trans q0'; have q1 := (hSw.cell (p := ⟨U.heap.size, 1, none⟩) hq').trans q1'; have q2 := (hSw.cell (p := ⟨U.heap.size, 2, none⟩) hq').trans q2'; have q3 := (hSw.cell (p := ⟨U.heap.size, 3, none⟩) hq').trans q3'; have m0 := (hSw.cell (p := ⟨U3.heap.size, 0, none⟩) hm').trans m0'; have m1 := (hSw.cell (p := ⟨U3.heap.size, 1, none⟩) hm').trans m1'; have m2 := (hSw.cell (p := ⟨U3.heap.size, 2, none⟩) hm').trans m2'; have m3 := (hSw.cell (p := ⟨U3.heap.size, 3, none⟩) hm').trans m3'; have r0 := (hSw.cell (p := ⟨r, 0, none⟩) hr').trans r0'; have r1 := (hSw.cell (p := ⟨r, 1, none⟩) hr').trans r1'; have r2 := (hSw.cell (p := ⟨r, 2, none⟩) hr').trans r2'; have r3 := (hSw.cell (p := ⟨r, 3, none⟩) hr').trans r3'; have r4 := (hSw.cell (p := ⟨r, 4, none⟩) hr').trans r4'; have r5 := (hSw.cell (p := ⟨r, 5, none⟩) hr').trans r5'; have r6 := (hSw.cell (p := ⟨r, 6, none⟩) hr').trans r6'; have r7 := (hSw.cell (p := ⟨r, 7, none⟩) hr').trans r7'; have hz := hSw.size; have g1 : V.heap.size < w9.heap.size := (by omega); have g2 : U.heap.size < w9.heap.size := (by omega); have g3 : U3.heap.size < w9.heap.size := (by omega); have g4 : r < w9.heap.size := (by omega); clear hSw; go_simp; try with_reducible rfl)
  simp only [Act.put, List.setIfInBounds_toArray, List.set_cons_zero, List.set_cons_succ]
  refine wpAnyH_take (i := 11) (v := ?_) (oi := { dst := some 85, op := _, type := _, pos := _, after := _, guard := some (8, true) }) rfl (by kernel_rfl) (by kernel_rfl) (by kernel_rfl) (fun _ _ _ h => h) (Or.inl ⟨by kernel_rfl, ?_⟩) (by assumption) ?_
  case refine_2 => (intro w9 hSw; clear hSw; go_simp; try with_reducible rfl)
  simp only [Act.put, List.setIfInBounds_toArray, List.set_cons_zero, List.set_cons_succ]
  refine wpAnyH_take (i := 12) (v := ?_) (oi := { dst := some 86, op := _, type := _, pos := _, after := _, guard := some (8, true) }) rfl (by kernel_rfl) (by kernel_rfl) (by kernel_rfl) (fun _ _ _ h => h) (Or.inl ⟨by kernel_rfl, ?_⟩) (by assumption) ?_
  case refine_2 => (intro w9 hSw; have p0 := (hSw.cell (p := ⟨V.heap.size, 0, none⟩) hp').trans p0'; have p1 := (hSw.cell (p := ⟨V.heap.size, 1, none⟩) hp').trans p1'; have p2 := (hSw.cell (p := ⟨V.heap.size, 2, none⟩) hp').trans p2'; have p3 := (hSw.cell (p := ⟨V.heap.size, 3, none⟩) hp').trans p3'; have q0 := (hSw.cell (p := ⟨U.heap.size, 0, none⟩) hq').trans q0'; have q1 := (hSw.cell (p := ⟨U.heap.size, 1, none⟩) hq').trans q1'; have q2 := (hSw.cell (p := ⟨U.heap.size, 2, none⟩) hq').trans q2'; have q3 := (hSw.cell (p := ⟨U.heap.size, 3, none⟩) hq').trans q3'; have m0 := (hSw.cell (p := ⟨U3.heap.size, 0, none⟩) hm').trans m0'; have m1 := (hSw.cell (p := ⟨U3.heap.size, 1, none⟩) hm').trans m1'; have m2 := (hSw.cell (p := ⟨U3.heap.size, 2, none⟩) hm').trans m2'; have m3 := (hSw.cell (p := ⟨U3.heap.size, 3, none⟩) hm').trans m3'; have r0 := (hSw.cell (p := ⟨r, 0, none⟩) hr').trans r0'; have r1 := (hSw.cell (p := ⟨r, 1, none⟩) hr').trans r1'; have r2 := (hSw.cell (p := ⟨r, 2, none⟩) hr').trans r2'; have r3 := (hSw.cell (p := ⟨r, 3, none⟩) hr').trans r3'; have r4 := (hSw.cell (p := ⟨r, 4, none⟩) hr').trans r4'; have r5 := (hSw.cell (p := ⟨r, 5, none⟩) hr').trans r5'; have r6 := (hSw.cell (p := ⟨r, 6, none⟩) hr').trans r6'; have r7 := (hSw.cell (p := ⟨r, 7, none⟩) hr').trans r7'; have hz := hSw.size; have g1 : V.heap.size < w9.heap.size := (by omega); have g2 : U.heap.size < w9.heap.size := (by omega); have g3 : U3.heap.size < w9.heap.size := (by omega); have g4 : r < w9.heap.size := (by omega); clear hSw; go_simp; try with_reducible rfl)
  simp only [Act.put, List.setIfInBounds_toArray, List.set_cons_zero, List.set_cons_succ]
  refine wpAnyH_take (i := 14) (v := ?_) (oi := { dst := some 88, op := _, type := _, pos := _, after := _, guard := some (8, true) }) rfl (by kernel_rfl) (by kernel_rfl) (by kernel_rfl) (fun _ _ _ h => h) (Or.inl ⟨by kernel_rfl, ?_⟩) (by assumption) ?_
  case refine_2 => (intro w9 hSw; have p0 := (hSw.cell (p := ⟨V.heap.size, 0, none⟩) hp').trans p0'; have p1 := (hSw.cell (p := ⟨V.heap.size, 1, none⟩) hp').trans p1'; have p2 := (hSw.cell (p := ⟨V.heap.size, 2, none⟩) hp').trans p2'; have p3 := (hSw.cell (p := ⟨V.heap.size, 3, none⟩) hp').trans p3'; have q0 := (hSw.cell (p := ⟨U.heap.size, 0, none⟩) hq').trans q0'; have q1 := (hSw.cell (p := ⟨U.heap.size, 1, none⟩) hq').trans q1'; have q2 := (hSw.cell (p := ⟨U.heap.size, 2, none⟩) hq').trans q2'; have q3 := (hSw.cell (p := ⟨U.heap.size, 3, none⟩) hq').trans q3'; have m0 := (hSw.cell (p := ⟨U3.heap.size, 0, none⟩) hm').trans m0'; have m1 := (hSw.cell (p := ⟨U3.heap.size, 1, none⟩) hm').trans m1'; have m2 := (hSw.cell (p := ⟨U3.heap.size, 2, none⟩) hm').trans m2'; have m3 := (hSw.cell (p := ⟨U3.heap.size, 3, none⟩) hm').trans m3'; have r0 := (hSw.cell (p := ⟨r, 0, none⟩) hr').trans r0'; have r1 := (hSw.cell (p := ⟨r, 1, none⟩) hr').trans r1'; have r2 := (hSw.cell (p := ⟨r, 2, none⟩) hr').trans r2'; have r3 := (hSw.cell (p := ⟨r, 3, none⟩) hr').trans r3'; have r4 := (hSw.cell (p := ⟨r, 4, none⟩) hr').trans r4'; have r5 := (hSw.cell (p := ⟨r, 5, none⟩) hr').trans r5'; have r6 := (hSw.cell (p := ⟨r, 6, none⟩) hr').trans r6'; have r7 := (hSw.cell (p := ⟨r, 7, none⟩) hr').trans r7'; have hz := hSw.size; have g1 : V.heap.size < w9.heap.size := (by omega); have g2 : U.heap.size < w9.heap.size := (by omega); have g3 : U3.heap.size < w9.heap.size := (by omega); have g4 : r < w9.heap.size := (by omega); clear hSw; go_simp; try with_reducible rfl)
  simp only [Act.put, List.setIfInBounds_toArray, List.set_cons_zero, List.set_cons_succ]
  refine wpAnyH_ready (rs := [13]) (by kernel_rfl) (by simp) (AllReadyH.cons (o := { dst := some 87, op := _, type := _, pos := _, after := _, guard := some (8, true) }) rfl (fun K hK => ?_) AllReadyH.nil)
  go_simp
  refine (taken_any y2 hc4 (fun _ => True) _ _ _ _ _ (M2.out.below hHeld)).mono ?_
  rintro e v4 ⟨hb4, k5, t5, sq5, sn5, sc5, a5, rfl, hnd4⟩
  have T5 : Hid (NdAt (fun _ => True) v4 y2 [.int .i64 k5, .string t5, .slice sq5 sn5 sc5, .int .i64 a5]) := NdAt.keep (Nat.le_refl _) (fun _ _ _ => ⟨trivial, rfl⟩) _ _ hnd4
  refine hK.out _ _ (hHeld.trans (hb4.mono hHeld.size)) (fun hHeld => ?_)
  clear hK K hb4 hnd4
  refine wpAnyH_ready (rs := [15]) (by kernel_rfl) (by simp) (AllReadyH.cons (o := { dst := some 89, op := _, type := _, pos := _, after := _, guard := some (8, true) }) rfl (fun K hK => ?_) AllReadyH.nil)
  go_simp
  refine (taken_any y hc2 (fun _ => True) _ _ _ _ _ (N6.out.below hHeld)).mono ?_
  rintro e v5 ⟨hb5, k6, t6, sq6, sn6, sc6, a6, rfl, hnd5⟩
  have T6 : Hid (NdAt (fun _ => True) v5 y [.int .i64 k6, .string t6, .slice sq6 sn6 sc6, .int .i64 a6]) := NdAt.keep (Nat.le_refl _) (fun _ _ _ => ⟨trivial, rfl⟩) _ _ hnd5
  have T5b : Hid (NdAt (fun _ => True) v5 y2 [.int .i64 k5, .string t5, .slice sq5 sn5 sc5, .int .i64 a5]) := T5.out.below hb5
  refine hK.out _ _ (hHeld.trans (hb5.mono hHeld.size)) (fun hHeld => ?_)
  clear hK K hb5 hnd5 T5
  refine wpAnyH_ready (rs := [16]) (by kernel_rfl) (by simp) (AllReadyH.cons (o := { dst := some 90, op := _, type := _, pos := _, after := _, guard := some (8, true) }) rfl (fun K hK => ?_) AllReadyH.nil)
  go_simp
  refine (same_any false y2 y hal2 (fun _ => True) (fun _ => True) _ _ _ _ _ _ _ _ _ T5b.out T6.out).mono ?_
  rintro e v6 ⟨rfl, hb6⟩
  refine hK.out _ _ (hHeld.trans (hb6.mono hHeld.size)) (fun hHeld => ?_)
  clear hK K hb6 T5b T6
  refine wpAnyH_take (i := 17) (v := ?_) (oi := { dst := some 91, op := _, type := _, pos := _, after := _, guard := none }) rfl (by kernel_rfl) (by kernel_rfl) (by kernel_rfl) (fun _ _ _ h => h) (Or.inl ⟨by kernel_rfl, ?_⟩) (by assumption) ?_
  case refine_2 => (intro w9 hSw; clear hSw; go_simp; try with_reducible rfl)
  simp only [Act.put, List.setIfInBounds_toArray, List.set_cons_zero, List.set_cons_succ]
  refine wpAnyH_take (i := 18) (v := ?_) (oi := { dst := some 92, op := _, type := _, pos := _, after := _, guard := none }) rfl (by kernel_rfl) (by kernel_rfl) (by kernel_rfl) (fun _ _ _ h => h) (Or.inl ⟨by kernel_rfl, ?_⟩) (by assumption) ?_
  case refine_2 => (intro w9 hSw; clear hSw; go_simp; try with_reducible rfl)
  simp only [Act.put, List.setIfInBounds_toArray, List.set_cons_zero, List.set_cons_succ]
  refine wpAnyH_ready (rs := [19]) (by kernel_rfl) (by simp) (AllReadyH.cons (o := { dst := some 93, op := _, type := _, pos := _, after := _, guard := some (18, true) }) rfl (fun K hK => ?_) AllReadyH.nil)
  go_simp
  refine (known22_any _ (HG.out.below (HW.out.trans (hHeld.mono HW.out.size)))).mono ?_
  rintro e v7 ⟨rfl, hb7⟩
  refine hK.out _ _ (hHeld.trans (hb7.mono hHeld.size)) (fun hHeld => ?_)
  clear hK K hb7
  refine wpAnyH_take (i := 20) (v := ?_) (oi := { dst := some 94, op := _, type := _, pos := _, after := _, guard := none }) rfl (by kernel_rfl) (by kernel_rfl) (by kernel_rfl) (fun _ _ _ h => h) (Or.inl ⟨by kernel_rfl, ?_⟩) (by assumption) ?_
  case refine_2 => (intro w9 hSw; clear hSw; go_simp; try with_reducible rfl)
  simp only [Act.put, List.setIfInBounds_toArray, List.set_cons_zero, List.set_cons_succ]
  refine wpAnyH_take (i := 21) (v := ?_) (oi := { dst := some 4, op := _, type := _, pos := _, after := _, guard := none }) rfl (by kernel_rfl) (by kernel_rfl) (by kernel_rfl) (fun _ _ _ h => h) (Or.inl ⟨by kernel_rfl, ?_⟩) (by assumption) ?_
  case refine_2 => (intro w9 hSw; clear hSw; go_simp; try with_reducible rfl)
  simp only [Act.put, List.setIfInBounds_toArray, List.set_cons_zero, List.set_cons_succ]
  refine wpAnyH_done (by kernel_rfl) ?_ _
  have HF : Hid (Below w.heap.size w _) := HW.out.trans (hHeld.mono HW.out.size)
  clear hHeld HW HG
  go_wp2
  go_ret
  exact ⟨rfl, HF.out⟩

theorem sum_any (A B : ByteArray) (hsA : A.size ≤ 140737488351232) (hsB : B.size ≤ 140737488351232) (w : World) (hGl : Gl w) :
    Calls Tryd.prog 7 #[.string A, .string B] w fun e w' => e = .returned (.bool true) ∧ Below w.heap.size w w' := by
  by_cases ha : A.size ≤ 2048 ∧ ∃ n, parseB A = .inr n
  · obtain ⟨ha8, x, hx⟩ := ha
    by_cases hb : B.size ≤ 2048 ∧ ∃ n, parseB B = .inr n
    · obtain ⟨hb8, y, hy⟩ := hb
      by_cases hl : 2048 - (A.size : Int) - 10 ≤ (B.size : Int)
      · exact es_long A B ha8 hb8 x y hx hy hl w hGl
      · have hl2 : (B.size : Int) < 2048 - (A.size : Int) - 10 := by omega
        have hsz : (sumB A B).size ≤ 2048 := by rw [sumB_size]; omega
        rcases parse_sum ha8 hb8 hx hy with ⟨x2, y2, z, h1, h2, hq⟩ | ⟨b, hq⟩
        · have q := (parse_sz hsz hq).2
          rw [cn_two] at q
          exact es_good A B ha8 hb8 x y hx hy hl2 x2 y2 z hq (AlP.symm x2 x (AlN.p x x2 h1)) (AlP.symm y2 y (AlN.p y y2 h2)) (Nat.le_trans (parse_sz ha8 hx).2 (by decide)) (Nat.le_trans (parse_sz hb8 hy).2 (by decide)) (by omega) (by omega) w hGl
        · exact es_deep A B ha8 hb8 x y hx hy hl2 b hq w hGl
    · exact es_b A B ha8 x hx (parse_bad hsB hb) w hGl
  · exact es_a A B (parse_bad hsA ha) (parse_some B hsB) w hGl

end Go.Proofs.YtmlgfjkndnjocaaDoor
