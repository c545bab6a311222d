/- The parser's small methods: fail, wrong, next, is, take, leaf. -/
import Derived.Test.YtaoocecipacnhaaDoorExBq
import Derived.WalkKit
import Derived.ProofKit
import Derived.Deep.Cut
import Derived.Deep.CutRange
import Derived.Deep.DeepCutAuto
namespace Go.Proofs.YtaoocecipacnhaaDoor
open Go.RowKit
set_option linter.unusedVariables false

set_option maxRecDepth 100000 in
set_option maxHeartbeats 4000000 in
theorem fail_any (g : Nat) (left : Value) (d : Nat) (a0 e0 a er : Int) (w : World) (hb : Bx w g [left, .int .i64 (d : Int), .int .i64 a0, .int .i64 e0]) :
    Calls Tryd.prog 66 #[.pointer (some ⟨g, 0, none⟩), .int .i64 a, .int .i64 er] w fun e w' => e = .returned (.tuple #[.agg #[.int .i64 0, .string ⟨#[]⟩, .slice none 0 0, .int .i64 0], .bool false]) ∧ Kp g w w' ∧ Bx w' g [left, .int .i64 (d : Int), .int .i64 a, .int .i64 er] := by
  have c2 := hb.c 2 rfl
  have c3 := hb.c 3 rfl
  have z2 := hb.f 2 rfl
  have z3 := hb.f 3 rfl
  have hg := hb.1
  have HB : Hid (Bx w g [left, .int .i64 (d : Int), .int .i64 a0, .int .i64 e0]) := hb
  clear hb
  go_enter Tryd.func66, Tryd.ntmps66
  go_wp2
  refine bodyPost_ret (v := .tuple #[.agg #[.int .i64 0, .string ⟨#[]⟩, .slice none 0 0, .int .i64 0], .bool false]) (by simp [results, Tryd.results66, go_sem]) rfl ⟨rfl, ?_, ?_⟩
  · exact (((Kp.refl g w).set (.inl rfl) _).set (.inl rfl) _).alloc _
  · exact (((HB.out.set1 2 _ (by simp)).set1 3 _ (by simp)).alloc _)

set_option maxRecDepth 100000 in
set_option maxHeartbeats 4000000 in
theorem wrong_any (g b cap : Nat) (T : List Tk) (p : Tk) (l : List Tk) (d : Nat) (w : World) (h : PS g b cap T w (p :: l) d) :
    Calls Tryd.prog 53 #[.pointer (some ⟨g, 0, none⟩)] w fun e w' => e = .returned (.tuple #[.agg #[.int .i64 0, .string ⟨#[]⟩, .slice none 0 0, .int .i64 0], .bool false]) ∧ Kp g w w' ∧ PF g w' d p.2.2 30 := by
  obtain ⟨⟨pre, a0, e0, e, hb⟩, htr, hne, hle, hmost⟩ := h
  have HB : Hid (Bx w g _) := hb
  have HT : Hid (TR w b T) := htr
  have c0 := hb.c 0 rfl
  have c1 := hb.c 1 rfl
  have z0 := hb.f 0 rfl
  have z1 := hb.f 1 rfl
  have hg := hb.1
  have hbl := htr.1
  obtain ⟨t0, t1, t2⟩ := htr.at e
  have HM : Hid (cap ≤ maxLen) := hmost
  unfold maxLen at hmost
  have hlen : T.length = pre.length + l.length + 1 := by rw [e]; simp <;> omega
  clear hb htr
  go_enter Tryd.func53, Tryd.ntmps53
  go_wp2_with fail
  refine (fail_any g _ d a0 e0 p.2.2 30 _ (HB.out.alloc _)).mono ?_
  rintro e W ⟨rfl, hk, hx⟩
  have HK : Hid (Kp g w W) := ((Kp.refl g w).alloc _).trans hk
  have HX : Hid (Bx W w.heap.size _) := hk.bx (Bx.new w [.int .i64 0, .string ⟨#[]⟩, .slice none 0 0, .int .i64 0] _) (by omega)
  have HP : Hid (Bx W g _) := hx
  clear hk hx
  obtain ⟨FK, FB, FO, FS⟩ := fin4 [] (.int .i64 0) (.string ⟨#[]⟩) (.slice none 0 0) (.int .i64 0) HK.out (by omega) (HX.out)
  have y0' := FB.c 0 rfl
  have y1' := FB.c 1 rfl
  have y2' := FB.c 2 rfl
  have y3' := FB.c 3 rfl
  simp only [List.foldl, World.setCells, Nat.zero_add, Nat.reduceAdd] at y0' y1' y2' y3'
  have HFK : Hid _ := FK
  have HFO : Hid _ := FO
  have HFS : Hid _ := FS
  clear FK FB FO FS
  have r0 := (HX.out).c 0 rfl
  have r1 := (HX.out).c 1 rfl
  have r2 := (HX.out).c 2 rfl
  have r3 := (HX.out).c 3 rfl
  have s0 := (HX.out).f 0 rfl
  have s1 := (HX.out).f 1 rfl
  have s2 := (HX.out).f 2 rfl
  have s3 := (HX.out).f 3 rfl
  have hrw' := (HX.out).1
  go_wp2
  refine bodyPost_ret (v := .tuple #[.agg #[.int .i64 0, .string ⟨#[]⟩, .slice none 0 0, .int .i64 0], .bool false]) (by simp [results, Tryd.results53, go_sem, y0', y1', y2', y3']) rfl ⟨rfl, HFK.out, PF.off ⟨_, HP.out, rfl⟩ HFO.out HFS.out (by omega)⟩

set_option maxRecDepth 100000 in
set_option maxHeartbeats 4000000 in
theorem next_any (g b cap : Nat) (T : List Tk) (p q : Tk) (l : List Tk) (d : Nat) (w : World) (h : PS g b cap T w (p :: q :: l) d) :
    Calls Tryd.prog 54 #[.pointer (some ⟨g, 0, none⟩)] w fun e w' => e = .returned (.agg #[.int .i64 p.1, .string p.2.1, .int .i64 p.2.2]) ∧ Kp g w w' ∧ PS g b cap T w' (q :: l) d := by
  obtain ⟨⟨pre, a0, e0, e, hb⟩, htr, hne, hle, hmost⟩ := h
  have HB : Hid (Bx w g _) := hb
  have HT : Hid (TR w b T) := htr
  have c0 := hb.c 0 rfl
  have c1 := hb.c 1 rfl
  have z0 := hb.f 0 rfl
  have z1 := hb.f 1 rfl
  have hg := hb.1
  have hbl := htr.1
  obtain ⟨t0, t1, t2⟩ := htr.at e
  have HM : Hid (cap ≤ maxLen) := hmost
  unfold maxLen at hmost
  have hlen : T.length = pre.length + l.length + 2 := by rw [e]; simp <;> omega
  clear hb htr
  go_enter Tryd.func54, Tryd.ntmps54
  go_wp2
  refine bodyPost_ret (v := .agg #[.int .i64 p.1, .string p.2.1, .int .i64 p.2.2]) (by simp [results, Tryd.results54, go_sem]) rfl ⟨rfl, ?_, ?_⟩
  · exact (((Kp.refl g w).set (.inl rfl) _).alloc _).alloc _
  · have q1 := ((HB.out.set1 0 (.slice (some ⟨b, pre.length * 3 + 3, none⟩) (l.length + 1) (cap - pre.length - 1)) (by simp)).alloc (.cells #[.int .i64 p.1, .string p.2.1, .int .i64 p.2.2] 81)).alloc (.cells #[.int .i64 p.1, .string p.2.1, .int .i64 p.2.2] 81)
    refine ⟨⟨pre ++ [p], a0, e0, by rw [e]; simp, ?_⟩, ?_, hne, hle, HM.out⟩
    · rw [show (pre ++ [p]).length * 3 = pre.length * 3 + 3 by simp; omega, show cap - (pre ++ [p]).length = cap - pre.length - 1 by simp; omega]; exact q1
    · exact HT.out.kp ((((Kp.refl g w).set (p := ⟨g, 0, none⟩) (.inl rfl) _).alloc _).alloc _) hne

set_option maxRecDepth 100000 in
set_option maxHeartbeats 4000000 in
theorem next_end (g b cap : Nat) (T : List Tk) (p : Tk) (d : Nat) (w : World) (h : PS g b cap T w [p] d) :
    Calls Tryd.prog 54 #[.pointer (some ⟨g, 0, none⟩)] w fun e w' => e = .returned (.agg #[.int .i64 p.1, .string p.2.1, .int .i64 p.2.2]) ∧ Kp g w w' := by
  have l : List Tk := []
  obtain ⟨⟨pre, a0, e0, e, hb⟩, htr, hne, hle, hmost⟩ := h
  have HB : Hid (Bx w g _) := hb
  have HT : Hid (TR w b T) := htr
  have c0 := hb.c 0 rfl
  have c1 := hb.c 1 rfl
  have z0 := hb.f 0 rfl
  have z1 := hb.f 1 rfl
  have hg := hb.1
  have hbl := htr.1
  obtain ⟨t0, t1, t2⟩ := htr.at e
  have HM : Hid (cap ≤ maxLen) := hmost
  unfold maxLen at hmost
  have hlen : T.length = pre.length + 1 := by rw [e]; simp <;> omega
  clear hb htr
  go_enter Tryd.func54, Tryd.ntmps54
  by_cases hc : cap - pre.length - 1 = 0
  all_goals
    go_wp2
    refine bodyPost_ret (v := .agg #[.int .i64 p.1, .string p.2.1, .int .i64 p.2.2]) (by simp [results, Tryd.results54, go_sem]) rfl ⟨rfl, ?_⟩
    exact (((Kp.refl g w).set (p := ⟨g, 0, none⟩) (.inl rfl) _).alloc _).alloc _


end Go.Proofs.YtaoocecipacnhaaDoor
