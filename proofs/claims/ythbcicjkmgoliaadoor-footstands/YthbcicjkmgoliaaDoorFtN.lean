/- At and Next whole; known. -/
import Derived.Test.YthbcicjkmgoliaaDoorFtM
import Derived.Test.YthbcicjkmgoliaaDoorFtP
import Derived.Deep.QuietTactic
import Derived.BigQuiet
namespace Go.Proofs.YthbcicjkmgoliaaDoor
open Go.RowKit
set_option linter.unusedVariables false

/-- at and next, where they can be told. -/
theorem stand_ok (f : Ft) (t y : Int) (hf : okF f = true) (hy : YAt t y) (y1 : -4714 ≤ y) (y2 : y ≤ 294278) (t1 : -9223372036854775808 ≤ t) (t2 : t ≤ 9223372036854775807) :
    ∃ j, St f t j ∧ (∀ w : World, Cvl.Lens w → Clk.Tab w → Calls Tryd.prog 14 #[.agg #[.bool f.h, .int .i64 f.fr, .int .i64 f.off, .int .i64 f.A.m, .int .i64 f.A.k, .int .i64 f.A.d, .int .i64 f.A.n, .int .i64 f.A.s, .int .u8 f.A.z, .int .i64 f.A.v, .string f.A.t, .int .i64 f.B.m, .int .i64 f.B.k, .int .i64 f.B.d, .int .i64 f.B.n, .int .i64 f.B.s, .int .u8 f.B.z, .int .i64 f.B.v, .string f.B.t], .int .i64 t] w fun e w' => e = .returned (.tuple #[.agg #[.int .i64 (gs f j).t, .int .i64 (gs f j).o, .bool (gs f j).d, .string (gs f j).a], .int .i64 0]) ∧ Below w.heap.size w w') ∧
      (∀ w : World, Cvl.Lens w → Clk.Tab w → Calls Tryd.prog 16 #[.agg #[.bool f.h, .int .i64 f.fr, .int .i64 f.off, .int .i64 f.A.m, .int .i64 f.A.k, .int .i64 f.A.d, .int .i64 f.A.n, .int .i64 f.A.s, .int .u8 f.A.z, .int .i64 f.A.v, .string f.A.t, .int .i64 f.B.m, .int .i64 f.B.k, .int .i64 f.B.d, .int .i64 f.B.n, .int .i64 f.B.s, .int .u8 f.B.z, .int .i64 f.B.v, .string f.B.t], .int .i64 t] w fun e w' => e = .returned (.tuple #[.agg #[.int .i64 (gs f (j + 1)).t, .int .i64 (gs f (j + 1)).o, .bool (gs f (j + 1)).d, .string (gs f (j + 1)).a], .int .i64 0]) ∧ Below w.heap.size w w') := by
  obtain ⟨K, k1, k2, hK, hlo, hS⟩ := findK (lh_of hf) hy y1 y2
  refine ⟨_, hS, ?_⟩
  have A : ∀ w : World, Cvl.Lens w → Clk.Tab w → Calls Tryd.prog 25 #[.agg #[.bool f.h, .int .i64 f.fr, .int .i64 f.off, .int .i64 f.A.m, .int .i64 f.A.k, .int .i64 f.A.d, .int .i64 f.A.n, .int .i64 f.A.s, .int .u8 f.A.z, .int .i64 f.A.v, .string f.A.t, .int .i64 f.B.m, .int .i64 f.B.k, .int .i64 f.B.d, .int .i64 f.B.n, .int .i64 f.B.s, .int .u8 f.B.z, .int .i64 f.B.v, .string f.B.t], .int .i64 t] w fun e w' => e = .returned (.tuple #[.agg (tL (gs f (2 * (y - 1) + K - 1))).toArray, .agg (tL (gs f (2 * (y - 1) + K - 1 + 1))).toArray, .int .i64 0]) ∧ Below w.heap.size w w' := fun w hL hT => by
    have R := around_ok f t y K hf hy y1 y2 t1 t2 k1 k2 hK hlo w hL hT
    have e1 : shK f (y - 1) (K - 1) = gs f (2 * (y - 1) + K - 1) := by rw [shK_gs]; congr 1; omega
    have e2 : shK f (y - 1) K = gs f (2 * (y - 1) + K - 1 + 1) := by rw [shK_gs]; congr 1; omega
    rw [e1, e2] at R
    exact R
  exact ⟨fun w hL hT => at_run f t _ _ 0 A w hL hT, fun w hL hT => next_run f t _ _ 0 A w hL hT⟩

def trZ : Tr := ⟨0, 0, false, ⟨#[]⟩⟩
theorem stand_no (f : Ft) (t er : Int) (A : ∀ w : World, Cvl.Lens w → Clk.Tab w → Calls Tryd.prog 25 #[.agg #[.bool f.h, .int .i64 f.fr, .int .i64 f.off, .int .i64 f.A.m, .int .i64 f.A.k, .int .i64 f.A.d, .int .i64 f.A.n, .int .i64 f.A.s, .int .u8 f.A.z, .int .i64 f.A.v, .string f.A.t, .int .i64 f.B.m, .int .i64 f.B.k, .int .i64 f.B.d, .int .i64 f.B.n, .int .i64 f.B.s, .int .u8 f.B.z, .int .i64 f.B.v, .string f.B.t], .int .i64 t] w fun e w' => e = .returned (.tuple #[.agg z4.toArray, .agg z4.toArray, .int .i64 er]) ∧ Below w.heap.size w w') :
    (∀ w : World, Cvl.Lens w → Clk.Tab w → Calls Tryd.prog 14 #[.agg #[.bool f.h, .int .i64 f.fr, .int .i64 f.off, .int .i64 f.A.m, .int .i64 f.A.k, .int .i64 f.A.d, .int .i64 f.A.n, .int .i64 f.A.s, .int .u8 f.A.z, .int .i64 f.A.v, .string f.A.t, .int .i64 f.B.m, .int .i64 f.B.k, .int .i64 f.B.d, .int .i64 f.B.n, .int .i64 f.B.s, .int .u8 f.B.z, .int .i64 f.B.v, .string f.B.t], .int .i64 t] w fun e w' => e = .returned (.tuple #[.agg #[.int .i64 trZ.t, .int .i64 trZ.o, .bool trZ.d, .string trZ.a], .int .i64 er]) ∧ Below w.heap.size w w') ∧
      (∀ w : World, Cvl.Lens w → Clk.Tab w → Calls Tryd.prog 16 #[.agg #[.bool f.h, .int .i64 f.fr, .int .i64 f.off, .int .i64 f.A.m, .int .i64 f.A.k, .int .i64 f.A.d, .int .i64 f.A.n, .int .i64 f.A.s, .int .u8 f.A.z, .int .i64 f.A.v, .string f.A.t, .int .i64 f.B.m, .int .i64 f.B.k, .int .i64 f.B.d, .int .i64 f.B.n, .int .i64 f.B.s, .int .u8 f.B.z, .int .i64 f.B.v, .string f.B.t], .int .i64 t] w fun e w' => e = .returned (.tuple #[.agg #[.int .i64 trZ.t, .int .i64 trZ.o, .bool trZ.d, .string trZ.a], .int .i64 er]) ∧ Below w.heap.size w w') :=
  ⟨fun w hL hT => at_run f t trZ trZ er A w hL hT, fun w hL hT => next_run f t trZ trZ er A w hL hT⟩

/-- the foot of known. -/
def fK : Ft := ⟨true, 0, 3600, ⟨3, 1, 0, 0, 3600, 117, 3600, ⟨#[67, 69, 83, 84]⟩⟩, ⟨10, 1, 0, 0, 3600, 117, 0, ⟨#[67, 69, 84]⟩⟩⟩
def fZ : Ft := ⟨false, 0, 0, ⟨0, 0, 0, 0, 0, 0, 0, ⟨#[]⟩⟩, ⟨0, 0, 0, 0, 0, 0, 0, ⟨#[]⟩⟩⟩
theorem okK : okF fK = true := by decide +kernel
theorem okZ : okF fZ = false := by decide +kernel
theorem sK1 : (sh1 fK 2024).t = 1711846800 ∧ (sh1 fK 2024).o = 7200 ∧ (sh1 fK 2024).d = true ∧ (sh1 fK 2024).a = ⟨#[67, 69, 83, 84]⟩ := by decide +kernel
theorem sK2 : (sh2 fK 2024).t = 1729990800 ∧ (sh2 fK 2024).o = 3600 ∧ (sh2 fK 2024).d = false ∧ (sh2 fK 2024).a = ⟨#[67, 69, 84]⟩ := by decide +kernel
def trP : Tr := ⟨1711846800, 7200, true, ⟨#[67, 69, 83, 84]⟩⟩
def trQ : Tr := ⟨1729990800, 3600, false, ⟨#[67, 69, 84]⟩⟩
theorem tr_ext {x y : Tr} (h : x.t = y.t ∧ x.o = y.o ∧ x.d = y.d ∧ x.a = y.a) : x = y := by
  obtain ⟨a, b, c, d⟩ := x
  obtain ⟨a', b', c', d'⟩ := y
  obtain ⟨h1, h2, h3, h4⟩ := h
  subst h1 h2 h3 h4
  rfl
theorem eK1 : sh1 fK 2024 = trP := tr_ext sK1
theorem eK2 : sh2 fK 2024 = trQ := tr_ext sK2
theorem yK : YAt 1711846800 2024 := .inl ⟨by decide, by decide, by decide⟩
theorem stK : St fK 1711846800 4048 := by
  refine ⟨by omega, by omega, ?_, ?_⟩
  · rw [show (4048 : Int) = 2 * 2024 by omega, gs_0, eK1]; decide
  · rw [show (4048 : Int) + 1 = 2 * 2024 + 1 by omega, gs_1, eK2]; decide

theorem bx_of_own {W : World} {b : Nat} {e : TypeId} {sz n : Nat} {v : Value} {xs : List Value} (h : W.ownsRow b e sz v n xs) (hn : 0 < n) : ∃ g cap, v = .slice (some ⟨g, 0, none⟩) n cap ∧ b ≤ g ∧ Bx W g xs ∧ n ≤ cap := by
  rcases h.2 with ⟨_, h0⟩ | ⟨g, cap, cur, rfl, hb, hg, hc, _, _, ht⟩
  · omega
  · refine ⟨g, cap, rfl, hb, ⟨(Array.getElem?_eq_some_iff.1 hg).1, fun i u hu => ⟨?_, by simp [World.frozen?, hg]⟩⟩, hc⟩
    simp only [World.cell?, hg]
    rw [← ht] at hu
    have hi : i < n * sz := by
      have := (List.getElem?_eq_some_iff.1 hu).1
      simp at this
      omega
    rw [List.getElem?_take_of_lt hi] at hu
    simpa using hu

set_option maxRecDepth 100000 in
set_option maxHeartbeats 8000000 in
theorem known_run
    (YR : Hid (∀ w : World, Cvl.Lens w → Clk.Tab w → Calls Tryd.prog 9 #[.agg #[.bool true, .int .i64 0, .int .i64 3600, .int .i64 3, .int .i64 1, .int .i64 0, .int .i64 0, .int .i64 3600, .int .u8 117, .int .i64 3600, .string ⟨#[67, 69, 83, 84]⟩, .int .i64 10, .int .i64 1, .int .i64 0, .int .i64 0, .int .i64 3600, .int .u8 117, .int .i64 0, .string ⟨#[67, 69, 84]⟩], .int .i64 2024] w fun e w' => ∃ g cap, e = .returned (.tuple #[.slice (some ⟨g, 0, none⟩) 2 cap, .int .i64 0]) ∧ Bx w' g [.int .i64 1711846800, .int .i64 7200, .bool true, .string ⟨#[67, 69, 83, 84]⟩, .int .i64 1729990800, .int .i64 3600, .bool false, .string ⟨#[67, 69, 84]⟩] ∧ Below w.heap.size w w'))
    (AT : Hid (∀ w : World, Cvl.Lens w → Clk.Tab w → Calls Tryd.prog 14 #[.agg #[.bool true, .int .i64 0, .int .i64 3600, .int .i64 3, .int .i64 1, .int .i64 0, .int .i64 0, .int .i64 3600, .int .u8 117, .int .i64 3600, .string ⟨#[67, 69, 83, 84]⟩, .int .i64 10, .int .i64 1, .int .i64 0, .int .i64 0, .int .i64 3600, .int .u8 117, .int .i64 0, .string ⟨#[67, 69, 84]⟩], .int .i64 1711846800] w fun e w' => e = .returned (.tuple #[.agg #[.int .i64 1711846800, .int .i64 7200, .bool true, .string ⟨#[67, 69, 83, 84]⟩], .int .i64 0]) ∧ Below w.heap.size w w'))
    (NX : Hid (∀ w : World, Cvl.Lens w → Clk.Tab w → Calls Tryd.prog 16 #[.agg #[.bool true, .int .i64 0, .int .i64 3600, .int .i64 3, .int .i64 1, .int .i64 0, .int .i64 0, .int .i64 3600, .int .u8 117, .int .i64 3600, .string ⟨#[67, 69, 83, 84]⟩, .int .i64 10, .int .i64 1, .int .i64 0, .int .i64 0, .int .i64 3600, .int .u8 117, .int .i64 0, .string ⟨#[67, 69, 84]⟩], .int .i64 1711846800] w fun e w' => e = .returned (.tuple #[.agg #[.int .i64 1729990800, .int .i64 3600, .bool false, .string ⟨#[67, 69, 84]⟩], .int .i64 0]) ∧ Below w.heap.size w w'))
    (AZ : Hid (∀ w : World, Cvl.Lens w → Clk.Tab w → Calls Tryd.prog 14 #[.agg #[.bool false, .int .i64 0, .int .i64 0, .int .i64 0, .int .i64 0, .int .i64 0, .int .i64 0, .int .i64 0, .int .u8 0, .int .i64 0, .string ⟨#[]⟩, .int .i64 0, .int .i64 0, .int .i64 0, .int .i64 0, .int .i64 0, .int .u8 0, .int .i64 0, .string ⟨#[]⟩], .int .i64 0] w fun e w' => e = .returned (.tuple #[.agg #[.int .i64 0, .int .i64 0, .bool false, .string ⟨#[]⟩], .int .i64 1]) ∧ Below w.heap.size w w'))
    (w : World) (hL0 : Hid (Cvl.Lens w)) (hT0 : Hid (Clk.Tab w)) :
    Calls Tryd.prog 13 #[] w fun e w' => e = .returned (.bool true) ∧ Below w.heap.size w w' := by
  have HB : Hid (Below w.heap.size w (((w.alloc (.cells #[.int .i64 3, .int .i64 1, .int .i64 0, .int .i64 0, .int .i64 3600, .int .u8 117, .int .i64 3600, .string ⟨#[67, 69, 83, 84]⟩] 37)).alloc (.cells #[.int .i64 10, .int .i64 1, .int .i64 0, .int .i64 0, .int .i64 3600, .int .u8 117, .int .i64 0, .string ⟨#[67, 69, 84]⟩] 37)).alloc (.cells #[.bool false, .int .i64 0, .int .i64 0, .int .i64 0, .int .i64 0, .int .i64 0, .int .i64 0, .int .i64 0, .int .u8 0, .int .i64 0, .string ⟨#[]⟩, .int .i64 0, .int .i64 0, .int .i64 0, .int .i64 0, .int .i64 0, .int .u8 0, .int .i64 0, .string ⟨#[]⟩] 39))) := ((((Below.refl _ _).alloc (by simp <;> omega) _).alloc (by simp <;> omega) _).alloc (by simp <;> omega) _)
  have X0 : Hid (Bx (((w.alloc (.cells #[.int .i64 3, .int .i64 1, .int .i64 0, .int .i64 0, .int .i64 3600, .int .u8 117, .int .i64 3600, .string ⟨#[67, 69, 83, 84]⟩] 37)).alloc (.cells #[.int .i64 10, .int .i64 1, .int .i64 0, .int .i64 0, .int .i64 3600, .int .u8 117, .int .i64 0, .string ⟨#[67, 69, 84]⟩] 37)).alloc (.cells #[.bool false, .int .i64 0, .int .i64 0, .int .i64 0, .int .i64 0, .int .i64 0, .int .i64 0, .int .i64 0, .int .u8 0, .int .i64 0, .string ⟨#[]⟩, .int .i64 0, .int .i64 0, .int .i64 0, .int .i64 0, .int .i64 0, .int .u8 0, .int .i64 0, .string ⟨#[]⟩] 39)) (w.heap.size) ([.int .i64 3, .int .i64 1, .int .i64 0, .int .i64 0, .int .i64 3600, .int .u8 117, .int .i64 3600, .string ⟨#[67, 69, 83, 84]⟩])) := (((Bx.newAt w ([.int .i64 3, .int .i64 1, .int .i64 0, .int .i64 0, .int .i64 3600, .int .u8 117, .int .i64 3600, .string ⟨#[67, 69, 83, 84]⟩]) _ _ (by simp)).alloc _).alloc _)
  have X1 : Hid (Bx (((w.alloc (.cells #[.int .i64 3, .int .i64 1, .int .i64 0, .int .i64 0, .int .i64 3600, .int .u8 117, .int .i64 3600, .string ⟨#[67, 69, 83, 84]⟩] 37)).alloc (.cells #[.int .i64 10, .int .i64 1, .int .i64 0, .int .i64 0, .int .i64 3600, .int .u8 117, .int .i64 0, .string ⟨#[67, 69, 84]⟩] 37)).alloc (.cells #[.bool false, .int .i64 0, .int .i64 0, .int .i64 0, .int .i64 0, .int .i64 0, .int .i64 0, .int .i64 0, .int .u8 0, .int .i64 0, .string ⟨#[]⟩, .int .i64 0, .int .i64 0, .int .i64 0, .int .i64 0, .int .i64 0, .int .u8 0, .int .i64 0, .string ⟨#[]⟩] 39)) (w.heap.size + 1) ([.int .i64 10, .int .i64 1, .int .i64 0, .int .i64 0, .int .i64 3600, .int .u8 117, .int .i64 0, .string ⟨#[67, 69, 84]⟩])) := ((Bx.newAt (w.alloc (.cells #[.int .i64 3, .int .i64 1, .int .i64 0, .int .i64 0, .int .i64 3600, .int .u8 117, .int .i64 3600, .string ⟨#[67, 69, 83, 84]⟩] 37)) ([.int .i64 10, .int .i64 1, .int .i64 0, .int .i64 0, .int .i64 3600, .int .u8 117, .int .i64 0, .string ⟨#[67, 69, 84]⟩]) _ _ (by simp)).alloc _)
  have X2 : Hid (Bx (((w.alloc (.cells #[.int .i64 3, .int .i64 1, .int .i64 0, .int .i64 0, .int .i64 3600, .int .u8 117, .int .i64 3600, .string ⟨#[67, 69, 83, 84]⟩] 37)).alloc (.cells #[.int .i64 10, .int .i64 1, .int .i64 0, .int .i64 0, .int .i64 3600, .int .u8 117, .int .i64 0, .string ⟨#[67, 69, 84]⟩] 37)).alloc (.cells #[.bool false, .int .i64 0, .int .i64 0, .int .i64 0, .int .i64 0, .int .i64 0, .int .i64 0, .int .i64 0, .int .u8 0, .int .i64 0, .string ⟨#[]⟩, .int .i64 0, .int .i64 0, .int .i64 0, .int .i64 0, .int .i64 0, .int .u8 0, .int .i64 0, .string ⟨#[]⟩] 39)) (w.heap.size + 1 + 1) (zF)) := (Bx.newAt ((w.alloc (.cells #[.int .i64 3, .int .i64 1, .int .i64 0, .int .i64 0, .int .i64 3600, .int .u8 117, .int .i64 3600, .string ⟨#[67, 69, 83, 84]⟩] 37)).alloc (.cells #[.int .i64 10, .int .i64 1, .int .i64 0, .int .i64 0, .int .i64 3600, .int .u8 117, .int .i64 0, .string ⟨#[67, 69, 84]⟩] 37)) (zF) _ _ (by simp))
  go_enter Tryd.func13, Tryd.ntmps13
  go_wp2_with (first | (refine wpList_store_mid rfl 39 _ _ rfl (w.heap.size + 1 + 1) 0 #[.bool true, .int .i64 0, .int .i64 3600, .int .i64 3, .int .i64 1, .int .i64 0, .int .i64 0, .int .i64 3600, .int .u8 117, .int .i64 3600, .string ⟨#[67, 69, 83, 84]⟩, .int .i64 10, .int .i64 1, .int .i64 0, .int .i64 0, .int .i64 3600, .int .u8 117, .int .i64 0, .string ⟨#[67, 69, 84]⟩] rfl rfl X2.out.there (by kernel_rfl) (fL_one fK) ?_; refine gen_list (fun V => Bx V (w.heap.size + 1 + 1) [.bool true, .int .i64 0, .int .i64 3600, .int .i64 3, .int .i64 1, .int .i64 0, .int .i64 0, .int .i64 3600, .int .u8 117, .int .i64 3600, .string ⟨#[67, 69, 83, 84]⟩, .int .i64 10, .int .i64 1, .int .i64 0, .int .i64 0, .int .i64 3600, .int .u8 117, .int .i64 0, .string ⟨#[67, 69, 84]⟩] ∧ Below w.heap.size w V) ⟨X2.out.setAll (fL fK) rfl, below_setCells (by omega) _ _ _ HB.out⟩ ?_; clear X0 X1 X2 HB; rintro V ⟨E0, B0⟩) | (refine wpList_load_mid rfl 39 _ rfl (w.heap.size + 1 + 1) 0 rfl [.bool true, .int .i64 0, .int .i64 3600, .int .i64 3, .int .i64 1, .int .i64 0, .int .i64 0, .int .i64 3600, .int .u8 117, .int .i64 3600, .string ⟨#[67, 69, 83, 84]⟩, .int .i64 10, .int .i64 1, .int .i64 0, .int .i64 0, .int .i64 3600, .int .u8 117, .int .i64 0, .string ⟨#[67, 69, 84]⟩] _ E0.all Tryd.underlying39 rfl (by kernel_rfl) ?_) | fail)
  refine (YR.out _ (bel_lens B0 hL0.out) (hT0.out.below B0)).mono ?_
  rintro e w1 ⟨g, cap, rfl, R1, hb⟩
  have B1 : Hid (Below w.heap.size w w1) := B0.trans (hb.mono B0.size)
  have E1 : Hid (Bx w1 (w.heap.size + 1 + 1) [.bool true, .int .i64 0, .int .i64 3600, .int .i64 3, .int .i64 1, .int .i64 0, .int .i64 0, .int .i64 3600, .int .u8 117, .int .i64 3600, .string ⟨#[67, 69, 83, 84]⟩, .int .i64 10, .int .i64 1, .int .i64 0, .int .i64 0, .int .i64 3600, .int .u8 117, .int .i64 0, .string ⟨#[67, 69, 84]⟩]) := E0.below hb
  have H1 : Hid (Bx w1 g [.int .i64 1711846800, .int .i64 7200, .bool true, .string ⟨#[67, 69, 83, 84]⟩, .int .i64 1729990800, .int .i64 3600, .bool false, .string ⟨#[67, 69, 84]⟩]) := R1
  clear E0 B0 hb R1 YR
  go_wp2_with (first | (refine wpList_load_mid rfl 39 _ rfl (w.heap.size + 1 + 1) 0 rfl [.bool true, .int .i64 0, .int .i64 3600, .int .i64 3, .int .i64 1, .int .i64 0, .int .i64 0, .int .i64 3600, .int .u8 117, .int .i64 3600, .string ⟨#[67, 69, 83, 84]⟩, .int .i64 10, .int .i64 1, .int .i64 0, .int .i64 0, .int .i64 3600, .int .u8 117, .int .i64 0, .string ⟨#[67, 69, 84]⟩] _ E1.out.all Tryd.underlying39 rfl (by kernel_rfl) ?_) | fail)
  refine (AT.out _ (bel_lens B1.out hL0.out) (hT0.out.below B1.out)).mono ?_
  rintro e w2 ⟨rfl, hb⟩
  have B2 : Hid (Below w.heap.size w (w2.alloc (.cells #[.int .i64 1711846800, .int .i64 7200, .bool true, .string ⟨#[67, 69, 83, 84]⟩] 46))) := (B1.out.trans (hb.mono B1.out.size)).alloc (B1.out.trans (hb.mono B1.out.size)).size _
  have E2 : Hid (Bx (w2.alloc (.cells #[.int .i64 1711846800, .int .i64 7200, .bool true, .string ⟨#[67, 69, 83, 84]⟩] 46)) (w.heap.size + 1 + 1) [.bool true, .int .i64 0, .int .i64 3600, .int .i64 3, .int .i64 1, .int .i64 0, .int .i64 0, .int .i64 3600, .int .u8 117, .int .i64 3600, .string ⟨#[67, 69, 83, 84]⟩, .int .i64 10, .int .i64 1, .int .i64 0, .int .i64 0, .int .i64 3600, .int .u8 117, .int .i64 0, .string ⟨#[67, 69, 84]⟩]) := (E1.out.below hb).alloc _
  have H2 : Hid (Bx (w2.alloc (.cells #[.int .i64 1711846800, .int .i64 7200, .bool true, .string ⟨#[67, 69, 83, 84]⟩] 46)) g [.int .i64 1711846800, .int .i64 7200, .bool true, .string ⟨#[67, 69, 83, 84]⟩, .int .i64 1729990800, .int .i64 3600, .bool false, .string ⟨#[67, 69, 84]⟩]) := (H1.out.below hb).alloc _
  have P2 : Hid (Bx (w2.alloc (.cells #[.int .i64 1711846800, .int .i64 7200, .bool true, .string ⟨#[67, 69, 83, 84]⟩] 46)) w2.heap.size [.int .i64 1711846800, .int .i64 7200, .bool true, .string ⟨#[67, 69, 83, 84]⟩]) := Bx.new _ [.int .i64 1711846800, .int .i64 7200, .bool true, .string ⟨#[67, 69, 83, 84]⟩] _
  clear E1 B1 hb H1 AT
  go_wp2_with (first | (refine wpList_load_mid rfl 39 _ rfl (w.heap.size + 1 + 1) 0 rfl [.bool true, .int .i64 0, .int .i64 3600, .int .i64 3, .int .i64 1, .int .i64 0, .int .i64 0, .int .i64 3600, .int .u8 117, .int .i64 3600, .string ⟨#[67, 69, 83, 84]⟩, .int .i64 10, .int .i64 1, .int .i64 0, .int .i64 0, .int .i64 3600, .int .u8 117, .int .i64 0, .string ⟨#[67, 69, 84]⟩] _ E2.out.all Tryd.underlying39 rfl (by kernel_rfl) ?_) | fail)
  refine (NX.out _ (bel_lens B2.out hL0.out) (hT0.out.below B2.out)).mono ?_
  rintro e w3 ⟨rfl, hb⟩
  have B3 : Hid (Below w.heap.size w (w3.alloc (.cells #[.int .i64 1729990800, .int .i64 3600, .bool false, .string ⟨#[67, 69, 84]⟩] 46))) := (B2.out.trans (hb.mono B2.out.size)).alloc (B2.out.trans (hb.mono B2.out.size)).size _
  have H3 : Hid (Bx (w3.alloc (.cells #[.int .i64 1729990800, .int .i64 3600, .bool false, .string ⟨#[67, 69, 84]⟩] 46)) g [.int .i64 1711846800, .int .i64 7200, .bool true, .string ⟨#[67, 69, 83, 84]⟩, .int .i64 1729990800, .int .i64 3600, .bool false, .string ⟨#[67, 69, 84]⟩]) := (H2.out.below hb).alloc _
  have P3 : Hid (Bx (w3.alloc (.cells #[.int .i64 1729990800, .int .i64 3600, .bool false, .string ⟨#[67, 69, 84]⟩] 46)) w2.heap.size [.int .i64 1711846800, .int .i64 7200, .bool true, .string ⟨#[67, 69, 83, 84]⟩]) := (P2.out.below hb).alloc _
  have Q3 : Hid (Bx (w3.alloc (.cells #[.int .i64 1729990800, .int .i64 3600, .bool false, .string ⟨#[67, 69, 84]⟩] 46)) w3.heap.size [.int .i64 1729990800, .int .i64 3600, .bool false, .string ⟨#[67, 69, 84]⟩]) := Bx.new _ [.int .i64 1729990800, .int .i64 3600, .bool false, .string ⟨#[67, 69, 84]⟩] _
  clear E2 B2 hb H2 P2 NX
  go_wp2_with fail
  refine (AZ.out _ (bel_lens B3.out hL0.out) (hT0.out.below B3.out)).mono ?_
  rintro e w4 ⟨rfl, hb⟩
  have B4 : Hid (Below w.heap.size w (w4.alloc (.cells #[.int .i64 0, .int .i64 0, .bool false, .string ⟨#[]⟩] 46))) := (B3.out.trans (hb.mono B3.out.size)).alloc (B3.out.trans (hb.mono B3.out.size)).size _
  have H4 : Hid (Bx (w4.alloc (.cells #[.int .i64 0, .int .i64 0, .bool false, .string ⟨#[]⟩] 46)) g [.int .i64 1711846800, .int .i64 7200, .bool true, .string ⟨#[67, 69, 83, 84]⟩, .int .i64 1729990800, .int .i64 3600, .bool false, .string ⟨#[67, 69, 84]⟩]) := (H3.out.below hb).alloc _
  have P4 : Hid (Bx (w4.alloc (.cells #[.int .i64 0, .int .i64 0, .bool false, .string ⟨#[]⟩] 46)) w2.heap.size [.int .i64 1711846800, .int .i64 7200, .bool true, .string ⟨#[67, 69, 83, 84]⟩]) := (P3.out.below hb).alloc _
  have Q4 : Hid (Bx (w4.alloc (.cells #[.int .i64 0, .int .i64 0, .bool false, .string ⟨#[]⟩] 46)) w3.heap.size [.int .i64 1729990800, .int .i64 3600, .bool false, .string ⟨#[67, 69, 84]⟩]) := (Q3.out.below hb).alloc _
  clear B3 hb H3 P3 Q3 AZ
  go_wp2_with fail
  refine gen_code (fun V => Bx V g [.int .i64 1711846800, .int .i64 7200, .bool true, .string ⟨#[67, 69, 83, 84]⟩, .int .i64 1729990800, .int .i64 3600, .bool false, .string ⟨#[67, 69, 84]⟩] ∧ Bx V w2.heap.size [.int .i64 1711846800, .int .i64 7200, .bool true, .string ⟨#[67, 69, 83, 84]⟩] ∧ Bx V w3.heap.size [.int .i64 1729990800, .int .i64 3600, .bool false, .string ⟨#[67, 69, 84]⟩] ∧ Below w.heap.size w V) ⟨H4.out, P4.out, Q4.out, B4.out⟩ ?_
  clear H4 P4 Q4 B4
  rintro V5 ⟨H5, P5, Q5, B5⟩
  have r0 := H5.c 0 rfl
  have r1 := H5.c 1 rfl
  have r2 := H5.c 2 rfl
  have r3 := H5.c 3 rfl
  have r4 := H5.c 4 rfl
  have r5 := H5.c 5 rfl
  have r6 := H5.c 6 rfl
  have r7 := H5.c 7 rfl
  have p0 := P5.c 0 rfl
  have q0 := Q5.c 0 rfl
  have p1 := P5.c 1 rfl
  have q1 := Q5.c 1 rfl
  have p2 := P5.c 2 rfl
  have q2 := Q5.c 2 rfl
  have p3 := P5.c 3 rfl
  have q3 := Q5.c 3 rfl
  have BH : Hid (Below w.heap.size w V5) := B5
  clear H5 P5 Q5 B5
  go_quiet (fail)
  go_wp2
  go_ret
  first | exact ⟨rfl, BH.out⟩ | exact ⟨rfl, BH.out.trans (Joins.below_draws _ _ _)⟩

theorem known_any (w : World) (hL0 : Cvl.Lens w) (hT0 : Clk.Tab w) :
    Calls Tryd.prog 13 #[] w fun e w' => e = .returned (.bool true) ∧ Below w.heap.size w w' := by
  obtain ⟨j, hS, hA, hN⟩ := stand_ok fK 1711846800 2024 okK yK (by omega) (by omega) (by omega) (by omega)
  obtain rfl := hS.one (lh_of okK) stK
  have g0 : gs fK 4048 = trP := by rw [show (4048 : Int) = 2 * 2024 by omega, gs_0, eK1]
  have g1 : gs fK (4048 + 1) = trQ := by rw [show (4048 : Int) + 1 = 2 * 2024 + 1 by omega, gs_1, eK2]
  rw [g0] at hA
  rw [g1] at hN
  have Z := stand_no fZ 0 1 (fun w hL hT => around_arg fZ 0 okZ w hL hT)
  refine known_run (fun w hL hT => ?_) hA hN Z.1 w hL0 hT0
  refine (year_ok fK 2024 okK (by unfold dyY; omega) w hL hT).mono ?_
  rintro e w' ⟨v, rfl, hr, hb⟩
  rw [eK1, eK2] at hr
  obtain ⟨g, cap, rfl, _, hx, _⟩ := bx_of_own hr (by omega)
  exact ⟨g, cap, rfl, hx, hb⟩

end Go.Proofs.YthbcicjkmgoliaaDoor
