/- What is carried through the laws' regions: blocks of two integers that stay, and what was made. Contracts of the laws' given and taken. -/
import Derived.Test.YtebjicnjbiiioaaDoorDecK
import Derived.Deep.CutRange
import Derived.Deep.DeepCutAuto
namespace Go.Proofs.YtebjicnjbiiioaaDoor
open Go.RowKit
set_option linter.unusedVariables false

/-- what lay stays, and these blocks hold these numbers. -/
def LS (w : World) (l : List (Nat × Int × Int)) (W : World) : Prop := Below w.heap.size w W ∧ ∀ x ∈ l, Box W x.1 x.2.1 x.2.2
/-- a block that was made holds these two numbers; it is none of the others. -/
def NB (w : World) (l : List (Nat × Int × Int)) (b : Nat) (n s : Int) (W : World) : Prop := Box W b n s ∧ w.heap.size ≤ b ∧ ∀ x ∈ l, x.1 < b

theorem LS.below {w W v : World} {l : List (Nat × Int × Int)} (h : LS w l W) (hb : Below W.heap.size W v) : LS w l v :=
  ⟨h.1.trans (hb.mono h.1.size), fun x hx => (h.2 x hx).below hb (h.2 x hx).1⟩
theorem LS.drew {w W : World} {l : List (Nat × Int × Int)} (h : LS w l W) : LS w l W.drew := ⟨h.1.drew, h.2⟩
theorem LS.alloc {w W : World} {l : List (Nat × Int × Int)} (h : LS w l W) (o : Obj) : LS w l (W.alloc o) :=
  ⟨h.1.alloc h.1.size o, fun x hx => (h.2 x hx).alloc o⟩
theorem LS.allocd {w W : World} {l : List (Nat × Int × Int)} (h : LS w l W) (o : Obj) : LS w l (W.alloc o).drew := (h.alloc o).drew
theorem LS.set {w W : World} {l : List (Nat × Int × Int)} {b : Nat} {n s : Int} (h : LS w l W) (hn : NB w l b n s W) (x y : Value) : LS w l ((W.setCell ⟨b, 0, none⟩ x).setCell ⟨b, 1, none⟩ y) :=
  ⟨(h.1.setCell hn.2.1 _).setCell hn.2.1 _, fun q hq => (h.2 q hq).other (Nat.ne_of_gt (hn.2.2 q hq)) _ _⟩
theorem LS.more {w W : World} {l : List (Nat × Int × Int)} {b : Nat} {n s : Int} (h : LS w l W) (hn : NB w l b n s W) : LS w ((b, n, s) :: l) W :=
  ⟨h.1, fun q hq => by
    rcases List.mem_cons.1 hq with rfl | hq
    · exact hn.1
    · exact h.2 q hq⟩
theorem Box.newT (W : World) (n s : Int) (t : TypeId) : Box (W.alloc (.cells #[.int .i64 n, .int .i64 s] t)) W.heap.size n s :=
  ⟨by simp, by rw [World.cell?_alloc_at _ _ _ _ rfl]; rfl, by rw [World.cell?_alloc_at _ _ _ _ rfl]; rfl, by rw [World.frozen?_alloc_at _ _ _ _ rfl], by rw [World.frozen?_alloc_at _ _ _ _ rfl]⟩
theorem LS.new {w W : World} {l : List (Nat × Int × Int)} (h : LS w l W) (n s : Int) (t : TypeId) : NB w l W.heap.size n s (W.alloc (.cells #[.int .i64 n, .int .i64 s] t)) :=
  ⟨Box.newT _ _ _ _, h.1.size, fun x hx => (h.2 x hx).1⟩
theorem LS.newd {w W : World} {l : List (Nat × Int × Int)} (h : LS w l W.drew) (n s : Int) (t : TypeId) : NB w l W.heap.size n s (W.alloc (.cells #[.int .i64 n, .int .i64 s] t)).drew := h.new n s t
theorem NB.below {w W v : World} {l : List (Nat × Int × Int)} {b : Nat} {n s : Int} (h : NB w l b n s W) (hb : Below W.heap.size W v) : NB w l b n s v :=
  ⟨h.1.below hb h.1.1, h.2⟩
theorem NB.set {w W : World} {l : List (Nat × Int × Int)} {b : Nat} {n s : Int} (h : NB w l b n s W) (n' s' : Int) : NB w l b n' s' ((W.setCell ⟨b, 0, none⟩ (.int .i64 n')).setCell ⟨b, 1, none⟩ (.int .i64 s')) :=
  ⟨h.1.set _ _, h.2⟩
theorem LS.start (w : World) (xn xs yn ys : Int) (t : TypeId) : LS w [(w.heap.size, xn, xs), (w.heap.size + 1, yn, ys)] ((w.alloc (.cells #[.int .i64 xn, .int .i64 xs] t)).alloc (.cells #[.int .i64 yn, .int .i64 ys] t)) :=
  ⟨((Below.refl _ _).alloc (Nat.le_refl _) _).alloc (by simp) _, fun q hq => by
    rcases List.mem_cons.1 hq with rfl | hq
    · exact (Box.newT w xn xs t).alloc _
    · rcases List.mem_cons.1 hq with rfl | hq
      · have := Box.newT (w.alloc (.cells #[.int .i64 xn, .int .i64 xs] t)) yn ys t; simpa using this
      · cases hq⟩

set_option maxHeartbeats 400000 in
theorem given_any (n s : Int) (w : World) :
    Calls Tryd.prog 10 #[.agg #[.int .i64 n, .int .i64 s]] w fun e w' => e = .returned (.agg #[.int .i64 n, .int .i64 s]) ∧ Below w.heap.size w w' := by
  go_enter Tryd.func10, Tryd.ntmps10
  go_wp2
  first
    | exact bodyPost_ret (v := .agg #[.int .i64 n, .int .i64 s]) (by simp [results, Tryd.results10, go_sem]) rfl ⟨rfl, (by repeat' (first | assumption | exact Below.refl _ _ | exact Nat.le_refl _ | refine Below.alloc ?_ ?_ _ | (simp; done) | (simp; omega) | omega))⟩
    | (go_region; all_goals (go_wp2; exact bodyPost_ret (v := .agg #[.int .i64 n, .int .i64 s]) (by simp [results, Tryd.results10, go_sem]) rfl ⟨rfl, (by repeat' (first | assumption | exact Below.refl _ _ | exact Nat.le_refl _ | refine Below.alloc ?_ ?_ _ | (simp; done) | (simp; omega) | omega))⟩))

set_option maxHeartbeats 400000 in
theorem taken_any (n s : Int) (w : World) :
    Calls Tryd.prog 14 #[.agg #[.int .i64 n, .int .i64 s]] w fun e w' => e = .returned (.agg #[.int .i64 n, .int .i64 s]) ∧ Below w.heap.size w w' := by
  go_enter Tryd.func14, Tryd.ntmps14
  go_wp2
  first
    | exact bodyPost_ret (v := .agg #[.int .i64 n, .int .i64 s]) (by simp [results, Tryd.results14, go_sem]) rfl ⟨rfl, (by repeat' (first | assumption | exact Below.refl _ _ | exact Nat.le_refl _ | refine Below.alloc ?_ ?_ _ | (simp; done) | (simp; omega) | omega))⟩
    | (go_region; all_goals (go_wp2; exact bodyPost_ret (v := .agg #[.int .i64 n, .int .i64 s]) (by simp [results, Tryd.results14, go_sem]) rfl ⟨rfl, (by repeat' (first | assumption | exact Below.refl _ _ | exact Nat.le_refl _ | refine Below.alloc ?_ ?_ _ | (simp; done) | (simp; omega) | omega))⟩))

end Go.Proofs.YtebjicnjbiiioaaDoor
