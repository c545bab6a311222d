import Derived.Test.YtaoocecipacnhaaDoorX8
import Derived.WalkKit
import Derived.ProofKit
import Derived.Deep.Cut
import Derived.Deep.CutRange
import Derived.Deep.DeepCutAuto
open Go.Value renaming int → vi, string → vS, slice → vL
open Go.IntKind renaming i64 → ki
open List renaming setIfInBounds_toArray → zb, set_cons_zero → zc, set_cons_succ → zd, length_cons → zl
open Go.Act renaming put → za
open Go.Ending renaming returned → zr
set_option maxRecDepth 100000
set_option maxHeartbeats 16000000
set_option linter.all false
namespace Go.Proofs.YtaoocecipacnhaaDoor
open Go.RowKit
theorem F2.get {α β : Type} {R : α → β → Prop} {l : List α} {m : List β} (h : F2 R l m) : ∀ {j : Nat} {x : α}, l[j]? = some x → ∃ y, m[j]? = some y ∧ R x y := by
 induction h with
 | nil => intro j x e; simp at e
 | @cons a b l m h1 h2 ih =>
  intro j x e
  cases j with
  | zero => simp at e; subst e; exact ⟨b, rfl, h1⟩
  | succ j => exact ih (by simpa using e)
theorem F2.length {α β : Type} {R : α → β → Prop} {l : List α} {m : List β} (h : F2 R l m) : l.length = m.length := by
 induction h with
 | nil => rfl
 | cons h1 h2 ih => simp [ih]
inductive AlP (pl : Bool) : Nd → Nd → Prop where
 | mk (k : Int) (t : ByteArray) (ks ls : List Nd) (a b : Int) (h : F2 (AlP pl) ks ls) (hp : pl = true → a = b) : AlP pl (.mk k t ks a) (.mk k t ls b)
theorem AlP.symm (n : Nd) : ∀ m, AlP false m n → AlP false n m := by
 have hn := PlN.all n
 induction hn with
 | mk k t ks a ha hk ih =>
  intro m h
  cases h with
  | mk _ _ ls _ b _ h _ =>
   refine .mk k t ks ls a b ?_ (by simp)
   clear ha hk
   induction h with
   | nil => exact .nil
   | cons h1 h2 i => exact .cons (ih _ (by simp) _ h1) (i (fun x hx => ih x (by simp [hx])))
theorem NdAt.kids {X : Nat → Prop} {w : World} {k : Int} {t : ByteArray} {ks : List Nd} {a : Int} {c0 c1 c2 c3 : Value} (h : NdAt X w (.mk k t ks a) [c0, c1, c2, c3]) : c0 = vi ki k ∧ c1 = vS t ∧ c3 = vi ki a ∧ ∃ sq sc, c2 = vL sq ks.length sc ∧ ks.length ≤ 9223372036854775807 ∧ Hid (∀ j n, ks[j]? = some n → ∃ b, sq = some ⟨b, 0, none⟩ ∧ ks.length ≤ sc ∧ X b ∧ b < w.heap.size ∧ ∃ d0 d1 d2 d3, w.cell? ⟨b, j * 4, none⟩ = some d0 ∧ w.cell? ⟨b, j * 4 + 1, none⟩ = some d1 ∧ w.cell? ⟨b, j * 4 + 2, none⟩ = some d2 ∧ w.cell? ⟨b, j * 4 + 3, none⟩ = some d3 ∧ NdAt X w n [d0, d1, d2, d3]) := by
 rw [NdAt] at h
 obtain ⟨sv, hcs, hv⟩ := h
 simp only [List.cons.injEq, and_true] at hcs
 obtain ⟨rfl, rfl, rfl, rfl⟩ := hcs
 refine ⟨rfl, rfl, rfl, ?_⟩
 rcases hv with ⟨q1, q2⟩ | ⟨b, cap, e1, e0, e2, e3, e4, e5, e6⟩
 ·subst q1; exact ⟨none, 0, q2, by simp, fun j n e => by simp at e⟩
 ·refine ⟨some ⟨b, 0, none⟩, cap, e1, by unfold maxLen at e3; omega, fun j n e => ⟨b, rfl, e2, e4, e5, ?_⟩⟩
  have q := RwAt.get ks 0 j n e6 e
  rw [Nat.zero_add] at q
  exact q
theorem same_any (pl : Bool) (n : Nd) : ∀ m, AlP pl n m → ∀ (X Y : Nat → Prop) (w : World) (c0 c1 c2 c3 d0 d1 d2 d3 : Value), NdAt X w n [c0, c1, c2, c3] → NdAt Y w m [d0, d1, d2, d3] →
  Calls Tryd.prog 7 #[.agg #[c0, c1, c2, c3], .agg #[d0, d1, d2, d3], .bool pl] w fun e w' => e = zr (.bool true) ∧ Below w.heap.size w w' := by
 have hn := PlN.all n
 induction hn with
 | mk k t ks a ha hk ih =>
  intro m hm X Y w c0 c1 c2 c3 d0 d1 d2 d3 h1 h2
  obtain ⟨ls, b, rfl, hF, hpl⟩ : ∃ ls b, m = .mk k t ls b ∧ F2 (AlP pl) ks ls ∧ (pl = true → a = b) := by
   cases hm with
   | mk _ _ _ ls _ b h hp => exact ⟨ls, b, rfl, h, hp⟩
  obtain ⟨rfl, rfl, rfl, sq, sc, rfl, hkl, HG1⟩ := h1.kids
  obtain ⟨rfl, rfl, rfl, sq2, sc2, rfl, -, HG2⟩ := h2.kids
  rw [← hF.length] at HG2 ⊢
  have HI : Hid _ := ih
  have hklI : (ks.length : Int) ≤ 9223372036854775807 := by omega
  clear hk ih ha h1 h2 hm
  cases pl with
  | false =>
   clear hpl
   go_enter Tryd.func7, Tryd.ntmps7
   go_wp2_with fail
   go_loopw [7] (fun i W => ∃ (j : Nat), i = vi ki (j : Int) ∧ j ≤ ks.length ∧ Hid (BS w [(w.heap.size + 1, [vi ki k, vS t, vL sq2 ks.length sc2, vi ki b]), (w.heap.size, [vi ki k, vS t, vL sq ks.length sc, vi ki a])] W)) (fun i _ => ks.length - (intOf i).toNat)
   case atStart => exact ⟨0, rfl, Nat.zero_le _, ((BS.start w).new [vi ki k, vS t, vL sq ks.length sc, vi ki a] _ rfl).new [vi ki k, vS t, vL sq2 ks.length sc2, vi ki b] _ (by simp)⟩
   case round =>
    obtain ⟨j, rfl, hj, KB⟩ := hrel
    have x2 := (KB.out.at (w.heap.size) [vi ki k, vS t, vL sq ks.length sc, vi ki a] (by simp)).c 2 rfl
    have hlt1 := (KB.out.at (w.heap.size) [vi ki k, vS t, vL sq ks.length sc, vi ki a] (by simp)).1
    have hj0 : (0 : Int) ≤ (j : Int) := by omega
    by_cases hjl : j < ks.length
    ·have hjI : (j : Int) < (ks.length : Int) := by omega
     have hjw : IntKind.i64.wrap ((j : Int) + 1) = (j : Int) + 1 := by rw [IntKind.wrap_i64]; omega
     obtain ⟨y, hy, hxy⟩ := hF.get (List.getElem?_eq_getElem hjl)
     obtain ⟨r1, rfl, hsc1, -, hr1, d0, d1, d2, d3, y0, y1, y2, y3, hn1⟩ := HG1.out j _ (List.getElem?_eq_getElem hjl)
     obtain ⟨r2, rfl, hsc2, -, hr2, e0, e1, e2, e3, z0, z1, z2, z3, hn2⟩ := HG2.out j _ hy
     have HC : Hid (∀ V : World, Below w.heap.size w V → Calls Tryd.prog 7 #[.agg #[d0, d1, d2, d3], .agg #[e0, e1, e2, e3], .bool false] V fun e w' => e = zr (.bool true) ∧ Below V.heap.size V w') := fun V hV => HI.out _ (List.getElem_mem hjl) y hxy X Y V d0 d1 d2 d3 e0 e1 e2 e3 (hn1.below hV) (hn2.below hV)
     clear hn1 hn2 HI HG1 HG2 hy hxy
     go_upto_region 6 with fail
     refine wp_region_held_drew (S := BS w [(w.heap.size + 1, [vi ki k, vS t, vL (some ⟨r2, 0, none⟩) ks.length sc2, vi ki b]), (w.heap.size, [vi ki k, vS t, vL (some ⟨r1, 0, none⟩) ks.length sc, vi ki a])]) (by kernel_rfl) KB.out.drew (fun hHeld => ?_)
     refine tks 0 ?_
     simp only [za, zb, zc, zd]
     refine tk (v := ?_) 1 ?_ ?_
     case refine_2 => (intro w9 hSw; have q2 := bsc hSw 1 2; have q3 := bsc hSw 0 2; have g1 := (hSw.at (w.heap.size) [vi ki k, vS t, vL (some ⟨r1, 0, none⟩) ks.length sc, vi ki a] (by simp)).1; have g2 := (hSw.at (w.heap.size + 1) [vi ki k, vS t, vL (some ⟨r2, 0, none⟩) ks.length sc2, vi ki b] (by simp)).1; have hz := hSw.1.size; have l0 := (hSw.1.cell (p := ⟨r1, j * 4, none⟩) hr1).trans y0; have l1 := (hSw.1.cell (p := ⟨r1, j * 4 + 1, none⟩) hr1).trans y1; have l2 := (hSw.1.cell (p := ⟨r1, j * 4 + 2, none⟩) hr1).trans y2; have l3 := (hSw.1.cell (p := ⟨r1, j * 4 + 3, none⟩) hr1).trans y3; have m0 := (hSw.1.cell (p := ⟨r2, j * 4, none⟩) hr2).trans z0; have m1 := (hSw.1.cell (p := ⟨r2, j * 4 + 1, none⟩) hr2).trans z1; have m2 := (hSw.1.cell (p := ⟨r2, j * 4 + 2, none⟩) hr2).trans z2; have m3 := (hSw.1.cell (p := ⟨r2, j * 4 + 3, none⟩) hr2).trans z3; have o1 : r1 < w9.heap.size := (by omega); have o2 : r2 < w9.heap.size := (by omega); clear hSw; go_simp; try with_reducible rfl)
     simp only [za, zb, zc, zd]
     refine tks 2 ?_
     simp only [za, zb, zc, zd]
     refine tks 3 ?_
     simp only [za, zb, zc, zd]
     refine tk (v := ?_) 4 ?_ ?_
     case refine_2 => (intro w9 hSw; have q2 := bsc hSw 1 2; have q3 := bsc hSw 0 2; have g1 := (hSw.at (w.heap.size) [vi ki k, vS t, vL (some ⟨r1, 0, none⟩) ks.length sc, vi ki a] (by simp)).1; have g2 := (hSw.at (w.heap.size + 1) [vi ki k, vS t, vL (some ⟨r2, 0, none⟩) ks.length sc2, vi ki b] (by simp)).1; have hz := hSw.1.size; have l0 := (hSw.1.cell (p := ⟨r1, j * 4, none⟩) hr1).trans y0; have l1 := (hSw.1.cell (p := ⟨r1, j * 4 + 1, none⟩) hr1).trans y1; have l2 := (hSw.1.cell (p := ⟨r1, j * 4 + 2, none⟩) hr1).trans y2; have l3 := (hSw.1.cell (p := ⟨r1, j * 4 + 3, none⟩) hr1).trans y3; have m0 := (hSw.1.cell (p := ⟨r2, j * 4, none⟩) hr2).trans z0; have m1 := (hSw.1.cell (p := ⟨r2, j * 4 + 1, none⟩) hr2).trans z1; have m2 := (hSw.1.cell (p := ⟨r2, j * 4 + 2, none⟩) hr2).trans z2; have m3 := (hSw.1.cell (p := ⟨r2, j * 4 + 3, none⟩) hr2).trans z3; have o1 : r1 < w9.heap.size := (by omega); have o2 : r2 < w9.heap.size := (by omega); clear hSw; go_simp; try with_reducible rfl)
     simp only [za, zb, zc, zd]
     refine tks 5 ?_
     simp only [za, zb, zc, zd]
     refine tk (v := ?_) 6 ?_ ?_
     case refine_2 => (intro w9 hSw; have q2 := bsc hSw 1 2; have q3 := bsc hSw 0 2; have g1 := (hSw.at (w.heap.size) [vi ki k, vS t, vL (some ⟨r1, 0, none⟩) ks.length sc, vi ki a] (by simp)).1; have g2 := (hSw.at (w.heap.size + 1) [vi ki k, vS t, vL (some ⟨r2, 0, none⟩) ks.length sc2, vi ki b] (by simp)).1; have hz := hSw.1.size; have l0 := (hSw.1.cell (p := ⟨r1, j * 4, none⟩) hr1).trans y0; have l1 := (hSw.1.cell (p := ⟨r1, j * 4 + 1, none⟩) hr1).trans y1; have l2 := (hSw.1.cell (p := ⟨r1, j * 4 + 2, none⟩) hr1).trans y2; have l3 := (hSw.1.cell (p := ⟨r1, j * 4 + 3, none⟩) hr1).trans y3; have m0 := (hSw.1.cell (p := ⟨r2, j * 4, none⟩) hr2).trans z0; have m1 := (hSw.1.cell (p := ⟨r2, j * 4 + 1, none⟩) hr2).trans z1; have m2 := (hSw.1.cell (p := ⟨r2, j * 4 + 2, none⟩) hr2).trans z2; have m3 := (hSw.1.cell (p := ⟨r2, j * 4 + 3, none⟩) hr2).trans z3; have o1 : r1 < w9.heap.size := (by omega); have o2 : r2 < w9.heap.size := (by omega); clear hSw; go_simp; try with_reducible rfl)
     simp only [za, zb, zc, zd]
     refine tks 7 ?_
     simp only [za, zb, zc, zd]
     refine tks 8 ?_
     simp only [za, zb, zc, zd]
     refine tk (v := ?_) 9 ?_ ?_
     case refine_2 => (intro w9 hSw; have q2 := bsc hSw 1 2; have q3 := bsc hSw 0 2; have g1 := (hSw.at (w.heap.size) [vi ki k, vS t, vL (some ⟨r1, 0, none⟩) ks.length sc, vi ki a] (by simp)).1; have g2 := (hSw.at (w.heap.size + 1) [vi ki k, vS t, vL (some ⟨r2, 0, none⟩) ks.length sc2, vi ki b] (by simp)).1; have hz := hSw.1.size; have l0 := (hSw.1.cell (p := ⟨r1, j * 4, none⟩) hr1).trans y0; have l1 := (hSw.1.cell (p := ⟨r1, j * 4 + 1, none⟩) hr1).trans y1; have l2 := (hSw.1.cell (p := ⟨r1, j * 4 + 2, none⟩) hr1).trans y2; have l3 := (hSw.1.cell (p := ⟨r1, j * 4 + 3, none⟩) hr1).trans y3; have m0 := (hSw.1.cell (p := ⟨r2, j * 4, none⟩) hr2).trans z0; have m1 := (hSw.1.cell (p := ⟨r2, j * 4 + 1, none⟩) hr2).trans z1; have m2 := (hSw.1.cell (p := ⟨r2, j * 4 + 2, none⟩) hr2).trans z2; have m3 := (hSw.1.cell (p := ⟨r2, j * 4 + 3, none⟩) hr2).trans z3; have o1 : r1 < w9.heap.size := (by omega); have o2 : r2 < w9.heap.size := (by omega); clear hSw; go_simp; try with_reducible rfl)
     simp only [za, zb, zc, zd]
     refine tks 10 ?_
     simp only [za, zb, zc, zd]
     refine rd 11 (fun K hK => ?_)
     go_simp
     refine (HC.out _ hHeld.1).mono ?_
     rintro e v1 ⟨rfl, hb1⟩
     refine hK.out _ _ (hHeld.below hb1) (fun hHeld => ?_)
     clear hK K hb1
     refine tks 12 ?_
     simp only [za, zb, zc, zd]
     refine dn ?_
     have HF := hZz hHeld
     clear hHeld HC
     go_wp2_with fail
     go_roundw
     case rel => exact ⟨j + 1, by go_num, by omega, HF⟩
     case measure => simp [intOf]; omega
    ·have hjI : ¬ (j : Int) < (ks.length : Int) := by omega
     go_wp2
     go_ret
     exact ⟨rfl, KB.out.1⟩
  | true =>
   obtain rfl := hpl rfl
   clear hpl
   go_enter Tryd.func7, Tryd.ntmps7
   go_wp2_with fail
   go_loopw [7] (fun i W => ∃ (j : Nat), i = vi ki (j : Int) ∧ j ≤ ks.length ∧ Hid (BS w [(w.heap.size + 1, [vi ki k, vS t, vL sq2 ks.length sc2, vi ki a]), (w.heap.size, [vi ki k, vS t, vL sq ks.length sc, vi ki a])] W)) (fun i _ => ks.length - (intOf i).toNat)
   case atStart => exact ⟨0, rfl, Nat.zero_le _, ((BS.start w).new [vi ki k, vS t, vL sq ks.length sc, vi ki a] _ rfl).new [vi ki k, vS t, vL sq2 ks.length sc2, vi ki a] _ (by simp)⟩
   case round =>
    obtain ⟨j, rfl, hj, KB⟩ := hrel
    have x2 := (KB.out.at (w.heap.size) [vi ki k, vS t, vL sq ks.length sc, vi ki a] (by simp)).c 2 rfl
    have hlt1 := (KB.out.at (w.heap.size) [vi ki k, vS t, vL sq ks.length sc, vi ki a] (by simp)).1
    have hj0 : (0 : Int) ≤ (j : Int) := by omega
    by_cases hjl : j < ks.length
    ·have hjI : (j : Int) < (ks.length : Int) := by omega
     have hjw : IntKind.i64.wrap ((j : Int) + 1) = (j : Int) + 1 := by rw [IntKind.wrap_i64]; omega
     obtain ⟨y, hy, hxy⟩ := hF.get (List.getElem?_eq_getElem hjl)
     obtain ⟨r1, rfl, hsc1, -, hr1, d0, d1, d2, d3, y0, y1, y2, y3, hn1⟩ := HG1.out j _ (List.getElem?_eq_getElem hjl)
     obtain ⟨r2, rfl, hsc2, -, hr2, e0, e1, e2, e3, z0, z1, z2, z3, hn2⟩ := HG2.out j _ hy
     have HC : Hid (∀ V : World, Below w.heap.size w V → Calls Tryd.prog 7 #[.agg #[d0, d1, d2, d3], .agg #[e0, e1, e2, e3], .bool true] V fun e w' => e = zr (.bool true) ∧ Below V.heap.size V w') := fun V hV => HI.out _ (List.getElem_mem hjl) y hxy X Y V d0 d1 d2 d3 e0 e1 e2 e3 (hn1.below hV) (hn2.below hV)
     clear hn1 hn2 HI HG1 HG2 hy hxy
     go_upto_region 6 with fail
     refine wp_region_held_drew (S := BS w [(w.heap.size + 1, [vi ki k, vS t, vL (some ⟨r2, 0, none⟩) ks.length sc2, vi ki a]), (w.heap.size, [vi ki k, vS t, vL (some ⟨r1, 0, none⟩) ks.length sc, vi ki a])]) (by kernel_rfl) KB.out.drew (fun hHeld => ?_)
     refine tks 0 ?_
     simp only [za, zb, zc, zd]
     refine tk (v := ?_) 1 ?_ ?_
     case refine_2 => (intro w9 hSw; have q2 := bsc hSw 1 2; have q3 := bsc hSw 0 2; have g1 := (hSw.at (w.heap.size) [vi ki k, vS t, vL (some ⟨r1, 0, none⟩) ks.length sc, vi ki a] (by simp)).1; have g2 := (hSw.at (w.heap.size + 1) [vi ki k, vS t, vL (some ⟨r2, 0, none⟩) ks.length sc2, vi ki a] (by simp)).1; have hz := hSw.1.size; have l0 := (hSw.1.cell (p := ⟨r1, j * 4, none⟩) hr1).trans y0; have l1 := (hSw.1.cell (p := ⟨r1, j * 4 + 1, none⟩) hr1).trans y1; have l2 := (hSw.1.cell (p := ⟨r1, j * 4 + 2, none⟩) hr1).trans y2; have l3 := (hSw.1.cell (p := ⟨r1, j * 4 + 3, none⟩) hr1).trans y3; have m0 := (hSw.1.cell (p := ⟨r2, j * 4, none⟩) hr2).trans z0; have m1 := (hSw.1.cell (p := ⟨r2, j * 4 + 1, none⟩) hr2).trans z1; have m2 := (hSw.1.cell (p := ⟨r2, j * 4 + 2, none⟩) hr2).trans z2; have m3 := (hSw.1.cell (p := ⟨r2, j * 4 + 3, none⟩) hr2).trans z3; have o1 : r1 < w9.heap.size := (by omega); have o2 : r2 < w9.heap.size := (by omega); clear hSw; go_simp; try with_reducible rfl)
     simp only [za, zb, zc, zd]
     refine tks 2 ?_
     simp only [za, zb, zc, zd]
     refine tks 3 ?_
     simp only [za, zb, zc, zd]
     refine tk (v := ?_) 4 ?_ ?_
     case refine_2 => (intro w9 hSw; have q2 := bsc hSw 1 2; have q3 := bsc hSw 0 2; have g1 := (hSw.at (w.heap.size) [vi ki k, vS t, vL (some ⟨r1, 0, none⟩) ks.length sc, vi ki a] (by simp)).1; have g2 := (hSw.at (w.heap.size + 1) [vi ki k, vS t, vL (some ⟨r2, 0, none⟩) ks.length sc2, vi ki a] (by simp)).1; have hz := hSw.1.size; have l0 := (hSw.1.cell (p := ⟨r1, j * 4, none⟩) hr1).trans y0; have l1 := (hSw.1.cell (p := ⟨r1, j * 4 + 1, none⟩) hr1).trans y1; have l2 := (hSw.1.cell (p := ⟨r1, j * 4 + 2, none⟩) hr1).trans y2; have l3 := (hSw.1.cell (p := ⟨r1, j * 4 + 3, none⟩) hr1).trans y3; have m0 := (hSw.1.cell (p := ⟨r2, j * 4, none⟩) hr2).trans z0; have m1 := (hSw.1.cell (p := ⟨r2, j * 4 + 1, none⟩) hr2).trans z1; have m2 := (hSw.1.cell (p := ⟨r2, j * 4 + 2, none⟩) hr2).trans z2; have m3 := (hSw.1.cell (p := ⟨r2, j * 4 + 3, none⟩) hr2).trans z3; have o1 : r1 < w9.heap.size := (by omega); have o2 : r2 < w9.heap.size := (by omega); clear hSw; go_simp; try with_reducible rfl)
     simp only [za, zb, zc, zd]
     refine tks 5 ?_
     simp only [za, zb, zc, zd]
     refine tk (v := ?_) 6 ?_ ?_
     case refine_2 => (intro w9 hSw; have q2 := bsc hSw 1 2; have q3 := bsc hSw 0 2; have g1 := (hSw.at (w.heap.size) [vi ki k, vS t, vL (some ⟨r1, 0, none⟩) ks.length sc, vi ki a] (by simp)).1; have g2 := (hSw.at (w.heap.size + 1) [vi ki k, vS t, vL (some ⟨r2, 0, none⟩) ks.length sc2, vi ki a] (by simp)).1; have hz := hSw.1.size; have l0 := (hSw.1.cell (p := ⟨r1, j * 4, none⟩) hr1).trans y0; have l1 := (hSw.1.cell (p := ⟨r1, j * 4 + 1, none⟩) hr1).trans y1; have l2 := (hSw.1.cell (p := ⟨r1, j * 4 + 2, none⟩) hr1).trans y2; have l3 := (hSw.1.cell (p := ⟨r1, j * 4 + 3, none⟩) hr1).trans y3; have m0 := (hSw.1.cell (p := ⟨r2, j * 4, none⟩) hr2).trans z0; have m1 := (hSw.1.cell (p := ⟨r2, j * 4 + 1, none⟩) hr2).trans z1; have m2 := (hSw.1.cell (p := ⟨r2, j * 4 + 2, none⟩) hr2).trans z2; have m3 := (hSw.1.cell (p := ⟨r2, j * 4 + 3, none⟩) hr2).trans z3; have o1 : r1 < w9.heap.size := (by omega); have o2 : r2 < w9.heap.size := (by omega); clear hSw; go_simp; try with_reducible rfl)
     simp only [za, zb, zc, zd]
     refine tks 7 ?_
     simp only [za, zb, zc, zd]
     refine tks 8 ?_
     simp only [za, zb, zc, zd]
     refine tk (v := ?_) 9 ?_ ?_
     case refine_2 => (intro w9 hSw; have q2 := bsc hSw 1 2; have q3 := bsc hSw 0 2; have g1 := (hSw.at (w.heap.size) [vi ki k, vS t, vL (some ⟨r1, 0, none⟩) ks.length sc, vi ki a] (by simp)).1; have g2 := (hSw.at (w.heap.size + 1) [vi ki k, vS t, vL (some ⟨r2, 0, none⟩) ks.length sc2, vi ki a] (by simp)).1; have hz := hSw.1.size; have l0 := (hSw.1.cell (p := ⟨r1, j * 4, none⟩) hr1).trans y0; have l1 := (hSw.1.cell (p := ⟨r1, j * 4 + 1, none⟩) hr1).trans y1; have l2 := (hSw.1.cell (p := ⟨r1, j * 4 + 2, none⟩) hr1).trans y2; have l3 := (hSw.1.cell (p := ⟨r1, j * 4 + 3, none⟩) hr1).trans y3; have m0 := (hSw.1.cell (p := ⟨r2, j * 4, none⟩) hr2).trans z0; have m1 := (hSw.1.cell (p := ⟨r2, j * 4 + 1, none⟩) hr2).trans z1; have m2 := (hSw.1.cell (p := ⟨r2, j * 4 + 2, none⟩) hr2).trans z2; have m3 := (hSw.1.cell (p := ⟨r2, j * 4 + 3, none⟩) hr2).trans z3; have o1 : r1 < w9.heap.size := (by omega); have o2 : r2 < w9.heap.size := (by omega); clear hSw; go_simp; try with_reducible rfl)
     simp only [za, zb, zc, zd]
     refine tks 10 ?_
     simp only [za, zb, zc, zd]
     refine rd 11 (fun K hK => ?_)
     go_simp
     refine (HC.out _ hHeld.1).mono ?_
     rintro e v1 ⟨rfl, hb1⟩
     refine hK.out _ _ (hHeld.below hb1) (fun hHeld => ?_)
     clear hK K hb1
     refine tks 12 ?_
     simp only [za, zb, zc, zd]
     refine dn ?_
     have HF := hZz hHeld
     clear hHeld HC
     go_wp2_with fail
     go_roundw
     case rel => exact ⟨j + 1, by go_num, by omega, HF⟩
     case measure => simp [intOf]; omega
    ·have hjI : ¬ (j : Int) < (ks.length : Int) := by omega
     go_wp2
     go_ret
     exact ⟨rfl, KB.out.1⟩
theorem infoRNode : (Tryd.prog.info? 30).map (fun i => (i.zero, i.size, i.bytes)) = some (some (.agg #[vi ki 0, vS ByteArray.empty, vL none 0 0, vi ki 0]), 4, 56) := by kernel_rfl
theorem wp_append_new {P : Program} {w : World} {o : Oper} {a : Act} {K : Act → World → Prop} {Q : Exit → Act → World → Prop} (s x : Operand) (t : TypeId)
  (ho : o.op = .call { callee := .builtin .append, args := #[s, x], argTypes := #[t, t] })
  (base : Nat) (e : TypeId) (i : TypeInfo) (z : Value) (size bytes : Nat) (ht : P.underlying t = some (.slice e)) (hi : P.info? e = some i) (hz : i.zero = some z)
  (hsize : i.size = size) (hby : i.bytes = bytes) (hzs : z.cells.size = size) (hsz : 0 < size)
  (v : Value) (n : Nat) (xs : List Value) (hs : a.eval s = v) (hown : w.ownsRow base e size v n xs)
  (ad : Addr) (c : Nat) (news : List Value) (hx : a.eval x = vL (some ad) 1 c) (hl : news.length = 1 * size) (hnews : ∀ j u, news[j]? = some u → w.cell? (ad.add j) = some u) (h1 : ∀ u ∈ news, u.oneCell' = true)
  (h63 : n + 1 ≤ maxLen) (hbytes : (n + 1) * bytes ≤ 140737488355328) (hbase : base ≤ w.heap.size)
  (h : ∀ v' w', w'.ownsRow base e size v' (n + 1) (xs ++ news) → w.grownBy w' v.ownBlock → (∀ k, v'.ownBlock = some k → v.ownBlock = some k ∨ k = w.heap.size) → K (a.put o.dst v') w') : o.wp P a w K Q := by
 obtain ⟨v', w', hr, h2, h3, h4⟩ := append_new (P := P) w base t o.type e i z size bytes ht hi hz hsize hby hzs hsz v n xs hown ad c news hl hnews h1 h63 hbytes hbase
 unfold Oper.wp
 simp [execOp, ho, resolve, invoke, builtin, hs, hx, hr, Result.andThen]
 exact h v' w' h2 h3 h4
def TkL (w : World) (C : List Value) (k : Int) (t : ByteArray) (a : Int) (acc : List Nd) (sq : Option Addr) (sn sc : Nat) (xs : List Value) (V : World) : Prop :=
 Below w.heap.size w V ∧ Bx V w.heap.size C ∧ Bx V (w.heap.size + 1) [vi ki 0, vS ⟨#[]⟩, vL none 0 0, vi ki 0] ∧ Bx V (w.heap.size + 2) [vi ki k, vS t, vL sq sn sc, vi ki a] ∧ V.ownsRow (w.heap.size + 3) 30 4 (vL sq sn sc) acc.length xs ∧ KidsL (fun c => w.heap.size + 3 ≤ c ∧ (Value.slice sq sn sc).ownBlock ≠ some c) V acc xs ∧ (acc = [] → sq = none ∧ sn = 0 ∧ sc = 0)
theorem TkL.below {w : World} {C : List Value} {k : Int} {t : ByteArray} {a : Int} {acc : List Nd} {sq : Option Addr} {sn sc : Nat} {xs : List Value} {V : World} {V' : World} (h : TkL w C k t a acc sq sn sc xs V) (hb : Below V.heap.size V V') : TkL w C k t a acc sq sn sc xs V' :=
 ⟨h.1.trans (hb.mono h.1.size), h.2.1.below hb, h.2.2.1.below hb, h.2.2.2.1.below hb, ownsRow_keep h.2.2.2.2.1 (fun c _ hl => hb.block c hl), KidsL.keep hb.size (fun c hc hl => ⟨hc, hb.block c hl⟩) _ _ h.2.2.2.2.2.1, h.2.2.2.2.2.2⟩
theorem TkL.ob {w : World} {C : List Value} {k : Int} {t : ByteArray} {a : Int} {acc : List Nd} {sq : Option Addr} {sn sc : Nat} {xs : List Value} {V : World} (h : TkL w C k t a acc sq sn sc xs V) {c : Nat} (hc : (Value.slice sq sn sc).ownBlock = some c) : w.heap.size + 3 ≤ c ∧ c < V.heap.size := ob_lt h.2.2.2.2.1 hc
theorem TkL.bl {w : World} {C : List Value} {k : Int} {t : ByteArray} {a : Int} {acc : List Nd} {sq : Option Addr} {sn sc : Nat} {xs : List Value} {V : World} {V' : World} (h : TkL w C k t a acc sq sn sc xs V) (hgr : V.grownBy V' (Value.slice sq sn sc).ownBlock) {b : Nat} {l : List Value} (hb : b < w.heap.size + 3) (hB : Bx V b l) : Bx V' b l := by
 have q := hgr.block b hB.1 (fun e => by have := (h.ob e.symm).1; omega)
 exact ⟨Nat.lt_of_lt_of_le hB.1 hgr.size, fun i v e => ⟨(World.cell?_of_block (w := V) (a := ⟨b, i, none⟩) q).trans (hB.2 i v e).1, (World.frozen?_of_block (w := V) (a := ⟨b, i, none⟩) q).trans (hB.2 i v e).2⟩⟩
theorem TkL.low {w : World} {C : List Value} {k : Int} {t : ByteArray} {a : Int} {acc : List Nd} {sq : Option Addr} {sn sc : Nat} {xs : List Value} {V : World} {V' : World} (h : TkL w C k t a acc sq sn sc xs V) (hgr : V.grownBy V' (Value.slice sq sn sc).ownBlock) : Below w.heap.size w V' :=
 ⟨hgr.os.trans h.1.os, hgr.tape.trans h.1.tape, hgr.output.trans h.1.output, Nat.le_trans h.1.size hgr.size, fun c hc => (hgr.block c (Nat.lt_of_lt_of_le hc h.1.size) (fun e => by have := (h.ob e.symm).1; omega)).trans (h.1.block c hc)⟩
theorem TkL.more {w : World} {C : List Value} {k : Int} {t : ByteArray} {a : Int} {acc : List Nd} {sq : Option Addr} {sn sc : Nat} {xs : List Value} {V : World} {V' : World} {sq' : Option Addr} {sn' sc' : Nat} {n : Nd} {c0 c1 c2 c3 : Value} (h : TkL w C k t a acc sq sn sc xs V) (hn : NdAt (fun c => w.heap.size + 3 ≤ c ∧ (Value.slice sq sn sc).ownBlock ≠ some c) V n [c0, c1, c2, c3]) (hgr : V.grownBy V' (Value.slice sq sn sc).ownBlock)
  (hnew : ∀ c, (Value.slice sq' sn' sc').ownBlock = some c → (Value.slice sq sn sc).ownBlock = some c ∨ c = V.heap.size) (hown : V'.ownsRow (w.heap.size + 3) 30 4 (vL sq' sn' sc') (acc.length + 1) (xs ++ [c0, c1, c2, c3])) :
  TkL w C k t a (acc ++ [n]) sq' sn' sc' (xs ++ [c0, c1, c2, c3]) (V'.setCell ⟨w.heap.size + 2, 2, none⟩ (vL sq' sn' sc')) := by
 have hz := h.2.2.2.1.1
 have k2 : ∀ c, c ≠ w.heap.size + 2 → (V'.setCell ⟨w.heap.size + 2, 2, none⟩ (vL sq' sn' sc')).heap[c]? = V'.heap[c]? := fun c hc => Below.heap_setCell _ _ _ _ hc
 refine ⟨(h.low hgr).setCell (p := ⟨w.heap.size + 2, 2, none⟩) (by show _ ≤ w.heap.size + 2; omega) _, (h.bl hgr (by omega) h.2.1).setOther (by omega) [_] 2, (h.bl hgr (by omega) h.2.2.1).setOther (by omega) [_] 2, (h.bl hgr (by omega) h.2.2.2.1).set1 2 _ (by simp), ?_, ?_, by simp⟩
 ·rw [List.length_append]; exact ownsRow_keep hown (fun c h1 h2 => k2 c (by omega))
 ·refine KidsL.keep (w := V) (by simpa using hgr.size) (fun c hc hl => ⟨⟨hc.1, fun e => (hnew c e).elim (fun q => hc.2 q) (fun q => by omega)⟩, ?_⟩) _ _ (KidsL.snoc hn _ _ h.2.2.2.2.2.1)
  rw [k2 c (by omega)]
  exact hgr.block c hl (fun e => hc.2 e.symm)
theorem TkL.node {w : World} {C : List Value} {k : Int} {t : ByteArray} {a : Int} {acc : List Nd} {sq : Option Addr} {sn sc : Nat} {xs : List Value} {V : World} (h : TkL w C k t a acc sq sn sc xs V) : NdAt (fun c => w.heap.size + 3 ≤ c) V (.mk k t acc a) [vi ki k, vS t, vL sq sn sc, vi ki a] := by
 cases hacc : acc with
 | nil =>
  obtain ⟨rfl, rfl, rfl⟩ := h.2.2.2.2.2.2 hacc
  exact NdAt.leaf _ _ _ _ _
 | cons m l =>
  have h0 : 0 < acc.length := by rw [hacc]; simp
  rw [← hacc]
  have hown := h.2.2.2.2.1
  rcases hown.2 with ⟨e, h1⟩ | ⟨g1, cp, cur, e, h1, h2, h3, h4, h5, h6⟩
  ·omega
  ·cases e
   have hlt := (Array.getElem?_eq_some_iff.1 h2).1
   refine NdAt.row h0 h3 h4 h1 hlt (KidsL.row acc xs 0 (fun j v hv => ?_) (KidsL.keep (Nat.le_refl _) (fun c hc _ => ⟨hc.1, rfl⟩) _ _ h.2.2.2.2.2.1))
   have hj := (List.getElem?_eq_some_iff.1 hv).1
   rw [hown.1] at hj
   rw [Nat.zero_mul, Nat.zero_add, hown.cellAt j hj]; exact hv
theorem bdrew (W : World) : Below W.heap.size W W.drew := ⟨rfl, rfl, rfl, Nat.le_refl _, fun _ _ => rfl⟩
theorem bs_set2 {w W : World} {l : List (Nat × List Value)} (h : BS w l W) {b : Nat} (hb : w.heap.size ≤ b) (hn : ∀ x ∈ l, x.1 ≠ b) {i : Nat} {v : Value} : BS w l (W.setCell ⟨b, i, none⟩ v) :=
 ⟨h.1.setCell (p := ⟨b, i, none⟩) hb v, fun x hx => ⟨(h.2 x hx).1, (h.2 x hx).2.setOther (hn x hx) [v] i⟩⟩
theorem taken_any (n : Nd) : cnN n ≤ 100000 → ∀ (X : Nat → Prop) (w : World) (c0 c1 c2 c3 : Value), NdAt X w n [c0, c1, c2, c3] →
  Calls Tryd.prog 8 #[.agg #[c0, c1, c2, c3]] w fun e w' => Below w.heap.size w w' ∧ ∃ k t sq sn sc a, e = zr (.agg #[vi ki k, vS t, vL sq sn sc, vi ki a]) ∧ NdAt (fun c => w.heap.size ≤ c) w' n [vi ki k, vS t, vL sq sn sc, vi ki a] := by
 have hn := PlN.all n
 obtain ⟨i0, hi0, iz0, iz1, iz2⟩ := info_parts infoRNode
 induction hn with
 | mk k t ks a ha hk ih =>
  intro hcn X w c0 c1 c2 c3 h1
  obtain ⟨rfl, rfl, rfl, sv, sw, rfl, hkl, HG⟩ := h1.kids
  have HI := hZz ih
  rw [cnN] at hcn
  have hkk : ks.length ≤ 100000 := by have := cnL_len ks; omega
  have HCn : Hid (∀ n ∈ ks, cnN n ≤ 100000) := fun n hn => by have := cnL_mem hn; omega
  have hklI : (ks.length : Int) ≤ 100000 := by omega
  clear hk ih ha h1 hcn
  go_enter Tryd.func8, Tryd.ntmps8
  go_wp2_with fail
  go_loopw [4] (fun i W => ∃ (j : Nat) (sq : Option Addr) (sn sc : Nat) (xs : List Value), i = vi ki (j : Int) ∧ j ≤ ks.length ∧ Hid (TkL w [vi ki k, vS t, vL sv ks.length sw, vi ki a] k t a (ks.take j) sq sn sc xs W)) (fun i _ => ks.length - (intOf i).toNat)
  case atStart =>
   have B := (((BS.start w).new [vi ki k, vS t, vL sv ks.length sw, vi ki a] 24 rfl).new [vi ki 0, vS ⟨#[]⟩, vL none 0 0, vi ki 0] 30 (b := w.heap.size + 1) (by simp)).new [vi ki k, vS t, vL none 0 0, vi ki a] 30 (b := w.heap.size + 2) (by simp)
   exact ⟨0, none, 0, 0, [], rfl, Nat.zero_le _, B.1, B.at (w.heap.size) [vi ki k, vS t, vL sv ks.length sw, vi ki a] (by simp), B.at (w.heap.size + 1) [vi ki 0, vS ⟨#[]⟩, vL none 0 0, vi ki 0] (by simp), B.at (w.heap.size + 2) [vi ki k, vS t, vL none 0 0, vi ki a] (by simp), World.ownsRow_nil _ _ _ _, rfl, fun _ => ⟨rfl, rfl, rfl⟩⟩
  case round =>
   obtain ⟨j, sq, sn, sc, xs, rfl, hj, HS⟩ := hrel
   have x2 := HS.out.2.1.c 2 rfl
   have hlt := HS.out.2.1.1
   have hj0 : (0 : Int) ≤ (j : Int) := by omega
   by_cases hjl : j < ks.length
   ·have hjI : (j : Int) < (ks.length : Int) := by omega
    have hjw : IntKind.i64.wrap ((j : Int) + 1) = (j : Int) + 1 := by rw [IntKind.wrap_i64]; omega
    obtain ⟨r1, rfl, hsc1, -, hr1, d0, d1, d2, d3, y0, y1, y2, y3, hn1⟩ := HG.out j _ (List.getElem?_eq_getElem hjl)
    have HC : Hid (∀ V : World, Below w.heap.size w V → Calls Tryd.prog 8 #[.agg #[d0, d1, d2, d3]] V fun e w' => Below V.heap.size V w' ∧ ∃ k t sq sn sc a, e = zr (.agg #[vi ki k, vS t, vL sq sn sc, vi ki a]) ∧ NdAt (fun c => V.heap.size ≤ c) w' ks[j] [vi ki k, vS t, vL sq sn sc, vi ki a]) := fun V hV => HI.out _ (List.getElem_mem hjl) (HCn.out _ (List.getElem_mem hjl)) X V d0 d1 d2 d3 (hn1.below hV)
    have htk : ks.take (j + 1) = ks.take j ++ [ks[j]] := by rw [List.take_add_one, List.getElem?_eq_getElem hjl]; rfl
    have htl : (ks.take j).length = j := by rw [List.length_take]; omega
    have BB : Hid (BS w [(w.heap.size, [vi ki k, vS t, vL (some ⟨r1, 0, none⟩) ks.length sw, vi ki a])] wr) := ⟨HS.out.1, fun x hx => by simp at hx; subst hx; exact ⟨Nat.le_refl _, HS.out.2.1⟩⟩
    clear hn1 HI HG HCn
    go_upto_region 5 with fail
    have HS2 : Hid (TkL w [vi ki k, vS t, vL (some ⟨r1, 0, none⟩) ks.length sw, vi ki a] k t a (ks.take j) sq sn sc xs wr.drew) := HS.out.below (bdrew _)
    clear HS
    have HS := hZz HS2.out
    clear HS2
    refine wp_region_held_drew (S := BS w [(w.heap.size, [vi ki k, vS t, vL (some ⟨r1, 0, none⟩) ks.length sw, vi ki a])]) (by kernel_rfl) (BB.out).drew (fun hHeld => ?_)
    refine tks 0 ?_
    simp only [za, zb, zc, zd]
    refine tks 2 ?_
    simp only [za, zb, zc, zd]
    refine tk (v := ?_) 3 ?_ ?_
    case refine_2 => (intro w9 hSw; have q2 := bsc hSw 0 2; have g1 := (hSw.at (w.heap.size) [vi ki k, vS t, vL (some ⟨r1, 0, none⟩) ks.length sw, vi ki a] (by simp)).1; have hz := hSw.1.size; have l0 := (hSw.1.cell (p := ⟨r1, j * 4, none⟩) hr1).trans y0; have l1 := (hSw.1.cell (p := ⟨r1, j * 4 + 1, none⟩) hr1).trans y1; have l2 := (hSw.1.cell (p := ⟨r1, j * 4 + 2, none⟩) hr1).trans y2; have l3 := (hSw.1.cell (p := ⟨r1, j * 4 + 3, none⟩) hr1).trans y3; have o1 : r1 < w9.heap.size := (by omega); clear hSw; go_simp; try with_reducible rfl)
    simp only [za, zb, zc, zd]
    refine tks 4 ?_
    simp only [za, zb, zc, zd]
    refine tks 5 ?_
    simp only [za, zb, zc, zd]
    refine tk (v := ?_) 6 ?_ ?_
    case refine_2 => (intro w9 hSw; have q2 := bsc hSw 0 2; have g1 := (hSw.at (w.heap.size) [vi ki k, vS t, vL (some ⟨r1, 0, none⟩) ks.length sw, vi ki a] (by simp)).1; have hz := hSw.1.size; have l0 := (hSw.1.cell (p := ⟨r1, j * 4, none⟩) hr1).trans y0; have l1 := (hSw.1.cell (p := ⟨r1, j * 4 + 1, none⟩) hr1).trans y1; have l2 := (hSw.1.cell (p := ⟨r1, j * 4 + 2, none⟩) hr1).trans y2; have l3 := (hSw.1.cell (p := ⟨r1, j * 4 + 3, none⟩) hr1).trans y3; have o1 : r1 < w9.heap.size := (by omega); clear hSw; go_simp; try with_reducible rfl)
    simp only [za, zb, zc, zd]
    refine rd2 1 7 (fun K hK => ?_) (fun K hK => ?_)
    ·
     have s2 := HS.out.2.2.2.1.c 2 rfl
     have sl := HS.out.2.2.2.1.1
     go_simp
     refine hK.out _ _ hHeld (fun hHeld => ?_)
     clear hK K s2 sl
     refine rd 7 (fun K hK => ?_)
     go_simp
     refine (HC.out _ hHeld.1).mono ?_
     rintro e v2 ⟨hb2, k2, t2, sq2, sn2, sc2, a2, rfl, hnd2⟩
     have HN : Hid (NdAt (fun c => w.heap.size + 3 ≤ c ∧ (Value.slice sq sn sc).ownBlock ≠ some c) v2 ks[j] [vi ki k2, vS t2, vL sq2 sn2 sc2, vi ki a2]) := NdAt.keep (Nat.le_refl _) (fun c hc hl => ⟨⟨by have := HS.out.2.2.2.1.1; omega, fun q => by have := (HS.out.ob q).2; omega⟩, rfl⟩) _ _ hnd2
     have HS2 : Hid (TkL w [vi ki k, vS t, vL (some ⟨r1, 0, none⟩) ks.length sw, vi ki a] k t a (ks.take j) sq sn sc xs v2) := HS.out.below hb2
     clear HS
     have HS := hZz HS2.out
     clear HS2
     refine hK.out _ _ (hHeld.below hb2) (fun hHeld => ?_)
     clear hK K hb2 hnd2
     refine rd 8 (fun K hK => ?_)
     go_simp
     have HX : Hid (Bx (v2.alloc (.cells [vi ki k2, vS t2, vL sq2 sn2 sc2, vi ki a2].toArray 30)) v2.heap.size [vi ki k2, vS t2, vL sq2 sn2 sc2, vi ki a2]) := Bx.new v2 [vi ki k2, vS t2, vL sq2 sn2 sc2, vi ki a2] 30
     have HS2 : Hid (TkL w [vi ki k, vS t, vL (some ⟨r1, 0, none⟩) ks.length sw, vi ki a] k t a (ks.take j) sq sn sc xs (v2.alloc (.cells [vi ki k2, vS t2, vL sq2 sn2 sc2, vi ki a2].toArray 30))) := HS.out.below ((Below.refl _ v2).alloc (Nat.le_refl _) _)
     clear HS
     have HS := hZz HS2.out
     clear HS2
     have HN2 : Hid (NdAt (fun c => w.heap.size + 3 ≤ c ∧ (Value.slice sq sn sc).ownBlock ≠ some c) (v2.alloc (.cells [vi ki k2, vS t2, vL sq2 sn2 sc2, vi ki a2].toArray 30)) ks[j] [vi ki k2, vS t2, vL sq2 sn2 sc2, vi ki a2]) := HN.out.below ((Below.refl _ v2).alloc (Nat.le_refl _) _)
     clear HN
     have HN := hZz HN2.out
     clear HN2
     refine hK.out _ _ (hHeld.alloc _) (fun hHeld => ?_)
     clear hK K
     refine rd 9 (fun K hK => ?_)
     refine (if_pos (by kernel_rfl)).mpr (wp_append_new _ _ 28 rfl (w.heap.size + 3) 30 i0 (.agg #[vi ki 0, vS ByteArray.empty, vL none 0 0, vi ki 0]) 4 56 Tryd.underlying28 hi0 iz0 iz1 iz2 rfl (by decide) (vL sq sn sc) (ks.take j).length xs rfl HS.out.2.2.2.2.1 ⟨v2.heap.size, 0, none⟩ 1 [vi ki k2, vS t2, vL sq2 sn2 sc2, vi ki a2] rfl rfl (fun j u hj => by rw [show (⟨v2.heap.size, 0, none⟩ : Addr).add j = ⟨v2.heap.size, j, none⟩ from by rw [Addr.add_lit]; simp]; exact (HX.out.2 j u hj).1) (by intro u hu; simp at hu; rcases hu with rfl | rfl | rfl | rfl <;> rfl) (by rw [htl]; unfold maxLen; omega) (by rw [htl]; omega) (by have := HS.out.2.2.2.1.1; omega) ?_)
     intro v' w4 hown' hgrow hnew
     obtain ⟨sq', sn', sc', hv'⟩ := own_form hown'
     subst hv'
     have HO : Hid _ := hown'
     have HGr : Hid _ := hgrow
     have HNw : Hid _ := hnew
     have hB4 := HS.out.bl hgrow (by omega) HS.out.2.2.2.1
     have hB5 : BS w [(w.heap.size, [vi ki k, vS t, vL (some ⟨r1, 0, none⟩) ks.length sw, vi ki a])] w4 := ⟨HS.out.low hgrow, fun x hx => by simp at hx; subst hx; exact ⟨Nat.le_refl _, HS.out.bl hgrow (by simp) HS.out.2.1⟩⟩
     have c41 := hB4.c 2 rfl
     have z41 := hB4.f 2 rfl
     have hl4 := hB4.1
     refine hK.out _ _ hB5 (fun hHeld => ?_)
     clear hK K hown' hgrow hnew hB4 hB5 HX
     refine tks 10 ?_
     simp only [za, zb, zc, zd]
     refine rd 11 (fun K hK => ?_)
     go_simp
     refine hK.out _ _ (bs_set2 hHeld (by omega) (by intro x hx; simp at hx; subst hx; show w.heap.size ≠ _; omega)) (fun hHeld => ?_)
     clear hK K c41 z41 hl4
     refine dn ?_
     have HF : Hid (TkL w [vi ki k, vS t, vL (some ⟨r1, 0, none⟩) ks.length sw, vi ki a] k t a (ks.take (j + 1)) sq' sn' sc' (xs ++ [vi ki k2, vS t2, vL sq2 sn2 sc2, vi ki a2]) (w4.setCell ⟨w.heap.size + 2, 2, none⟩ (vL sq' sn' sc'))) := by (have q := HS.out.more HN.out HGr.out HNw.out HO.out; rw [← htk] at q; exact q)
     clear hHeld HC HS HN HGr HNw HO
     go_wp2_with fail
     go_roundw
     case rel => exact ⟨j + 1, sq', sn', sc', _, by go_num, by omega, HF⟩
     case measure => simp [intOf]; omega
    ·
     go_simp
     refine (HC.out _ hHeld.1).mono ?_
     rintro e v6 ⟨hb6, k2, t2, sq2, sn2, sc2, a2, rfl, hnd6⟩
     have HN : Hid (NdAt (fun c => w.heap.size + 3 ≤ c ∧ (Value.slice sq sn sc).ownBlock ≠ some c) v6 ks[j] [vi ki k2, vS t2, vL sq2 sn2 sc2, vi ki a2]) := NdAt.keep (Nat.le_refl _) (fun c hc hl => ⟨⟨by have := HS.out.2.2.2.1.1; omega, fun q => by have := (HS.out.ob q).2; omega⟩, rfl⟩) _ _ hnd6
     have HS2 : Hid (TkL w [vi ki k, vS t, vL (some ⟨r1, 0, none⟩) ks.length sw, vi ki a] k t a (ks.take j) sq sn sc xs v6) := HS.out.below hb6
     clear HS
     have HS := hZz HS2.out
     clear HS2
     refine hK.out _ _ (hHeld.below hb6) (fun hHeld => ?_)
     clear hK K hb6 hnd6
     refine rd2 1 8 (fun K hK => ?_) (fun K hK => ?_)
     ·
      have s2 := HS.out.2.2.2.1.c 2 rfl
      have sl := HS.out.2.2.2.1.1
      go_simp
      refine hK.out _ _ hHeld (fun hHeld => ?_)
      clear hK K s2 sl
      refine rd 8 (fun K hK => ?_)
      go_simp
      have HX : Hid (Bx (v6.alloc (.cells [vi ki k2, vS t2, vL sq2 sn2 sc2, vi ki a2].toArray 30)) v6.heap.size [vi ki k2, vS t2, vL sq2 sn2 sc2, vi ki a2]) := Bx.new v6 [vi ki k2, vS t2, vL sq2 sn2 sc2, vi ki a2] 30
      have HS2 : Hid (TkL w [vi ki k, vS t, vL (some ⟨r1, 0, none⟩) ks.length sw, vi ki a] k t a (ks.take j) sq sn sc xs (v6.alloc (.cells [vi ki k2, vS t2, vL sq2 sn2 sc2, vi ki a2].toArray 30))) := HS.out.below ((Below.refl _ v6).alloc (Nat.le_refl _) _)
      clear HS
      have HS := hZz HS2.out
      clear HS2
      have HN2 : Hid (NdAt (fun c => w.heap.size + 3 ≤ c ∧ (Value.slice sq sn sc).ownBlock ≠ some c) (v6.alloc (.cells [vi ki k2, vS t2, vL sq2 sn2 sc2, vi ki a2].toArray 30)) ks[j] [vi ki k2, vS t2, vL sq2 sn2 sc2, vi ki a2]) := HN.out.below ((Below.refl _ v6).alloc (Nat.le_refl _) _)
      clear HN
      have HN := hZz HN2.out
      clear HN2
      refine hK.out _ _ (hHeld.alloc _) (fun hHeld => ?_)
      clear hK K
      refine rd 9 (fun K hK => ?_)
      refine (if_pos (by kernel_rfl)).mpr (wp_append_new _ _ 28 rfl (w.heap.size + 3) 30 i0 (.agg #[vi ki 0, vS ByteArray.empty, vL none 0 0, vi ki 0]) 4 56 Tryd.underlying28 hi0 iz0 iz1 iz2 rfl (by decide) (vL sq sn sc) (ks.take j).length xs rfl HS.out.2.2.2.2.1 ⟨v6.heap.size, 0, none⟩ 1 [vi ki k2, vS t2, vL sq2 sn2 sc2, vi ki a2] rfl rfl (fun j u hj => by rw [show (⟨v6.heap.size, 0, none⟩ : Addr).add j = ⟨v6.heap.size, j, none⟩ from by rw [Addr.add_lit]; simp]; exact (HX.out.2 j u hj).1) (by intro u hu; simp at hu; rcases hu with rfl | rfl | rfl | rfl <;> rfl) (by rw [htl]; unfold maxLen; omega) (by rw [htl]; omega) (by have := HS.out.2.2.2.1.1; omega) ?_)
      intro v' w4 hown' hgrow hnew
      obtain ⟨sq', sn', sc', hv'⟩ := own_form hown'
      subst hv'
      have HO : Hid _ := hown'
      have HGr : Hid _ := hgrow
      have HNw : Hid _ := hnew
      have hB4 := HS.out.bl hgrow (by omega) HS.out.2.2.2.1
      have hB5 : BS w [(w.heap.size, [vi ki k, vS t, vL (some ⟨r1, 0, none⟩) ks.length sw, vi ki a])] w4 := ⟨HS.out.low hgrow, fun x hx => by simp at hx; subst hx; exact ⟨Nat.le_refl _, HS.out.bl hgrow (by simp) HS.out.2.1⟩⟩
      have c41 := hB4.c 2 rfl
      have z41 := hB4.f 2 rfl
      have hl4 := hB4.1
      refine hK.out _ _ hB5 (fun hHeld => ?_)
      clear hK K hown' hgrow hnew hB4 hB5 HX
      refine tks 10 ?_
      simp only [za, zb, zc, zd]
      refine rd 11 (fun K hK => ?_)
      go_simp
      refine hK.out _ _ (bs_set2 hHeld (by omega) (by intro x hx; simp at hx; subst hx; show w.heap.size ≠ _; omega)) (fun hHeld => ?_)
      clear hK K c41 z41 hl4
      refine dn ?_
      have HF : Hid (TkL w [vi ki k, vS t, vL (some ⟨r1, 0, none⟩) ks.length sw, vi ki a] k t a (ks.take (j + 1)) sq' sn' sc' (xs ++ [vi ki k2, vS t2, vL sq2 sn2 sc2, vi ki a2]) (w4.setCell ⟨w.heap.size + 2, 2, none⟩ (vL sq' sn' sc'))) := by (have q := HS.out.more HN.out HGr.out HNw.out HO.out; rw [← htk] at q; exact q)
      clear hHeld HC HS HN HGr HNw HO
      go_wp2_with fail
      go_roundw
      case rel => exact ⟨j + 1, sq', sn', sc', _, by go_num, by omega, HF⟩
      case measure => simp [intOf]; omega
     ·
      go_simp
      have HX : Hid (Bx (v6.alloc (.cells [vi ki k2, vS t2, vL sq2 sn2 sc2, vi ki a2].toArray 30)) v6.heap.size [vi ki k2, vS t2, vL sq2 sn2 sc2, vi ki a2]) := Bx.new v6 [vi ki k2, vS t2, vL sq2 sn2 sc2, vi ki a2] 30
      have HS2 : Hid (TkL w [vi ki k, vS t, vL (some ⟨r1, 0, none⟩) ks.length sw, vi ki a] k t a (ks.take j) sq sn sc xs (v6.alloc (.cells [vi ki k2, vS t2, vL sq2 sn2 sc2, vi ki a2].toArray 30))) := HS.out.below ((Below.refl _ v6).alloc (Nat.le_refl _) _)
      clear HS
      have HS := hZz HS2.out
      clear HS2
      have HN2 : Hid (NdAt (fun c => w.heap.size + 3 ≤ c ∧ (Value.slice sq sn sc).ownBlock ≠ some c) (v6.alloc (.cells [vi ki k2, vS t2, vL sq2 sn2 sc2, vi ki a2].toArray 30)) ks[j] [vi ki k2, vS t2, vL sq2 sn2 sc2, vi ki a2]) := HN.out.below ((Below.refl _ v6).alloc (Nat.le_refl _) _)
      clear HN
      have HN := hZz HN2.out
      clear HN2
      refine hK.out _ _ (hHeld.alloc _) (fun hHeld => ?_)
      clear hK K
      refine rd 1 (fun K hK => ?_)
      have s2 := HS.out.2.2.2.1.c 2 rfl
      have sl := HS.out.2.2.2.1.1
      go_simp
      refine hK.out _ _ hHeld (fun hHeld => ?_)
      clear hK K s2 sl
      refine rd 9 (fun K hK => ?_)
      refine (if_pos (by kernel_rfl)).mpr (wp_append_new _ _ 28 rfl (w.heap.size + 3) 30 i0 (.agg #[vi ki 0, vS ByteArray.empty, vL none 0 0, vi ki 0]) 4 56 Tryd.underlying28 hi0 iz0 iz1 iz2 rfl (by decide) (vL sq sn sc) (ks.take j).length xs rfl HS.out.2.2.2.2.1 ⟨v6.heap.size, 0, none⟩ 1 [vi ki k2, vS t2, vL sq2 sn2 sc2, vi ki a2] rfl rfl (fun j u hj => by rw [show (⟨v6.heap.size, 0, none⟩ : Addr).add j = ⟨v6.heap.size, j, none⟩ from by rw [Addr.add_lit]; simp]; exact (HX.out.2 j u hj).1) (by intro u hu; simp at hu; rcases hu with rfl | rfl | rfl | rfl <;> rfl) (by rw [htl]; unfold maxLen; omega) (by rw [htl]; omega) (by have := HS.out.2.2.2.1.1; omega) ?_)
      intro v' w4 hown' hgrow hnew
      obtain ⟨sq', sn', sc', hv'⟩ := own_form hown'
      subst hv'
      have HO : Hid _ := hown'
      have HGr : Hid _ := hgrow
      have HNw : Hid _ := hnew
      have hB4 := HS.out.bl hgrow (by omega) HS.out.2.2.2.1
      have hB5 : BS w [(w.heap.size, [vi ki k, vS t, vL (some ⟨r1, 0, none⟩) ks.length sw, vi ki a])] w4 := ⟨HS.out.low hgrow, fun x hx => by simp at hx; subst hx; exact ⟨Nat.le_refl _, HS.out.bl hgrow (by simp) HS.out.2.1⟩⟩
      have c41 := hB4.c 2 rfl
      have z41 := hB4.f 2 rfl
      have hl4 := hB4.1
      refine hK.out _ _ hB5 (fun hHeld => ?_)
      clear hK K hown' hgrow hnew hB4 hB5 HX
      refine tks 10 ?_
      simp only [za, zb, zc, zd]
      refine rd 11 (fun K hK => ?_)
      go_simp
      refine hK.out _ _ (bs_set2 hHeld (by omega) (by intro x hx; simp at hx; subst hx; show w.heap.size ≠ _; omega)) (fun hHeld => ?_)
      clear hK K c41 z41 hl4
      refine dn ?_
      have HF : Hid (TkL w [vi ki k, vS t, vL (some ⟨r1, 0, none⟩) ks.length sw, vi ki a] k t a (ks.take (j + 1)) sq' sn' sc' (xs ++ [vi ki k2, vS t2, vL sq2 sn2 sc2, vi ki a2]) (w4.setCell ⟨w.heap.size + 2, 2, none⟩ (vL sq' sn' sc'))) := by (have q := HS.out.more HN.out HGr.out HNw.out HO.out; rw [← htk] at q; exact q)
      clear hHeld HC HS HN HGr HNw HO
      go_wp2_with fail
      go_roundw
      case rel => exact ⟨j + 1, sq', sn', sc', _, by go_num, by omega, HF⟩
      case measure => simp [intOf]; omega
   ·have hjI : ¬ (j : Int) < (ks.length : Int) := by omega
    obtain rfl : j = ks.length := by omega
    rw [List.take_length] at HS
    obtain ⟨k1, k2, k3, k4⟩ := fin4 (g := w.heap.size) [] (vi ki k) (vS t) (vL sq sn sc) (vi ki a) (Kp.of HS.out.1) (by omega) HS.out.2.2.1
    have HNF : Hid (NdAt (fun c => w.heap.size ≤ c) _ _ _) := NdAt.off HS.out.node k3 k4 (Y := fun c => w.heap.size ≤ c) (fun c hc => ⟨by omega, by omega⟩)
    have HK : Hid (Below w.heap.size w _) := k1.below (Nat.le_refl _) (Nat.le_refl _)
    obtain ⟨y0, y1, y2, y3⟩ := k2.d4
    simp only [List.foldl, World.setCells, Nat.zero_add, Nat.reduceAdd] at y0 y1 y2 y3
    obtain ⟨e0, e1, e2, e3, z0, z1, z2, z3⟩ := HS.out.2.2.1.cf4
    have hlz := HS.out.2.2.1.1
    obtain ⟨f0, f1, f2, f3⟩ := HS.out.2.2.2.1.d4
    have hlf := HS.out.2.2.2.1.1
    clear k1 k2 k3 k4 HS
    go_wp2
    exact bodyPost_ret (v := .agg #[vi ki k, vS t, vL sq sn sc, vi ki a]) (by simp [results, Tryd.results8, go_sem, y0, y1, y2, y3]) rfl ⟨HK.out, _, _, _, _, _, _, rfl, HNF.out⟩
theorem blank_any (c : Nat) (hc : c < 256) (w : World) : Calls Tryd.prog 30 #[.int .u8 (c : Int)] w fun e w' => e = zr (.bool (blankN c)) ∧ w' = w := by
 cases hb : blankN c with
 | true =>
  have h : c = 32 ∨ c = 9 ∨ c = 10 ∨ c = 13 := by simpa [blankN, or_assoc] using hb
  clear hb
  rcases h with rfl | rfl | rfl | rfl
  all_goals
   go_enter Tryd.func30, Tryd.ntmps30
   go_wp2_with fail
   go_ret
   exact ⟨rfl, rfl⟩
 | false =>
  have h : ¬ (c = 32 ∨ c = 9 ∨ c = 10 ∨ c = 13) := fun q => by
   have : blankN c = true := by simpa [blankN, or_assoc] using q
   rw [hb] at this; exact absurd this (by decide)
  have b1 : ((c : Int) == 32) = false := by simp; omega
  have b2 : ((c : Int) == 9) = false := by simp; omega
  have b3 : ((c : Int) == 10) = false := by simp; omega
  have b4 : ((c : Int) == 13) = false := by simp; omega
  clear hb h
  go_enter Tryd.func30, Tryd.ntmps30
  go_wp2_with fail
  go_ret
  exact ⟨rfl, rfl⟩
theorem digit_any (c : Nat) (hc : c < 256) (w : World) : Calls Tryd.prog 31 #[.int .u8 (c : Int)] w fun e w' => e = zr (.bool (digitN c)) ∧ w' = w := by
 by_cases h1 : 48 ≤ c
 ·have h1' : (48 : Int) ≤ (c : Int) := by omega
  by_cases h2 : c ≤ 57
  ·have h2' : (c : Int) ≤ 57 := by omega
   rw [show digitN c = true by simp [digitN, h1, h2]]
   go_enter Tryd.func31, Tryd.ntmps31
   go_wp2_with fail
   go_ret
   exact ⟨rfl, rfl⟩
  ·have h2' : decide ((c : Int) ≤ 57) = false := decide_eq_false (by omega)
   rw [show digitN c = false by simp [digitN]; omega]
   go_enter Tryd.func31, Tryd.ntmps31
   go_wp2_with fail
   go_ret
   exact ⟨rfl, rfl⟩
 ·have h1' : ¬ (48 : Int) ≤ (c : Int) := by omega
  rw [show digitN c = false by simp [digitN]; omega]
  go_enter Tryd.func31, Tryd.ntmps31
  go_wp2_with fail
  go_ret
  exact ⟨rfl, rfl⟩
theorem letter_iff (c : Nat) : letterN c = true ↔ ((97 ≤ c ∧ c ≤ 122) ∨ (65 ≤ c ∧ c ≤ 90) ∨ c = 95 ∨ 127 < c) := by
 simp [letterN, or_assoc]
theorem letter_any (c : Nat) (hc : c < 256) (w : World) : Calls Tryd.prog 32 #[.int .u8 (c : Int)] w fun e w' => e = zr (.bool (letterN c)) ∧ w' = w := by
 obtain ⟨B, hB⟩ : ∃ B, letterN c = B := ⟨_, rfl⟩
 have hi := letter_iff c
 rw [hB] at hi ⊢
 have HI := hZz hi
 clear hi hB
 go_enter Tryd.func32, Tryd.ntmps32
 go_wp2_with fail
 all_goals
  go_ret
  refine ⟨ret_bool ?_, rfl⟩
  have := HI.out
  cases B <;> simp at this ⊢ <;> omega
theorem byte_eq (s : ByteArray) (i : Nat) (h : i < s.size) : ((s[i]'h).toNat : Int) = (bt s i : Int) := by rw [(bt_get s i h).2]
theorem long_low (s : ByteArray) (i : Nat) (hs : s.size ≤ 2048) (hi : i < s.size) (h : bt s i < 128) (w : World) :
  Calls Tryd.prog 29 #[vS s, vi ki (i : Int)] w fun e w' => e = zr (vi ki 1) ∧ w' = w := by
 have hb := byte_eq s i hi
 have hi' : (i : Int) < (s.size : Int) := by omega
 have h' : (bt s i : Int) < 128 := by omega
 go_enter Tryd.func29, Tryd.ntmps29
 go_wp2_with fail
 go_ret
 exact ⟨rfl, rfl⟩
def Cls (c n lo hh : Nat) : Prop :=
 (194 ≤ c ∧ c ≤ 223 ∧ n = 2 ∧ lo = 128 ∧ hh = 191) ∨ (c = 224 ∧ n = 3 ∧ lo = 160 ∧ hh = 191) ∨ (c = 237 ∧ n = 3 ∧ lo = 128 ∧ hh = 159) ∨ ((225 ≤ c ∧ c ≤ 239 ∧ c ≠ 237) ∧ n = 3 ∧ lo = 128 ∧ hh = 191) ∨
 (c = 240 ∧ n = 4 ∧ lo = 144 ∧ hh = 191) ∨ (c = 244 ∧ n = 4 ∧ lo = 128 ∧ hh = 143) ∨ ((241 ≤ c ∧ c ≤ 243) ∧ n = 4 ∧ lo = 128 ∧ hh = 191)
instance (c n lo hh : Nat) : Decidable (Cls c n lo hh) := by unfold Cls; infer_instance
theorem cls_all : ∀ c : Fin 256, 128 ≤ c.val → rN c.val ≠ 0 → Cls c.val (rN c.val) (rLo c.val) (rHi c.val) := by decide +kernel
theorem cls_of (c : Nat) (h : 128 ≤ c) (hc : c < 256) (h0 : rN c ≠ 0) : Cls c (rN c) (rLo c) (rHi c) := cls_all ⟨c, hc⟩ h h0
theorem long_none (s : ByteArray) (i c : Nat) (hs : s.size ≤ 2048) (hi : i < s.size) (hc : bt s i = c) (h : 128 ≤ c) (h2 : c < 194 ∨ 244 < c) (hz : c < 256) (w : World) :
  Calls Tryd.prog 29 #[vS s, vi ki (i : Int)] w fun e w' => e = zr (vi ki 0) ∧ w' = w := by
 have hb := byte_eq s i hi
 rw [hc] at hb
 have hi' : (i : Int) < (s.size : Int) := by omega
 have h' : ¬ (c : Int) < 128 := by omega
 rcases h2 with h2 | h2
 ·have x1 : ¬ (194 : Int) ≤ (c : Int) := by omega
  have x2 : ¬ (224 : Int) ≤ (c : Int) := by omega
  have x3 : ¬ (240 : Int) ≤ (c : Int) := by omega
  go_enter Tryd.func29, Tryd.ntmps29
  go_wp2_with fail
  go_ret
  exact ⟨rfl, rfl⟩
 ·have x1 : (194 : Int) ≤ (c : Int) := by omega
  have x2 : (224 : Int) ≤ (c : Int) := by omega
  have x3 : (240 : Int) ≤ (c : Int) := by omega
  have y1 : ¬ (c : Int) ≤ 223 := by omega
  have y2 : ¬ (c : Int) ≤ 239 := by omega
  have y3 : ¬ (c : Int) ≤ 244 := by omega
  go_enter Tryd.func29, Tryd.ntmps29
  go_wp2_with fail
  go_ret
  exact ⟨rfl, rfl⟩
theorem infoU8 : (Tryd.prog.info? 5).map (fun i => (i.zero, i.size, i.bytes)) = some (some (.int .u8 0), 1, 1) := by kernel_rfl
def cellsU (l : List UInt8) : List Value := l.map fun b => Value.int .u8 (b.toNat : Int)
theorem cellsU_snoc (l : List UInt8) (c : UInt8) : cellsU (l ++ [c]) = cellsU l ++ [.int .u8 (c.toNat : Int)] := by simp [cellsU]
theorem one_new (w : World) (a : Value) (t : TypeId) : ∀ j u, [a][j]? = some u → (w.alloc (.cells #[a] t)).cell? ((⟨w.heap.size, 0, none⟩ : Addr).add j) = some u := by
 intro j u hj
 match j, hj with
 | 0, hj => simp at hj; subst hj; simp [Addr.add]
 | j + 1, hj => simp at hj
theorem one_one (m : Int) : ∀ u ∈ [Value.int .u8 m], u.oneCell' = true := by
 intro x hx; simp at hx; subst hx; rfl
def lowT (s : ByteArray) (i : Nat) : List UInt8 := (s.data.toList.take i).map lowC
theorem lowT_snoc (s : ByteArray) (i : Nat) (h : i < s.size) : lowT s (i + 1) = lowT s i ++ [lowC (s[i]'h)] := by
 unfold lowT
 rw [List.take_add_one, (bt_get s i h).1]
 simp
theorem lowT_length (s : ByteArray) (i : Nat) (h : i ≤ s.size) : (lowT s i).length = i := by
 unfold lowT; rw [List.length_map, List.length_take, sz]; omega
theorem lowT_all (s : ByteArray) : (⟨(lowT s s.size).toArray⟩ : ByteArray) = lowB s := by
 unfold lowT lowB; rw [List.take_of_length_le (by rw [sz]; exact Nat.le_refl _), ← Array.toList_map]
theorem ret_str {a b : ByteArray} (h : a = b) : Ending.returned (vS a) = zr (vS b) := by rw [h]
theorem convert_nil (w : World) : (convert 62 9 (vL none 0 0)).run Tryd.prog w = .ok (vS ⟨#[]⟩) w := by
 rw [run_convert_bytes_string w 62 9 5 none 0 0 Tryd.underlying62 Tryd.underlying5 Tryd.underlying9]
 simp [Conv.bytesToString]
 rfl
theorem rlower_any (s : ByteArray) (hs : s.size ≤ 140737488351232) (w : World) :
    Calls Tryd.prog 57 #[vS s] w fun e w' => e = zr (vS (lowB s)) ∧ Below w.heap.size w w' := by
  obtain ⟨i0, hi, hz0, hz1, hz2⟩ := info_parts infoU8
  go_enter Tryd.func57, Tryd.ntmps57
  go_wp2_with fail
  go_loopw [3, 4] (fun v iv W => ∃ i : Nat, i ≤ s.size ∧ iv = vi ki (i : Int) ∧ W.ownsRow w.heap.size 5 1 v i (cellsU (lowT s i)) ∧ Below w.heap.size w W) (fun _ iv _ => s.size - (intOf iv).toNat)
  case atStart => exact ⟨0, Nat.zero_le _, rfl, World.ownsRow_nil _ _ _ _, Below.refl _ _⟩
  case round =>
    obtain ⟨i, hil, rfl, ho, B⟩ := hrel
    have HO := hZz ho
    have HB := hZz B
    clear ho B
    by_cases hp : i < s.size
    · have hp' : (i : Int) < (s.size : Int) := by omega
      have hp0 : (0 : Int) ≤ (i : Int) := by omega
      obtain ⟨c, hc⟩ : ∃ c, s[i]'hp = c := ⟨_, rfl⟩
      have hb : ((s[i]'hp).toNat : Int) = (c.toNat : Int) := by rw [hc]
      have HC := hZz hc
      have hc2 : c.toNat < 256 := UInt8.toNat_lt _
      obtain ⟨d, hd⟩ : ∃ d, lowC c = d := ⟨_, rfl⟩
      have HD := hZz hd
      clear hc hd
      by_cases hAZ : 65 ≤ c.toNat ∧ c.toNat ≤ 90
      · have hdv : (d.toNat : Int) = (c.toNat : Int) + 32 := by
          rw [← HD.out]; unfold lowC; rw [if_pos hAZ, low32 c hAZ]; omega
        have a1 : (65 : Int) ≤ (c.toNat : Int) := by omega
        have a2 : (c.toNat : Int) ≤ 90 := by omega
        have HV := hZz hdv
        clear hdv
        rcases HO.out.2 with ⟨e0, -⟩ | ⟨g0, cap0, cur, e0, _, _, _, _, _, _⟩
        all_goals
          subst e0
          go_wp2_with (first
            | (at_builtin; refine wpList_append_own _ rfl _ _ 62 rfl w.heap.size 5 i0 (.int .u8 0) 1 1 Tryd.underlying62 hi hz0 hz1 hz2 rfl (by decide) _ i (cellsU (lowT s i)) rfl (HO.out.alloc _) ⟨wr.heap.size, 0, none⟩ 1 1 [.int .u8 ((c.toNat : Int) + 32)] rfl rfl (one_new _ _ _) (one_one _) (by unfold maxLen; omega) (by omega) (by have := HB.out.size; simp; omega) ?_; intro v' w3 hown' hgrow3 hnil3
               have HJ : Hid (w3.ownsRow w.heap.size 5 1 v' (i + 1) (cellsU (lowT s (i + 1))) ∧ Below w.heap.size w w3) := ⟨by rw [lowT_snoc s i hp, cellsU_snoc, HC.out, HD.out, HV.out]; exact hown', Below.grown (HB.out.alloc HB.out.size _) hgrow3 (by have := HB.out.size; simp; omega) (fun k hk => by have := (HO.out.lt _ hk).1; omega)⟩
               clear hown' hgrow3 hnil3))
          go_roundw
          case rel => exact ⟨i + 1, by omega, by go_num, HJ.out.1, HJ.out.2⟩
          case measure => simp [intOf]; omega
      · have hdv : d = c := by rw [← HD.out]; unfold lowC; rw [if_neg hAZ]
        have HV := hZz hdv
        have hz' : (c.toNat : Int) < 65 ∨ 90 < (c.toNat : Int) := by omega
        clear hdv hAZ
        rcases hz' with hz' | hz'
        all_goals
          rcases HO.out.2 with ⟨e0, -⟩ | ⟨g0, cap0, cur, e0, _, _, _, _, _, _⟩
          all_goals
            subst e0
            try have a1 : ¬ (65 : Int) ≤ (c.toNat : Int) := by omega
            try have a2 : (65 : Int) ≤ (c.toNat : Int) := by omega
            try have a3 : ¬ (c.toNat : Int) ≤ 90 := by omega
            go_wp2_with (first
              | (at_builtin; refine wpList_append_own _ rfl _ _ 62 rfl w.heap.size 5 i0 (.int .u8 0) 1 1 Tryd.underlying62 hi hz0 hz1 hz2 rfl (by decide) _ i (cellsU (lowT s i)) rfl (HO.out.alloc _) ⟨wr.heap.size, 0, none⟩ 1 1 [.int .u8 (c.toNat : Int)] rfl rfl (one_new _ _ _) (one_one _) (by unfold maxLen; omega) (by omega) (by have := HB.out.size; simp; omega) ?_; intro v' w3 hown' hgrow3 hnil3
                 have HJ : Hid (w3.ownsRow w.heap.size 5 1 v' (i + 1) (cellsU (lowT s (i + 1))) ∧ Below w.heap.size w w3) := ⟨by rw [lowT_snoc s i hp, cellsU_snoc, HC.out, HD.out, HV.out]; exact hown', Below.grown (HB.out.alloc HB.out.size _) hgrow3 (by have := HB.out.size; simp; omega) (fun k hk => by have := (HO.out.lt _ hk).1; omega)⟩
                 clear hown' hgrow3 hnil3))
            go_roundw
            case rel => exact ⟨i + 1, by omega, by go_num, HJ.out.1, HJ.out.2⟩
            case measure => simp [intOf]; omega
    · have hp' : ¬ (i : Int) < (s.size : Int) := by omega
      obtain rfl : i = s.size := by omega
      rcases HO.out.2 with ⟨e0, z0⟩ | ⟨g, cap, cur, e0, hg, hh, h3, h4, h5, h6⟩
      · subst e0
        have hcb := convert_nil wr
        have hL : lowB s = ⟨#[]⟩ := by
          have := lowT_all s
          rw [← this, z0]
          rfl
        have HL := hZz hL
        clear hL z0
        go_wp2_with fail
        go_ret
        exact ⟨ret_str HL.out.symm, HB.out⟩
      · subst e0
        have hcb := run_convert_bytes_back (P := Tryd.prog) wr 62 9 5 ⟨g, 0, none⟩ cap (lowT s s.size) Tryd.underlying62 Tryd.underlying5 Tryd.underlying9 (fun j hj => by
          have := HO.out.cells (g := g) rfl j _ (by rw [cellsU, List.getElem?_map, List.getElem?_eq_getElem hj]; rfl)
          exact this)
        rw [lowT_length s s.size (Nat.le_refl _), lowT_all] at hcb
        clear hh h6
        go_wp2_with fail
        go_ret
        exact ⟨rfl, HB.out⟩
theorem rsame_any (a b : ByteArray) (ha : a.size ≤ 140737488351232) (hb : b.size ≤ 140737488351232) (w : World) :
  Calls Tryd.prog 77 #[vS a, vS b] w fun e w' => e = zr (.bool (sameB a b)) ∧ Below w.heap.size w w' := by
 go_enter Tryd.func77, Tryd.ntmps77
 go_wp2_with fail
 refine (rlower_any a ha _).mono ?_
 rintro e w1 ⟨rfl, B1⟩
 go_wp2_with fail
 refine (rlower_any b hb _).mono ?_
 rintro e w2 ⟨rfl, b2⟩
 have B2 := B1.trans (b2.mono B1.size)
 clear b2 B1
 go_wp2_with fail
 go_ret
 exact ⟨ret_bool (toList_eq _ _), B2⟩
def mT (r : Tk) : Tk := (if r.1 = 1 then (if r.2.1.data.toList.contains 46 then 2 else 1) else if r.1 = 2 then 4 else if r.1 = 3 then 3 else if r.1 = 4 then 5 else 0, if r.1 = 2 then lowB r.2.1 else r.2.1, r.2.2)
def wrdL : List ByteArray := [orB, andB, notB, atB, timeB, zoneB]
def sgnL : List ByteArray := [b1 61, b2 60 62, b1 60, b2 60 61, b1 62, b2 62 61, b1 43, b1 45, b1 42, b1 47, b1 37, b2 58 58, b1 40, b1 41, b1 44]
structure GoodT (r : Tk) : Prop where
 kind : 1 ≤ r.1 ∧ r.1 ≤ 5
 size : r.2.1.size ≤ 2048
 sign : r.1 = 4 → lowB r.2.1 = r.2.1 ∧ r.2.1 ∉ wrdL
 name : r.1 = 2 → lowB r.2.1 ∉ sgnL
def sgB (r : Tk) (s : ByteArray) : Bool := (decide (r.1 = 4) || decide (r.1 = 2)) && decide (lowB r.2.1 = s)
theorem isT_one (p : Tk) (k : Int) (s : ByteArray) : isT p [(k, s)] = decide (p.1 = k ∧ p.2.1 = s) := by simp [isT]
theorem sg_word {r : Tk} (h : GoodT r) {s : ByteArray} (hs : s ∈ wrdL) : sgB r s = isT (mT r) [(4, s)] := by
 rw [isT_one]
 unfold sgB mT
 by_cases h4 : r.1 = 4
 ·have q := h.sign h4
  have : ¬ r.2.1 = s := fun e => q.2 (e ▸ hs)
  simp [h4, q.1, this]
 ·by_cases h2 : r.1 = 2
  ·simp [h2]
  ·have : ¬ (if r.1 = 1 then (if r.2.1.data.toList.contains 46 then (2 : Int) else 1) else if r.1 = 2 then 4 else if r.1 = 3 then 3 else if r.1 = 4 then 5 else 0) = 4 := by
    rw [if_neg h2, if_neg h4]
    split
    ·split <;> omega
    ·split <;> omega
   simp [h4, h2] at this ⊢
   intro e
   exact absurd e (by simpa [h4, h2] using this)
theorem sg_sign {r : Tk} (h : GoodT r) {s : ByteArray} (hs : s ∈ sgnL) : sgB r s = isT (mT r) [(5, s)] := by
 rw [isT_one]
 unfold sgB mT
 by_cases h4 : r.1 = 4
 ·have q := h.sign h4
  simp [h4, q.1]
 ·by_cases h2 : r.1 = 2
  ·have q := h.name h2
   have : ¬ lowB r.2.1 = s := fun e => q (e ▸ hs)
   simp [h2, this]
  ·have : ¬ (if r.1 = 1 then (if r.2.1.data.toList.contains 46 then (2 : Int) else 1) else if r.1 = 2 then 4 else if r.1 = 3 then 3 else if r.1 = 4 then 5 else 0) = 5 := by
    rw [if_neg h2, if_neg h4]
    split
    ·split <;> omega
    ·split <;> omega
   simp [h4, h2] at this ⊢
   intro e
   exact absurd e (by simpa [h4, h2] using this)
def mL (L : List Tk) : List Tk := L.map mT
theorem mL_cons (r : Tk) (L : List Tk) : mL (r :: L) = mT r :: mL L := rfl
theorem mT_end {r : Tk} (h : GoodT r) : (mT r).1 = 0 ↔ r.1 = 5 := by
 unfold mT
 obtain ⟨h1, h2⟩ := h.kind
 by_cases e1 : r.1 = 1
 ·simp only [e1, if_true]; split <;> omega
 by_cases e2 : r.1 = 2
 ·simp [e2]
 by_cases e3 : r.1 = 3
 ·simp [e3]
 by_cases e4 : r.1 = 4
 ·simp [e4]
 have e5 : r.1 = 5 := by omega
 simp [e5]
structure RS (g b cap : Nat) (T : List Tk) (w : World) (L : List Tk) (d : Nat) : Prop where
 bx : ∃ (pre : List Tk) (a : Int), T = pre ++ L ∧ Bx w g [vL (some ⟨b, pre.length * 3, none⟩) L.length (cap - pre.length), vi ki (d : Int), vi ki 0, vi ki a]
 tr : TR w b T
 ne : b ≠ g
 le : T.length ≤ cap
 most : cap ≤ maxLen
def RF (g b lo : Nat) (w : World) (a e : Int) : Prop := ∃ (c o n m : Nat) (D k z : Int) (t : ByteArray), (c = b ∨ lo ≤ c) ∧ Bx w g [vL (some ⟨c, o, none⟩) n m, vi ki D, vi ki e, vi ki a] ∧ 1 ≤ n ∧ n ≤ m ∧ m ≤ maxLen ∧ c ≠ g ∧ c < w.heap.size ∧ t.size ≤ 2048 ∧ True ∧
 w.cell? ⟨c, o, none⟩ = some (vi ki k) ∧ w.cell? ⟨c, o + 1, none⟩ = some (vS t) ∧ w.cell? ⟨c, o + 2, none⟩ = some (vi ki z)
theorem RS.lt {g b cap : Nat} {T : List Tk} {w : World} {L : List Tk} {d : Nat} (h : RS g b cap T w L d) : g < w.heap.size := by
 obtain ⟨_, _, _, h⟩ := h.bx; exact h.1
theorem RS.keep {g b cap : Nat} {T : List Tk} {w W : World} {L : List Tk} {d : Nat} (h : RS g b cap T w L d) (hs : w.heap.size ≤ W.heap.size) (k : ∀ c, c = g ∨ c = b → W.heap[c]? = w.heap[c]?) : RS g b cap T W L d := by
 obtain ⟨⟨pre, a, h1, h2⟩, h3, h4, h5, h6⟩ := h
 have q := k g (.inl rfl)
 exact ⟨⟨pre, a, h1, Nat.lt_of_lt_of_le h2.1 hs, fun i v hv => ⟨(World.cell?_of_block (w := w) (a := ⟨g, i, none⟩) q).trans (h2.2 i v hv).1, (World.frozen?_of_block (w := w) (a := ⟨g, i, none⟩) q).trans (h2.2 i v hv).2⟩⟩, ⟨Nat.lt_of_lt_of_le h3.1 hs, fun i v hv => (World.cell?_of_block (w := w) (a := ⟨b, i, none⟩) (k b (.inr rfl))).trans (h3.2 i v hv)⟩, h4, h5, h6⟩
theorem RS.below {g b cap : Nat} {T : List Tk} {w W : World} {L : List Tk} {d : Nat} (h : RS g b cap T w L d) (k : Below w.heap.size w W) : RS g b cap T W L d :=
 h.keep k.size fun c hc => k.block c (by rcases hc with rfl | rfl; exact h.lt; exact h.tr.1)
theorem RS.off {g b cap : Nat} {T : List Tk} {w W : World} {L : List Tk} {d : Nat} (h : RS g b cap T w L d) {r : Nat} (k : ∀ c, c < w.heap.size → c ≠ r → W.heap[c]? = w.heap[c]?) (hz : w.heap.size ≤ W.heap.size) (h1 : g ≠ r) (h2 : b ≠ r) : RS g b cap T W L d :=
 h.keep hz fun c hc => by rcases hc with rfl | rfl; exact k _ h.lt h1; exact k _ h.tr.1 h2
theorem RF.below {g b lo : Nat} {w W : World} {a e : Int} (h : RF g b lo w a e) (k : Below w.heap.size w W) : RF g b lo W a e := by
 obtain ⟨c, o, n, m, D, kk, z, t, h0, h1, h2, h3, h4, h5, h6, h7, hD, h8, h9, h10⟩ := h
 exact ⟨c, o, n, m, D, kk, z, t, h0, h1.below k, h2, h3, h4, h5, Nat.lt_of_lt_of_le h6 k.size, h7, hD, (k.cell (p := ⟨c, o, none⟩) h6).trans h8, (k.cell (p := ⟨c, o + 1, none⟩) h6).trans h9, (k.cell (p := ⟨c, o + 2, none⟩) h6).trans h10⟩
theorem RF.mono {g b lo lo' : Nat} {w : World} {a e : Int} (h : RF g b lo w a e) (hl : lo' ≤ lo) : RF g b lo' w a e := by
 obtain ⟨c, o, n, m, D, kk, z, t, h0, h1⟩ := h
 exact ⟨c, o, n, m, D, kk, z, t, by omega, h1⟩
theorem RF.of {g b lo cap : Nat} {T pre L : List Tk} {r : Tk} {w w' : World} {D er a : Int} (hD : True) (hr : r.2.1.size ≤ 2048) (ht : TR w b T) (he : T = pre ++ r :: L) (hne : b ≠ g) (hle : T.length ≤ cap) (hm : cap ≤ maxLen) (k : Kp g w w') (hb : Bx w' g [vL (some ⟨b, pre.length * 3, none⟩) (r :: L).length (cap - pre.length), vi ki D, vi ki er, vi ki a]) : RF g b lo w' a er := by
 obtain ⟨t0, t1, t2⟩ := (ht.kp k hne).at he
 have hlen : T.length = pre.length + (r :: L).length := by rw [he]; simp
 exact ⟨b, pre.length * 3, _, _, D, r.1, r.2.2, r.2.1, .inl rfl, hb, by simp, by omega, by omega, hne, (ht.kp k hne).1, hr, hD, t0, t1, t2⟩
theorem RS.of {g b cap : Nat} {T pre L : List Tk} {w w' : World} {d : Nat} {a : Int} (ht : TR w b T) (he : T = pre ++ L) (hne : b ≠ g) (hle : T.length ≤ cap) (hm : cap ≤ maxLen) (k : Kp g w w') (hb : Bx w' g [vL (some ⟨b, pre.length * 3, none⟩) L.length (cap - pre.length), vi ki (d : Int), vi ki 0, vi ki a]) : RS g b cap T w' L d :=
 ⟨⟨pre, a, he, hb⟩, ht.kp k hne, hne, hle, hm⟩
theorem RS.next {g b cap : Nat} {T pre L : List Tk} {r : Tk} {w w' : World} {d : Nat} {a : Int} (ht : TR w b T) (he : T = pre ++ r :: L) (hne : b ≠ g) (hle : T.length ≤ cap) (hm : cap ≤ maxLen) (k : Kp g w w') (hb : Bx w' g [vL (some ⟨b, pre.length * 3 + 3, none⟩) L.length (cap - pre.length - 1), vi ki (d : Int), vi ki 0, vi ki a]) : RS g b cap T w' L d := by
 refine RS.of (pre := pre ++ [r]) ht (by rw [he]; simp) hne hle hm k (a := a) ?_
 rw [show (pre ++ [r]).length * 3 = pre.length * 3 + 3 by simp; omega, show cap - (pre ++ [r]).length = cap - pre.length - 1 by simp; omega]
 exact hb
theorem RS.facts {g b cap : Nat} {T : List Tk} {w : World} {q : Tk} {l : List Tk} {d : Nat} (h : RS g b cap T w (q :: l) d) : ∃ (pre : List Tk) (pa : Int), w.cell? ⟨g, 0, none⟩ = some (vL (some ⟨b, pre.length * 3, none⟩) (q :: l).length (cap - pre.length)) ∧ w.cell? ⟨g, 1, none⟩ = some (.int .i64 (d : Int)) ∧ w.cell? ⟨g, 2, none⟩ = some (.int .i64 0) ∧ w.frozen? ⟨g, 0, none⟩ = false ∧ w.frozen? ⟨g, 1, none⟩ = false ∧
  w.cell? ⟨b, pre.length * 3, none⟩ = some (.int .i64 q.1) ∧ w.cell? ⟨b, pre.length * 3 + 1, none⟩ = some (vS q.2.1) ∧ w.cell? ⟨b, pre.length * 3 + 2, none⟩ = some (.int .i64 q.2.2) ∧ g < w.heap.size ∧ b < w.heap.size ∧ T.length = pre.length + l.length + 1 ∧ cap ≤ 9223372036854775807 ∧ T.length ≤ cap ∧ b ≠ g ∧ Hid (T = pre ++ q :: l) ∧ Hid (Bx w g [vL (some ⟨b, pre.length * 3, none⟩) (q :: l).length (cap - pre.length), .int .i64 (d : Int), .int .i64 0, .int .i64 pa]) ∧ Hid (TR w b T) := by
 obtain ⟨⟨pre, pa, he, hbx⟩, htr, hne, hle, hmost⟩ := h
 obtain ⟨t0, t1, t2⟩ := htr.at he
 exact ⟨pre, pa, hbx.c 0 rfl, hbx.c 1 rfl, hbx.c 2 rfl, hbx.f 0 rfl, hbx.f 1 rfl, t0, t1, t2, hbx.1, htr.1, by rw [he]; simp; omega, hmost, hle, hne, he, hbx, htr⟩
theorem rfail_ok (g b lo cap : Nat) (T L : List Tk) (r : Tk) (hr : r.2.1.size ≤ 2048) (d : Nat) (hd : d ≤ 100) (er a : Int) (w : World) (h : RS g b cap T w (r :: L) d) :
  Calls Tryd.prog 19 #[.pointer (some ⟨g, 0, none⟩), vi ki er, vi ki a] w fun e w' => e = zr (.agg #[vi ki 0, vS ⟨#[]⟩, vL none 0 0, vi ki 0]) ∧ Kp g w w' ∧ RF g b lo w' a er := by
 obtain ⟨⟨pre, a0, e, hb⟩, htr, hne, hle, hmost⟩ := h
 have HB := hZz hb
 have HT := hZz htr
 have HE := hZz e
 obtain ⟨c0, c1, c2, c3, z0, z1, z2, z3⟩ := hb.cf4
 have hg := hb.1
 have hbl := htr.1
 obtain ⟨t0, t1, t2⟩ := htr.at e
 have HM := hZz hmost
 unfold maxLen at hmost
 have hlen : T.length = pre.length + L.length + 1 := by rw [e]; simp <;> omega
 clear hb htr e
 go_enter Tryd.func19, Tryd.ntmps19
 go_wp2
 refine bodyPost_ret (v := .agg #[vi ki 0, vS ⟨#[]⟩, vL none 0 0, vi ki 0]) (by simp [results, Tryd.results19, go_sem]) rfl ⟨rfl, ?_, ?_⟩
 ·exact (((Kp.refl g w).set (.inl rfl) _).set (.inl rfl) _).alloc _
 ·exact RF.of trivial hr HT.out HE.out hne hle HM.out ((((Kp.refl g w).set (p := ⟨g, 2, none⟩) (.inl rfl) _).set (p := ⟨g, 3, none⟩) (.inl rfl) _).alloc _) (((HB.out.set1 2 _ (by simp)).set1 3 _ (by simp)).alloc _)
theorem rfail_no (g b lo : Nat) (er' a' a e : Int) (he : e ≠ 0) (w : World) (h : RF g b lo w a e) :
  Calls Tryd.prog 19 #[.pointer (some ⟨g, 0, none⟩), vi ki er', vi ki a'] w fun e' w' => e' = zr (.agg #[vi ki 0, vS ⟨#[]⟩, vL none 0 0, vi ki 0]) ∧ Kp g w w' ∧ RF g b lo w' a e := by
 obtain ⟨c, o, n, m, D, k, z, t, -, hb, h2, h3, h4, h5, h6, h7, hD, t0, t1, t2⟩ := id h
 have HF := hZz h
 have c0 := hb.c 0 rfl
 have c1 := hb.c 1 rfl
 have c2 := hb.c 2 rfl
 have c3 := hb.c 3 rfl
 have z0 := hb.f 0 rfl
 have z1 := hb.f 1 rfl
 have hg := hb.1
 have hnI : (1 : Int) ≤ (n : Int) := by omega
 have hnmI : (n : Int) ≤ (m : Int) := by omega
 unfold maxLen at h4
 have hmI : (m : Int) ≤ 9223372036854775807 := by omega
 have he0 : (e == 0) = false := by simp; omega
 clear hb h
 go_enter Tryd.func19, Tryd.ntmps19
 go_wp2
 refine bodyPost_ret (v := .agg #[vi ki 0, vS ⟨#[]⟩, vL none 0 0, vi ki 0]) (by simp [results, Tryd.results19, go_sem]) rfl ⟨rfl, ?_, ?_⟩
 ·exact (Kp.refl g w).alloc _
 ·exact HF.out.below ((Below.refl _ w).alloc (Nat.le_refl _) _)
theorem rsign_kind (g b cap : Nat) (T L : List Tk) (r : Tk) (s : ByteArray) (hs : sgB r s = false) (h4 : r.1 ≠ 4) (h2 : r.1 ≠ 2) (d : Nat) (w : World) (h : RS g b cap T w (r :: L) d) :
  Calls Tryd.prog 35 #[.pointer (some ⟨g, 0, none⟩), vS s] w fun e w' => e = zr (.bool false) ∧ Kp g w w' ∧ RS g b cap T w' (r :: L) d := by
 have HR := hZz h
 obtain ⟨⟨pre, a0, e, hb⟩, htr, hne, hle, hmost⟩ := h
 have HB := hZz hb
 have HT := hZz htr
 have HE := hZz e
 obtain ⟨c0, c1, c2, c3, z0, z1, z2, z3⟩ := hb.cf4
 have hg := hb.1
 have hbl := htr.1
 obtain ⟨t0, t1, t2⟩ := htr.at e
 have HM := hZz hmost
 unfold maxLen at hmost
 have hlen : T.length = pre.length + L.length + 1 := by rw [e]; simp <;> omega
 clear hb htr e
 have g4 : (r.1 == 4) = false := by simpa using h4
 have g2 : (r.1 == 2) = false := by simpa using h2
 clear hs
 go_enter Tryd.func35, Tryd.ntmps35
 go_wp2
 go_ret
 exact ⟨rfl, (Kp.refl g w).alloc _, HR.out.below ((Below.refl _ w).alloc (Nat.le_refl _) _)⟩
theorem rsign_no4 (g b cap : Nat) (T L : List Tk) (r : Tk) (hz : r.2.1.size ≤ 2048) (s : ByteArray) (hs : lowB r.2.1 ≠ s) (h4 : r.1 = 4) (d : Nat) (w : World) (h : RS g b cap T w (r :: L) d) :
  Calls Tryd.prog 35 #[.pointer (some ⟨g, 0, none⟩), vS s] w fun e w' => e = zr (.bool false) ∧ Kp g w w' ∧ RS g b cap T w' (r :: L) d := by
 have HR := hZz h
 obtain ⟨⟨pre, a0, e, hb⟩, htr, hne, hle, hmost⟩ := h
 have HB := hZz hb
 have HT := hZz htr
 have HE := hZz e
 obtain ⟨c0, c1, c2, c3, z0, z1, z2, z3⟩ := hb.cf4
 have hg := hb.1
 have hbl := htr.1
 obtain ⟨t0, t1, t2⟩ := htr.at e
 have HM := hZz hmost
 unfold maxLen at hmost
 have hlen : T.length = pre.length + L.length + 1 := by rw [e]; simp <;> omega
 clear hb htr e
 have g4 : (r.1 == 4) = true := by simpa using h4
 have gs : ((lowB r.2.1).toList == s.toList) = false := by rw [toList_eq]; exact decide_eq_false hs
 clear hs
 go_enter Tryd.func35, Tryd.ntmps35
 go_wp2_with fail
 refine (rlower_any r.2.1 (by omega) _).mono ?_
 rintro e W ⟨rfl, hk⟩
 have HK : Hid (Below w.heap.size w W) := ((Below.refl _ w).alloc (Nat.le_refl _) _).trans (hk.mono (by simp))
 clear hk
 go_wp2
 go_ret
 exact ⟨rfl, Kp.of HK.out, HR.out.below HK.out⟩
theorem rsign_yes4 (g b cap : Nat) (T L : List Tk) (r q : Tk) (hz : r.2.1.size ≤ 2048) (s : ByteArray) (hs : lowB r.2.1 = s) (h4 : r.1 = 4) (d : Nat) (w : World) (h : RS g b cap T w (r :: q :: L) d) :
  Calls Tryd.prog 35 #[.pointer (some ⟨g, 0, none⟩), vS s] w fun e w' => e = zr (.bool true) ∧ Kp g w w' ∧ RS g b cap T w' (q :: L) d := by
 obtain ⟨L', hL'⟩ : ∃ L', q :: L = L' := ⟨_, rfl⟩
 have hl1 : 1 ≤ L'.length := by rw [← hL']; simp
 rw [hL'] at h ⊢
 clear hL'
 obtain ⟨⟨pre, a0, e, hb⟩, htr, hne, hle, hmost⟩ := h
 have HB := hZz hb
 have HT := hZz htr
 have HE := hZz e
 obtain ⟨c0, c1, c2, c3, z0, z1, z2, z3⟩ := hb.cf4
 have hg := hb.1
 have hbl := htr.1
 obtain ⟨t0, t1, t2⟩ := htr.at e
 have HM := hZz hmost
 unfold maxLen at hmost
 have hlen : T.length = pre.length + L'.length + 1 := by rw [e]; simp <;> omega
 clear hb htr e
 have g4 : (r.1 == 4) = true := by simpa using h4
 have gs : ((lowB r.2.1).toList == s.toList) = true := by rw [toList_eq]; exact decide_eq_true hs
 clear hs
 go_enter Tryd.func35, Tryd.ntmps35
 go_wp2_with fail
 refine (rlower_any r.2.1 (by omega) _).mono ?_
 rintro e W ⟨rfl, hk⟩
 have HK : Hid (Below w.heap.size w W) := ((Below.refl _ w).alloc (Nat.le_refl _) _).trans (hk.mono (by simp))
 clear hk
 have HB2 : Hid (Bx W g _) := HB.out.below HK.out
 have HT2 : Hid (TR W b T) := HT.out.kp (Kp.of (g := g) HK.out) hne
 have HKp : Hid (Kp g w W) := Kp.of HK.out
 have d0 := HB2.out.c 0 rfl
 have y0 := HB2.out.f 0 rfl
 have hg2 := HB2.out.1
 clear HB HT HK c0 c1 c2 c3 z0 z1 z2 z3 t0 t1 t2 hg hbl
 go_wp2
 go_ret
 refine ⟨rfl, HKp.out.set (p := ⟨g, 0, none⟩) (.inl rfl) _, ?_⟩
 exact RS.next HT2.out HE.out hne hle HM.out ((Kp.refl g W).set (p := ⟨g, 0, none⟩) (.inl rfl) _) (HB2.out.set1 0 _ (by simp))
theorem rsign_no2 (g b cap : Nat) (T L : List Tk) (r : Tk) (hz : r.2.1.size ≤ 2048) (s : ByteArray) (hs : lowB r.2.1 ≠ s) (h2 : r.1 = 2) (d : Nat) (w : World) (h : RS g b cap T w (r :: L) d) :
  Calls Tryd.prog 35 #[.pointer (some ⟨g, 0, none⟩), vS s] w fun e w' => e = zr (.bool false) ∧ Kp g w w' ∧ RS g b cap T w' (r :: L) d := by
 have HR := hZz h
 obtain ⟨⟨pre, a0, e, hb⟩, htr, hne, hle, hmost⟩ := h
 have HB := hZz hb
 have HT := hZz htr
 have HE := hZz e
 obtain ⟨c0, c1, c2, c3, z0, z1, z2, z3⟩ := hb.cf4
 have hg := hb.1
 have hbl := htr.1
 obtain ⟨t0, t1, t2⟩ := htr.at e
 have HM := hZz hmost
 unfold maxLen at hmost
 have hlen : T.length = pre.length + L.length + 1 := by rw [e]; simp <;> omega
 clear hb htr e
 have g4 : (r.1 == 4) = false := by simp; omega
 have h4 : r.1 ≠ 4 := by omega
 have g2 : (r.1 == 2) = true := by simpa using h2
 have gs : ((lowB r.2.1).toList == s.toList) = false := by rw [toList_eq]; exact decide_eq_false hs
 clear hs
 go_enter Tryd.func35, Tryd.ntmps35
 go_wp2_with fail
 refine (rlower_any r.2.1 (by omega) _).mono ?_
 rintro e W ⟨rfl, hk⟩
 have HK : Hid (Below w.heap.size w W) := ((Below.refl _ w).alloc (Nat.le_refl _) _).trans (hk.mono (by simp))
 clear hk
 go_wp2
 go_ret
 exact ⟨rfl, Kp.of HK.out, HR.out.below HK.out⟩
theorem rsign_yes2 (g b cap : Nat) (T L : List Tk) (r q : Tk) (hz : r.2.1.size ≤ 2048) (s : ByteArray) (hs : lowB r.2.1 = s) (h2 : r.1 = 2) (d : Nat) (w : World) (h : RS g b cap T w (r :: q :: L) d) :
  Calls Tryd.prog 35 #[.pointer (some ⟨g, 0, none⟩), vS s] w fun e w' => e = zr (.bool true) ∧ Kp g w w' ∧ RS g b cap T w' (q :: L) d := by
 obtain ⟨L', hL'⟩ : ∃ L', q :: L = L' := ⟨_, rfl⟩
 have hl1 : 1 ≤ L'.length := by rw [← hL']; simp
 rw [hL'] at h ⊢
 clear hL'
 obtain ⟨⟨pre, a0, e, hb⟩, htr, hne, hle, hmost⟩ := h
 have HB := hZz hb
 have HT := hZz htr
 have HE := hZz e
 obtain ⟨c0, c1, c2, c3, z0, z1, z2, z3⟩ := hb.cf4
 have hg := hb.1
 have hbl := htr.1
 obtain ⟨t0, t1, t2⟩ := htr.at e
 have HM := hZz hmost
 unfold maxLen at hmost
 have hlen : T.length = pre.length + L'.length + 1 := by rw [e]; simp <;> omega
 clear hb htr e
 have g4 : (r.1 == 4) = false := by simp; omega
 have h4 : r.1 ≠ 4 := by omega
 have g2 : (r.1 == 2) = true := by simpa using h2
 have gs : ((lowB r.2.1).toList == s.toList) = true := by rw [toList_eq]; exact decide_eq_true hs
 clear hs
 go_enter Tryd.func35, Tryd.ntmps35
 go_wp2_with fail
 refine (rlower_any r.2.1 (by omega) _).mono ?_
 rintro e W ⟨rfl, hk⟩
 have HK : Hid (Below w.heap.size w W) := ((Below.refl _ w).alloc (Nat.le_refl _) _).trans (hk.mono (by simp))
 clear hk
 have HB2 : Hid (Bx W g _) := HB.out.below HK.out
 have HT2 : Hid (TR W b T) := HT.out.kp (Kp.of (g := g) HK.out) hne
 have HKp : Hid (Kp g w W) := Kp.of HK.out
 have d0 := HB2.out.c 0 rfl
 have y0 := HB2.out.f 0 rfl
 have hg2 := HB2.out.1
 clear HB HT HK c0 c1 c2 c3 z0 z1 z2 z3 t0 t1 t2 hg hbl
 go_wp2
 go_ret
 refine ⟨rfl, HKp.out.set (p := ⟨g, 0, none⟩) (.inl rfl) _, ?_⟩
 exact RS.next HT2.out HE.out hne hle HM.out ((Kp.refl g W).set (p := ⟨g, 0, none⟩) (.inl rfl) _) (HB2.out.set1 0 _ (by simp))
theorem rsign_bad (g b lo : Nat) (s : ByteArray) (a e : Int) (he : e ≠ 0) (w : World) (h : RF g b lo w a e) :
  Calls Tryd.prog 35 #[.pointer (some ⟨g, 0, none⟩), vS s] w fun e' w' => e' = zr (.bool false) ∧ Kp g w w' ∧ RF g b lo w' a e := by
 obtain ⟨c, o, n, m, D, k, z, t, -, hb, h2, h3, h4, h5, h6, h7, hD, t0, t1, t2⟩ := id h
 have HF := hZz h
 have c0 := hb.c 0 rfl
 have c1 := hb.c 1 rfl
 have c2 := hb.c 2 rfl
 have c3 := hb.c 3 rfl
 have z0 := hb.f 0 rfl
 have z1 := hb.f 1 rfl
 have hg := hb.1
 have hnI : (1 : Int) ≤ (n : Int) := by omega
 have hnmI : (n : Int) ≤ (m : Int) := by omega
 unfold maxLen at h4
 have hmI : (m : Int) ≤ 9223372036854775807 := by omega
 have he0 : (e == 0) = false := by simp; omega
 clear hb h
 go_enter Tryd.func35, Tryd.ntmps35
 go_wp2
 go_ret
 exact ⟨rfl, (Kp.refl g w).alloc _, HF.out.below ((Below.refl _ w).alloc (Nat.le_refl _) _)⟩
theorem rinner_ok (g b cap : Nat) (T L : List Tk) (r : Tk) (d : Nat) (hd : d < 20) (a : Int) (w : World) (h : RS g b cap T w (r :: L) d) :
  Calls Tryd.prog 36 #[.pointer (some ⟨g, 0, none⟩), vi ki a] w fun e w' => e = zr (.bool true) ∧ Kp g w w' ∧ RS g b cap T w' (r :: L) (d + 1) := by
 obtain ⟨⟨pre, a0, e, hb⟩, htr, hne, hle, hmost⟩ := h
 have HB := hZz hb
 have HT := hZz htr
 have HE := hZz e
 obtain ⟨c0, c1, c2, c3, z0, z1, z2, z3⟩ := hb.cf4
 have hg := hb.1
 have hbl := htr.1
 obtain ⟨t0, t1, t2⟩ := htr.at e
 have HM := hZz hmost
 unfold maxLen at hmost
 have hlen : T.length = pre.length + L.length + 1 := by rw [e]; simp <;> omega
 clear hb htr e
 have hdI : (d : Int) < 20 := by omega
 have hd0 : (0 : Int) ≤ (d : Int) := by omega
 have hdw : IntKind.i64.wrap ((d : Int) + 1) = (d : Int) + 1 := by rw [IntKind.wrap_i64]; omega
 go_enter Tryd.func36, Tryd.ntmps36
 go_wp2
 go_ret
 refine ⟨rfl, (Kp.refl g w).set (p := ⟨g, 1, none⟩) (.inl rfl) _, ?_⟩
 exact RS.of (d := d + 1) HT.out HE.out hne hle HM.out ((Kp.refl g w).set (p := ⟨g, 1, none⟩) (.inl rfl) _) (HB.out.set1 1 _ (by simp))
theorem rinner_no (g b lo cap : Nat) (T L : List Tk) (r : Tk) (hr : r.2.1.size ≤ 2048) (a : Int) (w : World) (h : RS g b cap T w (r :: L) 20) :
  Calls Tryd.prog 36 #[.pointer (some ⟨g, 0, none⟩), vi ki a] w fun e w' => e = zr (.bool false) ∧ Kp g w w' ∧ RF g b lo w' a 31 := by
 obtain ⟨d, hd⟩ : ∃ d : Nat, d = 20 := ⟨_, rfl⟩
 obtain ⟨⟨pre, a0, e, hb⟩, htr, hne, hle, hmost⟩ := h
 have HB := hZz hb
 have HT := hZz htr
 have HE := hZz e
 obtain ⟨c0, c1, c2, c3, z0, z1, z2, z3⟩ := hb.cf4
 have hg := hb.1
 have hbl := htr.1
 obtain ⟨t0, t1, t2⟩ := htr.at e
 have HM := hZz hmost
 unfold maxLen at hmost
 have hlen : T.length = pre.length + L.length + 1 := by rw [e]; simp <;> omega
 clear hb htr e
 have HS : Hid (RS g b cap T (w.setCell ⟨g, 1, none⟩ (vi ki 21)) (r :: L) 21) := RS.of (d := 21) HT.out HE.out hne hle HM.out ((Kp.refl g w).set (p := ⟨g, 1, none⟩) (.inl rfl) _) (HB.out.set1 1 _ (by simp))
 go_enter Tryd.func36, Tryd.ntmps36
 go_wp2_with fail
 refine (rfail_ok g b lo cap T L r hr 21 (by omega) 31 a _ HS.out).mono ?_
 rintro e W ⟨rfl, hk, hf⟩
 have HF := hZz hf
 have HK : Hid (Kp g w W) := ((Kp.refl g w).set (p := ⟨g, 1, none⟩) (.inl rfl) _).trans hk
 clear hk
 obtain ⟨_, _, _, _, _, _, _, _, _, hb, _⟩ := hf
 have y2 := hb.c 2 rfl
 have hg2 := hb.1
 clear hb
 go_wp2
 go_ret
 exact ⟨rfl, HK.out, HF.out⟩
theorem rsign_any (g b cap : Nat) (T L : List Tk) (r : Tk) (hz : GoodT r) (s : ByteArray) (hL : sgB r s = true → L ≠ []) (d : Nat) (w : World) (h : RS g b cap T w (r :: L) d) :
  Calls Tryd.prog 35 #[.pointer (some ⟨g, 0, none⟩), vS s] w fun e w' => e = zr (.bool (sgB r s)) ∧ Kp g w w' ∧ RS g b cap T w' (if sgB r s = true then L else r :: L) d := by
 by_cases hs : sgB r s = true
 ·rw [hs, if_pos rfl]
  have hs2 := hs
  unfold sgB at hs2
  simp only [Bool.and_eq_true, Bool.or_eq_true, decide_eq_true_eq] at hs2
  cases L with
  | nil => exact absurd rfl (hL hs)
  | cons q L =>
   rcases hs2.1 with h4 | h2
   ·exact rsign_yes4 g b cap T L r q hz.size s hs2.2 h4 d w h
   ·exact rsign_yes2 g b cap T L r q hz.size s hs2.2 h2 d w h
 ·have hs0 : sgB r s = false := by simpa using hs
  rw [hs0, if_neg (by simp)]
  by_cases h4 : r.1 = 4
  ·exact rsign_no4 g b cap T L r hz.size s (fun e => hs (by unfold sgB; simp [h4, e])) h4 d w h
  by_cases h2 : r.1 = 2
  ·exact rsign_no2 g b cap T L r hz.size s (fun e => hs (by unfold sgB; simp [h2, e])) h2 d w h
  exact rsign_kind g b cap T L r s hs0 h4 h2 d w h
end Go.Proofs.YtaoocecipacnhaaDoor
