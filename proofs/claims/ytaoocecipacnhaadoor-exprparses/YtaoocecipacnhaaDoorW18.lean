import Derived.Test.YtaoocecipacnhaaDoorWz
import Derived.Test.YtaoocecipacnhaaDoorW17
import Derived.Test.YtaoocecipacnhaaDoorW15
open Go.Value renaming int → vi
open Go.IntKind renaming i64 → ki
open List renaming setIfInBounds_toArray → zb, set_cons_zero → zc, set_cons_succ → zd
open Go.Act renaming put → za
open Go.Ending renaming returned → zr
set_option maxRecDepth 100000
set_option maxHeartbeats 16000000
set_option linter.unusedVariables false
namespace Go.Proofs.YtaoocecipacnhaaDoor
open Go.RowKit
theorem F2.get {α β : Type} {R : α → β → Prop} {l : List α} {m : List β} (h : F2 R l m) : ∀ {j : Nat} {x : α}, l[j]? = some x → ∃ y, m[j]? = some y ∧ R x y := by
 induction h with
 | nil => intro j x e; simp at e
 | @cons a b l m h1 h2 ih =>
  intro j x e
  cases j with
  | zero => simp at e; subst e; exact ⟨b, rfl, h1⟩
  | succ j => exact ih (by simpa using e)
theorem F2.length {α β : Type} {R : α → β → Prop} {l : List α} {m : List β} (h : F2 R l m) : l.length = m.length := by
 induction h with
 | nil => rfl
 | cons h1 h2 ih => simp [ih]
theorem F2.imp {α β : Type} {R Q : α → β → Prop} {l : List α} {m : List β} (h : F2 R l m) (H : ∀ x ∈ l, ∀ y, R x y → Q x y) : F2 Q l m := by
 induction h with
 | nil => exact .nil
 | cons h1 h2 ih => exact .cons (H _ (by simp) _ h1) (ih (fun x hx y => H x (by simp [hx]) y))
theorem F2.refl {α : Type} {R : α → α → Prop} : ∀ {l : List α}, (∀ x ∈ l, R x x) → F2 R l l
 | [], _ => .nil
 | x :: l, h => .cons (h x (by simp)) (F2.refl (fun y hy => h y (by simp [hy])))
inductive AlP (pl : Bool) : Nd → Nd → Prop where
 | mk (k : Int) (t : ByteArray) (ks ls : List Nd) (a b : Int) (h : F2 (AlP pl) ks ls) (hp : pl = true → a = b) : AlP pl (.mk k t ks a) (.mk k t ls b)
theorem AlN.p (n : Nd) : ∀ m, AlN n m → AlP false n m := by
 have hn := PlN.all n
 induction hn with
 | mk k t ks a ha hk ih =>
  intro m h
  cases h with
  | mk _ _ _ ls _ b h => exact .mk k t ks ls a b (h.imp (fun x hx y hxy => ih x hx y hxy)) (by simp)
theorem AlP.refl (pl : Bool) (n : Nd) : AlP pl n n := by
 have hn := PlN.all n
 induction hn with
 | mk k t ks a ha hk ih => exact .mk k t ks ks a a (F2.refl ih) (fun _ => rfl)
theorem AlP.symm (n : Nd) : ∀ m, AlP false m n → AlP false n m := by
 have hn := PlN.all n
 induction hn with
 | mk k t ks a ha hk ih =>
  intro m h
  cases h with
  | mk _ _ ls _ b _ h _ =>
   refine .mk k t ks ls a b ?_ (by simp)
   clear ha hk
   induction h with
   | nil => exact .nil
   | cons h1 h2 i => exact .cons (ih _ (by simp) _ h1) (i (fun x hx => ih x (by simp [hx])))
theorem NdAt.kids {X : Nat → Prop} {w : World} {k : Int} {t : ByteArray} {ks : List Nd} {a : Int} {c0 c1 c2 c3 : Value} (h : NdAt X w (.mk k t ks a) [c0, c1, c2, c3]) : c0 = vi ki k ∧ c1 = .string t ∧ c3 = vi ki a ∧ ∃ sq sc, c2 = .slice sq ks.length sc ∧ ks.length ≤ 9223372036854775807 ∧ Hid (∀ j n, ks[j]? = some n → ∃ b, sq = some ⟨b, 0, none⟩ ∧ ks.length ≤ sc ∧ X b ∧ b < w.heap.size ∧ ∃ d0 d1 d2 d3, w.cell? ⟨b, j * 4, none⟩ = some d0 ∧ w.cell? ⟨b, j * 4 + 1, none⟩ = some d1 ∧ w.cell? ⟨b, j * 4 + 2, none⟩ = some d2 ∧ w.cell? ⟨b, j * 4 + 3, none⟩ = some d3 ∧ NdAt X w n [d0, d1, d2, d3]) := by
 rw [NdAt] at h
 obtain ⟨sv, hcs, hv⟩ := h
 simp only [List.cons.injEq, and_true] at hcs
 obtain ⟨rfl, rfl, rfl, rfl⟩ := hcs
 refine ⟨rfl, rfl, rfl, ?_⟩
 rcases hv with ⟨q1, q2⟩ | ⟨b, cap, e1, e0, e2, e3, e4, e5, e6⟩
 ·subst q1; exact ⟨none, 0, q2, by simp, fun j n e => by simp at e⟩
 ·refine ⟨some ⟨b, 0, none⟩, cap, e1, by unfold maxLen at e3; omega, fun j n e => ⟨b, rfl, e2, e4, e5, ?_⟩⟩
  have q := RwAt.get ks 0 j n e6 e
  rw [Nat.zero_add] at q
  exact q
theorem same_any (pl : Bool) (n : Nd) : ∀ m, AlP pl n m → ∀ (X Y : Nat → Prop) (w : World) (c0 c1 c2 c3 d0 d1 d2 d3 : Value), NdAt X w n [c0, c1, c2, c3] → NdAt Y w m [d0, d1, d2, d3] →
  Calls Tryd.prog 7 #[.agg #[c0, c1, c2, c3], .agg #[d0, d1, d2, d3], .bool pl] w fun e w' => e = zr (.bool true) ∧ Below w.heap.size w w' := by
 have hn := PlN.all n
 induction hn with
 | mk k t ks a ha hk ih =>
  intro m hm X Y w c0 c1 c2 c3 d0 d1 d2 d3 h1 h2
  obtain ⟨ls, b, rfl, hF, hpl⟩ : ∃ ls b, m = .mk k t ls b ∧ F2 (AlP pl) ks ls ∧ (pl = true → a = b) := by
   cases hm with
   | mk _ _ _ ls _ b h hp => exact ⟨ls, b, rfl, h, hp⟩
  obtain ⟨rfl, rfl, rfl, sq, sc, rfl, hkl, HG1⟩ := h1.kids
  obtain ⟨rfl, rfl, rfl, sq2, sc2, rfl, -, HG2⟩ := h2.kids
  rw [← hF.length] at HG2 ⊢
  have HI : Hid _ := ih
  have hklI : (ks.length : Int) ≤ 9223372036854775807 := by omega
  clear hk ih ha h1 h2 hm
  cases pl with
  | false =>
   clear hpl
   go_enter Tryd.func7, Tryd.ntmps7
   go_wp2_with fail
   go_loopw [7] (fun i W => ∃ (j : Nat), i = vi ki (j : Int) ∧ j ≤ ks.length ∧ Hid (BS w [(w.heap.size + 1, [vi ki k, .string t, .slice sq2 ks.length sc2, vi ki b]), (w.heap.size, [vi ki k, .string t, .slice sq ks.length sc, vi ki a])] W)) (fun i _ => ks.length - (intOf i).toNat)
   case atStart => exact ⟨0, rfl, Nat.zero_le _, ((BS.start w).new [vi ki k, .string t, .slice sq ks.length sc, vi ki a] _ rfl).new [vi ki k, .string t, .slice sq2 ks.length sc2, vi ki b] _ (by simp)⟩
   case round =>
    obtain ⟨j, rfl, hj, KB⟩ := hrel
    have x2 := (KB.out.at (w.heap.size) [vi ki k, .string t, .slice sq ks.length sc, vi ki a] (by simp)).c 2 rfl
    have hlt1 := (KB.out.at (w.heap.size) [vi ki k, .string t, .slice sq ks.length sc, vi ki a] (by simp)).1
    have hj0 : (0 : Int) ≤ (j : Int) := by omega
    by_cases hjl : j < ks.length
    ·have hjI : (j : Int) < (ks.length : Int) := by omega
     have hjw : IntKind.i64.wrap ((j : Int) + 1) = (j : Int) + 1 := by rw [IntKind.wrap_i64]; omega
     obtain ⟨y, hy, hxy⟩ := hF.get (List.getElem?_eq_getElem hjl)
     obtain ⟨r1, rfl, hsc1, -, hr1, d0, d1, d2, d3, y0, y1, y2, y3, hn1⟩ := HG1.out j _ (List.getElem?_eq_getElem hjl)
     obtain ⟨r2, rfl, hsc2, -, hr2, e0, e1, e2, e3, z0, z1, z2, z3, hn2⟩ := HG2.out j _ hy
     have HC : Hid (∀ V : World, Below w.heap.size w V → Calls Tryd.prog 7 #[.agg #[d0, d1, d2, d3], .agg #[e0, e1, e2, e3], .bool false] V fun e w' => e = zr (.bool true) ∧ Below V.heap.size V w') := fun V hV => HI.out _ (List.getElem_mem hjl) y hxy X Y V d0 d1 d2 d3 e0 e1 e2 e3 (hn1.below hV) (hn2.below hV)
     clear hn1 hn2 HI HG1 HG2 hy hxy
     go_upto_region 6 with fail
     refine wp_region_held_drew (S := BS w [(w.heap.size + 1, [vi ki k, .string t, .slice (some ⟨r2, 0, none⟩) ks.length sc2, vi ki b]), (w.heap.size, [vi ki k, .string t, .slice (some ⟨r1, 0, none⟩) ks.length sc, vi ki a])]) (by kernel_rfl) KB.out.drew (fun hHeld => ?_)
     refine tks 0 ⟨some 46, _, _, _, _, none⟩ rfl ?_
     simp only [za, zb, zc, zd]
     refine tk (v := ?_) 1 ⟨some 47, _, _, _, _, none⟩ rfl ?_ ?_
     case refine_2 => (intro w9 hSw; have q2 := (hSw.at (w.heap.size) [vi ki k, .string t, .slice (some ⟨r1, 0, none⟩) ks.length sc, vi ki a] (by simp)).c 2 rfl; have q3 := (hSw.at (w.heap.size + 1) [vi ki k, .string t, .slice (some ⟨r2, 0, none⟩) ks.length sc2, vi ki b] (by simp)).c 2 rfl; have g1 := (hSw.at (w.heap.size) [vi ki k, .string t, .slice (some ⟨r1, 0, none⟩) ks.length sc, vi ki a] (by simp)).1; have g2 := (hSw.at (w.heap.size + 1) [vi ki k, .string t, .slice (some ⟨r2, 0, none⟩) ks.length sc2, vi ki b] (by simp)).1; have hz := hSw.1.size; have l0 := (hSw.1.cell (p := ⟨r1, j * 4, none⟩) hr1).trans y0; have l1 := (hSw.1.cell (p := ⟨r1, j * 4 + 1, none⟩) hr1).trans y1; have l2 := (hSw.1.cell (p := ⟨r1, j * 4 + 2, none⟩) hr1).trans y2; have l3 := (hSw.1.cell (p := ⟨r1, j * 4 + 3, none⟩) hr1).trans y3; have m0 := (hSw.1.cell (p := ⟨r2, j * 4, none⟩) hr2).trans z0; have m1 := (hSw.1.cell (p := ⟨r2, j * 4 + 1, none⟩) hr2).trans z1; have m2 := (hSw.1.cell (p := ⟨r2, j * 4 + 2, none⟩) hr2).trans z2; have m3 := (hSw.1.cell (p := ⟨r2, j * 4 + 3, none⟩) hr2).trans z3; have o1 : r1 < w9.heap.size := (by omega); have o2 : r2 < w9.heap.size := (by omega); clear hSw; go_simp; try with_reducible rfl)
     simp only [za, zb, zc, zd]
     refine tks 2 ⟨some 48, _, _, _, _, none⟩ rfl ?_
     simp only [za, zb, zc, zd]
     refine tks 3 ⟨some 49, _, _, _, _, none⟩ rfl ?_
     simp only [za, zb, zc, zd]
     refine tk (v := ?_) 4 ⟨some 50, _, _, _, _, none⟩ rfl ?_ ?_
     case refine_2 => (intro w9 hSw; have q2 := (hSw.at (w.heap.size) [vi ki k, .string t, .slice (some ⟨r1, 0, none⟩) ks.length sc, vi ki a] (by simp)).c 2 rfl; have q3 := (hSw.at (w.heap.size + 1) [vi ki k, .string t, .slice (some ⟨r2, 0, none⟩) ks.length sc2, vi ki b] (by simp)).c 2 rfl; have g1 := (hSw.at (w.heap.size) [vi ki k, .string t, .slice (some ⟨r1, 0, none⟩) ks.length sc, vi ki a] (by simp)).1; have g2 := (hSw.at (w.heap.size + 1) [vi ki k, .string t, .slice (some ⟨r2, 0, none⟩) ks.length sc2, vi ki b] (by simp)).1; have hz := hSw.1.size; have l0 := (hSw.1.cell (p := ⟨r1, j * 4, none⟩) hr1).trans y0; have l1 := (hSw.1.cell (p := ⟨r1, j * 4 + 1, none⟩) hr1).trans y1; have l2 := (hSw.1.cell (p := ⟨r1, j * 4 + 2, none⟩) hr1).trans y2; have l3 := (hSw.1.cell (p := ⟨r1, j * 4 + 3, none⟩) hr1).trans y3; have m0 := (hSw.1.cell (p := ⟨r2, j * 4, none⟩) hr2).trans z0; have m1 := (hSw.1.cell (p := ⟨r2, j * 4 + 1, none⟩) hr2).trans z1; have m2 := (hSw.1.cell (p := ⟨r2, j * 4 + 2, none⟩) hr2).trans z2; have m3 := (hSw.1.cell (p := ⟨r2, j * 4 + 3, none⟩) hr2).trans z3; have o1 : r1 < w9.heap.size := (by omega); have o2 : r2 < w9.heap.size := (by omega); clear hSw; go_simp; try with_reducible rfl)
     simp only [za, zb, zc, zd]
     refine tks 5 ⟨some 51, _, _, _, _, none⟩ rfl ?_
     simp only [za, zb, zc, zd]
     refine tk (v := ?_) 6 ⟨some 52, _, _, _, _, none⟩ rfl ?_ ?_
     case refine_2 => (intro w9 hSw; have q2 := (hSw.at (w.heap.size) [vi ki k, .string t, .slice (some ⟨r1, 0, none⟩) ks.length sc, vi ki a] (by simp)).c 2 rfl; have q3 := (hSw.at (w.heap.size + 1) [vi ki k, .string t, .slice (some ⟨r2, 0, none⟩) ks.length sc2, vi ki b] (by simp)).c 2 rfl; have g1 := (hSw.at (w.heap.size) [vi ki k, .string t, .slice (some ⟨r1, 0, none⟩) ks.length sc, vi ki a] (by simp)).1; have g2 := (hSw.at (w.heap.size + 1) [vi ki k, .string t, .slice (some ⟨r2, 0, none⟩) ks.length sc2, vi ki b] (by simp)).1; have hz := hSw.1.size; have l0 := (hSw.1.cell (p := ⟨r1, j * 4, none⟩) hr1).trans y0; have l1 := (hSw.1.cell (p := ⟨r1, j * 4 + 1, none⟩) hr1).trans y1; have l2 := (hSw.1.cell (p := ⟨r1, j * 4 + 2, none⟩) hr1).trans y2; have l3 := (hSw.1.cell (p := ⟨r1, j * 4 + 3, none⟩) hr1).trans y3; have m0 := (hSw.1.cell (p := ⟨r2, j * 4, none⟩) hr2).trans z0; have m1 := (hSw.1.cell (p := ⟨r2, j * 4 + 1, none⟩) hr2).trans z1; have m2 := (hSw.1.cell (p := ⟨r2, j * 4 + 2, none⟩) hr2).trans z2; have m3 := (hSw.1.cell (p := ⟨r2, j * 4 + 3, none⟩) hr2).trans z3; have o1 : r1 < w9.heap.size := (by omega); have o2 : r2 < w9.heap.size := (by omega); clear hSw; go_simp; try with_reducible rfl)
     simp only [za, zb, zc, zd]
     refine tks 7 ⟨some 53, _, _, _, _, none⟩ rfl ?_
     simp only [za, zb, zc, zd]
     refine tks 8 ⟨some 54, _, _, _, _, none⟩ rfl ?_
     simp only [za, zb, zc, zd]
     refine tk (v := ?_) 9 ⟨some 55, _, _, _, _, none⟩ rfl ?_ ?_
     case refine_2 => (intro w9 hSw; have q2 := (hSw.at (w.heap.size) [vi ki k, .string t, .slice (some ⟨r1, 0, none⟩) ks.length sc, vi ki a] (by simp)).c 2 rfl; have q3 := (hSw.at (w.heap.size + 1) [vi ki k, .string t, .slice (some ⟨r2, 0, none⟩) ks.length sc2, vi ki b] (by simp)).c 2 rfl; have g1 := (hSw.at (w.heap.size) [vi ki k, .string t, .slice (some ⟨r1, 0, none⟩) ks.length sc, vi ki a] (by simp)).1; have g2 := (hSw.at (w.heap.size + 1) [vi ki k, .string t, .slice (some ⟨r2, 0, none⟩) ks.length sc2, vi ki b] (by simp)).1; have hz := hSw.1.size; have l0 := (hSw.1.cell (p := ⟨r1, j * 4, none⟩) hr1).trans y0; have l1 := (hSw.1.cell (p := ⟨r1, j * 4 + 1, none⟩) hr1).trans y1; have l2 := (hSw.1.cell (p := ⟨r1, j * 4 + 2, none⟩) hr1).trans y2; have l3 := (hSw.1.cell (p := ⟨r1, j * 4 + 3, none⟩) hr1).trans y3; have m0 := (hSw.1.cell (p := ⟨r2, j * 4, none⟩) hr2).trans z0; have m1 := (hSw.1.cell (p := ⟨r2, j * 4 + 1, none⟩) hr2).trans z1; have m2 := (hSw.1.cell (p := ⟨r2, j * 4 + 2, none⟩) hr2).trans z2; have m3 := (hSw.1.cell (p := ⟨r2, j * 4 + 3, none⟩) hr2).trans z3; have o1 : r1 < w9.heap.size := (by omega); have o2 : r2 < w9.heap.size := (by omega); clear hSw; go_simp; try with_reducible rfl)
     simp only [za, zb, zc, zd]
     refine tks 10 ⟨some 56, _, _, _, _, none⟩ rfl ?_
     simp only [za, zb, zc, zd]
     refine rd 11 ⟨some 57, _, _, _, _, none⟩ rfl (fun K hK => ?_)
     go_simp
     refine (HC.out _ hHeld.1).mono ?_
     rintro e v1 ⟨rfl, hb1⟩
     refine hK.out _ _ (hHeld.below hb1) (fun hHeld => ?_)
     clear hK K hb1
     refine tks 12 ⟨some 58, _, _, _, _, none⟩ rfl ?_
     simp only [za, zb, zc, zd]
     refine wpAnyH_done (by kernel_rfl) ?_ _
     have HF : Hid (BS w [(w.heap.size + 1, [vi ki k, .string t, .slice (some ⟨r2, 0, none⟩) ks.length sc2, vi ki b]), (w.heap.size, [vi ki k, .string t, .slice (some ⟨r1, 0, none⟩) ks.length sc, vi ki a])] _) := hHeld
     clear hHeld HC
     go_wp2_with fail
     go_roundw
     case rel => exact ⟨j + 1, by go_num, by omega, HF⟩
     case measure => simp [intOf]; omega
    ·have hjI : ¬ (j : Int) < (ks.length : Int) := by omega
     go_wp2
     go_ret
     exact ⟨rfl, KB.out.1⟩
  | true =>
   obtain rfl := hpl rfl
   clear hpl
   go_enter Tryd.func7, Tryd.ntmps7
   go_wp2_with fail
   go_loopw [7] (fun i W => ∃ (j : Nat), i = vi ki (j : Int) ∧ j ≤ ks.length ∧ Hid (BS w [(w.heap.size + 1, [vi ki k, .string t, .slice sq2 ks.length sc2, vi ki a]), (w.heap.size, [vi ki k, .string t, .slice sq ks.length sc, vi ki a])] W)) (fun i _ => ks.length - (intOf i).toNat)
   case atStart => exact ⟨0, rfl, Nat.zero_le _, ((BS.start w).new [vi ki k, .string t, .slice sq ks.length sc, vi ki a] _ rfl).new [vi ki k, .string t, .slice sq2 ks.length sc2, vi ki a] _ (by simp)⟩
   case round =>
    obtain ⟨j, rfl, hj, KB⟩ := hrel
    have x2 := (KB.out.at (w.heap.size) [vi ki k, .string t, .slice sq ks.length sc, vi ki a] (by simp)).c 2 rfl
    have hlt1 := (KB.out.at (w.heap.size) [vi ki k, .string t, .slice sq ks.length sc, vi ki a] (by simp)).1
    have hj0 : (0 : Int) ≤ (j : Int) := by omega
    by_cases hjl : j < ks.length
    ·have hjI : (j : Int) < (ks.length : Int) := by omega
     have hjw : IntKind.i64.wrap ((j : Int) + 1) = (j : Int) + 1 := by rw [IntKind.wrap_i64]; omega
     obtain ⟨y, hy, hxy⟩ := hF.get (List.getElem?_eq_getElem hjl)
     obtain ⟨r1, rfl, hsc1, -, hr1, d0, d1, d2, d3, y0, y1, y2, y3, hn1⟩ := HG1.out j _ (List.getElem?_eq_getElem hjl)
     obtain ⟨r2, rfl, hsc2, -, hr2, e0, e1, e2, e3, z0, z1, z2, z3, hn2⟩ := HG2.out j _ hy
     have HC : Hid (∀ V : World, Below w.heap.size w V → Calls Tryd.prog 7 #[.agg #[d0, d1, d2, d3], .agg #[e0, e1, e2, e3], .bool true] V fun e w' => e = zr (.bool true) ∧ Below V.heap.size V w') := fun V hV => HI.out _ (List.getElem_mem hjl) y hxy X Y V d0 d1 d2 d3 e0 e1 e2 e3 (hn1.below hV) (hn2.below hV)
     clear hn1 hn2 HI HG1 HG2 hy hxy
     go_upto_region 6 with fail
     refine wp_region_held_drew (S := BS w [(w.heap.size + 1, [vi ki k, .string t, .slice (some ⟨r2, 0, none⟩) ks.length sc2, vi ki a]), (w.heap.size, [vi ki k, .string t, .slice (some ⟨r1, 0, none⟩) ks.length sc, vi ki a])]) (by kernel_rfl) KB.out.drew (fun hHeld => ?_)
     refine tks 0 ⟨some 46, _, _, _, _, none⟩ rfl ?_
     simp only [za, zb, zc, zd]
     refine tk (v := ?_) 1 ⟨some 47, _, _, _, _, none⟩ rfl ?_ ?_
     case refine_2 => (intro w9 hSw; have q2 := (hSw.at (w.heap.size) [vi ki k, .string t, .slice (some ⟨r1, 0, none⟩) ks.length sc, vi ki a] (by simp)).c 2 rfl; have q3 := (hSw.at (w.heap.size + 1) [vi ki k, .string t, .slice (some ⟨r2, 0, none⟩) ks.length sc2, vi ki a] (by simp)).c 2 rfl; have g1 := (hSw.at (w.heap.size) [vi ki k, .string t, .slice (some ⟨r1, 0, none⟩) ks.length sc, vi ki a] (by simp)).1; have g2 := (hSw.at (w.heap.size + 1) [vi ki k, .string t, .slice (some ⟨r2, 0, none⟩) ks.length sc2, vi ki a] (by simp)).1; have hz := hSw.1.size; have l0 := (hSw.1.cell (p := ⟨r1, j * 4, none⟩) hr1).trans y0; have l1 := (hSw.1.cell (p := ⟨r1, j * 4 + 1, none⟩) hr1).trans y1; have l2 := (hSw.1.cell (p := ⟨r1, j * 4 + 2, none⟩) hr1).trans y2; have l3 := (hSw.1.cell (p := ⟨r1, j * 4 + 3, none⟩) hr1).trans y3; have m0 := (hSw.1.cell (p := ⟨r2, j * 4, none⟩) hr2).trans z0; have m1 := (hSw.1.cell (p := ⟨r2, j * 4 + 1, none⟩) hr2).trans z1; have m2 := (hSw.1.cell (p := ⟨r2, j * 4 + 2, none⟩) hr2).trans z2; have m3 := (hSw.1.cell (p := ⟨r2, j * 4 + 3, none⟩) hr2).trans z3; have o1 : r1 < w9.heap.size := (by omega); have o2 : r2 < w9.heap.size := (by omega); clear hSw; go_simp; try with_reducible rfl)
     simp only [za, zb, zc, zd]
     refine tks 2 ⟨some 48, _, _, _, _, none⟩ rfl ?_
     simp only [za, zb, zc, zd]
     refine tks 3 ⟨some 49, _, _, _, _, none⟩ rfl ?_
     simp only [za, zb, zc, zd]
     refine tk (v := ?_) 4 ⟨some 50, _, _, _, _, none⟩ rfl ?_ ?_
     case refine_2 => (intro w9 hSw; have q2 := (hSw.at (w.heap.size) [vi ki k, .string t, .slice (some ⟨r1, 0, none⟩) ks.length sc, vi ki a] (by simp)).c 2 rfl; have q3 := (hSw.at (w.heap.size + 1) [vi ki k, .string t, .slice (some ⟨r2, 0, none⟩) ks.length sc2, vi ki a] (by simp)).c 2 rfl; have g1 := (hSw.at (w.heap.size) [vi ki k, .string t, .slice (some ⟨r1, 0, none⟩) ks.length sc, vi ki a] (by simp)).1; have g2 := (hSw.at (w.heap.size + 1) [vi ki k, .string t, .slice (some ⟨r2, 0, none⟩) ks.length sc2, vi ki a] (by simp)).1; have hz := hSw.1.size; have l0 := (hSw.1.cell (p := ⟨r1, j * 4, none⟩) hr1).trans y0; have l1 := (hSw.1.cell (p := ⟨r1, j * 4 + 1, none⟩) hr1).trans y1; have l2 := (hSw.1.cell (p := ⟨r1, j * 4 + 2, none⟩) hr1).trans y2; have l3 := (hSw.1.cell (p := ⟨r1, j * 4 + 3, none⟩) hr1).trans y3; have m0 := (hSw.1.cell (p := ⟨r2, j * 4, none⟩) hr2).trans z0; have m1 := (hSw.1.cell (p := ⟨r2, j * 4 + 1, none⟩) hr2).trans z1; have m2 := (hSw.1.cell (p := ⟨r2, j * 4 + 2, none⟩) hr2).trans z2; have m3 := (hSw.1.cell (p := ⟨r2, j * 4 + 3, none⟩) hr2).trans z3; have o1 : r1 < w9.heap.size := (by omega); have o2 : r2 < w9.heap.size := (by omega); clear hSw; go_simp; try with_reducible rfl)
     simp only [za, zb, zc, zd]
     refine tks 5 ⟨some 51, _, _, _, _, none⟩ rfl ?_
     simp only [za, zb, zc, zd]
     refine tk (v := ?_) 6 ⟨some 52, _, _, _, _, none⟩ rfl ?_ ?_
     case refine_2 => (intro w9 hSw; have q2 := (hSw.at (w.heap.size) [vi ki k, .string t, .slice (some ⟨r1, 0, none⟩) ks.length sc, vi ki a] (by simp)).c 2 rfl; have q3 := (hSw.at (w.heap.size + 1) [vi ki k, .string t, .slice (some ⟨r2, 0, none⟩) ks.length sc2, vi ki a] (by simp)).c 2 rfl; have g1 := (hSw.at (w.heap.size) [vi ki k, .string t, .slice (some ⟨r1, 0, none⟩) ks.length sc, vi ki a] (by simp)).1; have g2 := (hSw.at (w.heap.size + 1) [vi ki k, .string t, .slice (some ⟨r2, 0, none⟩) ks.length sc2, vi ki a] (by simp)).1; have hz := hSw.1.size; have l0 := (hSw.1.cell (p := ⟨r1, j * 4, none⟩) hr1).trans y0; have l1 := (hSw.1.cell (p := ⟨r1, j * 4 + 1, none⟩) hr1).trans y1; have l2 := (hSw.1.cell (p := ⟨r1, j * 4 + 2, none⟩) hr1).trans y2; have l3 := (hSw.1.cell (p := ⟨r1, j * 4 + 3, none⟩) hr1).trans y3; have m0 := (hSw.1.cell (p := ⟨r2, j * 4, none⟩) hr2).trans z0; have m1 := (hSw.1.cell (p := ⟨r2, j * 4 + 1, none⟩) hr2).trans z1; have m2 := (hSw.1.cell (p := ⟨r2, j * 4 + 2, none⟩) hr2).trans z2; have m3 := (hSw.1.cell (p := ⟨r2, j * 4 + 3, none⟩) hr2).trans z3; have o1 : r1 < w9.heap.size := (by omega); have o2 : r2 < w9.heap.size := (by omega); clear hSw; go_simp; try with_reducible rfl)
     simp only [za, zb, zc, zd]
     refine tks 7 ⟨some 53, _, _, _, _, none⟩ rfl ?_
     simp only [za, zb, zc, zd]
     refine tks 8 ⟨some 54, _, _, _, _, none⟩ rfl ?_
     simp only [za, zb, zc, zd]
     refine tk (v := ?_) 9 ⟨some 55, _, _, _, _, none⟩ rfl ?_ ?_
     case refine_2 => (intro w9 hSw; have q2 := (hSw.at (w.heap.size) [vi ki k, .string t, .slice (some ⟨r1, 0, none⟩) ks.length sc, vi ki a] (by simp)).c 2 rfl; have q3 := (hSw.at (w.heap.size + 1) [vi ki k, .string t, .slice (some ⟨r2, 0, none⟩) ks.length sc2, vi ki a] (by simp)).c 2 rfl; have g1 := (hSw.at (w.heap.size) [vi ki k, .string t, .slice (some ⟨r1, 0, none⟩) ks.length sc, vi ki a] (by simp)).1; have g2 := (hSw.at (w.heap.size + 1) [vi ki k, .string t, .slice (some ⟨r2, 0, none⟩) ks.length sc2, vi ki a] (by simp)).1; have hz := hSw.1.size; have l0 := (hSw.1.cell (p := ⟨r1, j * 4, none⟩) hr1).trans y0; have l1 := (hSw.1.cell (p := ⟨r1, j * 4 + 1, none⟩) hr1).trans y1; have l2 := (hSw.1.cell (p := ⟨r1, j * 4 + 2, none⟩) hr1).trans y2; have l3 := (hSw.1.cell (p := ⟨r1, j * 4 + 3, none⟩) hr1).trans y3; have m0 := (hSw.1.cell (p := ⟨r2, j * 4, none⟩) hr2).trans z0; have m1 := (hSw.1.cell (p := ⟨r2, j * 4 + 1, none⟩) hr2).trans z1; have m2 := (hSw.1.cell (p := ⟨r2, j * 4 + 2, none⟩) hr2).trans z2; have m3 := (hSw.1.cell (p := ⟨r2, j * 4 + 3, none⟩) hr2).trans z3; have o1 : r1 < w9.heap.size := (by omega); have o2 : r2 < w9.heap.size := (by omega); clear hSw; go_simp; try with_reducible rfl)
     simp only [za, zb, zc, zd]
     refine tks 10 ⟨some 56, _, _, _, _, none⟩ rfl ?_
     simp only [za, zb, zc, zd]
     refine rd 11 ⟨some 57, _, _, _, _, none⟩ rfl (fun K hK => ?_)
     go_simp
     refine (HC.out _ hHeld.1).mono ?_
     rintro e v1 ⟨rfl, hb1⟩
     refine hK.out _ _ (hHeld.below hb1) (fun hHeld => ?_)
     clear hK K hb1
     refine tks 12 ⟨some 58, _, _, _, _, none⟩ rfl ?_
     simp only [za, zb, zc, zd]
     refine wpAnyH_done (by kernel_rfl) ?_ _
     have HF : Hid (BS w [(w.heap.size + 1, [vi ki k, .string t, .slice (some ⟨r2, 0, none⟩) ks.length sc2, vi ki a]), (w.heap.size, [vi ki k, .string t, .slice (some ⟨r1, 0, none⟩) ks.length sc, vi ki a])] _) := hHeld
     clear hHeld HC
     go_wp2_with fail
     go_roundw
     case rel => exact ⟨j + 1, by go_num, by omega, HF⟩
     case measure => simp [intOf]; omega
    ·have hjI : ¬ (j : Int) < (ks.length : Int) := by omega
     go_wp2
     go_ret
     exact ⟨rfl, KB.out.1⟩
end Go.Proofs.YtaoocecipacnhaaDoor
