/- law22's inside: all places of a node are below a number. -/
import Derived.Test.YtmlgfjkndnjocaaDoorExAq
namespace Go.Proofs.YtmlgfjkndnjocaaDoor
open Go.RowKit
set_option linter.unusedVariables false

theorem RwAt.get {X : Nat → Prop} {w : World} {b : Nat} : ∀ (l : List Nd) (i j : Nat) (n : Nd), RwAt X w b i l → l[j]? = some n → ∃ c0 c1 c2 c3, w.cell? ⟨b, (i + j) * 4, none⟩ = some c0 ∧ w.cell? ⟨b, (i + j) * 4 + 1, none⟩ = some c1 ∧ w.cell? ⟨b, (i + j) * 4 + 2, none⟩ = some c2 ∧ w.cell? ⟨b, (i + j) * 4 + 3, none⟩ = some c3 ∧ NdAt X w n [c0, c1, c2, c3]
  | [], i, j, n, h, e => by simp at e
  | m :: l, i, 0, n, h, e => by
    rw [RwAt] at h
    simp at e; subst e
    exact h.1
  | m :: l, i, j + 1, n, h, e => by
    rw [RwAt] at h
    have q := RwAt.get l (i + 1) j n h.2 (by simpa using e)
    rw [show i + 1 + j = i + (j + 1) by omega] at q
    exact q
theorem NdAt.below {X : Nat → Prop} {w W : World} {n : Nd} {cs : List Value} (h : NdAt X w n cs) (k : Below w.heap.size w W) : NdAt X W n cs :=
  NdAt.keep k.size (fun b hb hz => ⟨hb, k.block b hz⟩) n cs h

set_option maxRecDepth 100000 in
set_option maxHeartbeats 4000000 in
theorem inside_any (E : Int) (n : Nd) (hn : PlN (fun a => 0 ≤ a ∧ a < E) n) : ∀ (X : Nat → Prop) (w : World) (c0 c1 c2 c3 : Value), NdAt X w n [c0, c1, c2, c3] →
    Calls Tryd.prog 17 #[.agg #[c0, c1, c2, c3], .int .i64 E] w fun e w' => e = .returned (.bool true) ∧ Below w.heap.size w w' := by
  induction hn with
  | mk k t ks a ha hk ih =>
    intro X w c0 c1 c2 c3 h
    have HN : Hid (NdAt X w (.mk k t ks a) [c0, c1, c2, c3]) := h
    rw [NdAt] at h
    obtain ⟨sv, hcs, hv⟩ := h
    simp only [List.cons.injEq, and_true] at hcs
    obtain ⟨rfl, rfl, rfl, rfl⟩ := hcs
    obtain ⟨a0, a1⟩ := ha
    have HI : Hid _ := ih
    clear hk ih
    obtain ⟨sq, sc, rfl, hkl, HG⟩ : ∃ sq sc, c2 = .slice sq ks.length sc ∧ ks.length ≤ 9223372036854775807 ∧ Hid (∀ j n, ks[j]? = some n → ∃ b, sq = some ⟨b, 0, none⟩ ∧ ks.length ≤ sc ∧ b < w.heap.size ∧ ∃ d0 d1 d2 d3, w.cell? ⟨b, j * 4, none⟩ = some d0 ∧ w.cell? ⟨b, j * 4 + 1, none⟩ = some d1 ∧ w.cell? ⟨b, j * 4 + 2, none⟩ = some d2 ∧ w.cell? ⟨b, j * 4 + 3, none⟩ = some d3 ∧ NdAt X w n [d0, d1, d2, d3]) := by
      rcases hv with ⟨q1, q2⟩ | ⟨b, cap, e1, e0, e2, e3, e4, e5, e6⟩
      · first | (subst q1; exact ⟨none, 0, q2, by simp, fun j n e => by simp at e⟩) | (subst q2; exact ⟨none, 0, q1, by simp, fun j n e => by simp at e⟩)
      · refine ⟨some ⟨b, 0, none⟩, cap, e1, by unfold maxLen at e3; omega, fun j n e => ⟨b, rfl, e2, e5, ?_⟩⟩
        have q := RwAt.get ks 0 j n e6 e
        rw [Nat.zero_add] at q
        exact q
    clear hv
    have hklI : (ks.length : Int) ≤ 9223372036854775807 := by omega
    go_enter Tryd.func17, Tryd.ntmps17
    go_wp2_with fail
    go_loopw [5, 6] (fun u i W => ∃ (j : Nat), u = .bool true ∧ i = .int .i64 (j : Int) ∧ j ≤ ks.length ∧ Hid (BS w [(w.heap.size, [.int .i64 k, .string t, .slice sq ks.length sc, .int .i64 a])] W)) (fun _ i _ => ks.length - (intOf i).toNat)
    case atStart => exact ⟨0, rfl, rfl, Nat.zero_le _, (BS.start w).new _ _ rfl⟩
    case round =>
      obtain ⟨j, rfl, rfl, hj, KB⟩ := hrel
      have x2 := KB.out.first.c 2 rfl
      have hlt := KB.out.first.1
      have hj0 : (0 : Int) ≤ (j : Int) := by omega
      by_cases hjl : j < ks.length
      · have hjI : (j : Int) < (ks.length : Int) := by omega
        obtain ⟨b, rfl, hsc, hb, d0, d1, d2, d3, y0, y1, y2, y3, hnd⟩ := HG.out j _ (List.getElem?_eq_getElem hjl)
        have HC : Hid (∀ V : World, Below wr.heap.size wr V → Calls Tryd.prog 17 #[.agg #[d0, d1, d2, d3], .int .i64 E] V fun e w' => e = .returned (.bool true) ∧ Below V.heap.size V w') :=
          fun V hV => HI.out _ (List.getElem_mem hjl) X V d0 d1 d2 d3 ((hnd.below KB.out.1).below hV)
        have v0 := (KB.out.1.cell (p := ⟨b, j * 4, none⟩) hb).trans y0
        have v1 := (KB.out.1.cell (p := ⟨b, j * 4 + 1, none⟩) hb).trans y1
        have v2 := (KB.out.1.cell (p := ⟨b, j * 4 + 2, none⟩) hb).trans y2
        have v3 := (KB.out.1.cell (p := ⟨b, j * 4 + 3, none⟩) hb).trans y3
        have hbw : b < wr.heap.size := by omega
        clear y0 y1 y2 y3 hnd HI HG HN
        go_wp2_with fail
        refine (HC.out _ (Below.refl _ _)).mono ?_
        rintro e V ⟨rfl, hk⟩
        have KV : Hid _ := KB.out.below hk
        clear hk KB HC
        go_wp2
        exact ⟨⟨j + 1, rfl, by simp, by omega, KV.out⟩, by simp [intOf]; omega⟩
      · have hjI : ¬ (j : Int) < (ks.length : Int) := by omega
        go_wp2
        go_ret
        exact ⟨rfl, KB.out.1⟩

end Go.Proofs.YtmlgfjkndnjocaaDoor
