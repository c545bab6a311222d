/- expr.Steps of any node. -/
import Derived.Test.YtaoocecipacnhaaDoorExInq
namespace Go.Proofs.YtaoocecipacnhaaDoor
open Go.RowKit
set_option linter.unusedVariables false

mutual
def stN : Nd → Nat
  | .mk k _ ks _ => if k = 5 then 1 else 1 + stL ks
def stL : List Nd → Nat
  | [] => 0
  | n :: l => stN n + stL l
end
theorem stL_append : ∀ (l m : List Nd), stL (l ++ m) = stL l + stL m
  | [], m => by rw [stL, List.nil_append, Nat.zero_add]
  | n :: l, m => by rw [List.cons_append, stL, stL, stL_append l m]; omega
theorem stL_take {l : List Nd} {j : Nat} {n : Nd} (h : l[j]? = some n) : stL (l.take (j + 1)) = stL (l.take j) + stN n := by
  rw [List.take_add_one, h, stL_append]
  show _ + stL [n] = _
  rw [stL, stL]; omega
theorem stL_take_le (l : List Nd) (j : Nat) : stL (l.take j) ≤ stL l := by
  have := stL_append (l.take j) (l.drop j)
  rw [List.take_append_drop] at this
  omega

theorem NdAt.form {X : Nat → Prop} {w : World} {n : Nd} {d0 d1 d2 d3 : Value} (h : NdAt X w n [d0, d1, d2, d3]) : ∃ k t sq sn sc a, d0 = .int .i64 k ∧ d1 = .string t ∧ d2 = .slice sq sn sc ∧ d3 = .int .i64 a := by
  cases n with
  | mk k t ks a =>
    rw [NdAt] at h
    obtain ⟨sv, hcs, hv⟩ := h
    simp only [List.cons.injEq, and_true] at hcs
    obtain ⟨rfl, rfl, rfl, rfl⟩ := hcs
    rcases hv with ⟨q1, q2⟩ | ⟨b, cap, e1, _⟩
    · first | exact ⟨k, t, none, 0, 0, a, rfl, rfl, q2, rfl⟩ | exact ⟨k, t, none, 0, 0, a, rfl, rfl, q1, rfl⟩
    · exact ⟨k, t, _, _, _, a, rfl, rfl, e1, rfl⟩

set_option maxRecDepth 100000 in
set_option maxHeartbeats 4000000 in
theorem steps_any (n : Nd) (hn : PlN (fun _ => True) n) : ∀ (X : Nat → Prop) (w : World) (c0 c1 c2 c3 : Value), NdAt X w n [c0, c1, c2, c3] → stN n ≤ 1000000000 →
    Calls Tryd.prog 12 #[.agg #[c0, c1, c2, c3]] w fun e w' => e = .returned (.int .i64 (stN n : Nat)) ∧ Below w.heap.size w w' := by
  induction hn with
  | mk k t ks a ha hk ih =>
    intro X w c0 c1 c2 c3 h hle
    rw [NdAt] at h
    obtain ⟨sv, hcs, hv⟩ := h
    simp only [List.cons.injEq, and_true] at hcs
    obtain ⟨rfl, rfl, rfl, rfl⟩ := hcs
    have HI : Hid _ := ih
    clear hk ih ha
    obtain ⟨sq, sc, rfl, hkl, HG⟩ : ∃ sq sc, c2 = .slice sq ks.length sc ∧ ks.length ≤ 9223372036854775807 ∧ Hid (∀ j n, ks[j]? = some n → ∃ b, sq = some ⟨b, 0, none⟩ ∧ ks.length ≤ sc ∧ b < w.heap.size ∧ ∃ d0 d1 d2 d3, w.cell? ⟨b, j * 4, none⟩ = some d0 ∧ w.cell? ⟨b, j * 4 + 1, none⟩ = some d1 ∧ w.cell? ⟨b, j * 4 + 2, none⟩ = some d2 ∧ w.cell? ⟨b, j * 4 + 3, none⟩ = some d3 ∧ NdAt X w n [d0, d1, d2, d3]) := by
      rcases hv with ⟨q1, q2⟩ | ⟨b, cap, e1, e0, e2, e3, e4, e5, e6⟩
      · first | (subst q1; exact ⟨none, 0, q2, by simp, fun j n e => by simp at e⟩) | (subst q2; exact ⟨none, 0, q1, by simp, fun j n e => by simp at e⟩)
      · refine ⟨some ⟨b, 0, none⟩, cap, e1, by unfold maxLen at e3; omega, fun j n e => ⟨b, rfl, e2, e5, ?_⟩⟩
        have q := RwAt.get ks 0 j n e6 e
        rw [Nat.zero_add] at q
        exact q
    clear hv
    have hklI : (ks.length : Int) ≤ 9223372036854775807 := by omega
    rcases Classical.em (k = 5) with h5 | h5
    · have HE : Hid (stN (.mk k t ks a) = 1) := by show _ = _; rw [stN, if_pos h5]
      subst h5
      clear HI HG hle
      go_enter Tryd.func12, Tryd.ntmps12
      go_wp2
      go_ret
      exact ⟨by rw [HE.out]; rfl, (Below.refl _ w).alloc (Nat.le_refl _) _⟩
    have HE : Hid (stN (.mk k t ks a) = 1 + stL ks) := by show _ = _; rw [stN, if_neg h5]
    have g5 : (k == 5) = false := by simpa using h5
    rw [HE.out] at hle ⊢
    clear HE h5
    go_enter Tryd.func12, Tryd.ntmps12
    go_wp2_with fail
    go_loopw [3, 13] (fun u i W => ∃ (j : Nat), u = .int .i64 (1 + (stL (ks.take j) : Nat) : Int) ∧ i = .int .i64 (j : Int) ∧ j ≤ ks.length ∧ Hid (Below w.heap.size w W)) (fun _ i _ => ks.length - (intOf i).toNat)
    case atStart => exact ⟨0, rfl, rfl, Nat.zero_le _, (Below.refl _ w).alloc (Nat.le_refl _) _⟩
    case round =>
      obtain ⟨j, rfl, rfl, hj, KB⟩ := hrel
      have hj0 : (0 : Int) ≤ (j : Int) := by omega
      have hs := KB.out.size
      by_cases hjl : j < ks.length
      · have hjI : (j : Int) < (ks.length : Int) := by omega
        obtain ⟨b, rfl, hsc, hb, d0, d1, d2, d3, y0, y1, y2, y3, hnd⟩ := HG.out j _ (List.getElem?_eq_getElem hjl)
        have et := stL_take (List.getElem?_eq_getElem hjl)
        have el := stL_take_le ks (j + 1)
        obtain ⟨N, hN⟩ : ∃ N, N = stN ks[j] := ⟨_, rfl⟩
        rw [← hN] at et
        have HC : Hid (∀ V : World, Below w.heap.size w V → Calls Tryd.prog 12 #[.agg #[d0, d1, d2, d3]] V fun e w' => e = .returned (.int .i64 (N : Int)) ∧ Below V.heap.size V w') :=
          fun V hV => by rw [hN]; exact HI.out _ (List.getElem_mem hjl) X V d0 d1 d2 d3 (hnd.below hV) (by omega)
        have v0 := (KB.out.cell (p := ⟨b, j * 4, none⟩) hb).trans y0
        have v1 := (KB.out.cell (p := ⟨b, j * 4 + 1, none⟩) hb).trans y1
        have v2 := (KB.out.cell (p := ⟨b, j * 4 + 2, none⟩) hb).trans y2
        have v3 := (KB.out.cell (p := ⟨b, j * 4 + 3, none⟩) hb).trans y3
        have hbw : b < wr.heap.size := by omega
        obtain ⟨k2, t2, sq2, sn2, sc2, a2, rfl, rfl, rfl, rfl⟩ := hnd.form
        clear y0 y1 y2 y3 hnd HI HG hN
        go_wp2_with fail
        refine (HC.out _ (KB.out.trans (((Below.refl _ wr).alloc (Nat.le_refl _) _).mono hs))).mono ?_
        rintro e V ⟨rfl, hk⟩
        have KV : Hid (Below w.heap.size w V) := (KB.out.trans (((Below.refl _ wr).alloc (Nat.le_refl _) _).mono hs)).trans (hk.mono (by simp; omega))
        clear hk KB HC v0 v1 v2 v3
        go_wp2
        exact ⟨⟨j + 1, by rw [et]; simp; omega, by simp, by omega, KV.out⟩, by simp [intOf]; omega⟩
      · obtain rfl : j = ks.length := by omega
        rw [List.take_length]
        have hjI : ¬ (ks.length : Int) < (ks.length : Int) := by omega
        go_wp2
        go_ret
        exact ⟨by simp, KB.out⟩

end Go.Proofs.YtaoocecipacnhaaDoor
