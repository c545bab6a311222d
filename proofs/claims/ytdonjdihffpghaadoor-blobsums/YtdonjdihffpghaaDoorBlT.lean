/- A slice of bytes among a law's arguments; contracts: the reference's Lent, Kept. -/
import Derived.Test.YtdonjdihffpghaaDoorBlS
import Derived.SizedLaws
import Derived.Carry
import Derived.ChangeSlices
import Derived.Laws.AppendOwnNone
import Derived.OwnWalk
namespace Go.Proofs.YtdonjdihffpghaaDoor
open Go.RowKit Go.ChangeShapes Sr
set_option linter.unusedVariables false

theorem laidOutP : laidOutB Tryd.prog = true := by kernel_rfl
theorem cells5 : Tryd.prog.cellsOf 5 = 1 := by kernel_rfl
theorem bytes5 : Tryd.prog.bytesOf 5 = 1 := by kernel_rfl
/-- v is a slice of the bytes L. -/
def BytesA (W : World) (v : Value) (L : List UInt8) : Prop := (v = .slice none 0 0 ∧ L = []) ∨ ∃ a cap, v = .slice (some a) L.length cap ∧ L.length ≤ cap ∧ cap ≤ maxLen ∧ ∀ j x, L[j]? = some x → W.cell? (a.add j) = some (.int .u8 (x.toNat : Int))
theorem bytes_arg {H : Type} {enc : TypeId × Value → H} {W : World} {fuel : Nat} {v : Value} {d : DataW H} {ps : List MemPlace} (hf : DataW.trod enc Tryd.prog W 0 (fun _ => true) true fuel 22 [v] = some (d, ps))
    {ts : List TypeId} {ds : List (DataW H)} (hsz : (DataW.weightsEach Tryd.prog ts ds).all (· ≤ reachBytes) = true) {j : Nat} (ht : ts[j]? = some 22) (hd : ds[j]? = some d) :
    ∃ L : List UInt8, BytesA W v L ∧ L.length ≤ 140737488351232 := by
  rcases open_ints Tryd.underlying22 Tryd.underlying5 cells5 hf with ⟨hcs, hx⟩ | ⟨a, len, cap, zs, hcs, _, hl, hm, hz, hx, hcell, hs2⟩
  · simp only [List.cons.injEq, and_true] at hcs
    exact ⟨[], .inl ⟨hcs, rfl⟩, by simp⟩
  · simp only [List.cons.injEq, and_true] at hcs
    simp only [if_true] at hz
    have hdx : d = .slice (lits .u8 (zs.take len)) (lits .u8 (zs.drop len)) := congrArg Prod.fst hx
    rw [hdx] at hd
    have hlen : (zs.take len).length = len := by rw [List.length_take]; omega
    refine ⟨(zs.take len).map fun n => UInt8.ofNat n.toNat, .inr ⟨a, cap, by rw [List.length_map, hlen]; exact hcs, by rw [List.length_map, hlen]; exact hl, hm, ?_⟩, ?_⟩
    · intro i t hi
      rw [List.getElem?_map, Option.map_eq_some_iff] at hi
      obtain ⟨n, hn, rfl⟩ := hi
      have hi' : i < len := by have := (List.getElem?_eq_some_iff.1 hn).1; omega
      rw [List.getElem?_take, if_pos hi'] at hn
      have hwf := hs2 n (List.mem_of_getElem? hn)
      have h0 : 0 ≤ n ∧ n ≤ 255 := by simpa [Lit.wf, IntKind.min, IntKind.max, IntKind.signed, IntKind.bits] using hwf
      rw [hcell i (by omega)]
      have hg : zs.getD i 0 = n := by simp [List.getD, hn]
      rw [hg, u8_of]
      congr 2
      omega
    · have := sized_slice hsz ht hd Tryd.underlying22
      rw [bytes5] at this
      simp only [lits, List.length_map] at this
      unfold reachBytes at this
      rw [List.length_map]
      omega

def a5L : List UInt8 := [165, 165, 165, 165, 165, 165, 165, 165]
theorem lent_fit {v' : Value} {w' : World} {base n : Nat} {L : List UInt8} (h : w'.ownsRow base 5 1 v' (n + 8) (cellsB (L ++ a5L))) (hL : L.length = n) : ∃ g cap cur, v' = .slice (some ⟨g, 0, none⟩) (n + 8) cap ∧ w'.heap[g]? = some (.cells cur 5 (0, 0)) ∧ n + 8 ≤ cap ∧ cap ≤ maxLen ∧ cur.toList.take (n + 8) = cellsB (L ++ a5L) := by
  rcases h.2 with ⟨_, z⟩ | ⟨g, cap, cur, rfl, _, hg, h1, h2, _, h3⟩
  · omega
  · exact ⟨g, cap, cur, rfl, hg, h1, h2, by rw [Nat.mul_one] at h3; exact h3⟩

set_option maxRecDepth 100000 in
set_option maxHeartbeats 4000000 in
theorem lent_any (v : Value) (L : List UInt8) (w : World) (HA : Hid (BytesA w v L)) (hz : L.length ≤ 140737488351232) :
    Calls Tryd.prog 5 #[v] w fun e w' => ∃ g cap cur, e = .returned (.slice (some ⟨g, 0, none⟩) L.length cap) ∧ w'.heap[g]? = some (.cells cur 5 (0, 0)) ∧ L.length + 8 ≤ cap ∧ cap ≤ maxLen ∧ cur.toList.take (L.length + 8) = cellsB (L ++ a5L) ∧ Below w.heap.size w w' := by
  obtain ⟨i0, hi, hz0, hz1, hz2⟩ := info_parts infoU8
  obtain ⟨n, hn⟩ : ∃ n, L.length = n := ⟨_, rfl⟩
  rw [hn] at hz ⊢
  have hfin : ∀ (w1 : World) (v1 : Value), w1.ownsRow w.heap.size 5 1 v1 n (cellsB L) → Below w.heap.size w w1 → True := fun _ _ _ _ => trivial
  rcases HA.out with ⟨rfl, hL⟩ | ⟨a, c, rfl, hc1, hc2, hcell⟩
  · subst hL
    have hn0 : n = 0 := hn.symm
    subst hn0
    clear HA hfin
    go_enter Tryd.func5, Tryd.ntmps5
    go_upto_region 3 with (first
      | (refine wpList_make_own _ rfl _ _ 22 rfl w.heap.size 5 i0 (.int .u8 0) 1 Tryd.underlying22 hi hz0 hz1 .i64 .i64 8 8 rfl rfl rfl (by rw [hz2]; omega) (by unfold maxLen; omega) (Nat.le_refl _) ?_; intro w1 hown1 hgr1)
      | (at_builtin; refine wpList_append_own_none rfl _ _ 22 rfl w.heap.size 5 i0 1 Tryd.underlying22 hi _ 0 [] rfl hown1 rfl ?_)
      | fail)
    have hb1 : Below w.heap.size w w1 := Below.grown (Below.refl _ w) hgr1 (Nat.le_refl _) (fun k hk => by simp at hk)
    obtain ⟨v2, hv2⟩ : ∃ v2, Value.slice (some ⟨w.heap.size, 0, none⟩) 0 8 = v2 := ⟨_, rfl⟩
    rw [hv2] at hown1 ⊢
    clear hgr1 hv2
    have HO : Hid (w1.ownsRow w.heap.size 5 1 v2 0 (cellsB [])) := hown1
    have HB : Hid (Below w.heap.size w w1) := hb1
    clear hown1 hb1
    go_wp2_with (at_builtin; refine wpList_append_own _ rfl _ _ 22 rfl w.heap.size 5 i0 (.int .u8 0) 1 1 Tryd.underlying22 hi hz0 hz1 hz2 rfl (by decide) v2 0 (cellsB []) rfl (HO.out.alloc _) ⟨w1.heap.size, 0, none⟩ 8 8 (cellsB a5L) rfl rfl (cells_rd (Bx.new w1 (cellsB a5L) 5)) (cellsB_one _) (by unfold maxLen; omega) (by omega) (by have := HB.out.size; simp; omega) ?_)
    intro v' w3 hown' hgrow3 _
    rw [← cellsB_app] at hown'
    obtain ⟨g, cap, cur, rfl, hg, h1, h2, h3⟩ := lent_fit hown' hn
    have HB3 : Hid (Below w.heap.size w w3) := Below.grown (HB.out.alloc HB.out.size _) hgrow3 (by have := HB.out.size; simp; omega) (fun k hk => (HO.out.lt _ hk).1)
    have HG : Hid (w3.heap[g]? = some (.cells cur 5 (0, 0))) := hg
    have H3 : Hid (cur.toList.take (0 + 8) = cellsB ([] ++ a5L)) := h3
    clear hown' hgrow3 HO HB hg h3
    unfold maxLen at h2
    go_wp2_with fail
    exact bodyPost_ret (v := .slice (some ⟨g, 0, none⟩) 0 cap) (by simp [results, Tryd.results5, go_sem]) rfl ⟨g, cap, cur, rfl, HG.out, h1, by unfold maxLen; omega, H3.out, HB3.out⟩
  · rw [hn]
    have HC : Hid (∀ j u, (cellsB L)[j]? = some u → w.cell? (a.add j) = some u) := by
      intro j u hu
      obtain ⟨x, hx, rfl⟩ : ∃ x, L[j]? = some x ∧ u = .int .u8 (x.toNat : Int) := by
        simp only [cellsB, List.getElem?_map, Option.map_eq_some_iff] at hu
        obtain ⟨x, hx, he⟩ := hu
        exact ⟨x, hx, he.symm⟩
      exact hcell j x hx
    have hal : L = [] ∨ a.block < w.heap.size := by
      rcases L with _ | ⟨x, L⟩
      · exact .inl rfl
      · right
        have := hcell 0 x rfl
        have h9 := World.block_lt_of_cell? w _ this
        simpa [Addr.add] using h9
    clear HA hfin hcell
    go_enter Tryd.func5, Tryd.ntmps5
    go_upto_region 2 with (refine wpList_make_own _ rfl _ _ 22 rfl w.heap.size 5 i0 (.int .u8 0) 1 Tryd.underlying22 hi hz0 hz1 .i64 .i64 ((n : Int) + 8) (n + 8) rfl rfl rfl (by rw [hz2]; omega) (by unfold maxLen; omega) (Nat.le_refl _) ?_; intro w1 hown1 hgr1)
    have hb1 : Below w.heap.size w w1 := Below.grown (Below.refl _ w) hgr1 (Nat.le_refl _) (fun k hk => by simp at hk)
    obtain ⟨v1, hv1⟩ : ∃ v1, Value.slice (some ⟨w.heap.size, 0, none⟩) 0 (n + 8) = v1 := ⟨_, rfl⟩
    rw [hv1] at hown1 ⊢
    have HC1 : Hid (∀ j u, (cellsB L)[j]? = some u → w1.cell? (a.add j) = some u) := by
      intro j u hu
      rcases hal with rfl | hal
      · simp [cellsB] at hu
      · have hab : (a.add j).block = a.block := by unfold Addr.add; split <;> rfl
        exact (hb1.cell (p := a.add j) (by rw [hab]; exact hal)).trans (HC.out j u hu)
    have HO1 : Hid (w1.ownsRow w.heap.size 5 1 v1 0 []) := hown1
    have HB1 : Hid (Below w.heap.size w w1) := hb1
    clear hown1 hb1 hgr1 hv1 HC hal
    go_upto_region 3 with (at_builtin; refine wpList_append_own _ rfl _ _ 22 rfl w.heap.size 5 i0 (.int .u8 0) 1 1 Tryd.underlying22 hi hz0 hz1 hz2 rfl (by decide) v1 0 [] rfl HO1.out a n c (cellsB L) rfl (by rw [cellsB_len, hn, Nat.mul_one]) HC1.out (cellsB_one _) (by unfold maxLen; omega) (by omega) HB1.out.size ?_; intro v2 w2 hown2 hgrow2 _)
    rw [Nat.zero_add, List.nil_append] at hown2
    have hb2 : Below w.heap.size w w2 := Below.grown HB1.out hgrow2 HB1.out.size (fun k hk => (HO1.out.lt _ hk).1)
    clear HC1 HO1 HB1 hgrow2
    have HO : Hid (w2.ownsRow w.heap.size 5 1 v2 n (cellsB L)) := hown2
    have HB : Hid (Below w.heap.size w w2) := hb2
    clear hown2 hb2
    go_wp2_with (at_builtin; refine wpList_append_own _ rfl _ _ 22 rfl w.heap.size 5 i0 (.int .u8 0) 1 1 Tryd.underlying22 hi hz0 hz1 hz2 rfl (by decide) v2 n (cellsB L) rfl (HO.out.alloc _) ⟨w2.heap.size, 0, none⟩ 8 8 (cellsB a5L) rfl rfl (cells_rd (Bx.new w2 (cellsB a5L) 5)) (cellsB_one _) (by unfold maxLen; omega) (by omega) (by have := HB.out.size; simp; omega) ?_)
    intro v' w3 hown' hgrow3 _
    rw [← cellsB_app] at hown'
    obtain ⟨g, cap, cur, rfl, hg, h1, h2, h3⟩ := lent_fit hown' hn
    have HB3 : Hid (Below w.heap.size w w3) := Below.grown (HB.out.alloc HB.out.size _) hgrow3 (by have := HB.out.size; simp; omega) (fun k hk => (HO.out.lt _ hk).1)
    have HG : Hid (w3.heap[g]? = some (.cells cur 5 (0, 0))) := hg
    have H3 : Hid (cur.toList.take (n + 8) = cellsB (L ++ a5L)) := h3
    clear hown' hgrow3 HO HB hg h3
    unfold maxLen at h2
    go_wp2_with fail
    exact bodyPost_ret (v := .slice (some ⟨g, 0, none⟩) n cap) (by simp [results, Tryd.results5, go_sem]) rfl ⟨g, cap, cur, rfl, HG.out, h1, by unfold maxLen; omega, H3.out, HB3.out⟩

end Go.Proofs.YtdonjdihffpghaaDoor
