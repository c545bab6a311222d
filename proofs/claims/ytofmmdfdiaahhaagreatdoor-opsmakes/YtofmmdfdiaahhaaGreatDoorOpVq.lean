/- show.RightValue: a stamp, a date, an interval as a value. -/
import Derived.Test.YtofmmdfdiaahhaaGreatDoorOpUq
namespace Go.Proofs.YtofmmdfdiaahhaaGreatDoor
open Go.RowKit
set_option linter.unusedVariables false

def vZ : List Value := [.int .i64 0, .bool false, .int .i64 0, .int .i64 0, .string ⟨#[]⟩, .int .i64 0, .int .i64 0, .int .i64 0, .int .i64 0, .int .i64 0, .int .i64 0, .int .i64 0, .int .i64 0]
def vK (k : Int) : List Value := [.int .i64 k, .bool false, .int .i64 0, .int .i64 0, .string ⟨#[]⟩, .int .i64 0, .int .i64 0, .int .i64 0, .int .i64 0, .int .i64 0, .int .i64 0, .int .i64 0, .int .i64 0]
theorem one_vK (k : Int) : (vK k).toArray.all (·.oneCell') = true := by simp [vK, Value.oneCell']

def v_st (i u : Int) : List Value := [.int .i64 6, .bool false, .int .i64 0, .int .i64 0, .string ⟨#[]⟩, .int .i64 0, .int .i64 0, .int .i64 i, .int .i64 u, .int .i64 0, .int .i64 0, .int .i64 0, .int .i64 0]
set_option maxRecDepth 100000 in
set_option maxHeartbeats 4000000 in
theorem eqv_st (i u : Int) (w : World) : (Op.equalIn 10000 63 (.agg (v_st i u).toArray) (.agg (v_st i u).toArray)).run Tryz.prog w = .ok true w := by
  rw [run_equalIn_struct w 9999 63 _ _ (by kernel_rfl) (by kernel_rfl)]
  unfold v_st
  go_simp

set_option maxRecDepth 100000 in
set_option maxHeartbeats 4000000 in
theorem rv_st (i u : Int) (R : Hid (∀ w : World, Cvl.Lens w → Calls Tryz.prog 20 #[.agg #[.int .i64 i, .int .i64 u]] w fun r' w' => r' = .returned (.bool true) ∧ Below w.heap.size w w')) (w : World) (hL : Hid (∀ W : World, Below w.heap.size w W → Cvl.Lens W)) :
    Calls Tryz.prog 37 #[.agg (v_st i u).toArray] w fun r w' => r = .returned (.bool true) ∧ Below w.heap.size w w' := by
  have X0 : Hid (BS w [(w.heap.size, (v_st i u))] (w.alloc (.cells (v_st i u).toArray 63))) := (BS.start w).new (v_st i u) _ rfl
  have hEQ := fun W => eqv_st i u W
  go_enter Tryz.func37, Tryz.ntmps37
  generalize hUA : (v_st i u).toArray = UA at *
  go_upto_region 1 with fail
  refine bs_to X0 ?_
  clear X0
  intro W0 K0
  have c0 : W0.cell? ⟨w.heap.size, 0, none⟩ = some (.int .i64 6) := (bo1 K0).c 0 rfl
  have hlt := (bo1 K0).1
  have Mz := bsn K0 vZ 63
  go_upto_region 2 with (refine wpList_store_mid rfl 63 _ _ rfl W0.heap.size 0 (vK 6).toArray rfl rfl (bo1 Mz).there (by kernel_rfl) (one_vK 6) ?_; refine gen_at (fun V => Hid (BS w [(W0.heap.size, vK 6), (w.heap.size, (v_st i u))] V)) (Mz.out.set (vK 6) rfl (by intro x hx; simp only [List.mem_singleton] at hx; subst hx; simp only []; omega)) ?_; clear Mz K0 c0; intro W1 K1)
  generalize hN : W0.heap.size = nb at *
  have c0 : W1.cell? ⟨w.heap.size, 0, none⟩ = some (.int .i64 6) := (bo2 K1).c 0 rfl
  have d0 : W1.cell? ⟨w.heap.size, 7, none⟩ = some (.int .i64 i) := (bo2 K1).c 7 rfl
  have d1 : W1.cell? ⟨w.heap.size, 8, none⟩ = some (.int .i64 u) := (bo2 K1).c 8 rfl
  have X1 : Hid (Bx W1 nb (vK 6)) := bo1 K1
  have hth : W1.there nb 7 2 := fun j hj => by
    have hj2 : (vK 6)[7 + j]? = some ((vK 6)[7 + j]'(by have : (vK 6).length = 13 := rfl; omega)) := List.getElem?_eq_getElem _
    have := X1.out.2 (7 + j) _ hj2
    exact ⟨by rw [this.1]; rfl, this.2⟩
  have HTH : Hid (W1.there nb 7 2) := hth
  have X2 : Hid (Bx (W1.setCells nb 7 [.int .i64 i, .int .i64 u]) nb (v_st i u)) := by
    refine ⟨by rw [setCells_size]; exact X1.out.1, fun i' v e => ?_⟩
    have hi := (List.getElem?_eq_some_iff.1 e).1
    have hi2 : i' < 13 := hi
    have hold : (vK 6)[i']? = some ((vK 6)[i']'hi2) := List.getElem?_eq_getElem _
    have hf := (X1.out.2 i' _ hold).2
    refine ⟨?_, by rw [World.frozen?_setCells]; exact hf⟩
    by_cases hin : 7 ≤ i' ∧ i' < 9
    · have := World.rangeAt_setCells_same W1 nb 7 [.int .i64 i, .int .i64 u] hth (i' - 7) v (by
        have : i' = 7 ∨ i' = 8 := by omega
        rcases this with rfl | rfl <;> exact e)
      rwa [show 7 + (i' - 7) = i' by omega] at this
    · refine (World.cell?_setCells_out nb _ 7 W1 ⟨nb, i', none⟩ (fun _ _ => by simp only [List.length_cons, List.length_nil]; omega)).trans ?_
      have h9 := (X1.out.2 i' _ hold).1
      rw [h9]
      have : i' = 0 ∨ i' = 1 ∨ i' = 2 ∨ i' = 3 ∨ i' = 4 ∨ i' = 5 ∨ i' = 6 ∨ i' = 9 ∨ i' = 10 ∨ i' = 11 ∨ i' = 12 := by omega
      rcases this with rfl | rfl | rfl | rfl | rfl | rfl | rfl | rfl | rfl | rfl | rfl <;> exact e
  have X3 : Hid (BS w [(w.heap.size, (v_st i u))] (W1.setCells nb 7 [.int .i64 i, .int .i64 u])) := by
    refine ⟨below_setCells (K1.out.2 _ List.mem_cons_self).1 _ _ _ K1.out.1, fun x hx => ?_⟩
    simp only [List.mem_singleton] at hx
    subst hx
    exact ⟨Nat.le_refl _, (bo2 K1).setOther (by omega) _ _⟩
  have hnb : w.heap.size ≤ nb := (K1.out.2 _ List.mem_cons_self).1
  have X4 : Hid (BS w [(nb, (v_st i u)), (w.heap.size, (v_st i u))] (W1.setCells nb 7 [.int .i64 i, .int .i64 u])) := by
    refine ⟨X3.out.1, fun x hx => ?_⟩
    rcases List.mem_cons.1 hx with rfl | hx
    · exact ⟨hnb, X2.out⟩
    · exact X3.out.2 x hx
  clear hth X1 X2 X3 K1
  go_upto_region 21 with (refine wpList_store_mid rfl 23 _ _ rfl nb 7 #[.int .i64 i, .int .i64 u] rfl rfl HTH.out (by kernel_rfl) (by simp [Value.oneCell']) ?_; refine gen_at (fun V => Hid (BS w [(nb, (v_st i u)), (w.heap.size, (v_st i u))] V)) X4 ?_; clear X4 HTH c0 d0 d1; intro W2 K2)
  have d0 : W2.cell? ⟨w.heap.size, 7, none⟩ = some (.int .i64 i) := (bo2 K2).c 7 rfl
  have d1 : W2.cell? ⟨w.heap.size, 8, none⟩ = some (.int .i64 u) := (bo2 K2).c 8 rfl
  go_wp2_with fail
  refine (R.out _ (hL.out _ K2.out.1)).mono ?_
  rintro e W3 ⟨rfl, hb⟩
  have K3 := bsb K2 hb
  clear hb K2 d0 d1
  go_wp2_with (first | (refine mid_on (by kernel_rfl) 63 _ rfl w.heap.size 0 rfl (v_st i u) _ (bo2 K3).all Tryz.underlying63 rfl (by kernel_rfl) ?_; rw [hUA]) | (refine mid_on (by kernel_rfl) 63 _ rfl nb 0 rfl (v_st i u) _ (bo1 K3).all Tryz.underlying63 rfl (by kernel_rfl) ?_; rw [hUA]) | fail)
  go_ret
  exact ⟨rfl, K3.out.1⟩

def v_dt (i d : Int) : List Value := [.int .i64 5, .bool false, .int .i64 0, .int .i64 0, .string ⟨#[]⟩, .int .i64 i, .int .i64 d, .int .i64 0, .int .i64 0, .int .i64 0, .int .i64 0, .int .i64 0, .int .i64 0]
set_option maxRecDepth 100000 in
set_option maxHeartbeats 4000000 in
theorem eqv_dt (i d : Int) (w : World) : (Op.equalIn 10000 63 (.agg (v_dt i d).toArray) (.agg (v_dt i d).toArray)).run Tryz.prog w = .ok true w := by
  rw [run_equalIn_struct w 9999 63 _ _ (by kernel_rfl) (by kernel_rfl)]
  unfold v_dt
  go_simp

set_option maxRecDepth 100000 in
set_option maxHeartbeats 4000000 in
theorem rv_dt (i d : Int) (R : Hid (∀ w : World, Cvl.Lens w → Calls Tryz.prog 60 #[.agg #[.int .i64 i, .int .i64 d]] w fun r' w' => r' = .returned (.bool true) ∧ Below w.heap.size w w')) (w : World) (hL : Hid (∀ W : World, Below w.heap.size w W → Cvl.Lens W)) :
    Calls Tryz.prog 37 #[.agg (v_dt i d).toArray] w fun r w' => r = .returned (.bool true) ∧ Below w.heap.size w w' := by
  have X0 : Hid (BS w [(w.heap.size, (v_dt i d))] (w.alloc (.cells (v_dt i d).toArray 63))) := (BS.start w).new (v_dt i d) _ rfl
  have hEQ := fun W => eqv_dt i d W
  go_enter Tryz.func37, Tryz.ntmps37
  generalize hUA : (v_dt i d).toArray = UA at *
  go_upto_region 1 with fail
  refine bs_to X0 ?_
  clear X0
  intro W0 K0
  have c0 : W0.cell? ⟨w.heap.size, 0, none⟩ = some (.int .i64 5) := (bo1 K0).c 0 rfl
  have hlt := (bo1 K0).1
  have Mz := bsn K0 vZ 63
  go_upto_region 2 with (refine wpList_store_mid rfl 63 _ _ rfl W0.heap.size 0 (vK 5).toArray rfl rfl (bo1 Mz).there (by kernel_rfl) (one_vK 5) ?_; refine gen_at (fun V => Hid (BS w [(W0.heap.size, vK 5), (w.heap.size, (v_dt i d))] V)) (Mz.out.set (vK 5) rfl (by intro x hx; simp only [List.mem_singleton] at hx; subst hx; simp only []; omega)) ?_; clear Mz K0 c0; intro W1 K1)
  generalize hN : W0.heap.size = nb at *
  have c0 : W1.cell? ⟨w.heap.size, 0, none⟩ = some (.int .i64 5) := (bo2 K1).c 0 rfl
  have d0 : W1.cell? ⟨w.heap.size, 5, none⟩ = some (.int .i64 i) := (bo2 K1).c 5 rfl
  have d1 : W1.cell? ⟨w.heap.size, 6, none⟩ = some (.int .i64 d) := (bo2 K1).c 6 rfl
  have X1 : Hid (Bx W1 nb (vK 5)) := bo1 K1
  have hth : W1.there nb 5 2 := fun j hj => by
    have hj2 : (vK 5)[5 + j]? = some ((vK 5)[5 + j]'(by have : (vK 5).length = 13 := rfl; omega)) := List.getElem?_eq_getElem _
    have := X1.out.2 (5 + j) _ hj2
    exact ⟨by rw [this.1]; rfl, this.2⟩
  have HTH : Hid (W1.there nb 5 2) := hth
  have X2 : Hid (Bx (W1.setCells nb 5 [.int .i64 i, .int .i64 d]) nb (v_dt i d)) := by
    refine ⟨by rw [setCells_size]; exact X1.out.1, fun i' v e => ?_⟩
    have hi := (List.getElem?_eq_some_iff.1 e).1
    have hi2 : i' < 13 := hi
    have hold : (vK 5)[i']? = some ((vK 5)[i']'hi2) := List.getElem?_eq_getElem _
    have hf := (X1.out.2 i' _ hold).2
    refine ⟨?_, by rw [World.frozen?_setCells]; exact hf⟩
    by_cases hin : 5 ≤ i' ∧ i' < 7
    · have := World.rangeAt_setCells_same W1 nb 5 [.int .i64 i, .int .i64 d] hth (i' - 5) v (by
        have : i' = 5 ∨ i' = 6 := by omega
        rcases this with rfl | rfl <;> exact e)
      rwa [show 5 + (i' - 5) = i' by omega] at this
    · refine (World.cell?_setCells_out nb _ 5 W1 ⟨nb, i', none⟩ (fun _ _ => by simp only [List.length_cons, List.length_nil]; omega)).trans ?_
      have h9 := (X1.out.2 i' _ hold).1
      rw [h9]
      have : i' = 0 ∨ i' = 1 ∨ i' = 2 ∨ i' = 3 ∨ i' = 4 ∨ i' = 7 ∨ i' = 8 ∨ i' = 9 ∨ i' = 10 ∨ i' = 11 ∨ i' = 12 := by omega
      rcases this with rfl | rfl | rfl | rfl | rfl | rfl | rfl | rfl | rfl | rfl | rfl <;> exact e
  have X3 : Hid (BS w [(w.heap.size, (v_dt i d))] (W1.setCells nb 5 [.int .i64 i, .int .i64 d])) := by
    refine ⟨below_setCells (K1.out.2 _ List.mem_cons_self).1 _ _ _ K1.out.1, fun x hx => ?_⟩
    simp only [List.mem_singleton] at hx
    subst hx
    exact ⟨Nat.le_refl _, (bo2 K1).setOther (by omega) _ _⟩
  have hnb : w.heap.size ≤ nb := (K1.out.2 _ List.mem_cons_self).1
  have X4 : Hid (BS w [(nb, (v_dt i d)), (w.heap.size, (v_dt i d))] (W1.setCells nb 5 [.int .i64 i, .int .i64 d])) := by
    refine ⟨X3.out.1, fun x hx => ?_⟩
    rcases List.mem_cons.1 hx with rfl | hx
    · exact ⟨hnb, X2.out⟩
    · exact X3.out.2 x hx
  clear hth X1 X2 X3 K1
  go_upto_region 17 with (refine wpList_store_mid rfl 40 _ _ rfl nb 5 #[.int .i64 i, .int .i64 d] rfl rfl HTH.out (by kernel_rfl) (by simp [Value.oneCell']) ?_; refine gen_at (fun V => Hid (BS w [(nb, (v_dt i d)), (w.heap.size, (v_dt i d))] V)) X4 ?_; clear X4 HTH c0 d0 d1; intro W2 K2)
  have d0 : W2.cell? ⟨w.heap.size, 5, none⟩ = some (.int .i64 i) := (bo2 K2).c 5 rfl
  have d1 : W2.cell? ⟨w.heap.size, 6, none⟩ = some (.int .i64 d) := (bo2 K2).c 6 rfl
  go_wp2_with fail
  refine (R.out _ (hL.out _ K2.out.1)).mono ?_
  rintro e W3 ⟨rfl, hb⟩
  have K3 := bsb K2 hb
  clear hb K2 d0 d1
  go_wp2_with (first | (refine mid_on (by kernel_rfl) 63 _ rfl w.heap.size 0 rfl (v_dt i d) _ (bo2 K3).all Tryz.underlying63 rfl (by kernel_rfl) ?_; rw [hUA]) | (refine mid_on (by kernel_rfl) 63 _ rfl nb 0 rfl (v_dt i d) _ (bo1 K3).all Tryz.underlying63 rfl (by kernel_rfl) ?_; rw [hUA]) | fail)
  go_ret
  exact ⟨rfl, K3.out.1⟩

def v_sp (i m d u : Int) : List Value := [.int .i64 8, .bool false, .int .i64 0, .int .i64 0, .string ⟨#[]⟩, .int .i64 0, .int .i64 0, .int .i64 0, .int .i64 0, .int .i64 i, .int .i64 m, .int .i64 d, .int .i64 u]
set_option maxRecDepth 100000 in
set_option maxHeartbeats 4000000 in
theorem eqv_sp (i m d u : Int) (w : World) : (Op.equalIn 10000 63 (.agg (v_sp i m d u).toArray) (.agg (v_sp i m d u).toArray)).run Tryz.prog w = .ok true w := by
  rw [run_equalIn_struct w 9999 63 _ _ (by kernel_rfl) (by kernel_rfl)]
  unfold v_sp
  go_simp

set_option maxRecDepth 100000 in
set_option maxHeartbeats 4000000 in
theorem rv_sp (i m d u : Int) (R : Hid (∀ w : World, Calls Tryz.prog 27 #[.agg #[.int .i64 i, .int .i64 m, .int .i64 d, .int .i64 u]] w fun r' w' => r' = .returned (.bool true) ∧ Below w.heap.size w w')) (w : World) :
    Calls Tryz.prog 37 #[.agg (v_sp i m d u).toArray] w fun r w' => r = .returned (.bool true) ∧ Below w.heap.size w w' := by
  have X0 : Hid (BS w [(w.heap.size, (v_sp i m d u))] (w.alloc (.cells (v_sp i m d u).toArray 63))) := (BS.start w).new (v_sp i m d u) _ rfl
  have hEQ := fun W => eqv_sp i m d u W
  go_enter Tryz.func37, Tryz.ntmps37
  generalize hUA : (v_sp i m d u).toArray = UA at *
  go_upto_region 1 with fail
  refine bs_to X0 ?_
  clear X0
  intro W0 K0
  have c0 : W0.cell? ⟨w.heap.size, 0, none⟩ = some (.int .i64 8) := (bo1 K0).c 0 rfl
  have hlt := (bo1 K0).1
  have Mz := bsn K0 vZ 63
  go_upto_region 2 with (refine wpList_store_mid rfl 63 _ _ rfl W0.heap.size 0 (vK 8).toArray rfl rfl (bo1 Mz).there (by kernel_rfl) (one_vK 8) ?_; refine gen_at (fun V => Hid (BS w [(W0.heap.size, vK 8), (w.heap.size, (v_sp i m d u))] V)) (Mz.out.set (vK 8) rfl (by intro x hx; simp only [List.mem_singleton] at hx; subst hx; simp only []; omega)) ?_; clear Mz K0 c0; intro W1 K1)
  generalize hN : W0.heap.size = nb at *
  have c0 : W1.cell? ⟨w.heap.size, 0, none⟩ = some (.int .i64 8) := (bo2 K1).c 0 rfl
  have d0 : W1.cell? ⟨w.heap.size, 9, none⟩ = some (.int .i64 i) := (bo2 K1).c 9 rfl
  have d1 : W1.cell? ⟨w.heap.size, 10, none⟩ = some (.int .i64 m) := (bo2 K1).c 10 rfl
  have d2 : W1.cell? ⟨w.heap.size, 11, none⟩ = some (.int .i64 d) := (bo2 K1).c 11 rfl
  have d3 : W1.cell? ⟨w.heap.size, 12, none⟩ = some (.int .i64 u) := (bo2 K1).c 12 rfl
  have X1 : Hid (Bx W1 nb (vK 8)) := bo1 K1
  have hth : W1.there nb 9 4 := fun j hj => by
    have hj2 : (vK 8)[9 + j]? = some ((vK 8)[9 + j]'(by have : (vK 8).length = 13 := rfl; omega)) := List.getElem?_eq_getElem _
    have := X1.out.2 (9 + j) _ hj2
    exact ⟨by rw [this.1]; rfl, this.2⟩
  have HTH : Hid (W1.there nb 9 4) := hth
  have X2 : Hid (Bx (W1.setCells nb 9 [.int .i64 i, .int .i64 m, .int .i64 d, .int .i64 u]) nb (v_sp i m d u)) := by
    refine ⟨by rw [setCells_size]; exact X1.out.1, fun i' v e => ?_⟩
    have hi := (List.getElem?_eq_some_iff.1 e).1
    have hi2 : i' < 13 := hi
    have hold : (vK 8)[i']? = some ((vK 8)[i']'hi2) := List.getElem?_eq_getElem _
    have hf := (X1.out.2 i' _ hold).2
    refine ⟨?_, by rw [World.frozen?_setCells]; exact hf⟩
    by_cases hin : 9 ≤ i' ∧ i' < 13
    · have := World.rangeAt_setCells_same W1 nb 9 [.int .i64 i, .int .i64 m, .int .i64 d, .int .i64 u] hth (i' - 9) v (by
        have : i' = 9 ∨ i' = 10 ∨ i' = 11 ∨ i' = 12 := by omega
        rcases this with rfl | rfl | rfl | rfl <;> exact e)
      rwa [show 9 + (i' - 9) = i' by omega] at this
    · refine (World.cell?_setCells_out nb _ 9 W1 ⟨nb, i', none⟩ (fun _ _ => by simp only [List.length_cons, List.length_nil]; omega)).trans ?_
      have h9 := (X1.out.2 i' _ hold).1
      rw [h9]
      have : i' = 0 ∨ i' = 1 ∨ i' = 2 ∨ i' = 3 ∨ i' = 4 ∨ i' = 5 ∨ i' = 6 ∨ i' = 7 ∨ i' = 8 := by omega
      rcases this with rfl | rfl | rfl | rfl | rfl | rfl | rfl | rfl | rfl <;> exact e
  have X3 : Hid (BS w [(w.heap.size, (v_sp i m d u))] (W1.setCells nb 9 [.int .i64 i, .int .i64 m, .int .i64 d, .int .i64 u])) := by
    refine ⟨below_setCells (K1.out.2 _ List.mem_cons_self).1 _ _ _ K1.out.1, fun x hx => ?_⟩
    simp only [List.mem_singleton] at hx
    subst hx
    exact ⟨Nat.le_refl _, (bo2 K1).setOther (by omega) _ _⟩
  have hnb : w.heap.size ≤ nb := (K1.out.2 _ List.mem_cons_self).1
  have X4 : Hid (BS w [(nb, (v_sp i m d u)), (w.heap.size, (v_sp i m d u))] (W1.setCells nb 9 [.int .i64 i, .int .i64 m, .int .i64 d, .int .i64 u])) := by
    refine ⟨X3.out.1, fun x hx => ?_⟩
    rcases List.mem_cons.1 hx with rfl | hx
    · exact ⟨hnb, X2.out⟩
    · exact X3.out.2 x hx
  clear hth X1 X2 X3 K1
  go_upto_region 24 with (refine wpList_store_mid rfl 35 _ _ rfl nb 9 #[.int .i64 i, .int .i64 m, .int .i64 d, .int .i64 u] rfl rfl HTH.out (by kernel_rfl) (by simp [Value.oneCell']) ?_; refine gen_at (fun V => Hid (BS w [(nb, (v_sp i m d u)), (w.heap.size, (v_sp i m d u))] V)) X4 ?_; clear X4 HTH c0 d0 d1 d2 d3; intro W2 K2)
  have d0 : W2.cell? ⟨w.heap.size, 9, none⟩ = some (.int .i64 i) := (bo2 K2).c 9 rfl
  have d1 : W2.cell? ⟨w.heap.size, 10, none⟩ = some (.int .i64 m) := (bo2 K2).c 10 rfl
  have d2 : W2.cell? ⟨w.heap.size, 11, none⟩ = some (.int .i64 d) := (bo2 K2).c 11 rfl
  have d3 : W2.cell? ⟨w.heap.size, 12, none⟩ = some (.int .i64 u) := (bo2 K2).c 12 rfl
  go_wp2_with fail
  refine (R.out _).mono ?_
  rintro e W3 ⟨rfl, hb⟩
  have K3 := bsb K2 hb
  clear hb K2 d0 d1 d2 d3
  go_wp2_with (first | (refine mid_on (by kernel_rfl) 63 _ rfl w.heap.size 0 rfl (v_sp i m d u) _ (bo2 K3).all Tryz.underlying63 rfl (by kernel_rfl) ?_; rw [hUA]) | (refine mid_on (by kernel_rfl) 63 _ rfl nb 0 rfl (v_sp i m d u) _ (bo1 K3).all Tryz.underlying63 rfl (by kernel_rfl) ?_; rw [hUA]) | fail)
  go_ret
  exact ⟨rfl, K3.out.1⟩

end Go.Proofs.YtofmmdfdiaahhaaGreatDoor
