/- series: Tz, zoned.next over a table that can be read. -/
import Derived.Test.YtpdmndlpgjjopaaGreatDoorSeIq
import Derived.Test.YtpdmndlpgjjopaaGreatDoorZnFgq
namespace Go.Proofs.YtpdmndlpgjjopaaGreatDoor
open Go.RowKit
set_option linter.unusedVariables false

/-- an interval as cells. -/
def spC (j m d n : Int) : List Value := [.int .i64 j, .int .i64 m, .int .i64 d, .int .i64 n]
theorem setz : ∀ (l : List Value) (k : Nat) (acc : List Value), k + l.length ≤ acc.length → (l.zipIdx k).foldl (fun (cs : Array Value) x => cs.setIfInBounds x.2 x.1) acc.toArray = (acc.take k ++ l ++ acc.drop (k + l.length)).toArray
  | [], k, acc, h => by simp
  | v :: l, k, acc, h => by
    have hk : k < acc.length := by simp at h; omega
    rw [List.zipIdx_cons, List.foldl_cons]
    simp only [List.setIfInBounds_toArray]
    rw [setz l (k + 1) (acc.set k v) (by simp at h ⊢; omega)]
    congr 1
    rw [List.set_eq_take_append_cons_drop, if_pos hk]
    have e1 : (acc.take k ++ v :: acc.drop (k + 1)).take (k + 1) = acc.take k ++ [v] := by
      rw [List.take_append, List.length_take, Nat.min_eq_left (by omega), List.take_of_length_le (by simp; omega), show k + 1 - k = 1 by omega]; rfl
    have e2 : (acc.take k ++ v :: acc.drop (k + 1)).drop (k + 1 + l.length) = acc.drop (k + (l.length + 1)) := by
      rw [List.drop_append, List.length_take, Nat.min_eq_left (by omega), List.drop_of_length_le (by simp; omega), show k + 1 + l.length - k = l.length + 1 by omega, List.drop_succ_cons, List.drop_drop, List.nil_append]
      congr 1; omega
    rw [e1, e2]
    simp
/-- a table and an interval, built as one. -/
theorem z29 (T : List Value) (hT : T.length = 25) (Z : List Value) (hZ : Z.length = 29) (j m d n : Int) : ∃ FA : Array Value, Array.foldl (fun (cs : Array Value) (x : Value × Nat) => cs.setIfInBounds x.snd x.fst) Z.toArray T.toArray.zipIdx 0 25 = FA ∧ FA.size = 29 ∧ ((((FA.setIfInBounds 25 (.int .i64 j)).setIfInBounds 26 (.int .i64 m)).setIfInBounds 27 (.int .i64 d)).setIfInBounds 28 (.int .i64 n)) = (T ++ spC j m d n).toArray := by
  have e : Array.foldl (fun (cs : Array Value) (x : Value × Nat) => cs.setIfInBounds x.snd x.fst) Z.toArray T.toArray.zipIdx 0 25 = (T ++ Z.drop 25).toArray := by
    have h1 : Array.foldl (fun (cs : Array Value) (x : Value × Nat) => cs.setIfInBounds x.snd x.fst) Z.toArray T.toArray.zipIdx 0 25 = T.zipIdx.foldl (fun (cs : Array Value) x => cs.setIfInBounds x.2 x.1) Z.toArray := by
      have hs : (25 : Nat) = T.toArray.zipIdx.size := by simp [hT]
      rw [hs, ← Array.foldl_toList]
      simp
    rw [h1, setz T 0 Z (by omega), hT]
    simp
  refine ⟨_, e, by simp [hT, hZ], ?_⟩
  obtain ⟨a, b, c, d', hz⟩ : ∃ a b c d', Z.drop 25 = [a, b, c, d'] := by
    have hl : (Z.drop 25).length = 4 := by rw [List.length_drop, hZ]
    generalize Z.drop 25 = y at hl
    match y, hl with
    | [a, b, c, d'], _ => exact ⟨a, b, c, d', rfl⟩
  rw [hz]
  simp only [List.setIfInBounds_toArray]
  rw [List.set_append_right _ _ (by omega), List.set_append_right _ _ (by omega), List.set_append_right _ _ (by omega), List.set_append_right _ _ (by omega), hT]
  rfl

set_option maxRecDepth 100000 in
set_option maxHeartbeats 4000000 in
theorem znext_any (Ok : World → Prop) (T : List Value) (hT : T.length = 25) (i u j m d n I V E : Int)
    (AZ : Hid (∀ w : World, Ok w → Calls Tryz.prog 10 #[.agg T.toArray, .agg #[.int .i64 i, .int .i64 u], .agg #[.int .i64 j, .int .i64 m, .int .i64 d, .int .i64 n]] w fun r' w' => r' = .returned (.tuple #[.agg #[.int .i64 I, .int .i64 V], .int .i64 E]) ∧ Below w.heap.size w w'))
    (w : World) (hL : Hid (∀ W : World, Below w.heap.size w W → Ok W)) :
    Calls Tryz.prog 20 #[.agg (T ++ spC j m d n).toArray, .agg #[.int .i64 i, .int .i64 u]] w fun r' w' => r' = .returned (.tuple #[.agg #[.int .i64 I, .int .i64 V], .int .i64 E]) ∧ Below w.heap.size w w' := by
  have K0 : Hid (BS w [(w.heap.size + 2, [.int .i64 0, .int .i64 0]), (w.heap.size + 1, [.int .i64 i, .int .i64 u]), (w.heap.size, T ++ spC j m d n)] (((w.alloc (.cells (T ++ spC j m d n).toArray 70)).alloc (.cells #[.int .i64 i, .int .i64 u] 36)).alloc (.cells #[.int .i64 0, .int .i64 0] 36))) := (((BS.start w).new (T ++ spC j m d n) 70 rfl).new [.int .i64 i, .int .i64 u] 36 (by simp)).new [.int .i64 0, .int .i64 0] 36 (by simp)
  have g5 : ∀ q, (T ++ spC j m d n)[25 + q]? = (spC j m d n)[q]? := fun q => by rw [List.getElem?_append_right (by omega), hT, Nat.add_sub_cancel_left]
  go_enter Tryz.func20, Tryz.ntmps20
  generalize hUA : (T ++ spC j m d n).toArray = UA at *
  go_upto_region 1 with fail
  refine bs_to K0 ?_
  clear K0
  intro W0 K0
  have RG : Hid (W0.rangeAt w.heap.size 0 T) := fun q x hx => by
    rw [Nat.zero_add]
    exact (bo3 K0).c q (by rw [List.getElem?_append_left (List.getElem?_eq_some_iff.1 hx).1]; exact hx)
  have d25 : W0.cell? ⟨w.heap.size, 25, none⟩ = some (.int .i64 j) := (bo3 K0).c 25 (g5 0)
  have d26 : W0.cell? ⟨w.heap.size, 26, none⟩ = some (.int .i64 m) := (bo3 K0).c 26 (g5 1)
  have d27 : W0.cell? ⟨w.heap.size, 27, none⟩ = some (.int .i64 d) := (bo3 K0).c 27 (g5 2)
  have d28 : W0.cell? ⟨w.heap.size, 28, none⟩ = some (.int .i64 n) := (bo3 K0).c 28 (g5 3)
  obtain ⟨c0, c1⟩ := (bo2 K0).c2
  clear g5
  generalize hTA : T.toArray = TA at *
  go_wp2_with (first | (refine wpList_load_mid rfl 46 _ rfl (w.heap.size) 0 rfl T _ RG.out Tryz.underlying46 rfl (by rw [hT]; kernel_rfl) ?_; rw [hTA]) | fail)
  refine (AZ.out _ (hL.out _ K0.out.1)).mono ?_
  rintro e W1 ⟨rfl, hb⟩
  have K1 := bsb K0 hb
  clear c0 c1 d25 d26 d27 d28 RG
  clear hb K0
  obtain ⟨c0, c1⟩ := (bo1 K1).c2
  obtain ⟨z0, z1⟩ := (bo1 K1).f2
  have XF : Hid (Bx (W1.setCells (w.heap.size + 2) 0 [.int .i64 I, .int .i64 V]) (w.heap.size + 2) [.int .i64 I, .int .i64 V]) := (bo1 K1).setAll _ rfl
  have BF : Hid (Below w.heap.size w (W1.setCells (w.heap.size + 2) 0 [.int .i64 I, .int .i64 V])) := below_setCells (by omega) _ _ _ K1.out.1
  have y0 := XF.out.c 0 rfl
  have y1 := XF.out.c 1 rfl
  simp only [World.setCells, Nat.zero_add] at y0 y1
  clear XF
  go_wp2
  exact bodyPost_ret (v := .tuple #[.agg #[.int .i64 I, .int .i64 V], .int .i64 E]) (by simp [results, Tryz.results20, go_sem, y0, y1]) rfl ⟨rfl, BF.out⟩

set_option maxRecDepth 100000 in
set_option maxHeartbeats 4000000 in
theorem tz_no0 (Ok : World → Prop) (T : List Value) (hT : T.length = 25) (i u bi bu j M D U m : Int)
    (MO : Hid (∀ w : World, Calls Tryz.prog 15 #[.int .i64 m] w fun r' w' => r' = .returned (.bool false) ∧ w' = w))
    (w : World) (hL : Hid (∀ W : World, Below w.heap.size w W → Ok W)) :
    Calls Tryz.prog 6 #[.agg T.toArray, .agg #[.int .i64 i, .int .i64 u], .agg #[.int .i64 bi, .int .i64 bu], .agg #[.int .i64 j, .int .i64 M, .int .i64 D, .int .i64 U], .int .i64 m] w fun r' w' => r' = .returned (.tuple #[.slice none 0 0, .int .i64 1]) ∧ Below w.heap.size w w' := by
  have K0 : Hid (BS w [(w.heap.size + 3, [.int .i64 j, .int .i64 M, .int .i64 D, .int .i64 U]), (w.heap.size + 2, [.int .i64 bi, .int .i64 bu]), (w.heap.size + 1, [.int .i64 i, .int .i64 u]), (w.heap.size, T)] ((((w.alloc (.cells T.toArray 46)).alloc (.cells #[.int .i64 i, .int .i64 u] 36)).alloc (.cells #[.int .i64 bi, .int .i64 bu] 36)).alloc (.cells #[.int .i64 j, .int .i64 M, .int .i64 D, .int .i64 U] 38))) := (((((BS.start w).new T 46 rfl).new [.int .i64 i, .int .i64 u] 36 (by simp)).new [.int .i64 bi, .int .i64 bu] 36 (by simp)).new [.int .i64 j, .int .i64 M, .int .i64 D, .int .i64 U] 38 (by simp))
  go_enter Tryz.func6, Tryz.ntmps6
  generalize hUA : T.toArray = UA at *
  go_upto_region 1 with fail
  refine gen_to (BS w [(w.heap.size + 3, [.int .i64 j, .int .i64 M, .int .i64 D, .int .i64 U]), (w.heap.size + 2, [.int .i64 bi, .int .i64 bu]), (w.heap.size + 1, [.int .i64 i, .int .i64 u]), (w.heap.size, T)]) K0.out ?_
  clear K0
  intro W0 K0'
  have K0 : Hid (BS w [(w.heap.size + 3, [.int .i64 j, .int .i64 M, .int .i64 D, .int .i64 U]), (w.heap.size + 2, [.int .i64 bi, .int .i64 bu]), (w.heap.size + 1, [.int .i64 i, .int .i64 u]), (w.heap.size, T)] W0) := K0'
  clear K0'
  obtain ⟨c0_0_0, c0_0_1, c0_0_2, c0_0_3⟩ := (bo1 K0).c4
  obtain ⟨c0_1_0, c0_1_1⟩ := (bo2 K0).c2
  obtain ⟨c0_2_0, c0_2_1⟩ := (bo3 K0).c2
  go_wp2_with (first | (refine wpList_load_mid rfl 46 _ rfl (w.heap.size) 0 rfl T _ (K0.out.at (w.heap.size) T (by simp)).all Tryz.underlying46 rfl (by rw [hT]; kernel_rfl) ?_; rw [hUA]) | (refine load_mid_on (by kernel_rfl) 46 _ rfl (w.heap.size) 0 rfl T _ (K0.out.at (w.heap.size) T (by simp)).all Tryz.underlying46 rfl (by rw [hT]; kernel_rfl) ?_; rw [hUA]) | fail)
  refine (MO.out _).mono ?_
  rintro e W1 ⟨rfl, hw⟩
  rw [hw]
  clear hw W1
  go_wp2_with fail
  go_ret2
  exact ⟨rfl, K0.out.1⟩

set_option maxRecDepth 100000 in
set_option maxHeartbeats 4000000 in
theorem tz_no2 (Ok : World → Prop) (T : List Value) (hT : T.length = 25) (i u bi bu j M D U m : Int)
    (MO : Hid (∀ w : World, Calls Tryz.prog 15 #[.int .i64 m] w fun r' w' => r' = .returned (.bool true) ∧ w' = w))
    (RT : Hid (∀ w : World, Ok w → Calls Tryz.prog 16 #[.agg T.toArray] w fun r' w' => r' = .returned (.bool true) ∧ Below w.heap.size w w'))
    (R1 : Hid (∀ w : World, Ok w → Calls Tryz.prog 17 #[.agg #[.int .i64 i, .int .i64 u]] w fun r' w' => r' = .returned (.bool false) ∧ Below w.heap.size w w'))
    (w : World) (hL : Hid (∀ W : World, Below w.heap.size w W → Ok W)) :
    Calls Tryz.prog 6 #[.agg T.toArray, .agg #[.int .i64 i, .int .i64 u], .agg #[.int .i64 bi, .int .i64 bu], .agg #[.int .i64 j, .int .i64 M, .int .i64 D, .int .i64 U], .int .i64 m] w fun r' w' => r' = .returned (.tuple #[.slice none 0 0, .int .i64 1]) ∧ Below w.heap.size w w' := by
  have K0 : Hid (BS w [(w.heap.size + 3, [.int .i64 j, .int .i64 M, .int .i64 D, .int .i64 U]), (w.heap.size + 2, [.int .i64 bi, .int .i64 bu]), (w.heap.size + 1, [.int .i64 i, .int .i64 u]), (w.heap.size, T)] ((((w.alloc (.cells T.toArray 46)).alloc (.cells #[.int .i64 i, .int .i64 u] 36)).alloc (.cells #[.int .i64 bi, .int .i64 bu] 36)).alloc (.cells #[.int .i64 j, .int .i64 M, .int .i64 D, .int .i64 U] 38))) := (((((BS.start w).new T 46 rfl).new [.int .i64 i, .int .i64 u] 36 (by simp)).new [.int .i64 bi, .int .i64 bu] 36 (by simp)).new [.int .i64 j, .int .i64 M, .int .i64 D, .int .i64 U] 38 (by simp))
  go_enter Tryz.func6, Tryz.ntmps6
  generalize hUA : T.toArray = UA at *
  go_upto_region 1 with fail
  refine gen_to (BS w [(w.heap.size + 3, [.int .i64 j, .int .i64 M, .int .i64 D, .int .i64 U]), (w.heap.size + 2, [.int .i64 bi, .int .i64 bu]), (w.heap.size + 1, [.int .i64 i, .int .i64 u]), (w.heap.size, T)]) K0.out ?_
  clear K0
  intro W0 K0'
  have K0 : Hid (BS w [(w.heap.size + 3, [.int .i64 j, .int .i64 M, .int .i64 D, .int .i64 U]), (w.heap.size + 2, [.int .i64 bi, .int .i64 bu]), (w.heap.size + 1, [.int .i64 i, .int .i64 u]), (w.heap.size, T)] W0) := K0'
  clear K0'
  obtain ⟨c0_0_0, c0_0_1, c0_0_2, c0_0_3⟩ := (bo1 K0).c4
  obtain ⟨c0_1_0, c0_1_1⟩ := (bo2 K0).c2
  obtain ⟨c0_2_0, c0_2_1⟩ := (bo3 K0).c2
  go_wp2_with (first | (refine wpList_load_mid rfl 46 _ rfl (w.heap.size) 0 rfl T _ (K0.out.at (w.heap.size) T (by simp)).all Tryz.underlying46 rfl (by rw [hT]; kernel_rfl) ?_; rw [hUA]) | (refine load_mid_on (by kernel_rfl) 46 _ rfl (w.heap.size) 0 rfl T _ (K0.out.at (w.heap.size) T (by simp)).all Tryz.underlying46 rfl (by rw [hT]; kernel_rfl) ?_; rw [hUA]) | fail)
  refine (MO.out _).mono ?_
  rintro e W1 ⟨rfl, hw⟩
  rw [hw]
  clear hw W1
  go_wp2_with (first | (refine wpList_load_mid rfl 46 _ rfl (w.heap.size) 0 rfl T _ (K0.out.at (w.heap.size) T (by simp)).all Tryz.underlying46 rfl (by rw [hT]; kernel_rfl) ?_; rw [hUA]) | (refine load_mid_on (by kernel_rfl) 46 _ rfl (w.heap.size) 0 rfl T _ (K0.out.at (w.heap.size) T (by simp)).all Tryz.underlying46 rfl (by rw [hT]; kernel_rfl) ?_; rw [hUA]) | fail)
  refine (RT.out _ (hL.out _ K0.out.1)).mono ?_
  rintro e W2 ⟨rfl, hb⟩
  have K2 := bsb K0 hb
  clear c0_0_0 c0_0_1 c0_0_2 c0_0_3 c0_1_0 c0_1_1 c0_2_0 c0_2_1
  clear hb K0
  obtain ⟨c2_0_0, c2_0_1, c2_0_2, c2_0_3⟩ := (bo1 K2).c4
  obtain ⟨c2_1_0, c2_1_1⟩ := (bo2 K2).c2
  obtain ⟨c2_2_0, c2_2_1⟩ := (bo3 K2).c2
  go_wp2_with (first | (refine wpList_load_mid rfl 46 _ rfl (w.heap.size) 0 rfl T _ (K2.out.at (w.heap.size) T (by simp)).all Tryz.underlying46 rfl (by rw [hT]; kernel_rfl) ?_; rw [hUA]) | (refine load_mid_on (by kernel_rfl) 46 _ rfl (w.heap.size) 0 rfl T _ (K2.out.at (w.heap.size) T (by simp)).all Tryz.underlying46 rfl (by rw [hT]; kernel_rfl) ?_; rw [hUA]) | fail)
  refine (R1.out _ (hL.out _ K2.out.1)).mono ?_
  rintro e W3 ⟨rfl, hb⟩
  have K3 := bsb K2 hb
  clear c2_0_0 c2_0_1 c2_0_2 c2_0_3 c2_1_0 c2_1_1 c2_2_0 c2_2_1
  clear hb K2
  obtain ⟨c3_0_0, c3_0_1, c3_0_2, c3_0_3⟩ := (bo1 K3).c4
  obtain ⟨c3_1_0, c3_1_1⟩ := (bo2 K3).c2
  obtain ⟨c3_2_0, c3_2_1⟩ := (bo3 K3).c2
  go_wp2
  go_ret2
  exact ⟨rfl, K3.out.1⟩

set_option maxRecDepth 100000 in
set_option maxHeartbeats 4000000 in
theorem tz_no3 (Ok : World → Prop) (T : List Value) (hT : T.length = 25) (i u bi bu j M D U m : Int)
    (MO : Hid (∀ w : World, Calls Tryz.prog 15 #[.int .i64 m] w fun r' w' => r' = .returned (.bool true) ∧ w' = w))
    (RT : Hid (∀ w : World, Ok w → Calls Tryz.prog 16 #[.agg T.toArray] w fun r' w' => r' = .returned (.bool true) ∧ Below w.heap.size w w'))
    (R1 : Hid (∀ w : World, Ok w → Calls Tryz.prog 17 #[.agg #[.int .i64 i, .int .i64 u]] w fun r' w' => r' = .returned (.bool true) ∧ Below w.heap.size w w'))
    (R2 : Hid (∀ w : World, Ok w → Calls Tryz.prog 17 #[.agg #[.int .i64 bi, .int .i64 bu]] w fun r' w' => r' = .returned (.bool false) ∧ Below w.heap.size w w'))
    (w : World) (hL : Hid (∀ W : World, Below w.heap.size w W → Ok W)) :
    Calls Tryz.prog 6 #[.agg T.toArray, .agg #[.int .i64 i, .int .i64 u], .agg #[.int .i64 bi, .int .i64 bu], .agg #[.int .i64 j, .int .i64 M, .int .i64 D, .int .i64 U], .int .i64 m] w fun r' w' => r' = .returned (.tuple #[.slice none 0 0, .int .i64 1]) ∧ Below w.heap.size w w' := by
  have K0 : Hid (BS w [(w.heap.size + 3, [.int .i64 j, .int .i64 M, .int .i64 D, .int .i64 U]), (w.heap.size + 2, [.int .i64 bi, .int .i64 bu]), (w.heap.size + 1, [.int .i64 i, .int .i64 u]), (w.heap.size, T)] ((((w.alloc (.cells T.toArray 46)).alloc (.cells #[.int .i64 i, .int .i64 u] 36)).alloc (.cells #[.int .i64 bi, .int .i64 bu] 36)).alloc (.cells #[.int .i64 j, .int .i64 M, .int .i64 D, .int .i64 U] 38))) := (((((BS.start w).new T 46 rfl).new [.int .i64 i, .int .i64 u] 36 (by simp)).new [.int .i64 bi, .int .i64 bu] 36 (by simp)).new [.int .i64 j, .int .i64 M, .int .i64 D, .int .i64 U] 38 (by simp))
  go_enter Tryz.func6, Tryz.ntmps6
  generalize hUA : T.toArray = UA at *
  go_upto_region 1 with fail
  refine gen_to (BS w [(w.heap.size + 3, [.int .i64 j, .int .i64 M, .int .i64 D, .int .i64 U]), (w.heap.size + 2, [.int .i64 bi, .int .i64 bu]), (w.heap.size + 1, [.int .i64 i, .int .i64 u]), (w.heap.size, T)]) K0.out ?_
  clear K0
  intro W0 K0'
  have K0 : Hid (BS w [(w.heap.size + 3, [.int .i64 j, .int .i64 M, .int .i64 D, .int .i64 U]), (w.heap.size + 2, [.int .i64 bi, .int .i64 bu]), (w.heap.size + 1, [.int .i64 i, .int .i64 u]), (w.heap.size, T)] W0) := K0'
  clear K0'
  obtain ⟨c0_0_0, c0_0_1, c0_0_2, c0_0_3⟩ := (bo1 K0).c4
  obtain ⟨c0_1_0, c0_1_1⟩ := (bo2 K0).c2
  obtain ⟨c0_2_0, c0_2_1⟩ := (bo3 K0).c2
  go_wp2_with (first | (refine wpList_load_mid rfl 46 _ rfl (w.heap.size) 0 rfl T _ (K0.out.at (w.heap.size) T (by simp)).all Tryz.underlying46 rfl (by rw [hT]; kernel_rfl) ?_; rw [hUA]) | (refine load_mid_on (by kernel_rfl) 46 _ rfl (w.heap.size) 0 rfl T _ (K0.out.at (w.heap.size) T (by simp)).all Tryz.underlying46 rfl (by rw [hT]; kernel_rfl) ?_; rw [hUA]) | fail)
  refine (MO.out _).mono ?_
  rintro e W1 ⟨rfl, hw⟩
  rw [hw]
  clear hw W1
  go_wp2_with (first | (refine wpList_load_mid rfl 46 _ rfl (w.heap.size) 0 rfl T _ (K0.out.at (w.heap.size) T (by simp)).all Tryz.underlying46 rfl (by rw [hT]; kernel_rfl) ?_; rw [hUA]) | (refine load_mid_on (by kernel_rfl) 46 _ rfl (w.heap.size) 0 rfl T _ (K0.out.at (w.heap.size) T (by simp)).all Tryz.underlying46 rfl (by rw [hT]; kernel_rfl) ?_; rw [hUA]) | fail)
  refine (RT.out _ (hL.out _ K0.out.1)).mono ?_
  rintro e W2 ⟨rfl, hb⟩
  have K2 := bsb K0 hb
  clear c0_0_0 c0_0_1 c0_0_2 c0_0_3 c0_1_0 c0_1_1 c0_2_0 c0_2_1
  clear hb K0
  obtain ⟨c2_0_0, c2_0_1, c2_0_2, c2_0_3⟩ := (bo1 K2).c4
  obtain ⟨c2_1_0, c2_1_1⟩ := (bo2 K2).c2
  obtain ⟨c2_2_0, c2_2_1⟩ := (bo3 K2).c2
  go_wp2_with (first | (refine wpList_load_mid rfl 46 _ rfl (w.heap.size) 0 rfl T _ (K2.out.at (w.heap.size) T (by simp)).all Tryz.underlying46 rfl (by rw [hT]; kernel_rfl) ?_; rw [hUA]) | (refine load_mid_on (by kernel_rfl) 46 _ rfl (w.heap.size) 0 rfl T _ (K2.out.at (w.heap.size) T (by simp)).all Tryz.underlying46 rfl (by rw [hT]; kernel_rfl) ?_; rw [hUA]) | fail)
  refine (R1.out _ (hL.out _ K2.out.1)).mono ?_
  rintro e W3 ⟨rfl, hb⟩
  have K3 := bsb K2 hb
  clear c2_0_0 c2_0_1 c2_0_2 c2_0_3 c2_1_0 c2_1_1 c2_2_0 c2_2_1
  clear hb K2
  obtain ⟨c3_0_0, c3_0_1, c3_0_2, c3_0_3⟩ := (bo1 K3).c4
  obtain ⟨c3_1_0, c3_1_1⟩ := (bo2 K3).c2
  obtain ⟨c3_2_0, c3_2_1⟩ := (bo3 K3).c2
  go_wp2_with (first | (refine wpList_load_mid rfl 46 _ rfl (w.heap.size) 0 rfl T _ (K3.out.at (w.heap.size) T (by simp)).all Tryz.underlying46 rfl (by rw [hT]; kernel_rfl) ?_; rw [hUA]) | (refine load_mid_on (by kernel_rfl) 46 _ rfl (w.heap.size) 0 rfl T _ (K3.out.at (w.heap.size) T (by simp)).all Tryz.underlying46 rfl (by rw [hT]; kernel_rfl) ?_; rw [hUA]) | fail)
  refine (R2.out _ (hL.out _ K3.out.1)).mono ?_
  rintro e W4 ⟨rfl, hb⟩
  have K4 := bsb K3 hb
  clear c3_0_0 c3_0_1 c3_0_2 c3_0_3 c3_1_0 c3_1_1 c3_2_0 c3_2_1
  clear hb K3
  obtain ⟨c4_0_0, c4_0_1, c4_0_2, c4_0_3⟩ := (bo1 K4).c4
  obtain ⟨c4_1_0, c4_1_1⟩ := (bo2 K4).c2
  obtain ⟨c4_2_0, c4_2_1⟩ := (bo3 K4).c2
  go_wp2
  go_ret2
  exact ⟨rfl, K4.out.1⟩

set_option maxRecDepth 100000 in
set_option maxHeartbeats 4000000 in
theorem tz_run (Ok : World → Prop) (T : List Value) (hT : T.length = 25) (i u bi bu j M D U m : Int) (E : Int) (n : Nat) (cs : List Value)
    (MO : Hid (∀ w : World, Calls Tryz.prog 15 #[.int .i64 m] w fun r' w' => r' = .returned (.bool true) ∧ w' = w))
    (RT : Hid (∀ w : World, Ok w → Calls Tryz.prog 16 #[.agg T.toArray] w fun r' w' => r' = .returned (.bool true) ∧ Below w.heap.size w w'))
    (R1 : Hid (∀ w : World, Ok w → Calls Tryz.prog 17 #[.agg #[.int .i64 i, .int .i64 u]] w fun r' w' => r' = .returned (.bool true) ∧ Below w.heap.size w w'))
    (R2 : Hid (∀ w : World, Ok w → Calls Tryz.prog 17 #[.agg #[.int .i64 bi, .int .i64 bu]] w fun r' w' => r' = .returned (.bool true) ∧ Below w.heap.size w w'))
    (R3 : Hid (∀ w : World, Calls Tryz.prog 18 #[.agg #[.int .i64 j, .int .i64 M, .int .i64 D, .int .i64 U]] w fun r' w' => r' = .returned (.bool true) ∧ Below w.heap.size w w'))
    (FO : Hid (∀ w : World, Ok w → Calls Tryz.prog 19 #[.agg #[.int .i64 i, .int .i64 u], .agg #[.int .i64 bi, .int .i64 bu], .agg #[.int .i64 j, .int .i64 M, .int .i64 D, .int .i64 U], .int .i64 m, .func (.func 20) #[.agg (T ++ spC j M D U).toArray] #[]] w fun r' w' => ∃ v, r' = .returned (.tuple #[v, .int .i64 E]) ∧ Below w.heap.size w w' ∧ w'.ownsRow w.heap.size 36 2 v n cs))
    (w : World) (hL : Hid (∀ W : World, Below w.heap.size w W → Ok W)) :
    Calls Tryz.prog 6 #[.agg T.toArray, .agg #[.int .i64 i, .int .i64 u], .agg #[.int .i64 bi, .int .i64 bu], .agg #[.int .i64 j, .int .i64 M, .int .i64 D, .int .i64 U], .int .i64 m] w fun r' w' => ∃ v, r' = .returned (.tuple #[v, .int .i64 E]) ∧ Below w.heap.size w w' ∧ w'.ownsRow w.heap.size 36 2 v n cs := by
  have K0 : Hid (BS w [(w.heap.size + 3, [.int .i64 j, .int .i64 M, .int .i64 D, .int .i64 U]), (w.heap.size + 2, [.int .i64 bi, .int .i64 bu]), (w.heap.size + 1, [.int .i64 i, .int .i64 u]), (w.heap.size, T)] ((((w.alloc (.cells T.toArray 46)).alloc (.cells #[.int .i64 i, .int .i64 u] 36)).alloc (.cells #[.int .i64 bi, .int .i64 bu] 36)).alloc (.cells #[.int .i64 j, .int .i64 M, .int .i64 D, .int .i64 U] 38))) := (((((BS.start w).new T 46 rfl).new [.int .i64 i, .int .i64 u] 36 (by simp)).new [.int .i64 bi, .int .i64 bu] 36 (by simp)).new [.int .i64 j, .int .i64 M, .int .i64 D, .int .i64 U] 38 (by simp))
  go_enter Tryz.func6, Tryz.ntmps6
  generalize hUA : T.toArray = UA at *
  go_upto_region 1 with fail
  refine gen_to (BS w [(w.heap.size + 3, [.int .i64 j, .int .i64 M, .int .i64 D, .int .i64 U]), (w.heap.size + 2, [.int .i64 bi, .int .i64 bu]), (w.heap.size + 1, [.int .i64 i, .int .i64 u]), (w.heap.size, T)]) K0.out ?_
  clear K0
  intro W0 K0'
  have K0 : Hid (BS w [(w.heap.size + 3, [.int .i64 j, .int .i64 M, .int .i64 D, .int .i64 U]), (w.heap.size + 2, [.int .i64 bi, .int .i64 bu]), (w.heap.size + 1, [.int .i64 i, .int .i64 u]), (w.heap.size, T)] W0) := K0'
  clear K0'
  obtain ⟨c0_0_0, c0_0_1, c0_0_2, c0_0_3⟩ := (bo1 K0).c4
  obtain ⟨c0_1_0, c0_1_1⟩ := (bo2 K0).c2
  obtain ⟨c0_2_0, c0_2_1⟩ := (bo3 K0).c2
  go_wp2_with (first | (refine wpList_load_mid rfl 46 _ rfl (w.heap.size) 0 rfl T _ (K0.out.at (w.heap.size) T (by simp)).all Tryz.underlying46 rfl (by rw [hT]; kernel_rfl) ?_; rw [hUA]) | (refine load_mid_on (by kernel_rfl) 46 _ rfl (w.heap.size) 0 rfl T _ (K0.out.at (w.heap.size) T (by simp)).all Tryz.underlying46 rfl (by rw [hT]; kernel_rfl) ?_; rw [hUA]) | fail)
  refine (MO.out _).mono ?_
  rintro e W1 ⟨rfl, hw⟩
  rw [hw]
  clear hw W1
  go_wp2_with (first | (refine wpList_load_mid rfl 46 _ rfl (w.heap.size) 0 rfl T _ (K0.out.at (w.heap.size) T (by simp)).all Tryz.underlying46 rfl (by rw [hT]; kernel_rfl) ?_; rw [hUA]) | (refine load_mid_on (by kernel_rfl) 46 _ rfl (w.heap.size) 0 rfl T _ (K0.out.at (w.heap.size) T (by simp)).all Tryz.underlying46 rfl (by rw [hT]; kernel_rfl) ?_; rw [hUA]) | fail)
  refine (RT.out _ (hL.out _ K0.out.1)).mono ?_
  rintro e W2 ⟨rfl, hb⟩
  have K2 := bsb K0 hb
  clear c0_0_0 c0_0_1 c0_0_2 c0_0_3 c0_1_0 c0_1_1 c0_2_0 c0_2_1
  clear hb K0
  obtain ⟨c2_0_0, c2_0_1, c2_0_2, c2_0_3⟩ := (bo1 K2).c4
  obtain ⟨c2_1_0, c2_1_1⟩ := (bo2 K2).c2
  obtain ⟨c2_2_0, c2_2_1⟩ := (bo3 K2).c2
  go_wp2_with (first | (refine wpList_load_mid rfl 46 _ rfl (w.heap.size) 0 rfl T _ (K2.out.at (w.heap.size) T (by simp)).all Tryz.underlying46 rfl (by rw [hT]; kernel_rfl) ?_; rw [hUA]) | (refine load_mid_on (by kernel_rfl) 46 _ rfl (w.heap.size) 0 rfl T _ (K2.out.at (w.heap.size) T (by simp)).all Tryz.underlying46 rfl (by rw [hT]; kernel_rfl) ?_; rw [hUA]) | fail)
  refine (R1.out _ (hL.out _ K2.out.1)).mono ?_
  rintro e W3 ⟨rfl, hb⟩
  have K3 := bsb K2 hb
  clear c2_0_0 c2_0_1 c2_0_2 c2_0_3 c2_1_0 c2_1_1 c2_2_0 c2_2_1
  clear hb K2
  obtain ⟨c3_0_0, c3_0_1, c3_0_2, c3_0_3⟩ := (bo1 K3).c4
  obtain ⟨c3_1_0, c3_1_1⟩ := (bo2 K3).c2
  obtain ⟨c3_2_0, c3_2_1⟩ := (bo3 K3).c2
  go_wp2_with (first | (refine wpList_load_mid rfl 46 _ rfl (w.heap.size) 0 rfl T _ (K3.out.at (w.heap.size) T (by simp)).all Tryz.underlying46 rfl (by rw [hT]; kernel_rfl) ?_; rw [hUA]) | (refine load_mid_on (by kernel_rfl) 46 _ rfl (w.heap.size) 0 rfl T _ (K3.out.at (w.heap.size) T (by simp)).all Tryz.underlying46 rfl (by rw [hT]; kernel_rfl) ?_; rw [hUA]) | fail)
  refine (R2.out _ (hL.out _ K3.out.1)).mono ?_
  rintro e W4 ⟨rfl, hb⟩
  have K4 := bsb K3 hb
  clear c3_0_0 c3_0_1 c3_0_2 c3_0_3 c3_1_0 c3_1_1 c3_2_0 c3_2_1
  clear hb K3
  obtain ⟨c4_0_0, c4_0_1, c4_0_2, c4_0_3⟩ := (bo1 K4).c4
  obtain ⟨c4_1_0, c4_1_1⟩ := (bo2 K4).c2
  obtain ⟨c4_2_0, c4_2_1⟩ := (bo3 K4).c2
  go_wp2_with (first | (refine wpList_load_mid rfl 46 _ rfl (w.heap.size) 0 rfl T _ (K4.out.at (w.heap.size) T (by simp)).all Tryz.underlying46 rfl (by rw [hT]; kernel_rfl) ?_; rw [hUA]) | (refine load_mid_on (by kernel_rfl) 46 _ rfl (w.heap.size) 0 rfl T _ (K4.out.at (w.heap.size) T (by simp)).all Tryz.underlying46 rfl (by rw [hT]; kernel_rfl) ?_; rw [hUA]) | fail)
  refine (R3.out _).mono ?_
  rintro e W5 ⟨rfl, hb⟩
  have K5 := bsb K4 hb
  clear c4_0_0 c4_0_1 c4_0_2 c4_0_3 c4_1_0 c4_1_1 c4_2_0 c4_2_1
  clear hb K4
  obtain ⟨c5_0_0, c5_0_1, c5_0_2, c5_0_3⟩ := (bo1 K5).c4
  obtain ⟨c5_1_0, c5_1_1⟩ := (bo2 K5).c2
  obtain ⟨c5_2_0, c5_2_1⟩ := (bo3 K5).c2
  obtain ⟨FA, hFA, hFS, hFZ⟩ := z29 T hT [.string ⟨#[]⟩, .int .i64 0, .int .i64 0, .bool false, .string ⟨#[]⟩, .slice none 0 0, .bool false, .int .i64 0, .int .i64 0, .int .i64 0, .int .i64 0, .int .i64 0, .int .i64 0, .int .i64 0, .int .u8 0, .int .i64 0, .string ⟨#[]⟩, .int .i64 0, .int .i64 0, .int .i64 0, .int .i64 0, .int .i64 0, .int .u8 0, .int .i64 0, .string ⟨#[]⟩, .int .i64 0, .int .i64 0, .int .i64 0, .int .i64 0] rfl j M D U
  rw [hUA] at hFA
  have HZ : Hid (_ = (T ++ spC j M D U).toArray) := hFZ
  clear hFZ
  have hUS : UA.size = 25 := by rw [← hUA]; exact hT
  go_wp2_with (first | (refine wpList_load_mid rfl 46 _ rfl (w.heap.size) 0 rfl T _ (K5.out.at (w.heap.size) T (by simp)).all Tryz.underlying46 rfl (by rw [hT]; kernel_rfl) ?_; rw [hUA]) | (refine load_mid_on (by kernel_rfl) 46 _ rfl (w.heap.size) 0 rfl T _ (K5.out.at (w.heap.size) T (by simp)).all Tryz.underlying46 rfl (by rw [hT]; kernel_rfl) ?_; rw [hUA]) | fail)
  rw [HZ.out]
  refine (FO.out _ (hL.out _ K5.out.1)).mono ?_
  rintro e W9 ⟨v, rfl, hb, ho⟩
  have K9 := bsb K5 hb
  have HO9 : Hid (W9.ownsRow w.heap.size 36 2 v n cs) := own_mono ho K5.out.1.size
  clear c5_0_0 c5_0_1 c5_0_2 c5_0_3 c5_1_0 c5_1_1 c5_2_0 c5_2_1
  clear hb ho K5
  go_wp2_with fail
  exact bodyPost_ret (v := .tuple #[v, .int .i64 E]) (by simp [results, Tryz.results6, go_sem]) rfl ⟨_, rfl, K9.out.1, HO9.out⟩


end Go.Proofs.YtpdmndlpgjjopaaGreatDoor
