/- The reference's postgres: an interval in words. -/
import Derived.Test.YtmohhbgmbicklaaDoorShWq
import Derived.Test.YtmohhbgmbicklaaDoorShRq
import Derived.Test.YtmohhbgmbicklaaDoorDigEq
namespace Go.Proofs.YtmohhbgmbicklaaDoor
open Go.RowKit
set_option linter.unusedVariables false

theorem jn_nil (m : ByteArray) : jn m [] = ⟨#[]⟩ := rfl
theorem wrP_more (m : ByteArray) (L : List ByteArray) (x : ByteArray) : ∀ i, i ≤ L.length → wrP m (L ++ [x]) i = wrP m L i
  | 0, _ => rfl
  | i + 1, h => by
    rw [wrP, wrP, wrP_more m L x i (by omega)]
    congr 2
    rw [List.getD_eq_getElem?_getD, List.getD_eq_getElem?_getD, List.getElem?_append_left (by omega)]
theorem jn_snoc (m : ByteArray) (L : List ByteArray) (x : ByteArray) : jn m (L ++ [x]) = if L.length = 0 then x else jn m L ++ m ++ x := by
  unfold jn
  rw [List.length_append, List.length_singleton, wrP, wrP_more m L x _ (Nat.le_refl _), List.getD_eq_getElem?_getD, List.getElem?_append_right (Nat.le_refl _), Nat.sub_self]
  split
  · rename_i h
    apply ByteArray.ext
    rw [h]
    simp [wrP]
  · apply ByteArray.ext
    simp
theorem jn_size (m : ByteArray) (L : List ByteArray) : (jn m L).size = (L.length - 1) * m.size + szL L := by
  have := wrP_len m L L.length (Nat.le_refl _)
  rw [List.take_length] at this
  show (wrP m L L.length).toArray.size = _
  rw [List.size_toArray]
  exact this
theorem un_pos (n : Int) (l : ByteArray) (last : Int) : 0 < (unB n l last).size := by
  unfold unB
  rw [ba_size, ba_size, ba_size, ba_size]
  have e : (⟨#[32]⟩ : ByteArray).size = 1 := rfl
  omega
theorem stW_pos (n : Int) (l : ByteArray) (s : List ByteArray × Int) (h : s.1.length ≠ 0 → 0 < szL s.1) : (stW n l s).1.length ≠ 0 → 0 < szL (stW n l s).1 := by
  unfold stW
  split
  · exact h
  · intro _
    simp only []
    rw [szL_snoc]
    have := un_pos n l s.2
    omega
theorem stN_pos (a b c : Int) (i : Nat) (h : i ≤ 3) : (stN a b c i).1.length ≠ 0 → 0 < szL (stN a b c i).1 := by
  have h1 := stW_pos a ⟨#[121, 101, 97, 114]⟩ ([], 0) (by simp)
  have h2 := stW_pos b ⟨#[109, 111, 110]⟩ (stW a ⟨#[121, 101, 97, 114]⟩ ([], 0)) h1
  have h3 := stW_pos c ⟨#[100, 97, 121]⟩ (stW b ⟨#[109, 111, 110]⟩ (stW a ⟨#[121, 101, 97, 114]⟩ ([], 0))) h2
  obtain rfl | rfl | rfl | rfl : i = 0 ∨ i = 1 ∨ i = 2 ∨ i = 3 := by omega
  · simp [stN]
  · exact h1
  · exact h2
  · exact h3
theorem stN_szi (a b c : Int) (i : Nat) (h : i ≤ 3) (a1 : -9223372036854775808 ≤ a) (a9 : a ≤ 9223372036854775807) (b1 : -9223372036854775808 ≤ b) (b9 : b ≤ 9223372036854775807) (c1 : -9223372036854775808 ≤ c) (c9 : c ≤ 9223372036854775807) : szL (stN a b c i).1 ≤ 90 := by
  have h1 := stW_sz a ⟨#[121, 101, 97, 114]⟩ ([], 0) (by decide) a1 a9
  have h2 := stW_sz b ⟨#[109, 111, 110]⟩ (stW a ⟨#[121, 101, 97, 114]⟩ ([], 0)) (by decide) b1 b9
  have h3 := stW_sz c ⟨#[100, 97, 121]⟩ (stW b ⟨#[109, 111, 110]⟩ (stW a ⟨#[121, 101, 97, 114]⟩ ([], 0))) (by decide) c1 c9
  simp only [szL] at h1
  obtain rfl | rfl | rfl | rfl : i = 0 ∨ i = 1 ∨ i = 2 ∨ i = 3 := by omega
  · simp [stN, szL]
  · show szL (stW a ⟨#[121, 101, 97, 114]⟩ ([], 0)).1 ≤ 90; omega
  · show szL (stW b ⟨#[109, 111, 110]⟩ (stW a ⟨#[121, 101, 97, 114]⟩ ([], 0))).1 ≤ 90; omega
  · show szL (stW c ⟨#[100, 97, 121]⟩ (stW b ⟨#[109, 111, 110]⟩ (stW a ⟨#[121, 101, 97, 114]⟩ ([], 0)))).1 ≤ 90; omega
/-- the text so far: empty just if there is no word. -/
theorem tx_eq (a b c : Int) (i : Nat) (h : i ≤ 3) : ((jn ⟨#[32]⟩ (stN a b c i).1).toList == []) = decide ((stN a b c i).1.length = 0) := by
  have hp := stN_pos a b c i h
  have hs := jn_size ⟨#[32]⟩ (stN a b c i).1
  rw [Bool.eq_iff_iff, beq_iff_eq, decide_eq_true_eq]
  constructor
  · intro e
    have h0 : (jn ⟨#[32]⟩ (stN a b c i).1).size = 0 := by
      rw [Lib.toList_data] at e
      have := congrArg List.length e
      rw [Array.length_toList] at this
      exact this
    omega
  · intro e
    rw [List.eq_nil_of_length_eq_zero e, jn_nil, Lib.toList_data]
theorem un_ref (n : Int) (l : ByteArray) (was : Int) (hl : l.size ≤ 4) (h0 : -9223372036854775808 ≤ n) (h1 : n ≤ 9223372036854775807) (w : World) :
    Calls Tryd.prog 39 #[.int .i64 n, .string l, .int .i64 was] w fun r' w' => r' = .returned (.string (unB n l was)) ∧ Below w.heap.size w w' := by
  have DG := fun w => Clk.digits_any n h0 h1 w
  have zA : (dg n).size ≤ 100 := Nat.le_trans (dg_size n h0 h1) (by decide)
  unfold unB trn mny
  by_cases hv : n = 1
  · subst hv
    by_cases hu : was < 0
    · rw [if_pos ⟨hu, by decide⟩, if_pos rfl, app_nil]
      have R := un_1c was l (dg 1) (by omega) zA hu (by decide) DG w
      rw [show (⟨#[43]⟩ : ByteArray) ++ dg 1 ++ ⟨#[32]⟩ ++ l = ⟨#[43]⟩ ++ (dg 1 ++ ⟨#[32]⟩ ++ l) by apply ByteArray.ext; simp]
      exact R
    · rw [if_neg (fun q => hu q.1), if_pos rfl, app_nil, nil_app]
      exact un_1a was l (dg 1) (by omega) zA hu DG w
  · by_cases hu : was < 0
    · by_cases hg : 0 < n
      · rw [if_pos ⟨hu, hg⟩, if_neg hv]
        have R := un_xc n was l (dg n) (by omega) zA hv hu hg DG w
        rw [show (⟨#[43]⟩ : ByteArray) ++ dg n ++ ⟨#[32]⟩ ++ l ++ ⟨#[115]⟩ = ⟨#[43]⟩ ++ (dg n ++ ⟨#[32]⟩ ++ l ++ ⟨#[115]⟩) by apply ByteArray.ext; simp]
        exact R
      · rw [if_neg (fun q => hg q.2), if_neg hv, nil_app]
        exact un_xb n was l (dg n) (by omega) zA hv hu hg DG w
    · rw [if_neg (fun q => hu q.1), if_neg hv, nil_app]
      exact un_xa n was l (dg n) (by omega) zA hv hu DG w

set_option maxRecDepth 100000 in
set_option maxHeartbeats 8000000 in
theorem pg_z (M D U a b : Int) (ha : M.tdiv 12 = a) (hb : M.tmod 12 = b) (a1 : -9223372036854775808 ≤ a) (a9 : a ≤ 9223372036854775807) (b1 : -9223372036854775808 ≤ b) (b9 : b ≤ 9223372036854775807) (D1 : -9223372036854775808 ≤ D) (D9 : D ≤ 9223372036854775807) (U1 : -9223372036854775808 ≤ U) (U9 : U ≤ 9223372036854775807) (hU : (U == 0) = true) (HW : Hid (0 < (stN a b D 3).1.length)) (w : World) :
    Calls Tryd.prog 18 #[.agg #[.int .i64 0, .int .i64 M, .int .i64 D, .int .i64 U]] w fun r' w' => r' = .returned (.string (jn ⟨#[32]⟩ (stN a b D 3).1)) ∧ Below w.heap.size w w' := by
  have K0 : Hid (BS w [(w.heap.size + 1 + 1, [.string ⟨#[121, 101, 97, 114]⟩, .string ⟨#[109, 111, 110]⟩, .string ⟨#[100, 97, 121]⟩]), (w.heap.size + 1, [.int .i64 a, .int .i64 b, .int .i64 D]), (w.heap.size, [.int .i64 0, .int .i64 M, .int .i64 D, .int .i64 U])] (((w.alloc (.cells #[.int .i64 0, .int .i64 M, .int .i64 D, .int .i64 U] 23)).alloc (.cells #[.int .i64 a, .int .i64 b, .int .i64 D] 2)).alloc (.cells #[.string ⟨#[121, 101, 97, 114]⟩, .string ⟨#[109, 111, 110]⟩, .string ⟨#[100, 97, 121]⟩] 9))) := (((BS.start w).new [.int .i64 0, .int .i64 M, .int .i64 D, .int .i64 U] _ rfl).new [.int .i64 a, .int .i64 b, .int .i64 D] _ (by simp)).new [.string ⟨#[121, 101, 97, 114]⟩, .string ⟨#[109, 111, 110]⟩, .string ⟨#[100, 97, 121]⟩] _ (by simp)
  have hszN := fun i hi => stN_len a b D i hi
  go_enter Tryd.func18, Tryd.ntmps18
  go_upto_region 3 with fail
  refine bs_to K0 ?_
  clear K0
  intro W0 K0
  obtain ⟨bn, hbn⟩ : ∃ bn, w.heap.size + 1 = bn := ⟨_, rfl⟩
  obtain ⟨bs, hbs⟩ : ∃ bs, w.heap.size + 1 + 1 = bs := ⟨_, rfl⟩
  rw [hbs, hbn] at K0
  try rw [hbs]
  try rw [hbn]
  clear hbs hbn
  go_wp2_with fail
  go_loopw [5, 6, 7] (fun tv lv iv wr => ∃ i : Nat, iv = .int .i64 (i : Int) ∧ i ≤ 3 ∧ tv = .string (jn ⟨#[32]⟩ (stN a b D i).1) ∧ lv = .int .i64 (stN a b D i).2 ∧ Hid (BS w [(bs, [.string ⟨#[121, 101, 97, 114]⟩, .string ⟨#[109, 111, 110]⟩, .string ⟨#[100, 97, 121]⟩]), (bn, [.int .i64 a, .int .i64 b, .int .i64 D]), (w.heap.size, [.int .i64 0, .int .i64 M, .int .i64 D, .int .i64 U])] wr)) (fun _ _ iv _ => 3 - (intOf iv).toNat)
  case atStart => exact ⟨0, rfl, by decide, rfl, rfl, K0⟩
  case round =>
    clear K0
    obtain ⟨i, rfl, hi, rfl, rfl, HB⟩ := hrel
    obtain ⟨tx, htx⟩ : ∃ tx, jn ⟨#[32]⟩ (stN a b D i).1 = tx := ⟨_, rfl⟩
    obtain ⟨l, hl⟩ : ∃ l, (stN a b D i).2 = l := ⟨_, rfl⟩
    have zt : tx.size ≤ 200 := by
      rw [← htx, jn_size]
      have h1 := stN_len a b D i hi
      have h2 := stN_szi a b D i hi a1 a9 b1 b9 D1 D9
      have e : (⟨#[32]⟩ : ByteArray).size = 1 := rfl
      rw [e]
      omega
    have hE0 := tx_eq a b D i hi
    rw [htx] at hE0 ⊢
    rw [hl]
    by_cases hlt : i < 3
    · obtain rfl | rfl | rfl : i = 0 ∨ i = 1 ∨ i = 2 := by omega
      · have est : stN a b D (0 + 1) = stW a ⟨#[121, 101, 97, 114]⟩ (stN a b D 0) := rfl
        obtain ⟨x0, x1, x2⟩ := (bo2 HB).c3
        obtain ⟨y0, y1, y2⟩ := (bo1 HB).c3
        by_cases hz : a = 0
        · have est2 : Hid (stN a b D (0 + 1) = stN a b D 0) := by show _ = _; rw [est]; unfold stW; rw [if_pos hz]
          have z1 : (a == 0) = true := by simpa using hz
          have HT : Hid (jn ⟨#[32]⟩ (stN a b D 0).1 = tx) := htx
          have HLl : Hid ((stN a b D 0).2 = l) := hl
          clear hz est hE0 htx hl
          go_wp2_with fail
          go_roundw
          case rel => exact ⟨0 + 1, by go_num, by omega, by rw [est2.out, HT.out], by rw [est2.out, HLl.out], HB⟩
          case measure => simp [intOf]
        · have est2 : Hid (stN a b D (0 + 1) = ((stN a b D 0).1 ++ [unB a ⟨#[121, 101, 97, 114]⟩ l], a)) := by show _ = _; rw [est]; unfold stW; rw [if_neg hz, hl]
          have z1 : (a == 0) = false := by simpa using hz
          have zu := unB_size a ⟨#[121, 101, 97, 114]⟩ l (by decide) (by omega) (by omega)
          have c1 : ¬ 9223372036854775807 < tx.size + 1 := by omega
          have c2 : ¬ 9223372036854775807 < tx.size + (unB a ⟨#[121, 101, 97, 114]⟩ l).size := by omega
          have c3 : ¬ 9223372036854775807 < tx.size + 1 + (unB a ⟨#[121, 101, 97, 114]⟩ l).size := by omega
          have HT : Hid (jn ⟨#[32]⟩ (stN a b D 0).1 = tx) := htx
          clear hz est hl
          by_cases he : (stN a b D 0).1.length = 0
          · have hE : (tx.toList == []) = true := by rw [hE0]; exact decide_eq_true he
            have HV : Hid (tx ++ unB a ⟨#[121, 101, 97, 114]⟩ l = jn ⟨#[32]⟩ ((stN a b D 0).1 ++ [unB a ⟨#[121, 101, 97, 114]⟩ l])) := by (show _ = _; rw [jn_snoc, if_pos he, ← htx, List.eq_nil_of_length_eq_zero he, jn_nil, nil_app])
            clear hE0 htx he
            go_upto_region 11 with fail
            clear x0 x1 x2 y0 y1 y2
            refine wp_region_held_drew (S := BS w [(bs, [.string ⟨#[121, 101, 97, 114]⟩, .string ⟨#[109, 111, 110]⟩, .string ⟨#[100, 97, 121]⟩]), (bn, [.int .i64 a, .int .i64 b, .int .i64 D]), (w.heap.size, [.int .i64 0, .int .i64 M, .int .i64 D, .int .i64 U])]) (by kernel_rfl) HB.out.drew (fun hHeld => ?_)
            refine wpAnyH_take (i := 0) (v := ?_) (oi := { dst := some 31, op := _, type := _, pos := _, after := _, guard := none }) rfl (by kernel_rfl) (by kernel_rfl) (by kernel_rfl) (fun _ _ _ h => h) (Or.inl ⟨by kernel_rfl, ?_⟩) (by assumption) ?_
            case refine_2 => (intro w9 hSw; clear hSw; go_simp; try with_reducible rfl)
            simp only [Act.put, List.setIfInBounds_toArray, List.set_cons_zero, List.set_cons_succ]
            refine wpAnyH_take (i := 1) (v := ?_) (oi := { dst := some 32, op := _, type := _, pos := _, after := _, guard := none }) rfl (by kernel_rfl) (by kernel_rfl) (by kernel_rfl) (fun _ _ _ h => h) (Or.inl ⟨by kernel_rfl, ?_⟩) (by assumption) ?_
            case refine_2 => (intro w9 hSw; clear hSw; go_simp; try with_reducible rfl)
            simp only [Act.put, List.setIfInBounds_toArray, List.set_cons_zero, List.set_cons_succ]
            refine wpAnyH_take (i := 2) (v := ?_) (oi := { dst := some 33, op := _, type := _, pos := _, after := _, guard := none }) rfl (by kernel_rfl) (by kernel_rfl) (by kernel_rfl) (fun _ _ _ h => h) (Or.inl ⟨by kernel_rfl, ?_⟩) (by assumption) ?_
            case refine_2 => (intro w9 hSw; clear hSw; go_simp; try with_reducible rfl)
            simp only [Act.put, List.setIfInBounds_toArray, List.set_cons_zero, List.set_cons_succ]
            refine wpAnyH_take (i := 3) (v := ?_) (oi := { dst := some 34, op := _, type := _, pos := _, after := _, guard := none }) rfl (by kernel_rfl) (by kernel_rfl) (by kernel_rfl) (fun _ _ _ h => h) (Or.inl ⟨by kernel_rfl, ?_⟩) (by assumption) ?_
            case refine_2 => (intro w9 hSw; clear hSw; go_simp; try with_reducible rfl)
            simp only [Act.put, List.setIfInBounds_toArray, List.set_cons_zero, List.set_cons_succ]
            refine wpAnyH_take (i := 4) (v := ?_) (oi := { dst := some 35, op := _, type := _, pos := _, after := _, guard := none }) rfl (by kernel_rfl) (by kernel_rfl) (by kernel_rfl) (fun _ _ _ h => h) (Or.inl ⟨by kernel_rfl, ?_⟩) (by assumption) ?_
            case refine_2 => (intro w9 hSw; have l0 := (hSw.at bn [.int .i64 a, .int .i64 b, .int .i64 D] (by simp)).c 0 rfl; have l1 := (hSw.at bs [.string ⟨#[121, 101, 97, 114]⟩, .string ⟨#[109, 111, 110]⟩, .string ⟨#[100, 97, 121]⟩] (by simp)).c 0 rfl; clear hSw; go_simp; try with_reducible rfl)
            simp only [Act.put, List.setIfInBounds_toArray, List.set_cons_zero, List.set_cons_succ]
            refine wpAnyH_take (i := 5) (v := ?_) (oi := { dst := some 36, op := _, type := _, pos := _, after := _, guard := none }) rfl (by kernel_rfl) (by kernel_rfl) (by kernel_rfl) (fun _ _ _ h => h) (Or.inl ⟨by kernel_rfl, ?_⟩) (by assumption) ?_
            case refine_2 => (intro w9 hSw; clear hSw; go_simp; try with_reducible rfl)
            simp only [Act.put, List.setIfInBounds_toArray, List.set_cons_zero, List.set_cons_succ]
            refine wpAnyH_take (i := 6) (v := ?_) (oi := { dst := some 37, op := _, type := _, pos := _, after := _, guard := none }) rfl (by kernel_rfl) (by kernel_rfl) (by kernel_rfl) (fun _ _ _ h => h) (Or.inl ⟨by kernel_rfl, ?_⟩) (by assumption) ?_
            case refine_2 => (intro w9 hSw; clear hSw; go_simp; try with_reducible rfl)
            simp only [Act.put, List.setIfInBounds_toArray, List.set_cons_zero, List.set_cons_succ]
            refine wpAnyH_take (i := 7) (v := ?_) (oi := { dst := some 38, op := _, type := _, pos := _, after := _, guard := none }) rfl (by kernel_rfl) (by kernel_rfl) (by kernel_rfl) (fun _ _ _ h => h) (Or.inl ⟨by kernel_rfl, ?_⟩) (by assumption) ?_
            case refine_2 => (intro w9 hSw; clear hSw; go_simp; try with_reducible rfl)
            simp only [Act.put, List.setIfInBounds_toArray, List.set_cons_zero, List.set_cons_succ]
            refine wpAnyH_take (i := 8) (v := ?_) (oi := { dst := some 39, op := _, type := _, pos := _, after := _, guard := none }) rfl (by kernel_rfl) (by kernel_rfl) (by kernel_rfl) (fun _ _ _ h => h) (Or.inl ⟨by kernel_rfl, ?_⟩) (by assumption) ?_
            case refine_2 => (intro w9 hSw; have l0 := (hSw.at bn [.int .i64 a, .int .i64 b, .int .i64 D] (by simp)).c 0 rfl; have l1 := (hSw.at bs [.string ⟨#[121, 101, 97, 114]⟩, .string ⟨#[109, 111, 110]⟩, .string ⟨#[100, 97, 121]⟩] (by simp)).c 0 rfl; clear hSw; go_simp; try with_reducible rfl)
            simp only [Act.put, List.setIfInBounds_toArray, List.set_cons_zero, List.set_cons_succ]
            refine wpAnyH_take (i := 9) (v := ?_) (oi := { dst := some 40, op := _, type := _, pos := _, after := _, guard := none }) rfl (by kernel_rfl) (by kernel_rfl) (by kernel_rfl) (fun _ _ _ h => h) (Or.inl ⟨by kernel_rfl, ?_⟩) (by assumption) ?_
            case refine_2 => (intro w9 hSw; clear hSw; go_simp; try with_reducible rfl)
            simp only [Act.put, List.setIfInBounds_toArray, List.set_cons_zero, List.set_cons_succ]
            refine wpAnyH_ready (rs := [10]) (by kernel_rfl) (by simp) (AllReadyH.cons (o := { dst := some 41, op := _, type := _, pos := _, after := _, guard := none }) rfl (fun K hK => ?_) AllReadyH.nil)
            go_simp
            refine (un_ref a ⟨#[121, 101, 97, 114]⟩ l (by decide) (by omega) (by omega) _).mono ?_
            rintro e v1 ⟨rfl, hb1⟩
            refine hK.out _ _ (hHeld.below hb1) (fun hHeld => ?_)
            clear hK K hb1
            refine wpAnyH_take (i := 11) (v := ?_) (oi := { dst := some 42, op := _, type := _, pos := _, after := _, guard := none }) rfl (by kernel_rfl) (by kernel_rfl) (by kernel_rfl) (fun _ _ _ h => h) (Or.inl ⟨by kernel_rfl, ?_⟩) (by assumption) ?_
            case refine_2 => (intro w9 hSw; clear hSw; go_simp; try with_reducible rfl)
            simp only [Act.put, List.setIfInBounds_toArray, List.set_cons_zero, List.set_cons_succ]
            refine wpAnyH_take (i := 12) (v := ?_) (oi := { dst := some 5, op := _, type := _, pos := _, after := _, guard := none }) rfl (by kernel_rfl) (by kernel_rfl) (by kernel_rfl) (fun _ _ _ h => h) (Or.inl ⟨by kernel_rfl, ?_⟩) (by assumption) ?_
            case refine_2 => (intro w9 hSw; clear hSw; go_simp; try with_reducible rfl)
            simp only [Act.put, List.setIfInBounds_toArray, List.set_cons_zero, List.set_cons_succ]
            refine wpAnyH_done (by kernel_rfl) ?_ _
            have HB9 : Hid (BS w [(bs, [.string ⟨#[121, 101, 97, 114]⟩, .string ⟨#[109, 111, 110]⟩, .string ⟨#[100, 97, 121]⟩]), (bn, [.int .i64 a, .int .i64 b, .int .i64 D]), (w.heap.size, [.int .i64 0, .int .i64 M, .int .i64 D, .int .i64 U])] _) := hHeld
            clear hHeld
            obtain ⟨x0, x1, x2⟩ := (bo2 HB9).c3
            go_wp2_with fail
            go_roundw
            case rel => exact ⟨0 + 1, by go_num, by omega, by rw [est2.out, ← HV.out], by rw [est2.out], HB9⟩
            case measure => simp [intOf]
          · have hE : (tx.toList == []) = false := by rw [hE0]; exact decide_eq_false he
            have HV : Hid (tx ++ ⟨#[32]⟩ ++ unB a ⟨#[121, 101, 97, 114]⟩ l = jn ⟨#[32]⟩ ((stN a b D 0).1 ++ [unB a ⟨#[121, 101, 97, 114]⟩ l])) := by (show _ = _; rw [jn_snoc, if_neg he, ← htx])
            clear hE0 htx he
            go_upto_region 11 with fail
            clear x0 x1 x2 y0 y1 y2
            refine wp_region_held_drew (S := BS w [(bs, [.string ⟨#[121, 101, 97, 114]⟩, .string ⟨#[109, 111, 110]⟩, .string ⟨#[100, 97, 121]⟩]), (bn, [.int .i64 a, .int .i64 b, .int .i64 D]), (w.heap.size, [.int .i64 0, .int .i64 M, .int .i64 D, .int .i64 U])]) (by kernel_rfl) HB.out.drew (fun hHeld => ?_)
            refine wpAnyH_take (i := 0) (v := ?_) (oi := { dst := some 31, op := _, type := _, pos := _, after := _, guard := none }) rfl (by kernel_rfl) (by kernel_rfl) (by kernel_rfl) (fun _ _ _ h => h) (Or.inl ⟨by kernel_rfl, ?_⟩) (by assumption) ?_
            case refine_2 => (intro w9 hSw; clear hSw; go_simp; try with_reducible rfl)
            simp only [Act.put, List.setIfInBounds_toArray, List.set_cons_zero, List.set_cons_succ]
            refine wpAnyH_take (i := 1) (v := ?_) (oi := { dst := some 32, op := _, type := _, pos := _, after := _, guard := none }) rfl (by kernel_rfl) (by kernel_rfl) (by kernel_rfl) (fun _ _ _ h => h) (Or.inl ⟨by kernel_rfl, ?_⟩) (by assumption) ?_
            case refine_2 => (intro w9 hSw; clear hSw; go_simp; try with_reducible rfl)
            simp only [Act.put, List.setIfInBounds_toArray, List.set_cons_zero, List.set_cons_succ]
            refine wpAnyH_take (i := 2) (v := ?_) (oi := { dst := some 33, op := _, type := _, pos := _, after := _, guard := none }) rfl (by kernel_rfl) (by kernel_rfl) (by kernel_rfl) (fun _ _ _ h => h) (Or.inl ⟨by kernel_rfl, ?_⟩) (by assumption) ?_
            case refine_2 => (intro w9 hSw; clear hSw; go_simp; try with_reducible rfl)
            simp only [Act.put, List.setIfInBounds_toArray, List.set_cons_zero, List.set_cons_succ]
            refine wpAnyH_take (i := 3) (v := ?_) (oi := { dst := some 34, op := _, type := _, pos := _, after := _, guard := none }) rfl (by kernel_rfl) (by kernel_rfl) (by kernel_rfl) (fun _ _ _ h => h) (Or.inl ⟨by kernel_rfl, ?_⟩) (by assumption) ?_
            case refine_2 => (intro w9 hSw; clear hSw; go_simp; try with_reducible rfl)
            simp only [Act.put, List.setIfInBounds_toArray, List.set_cons_zero, List.set_cons_succ]
            refine wpAnyH_take (i := 4) (v := ?_) (oi := { dst := some 35, op := _, type := _, pos := _, after := _, guard := none }) rfl (by kernel_rfl) (by kernel_rfl) (by kernel_rfl) (fun _ _ _ h => h) (Or.inl ⟨by kernel_rfl, ?_⟩) (by assumption) ?_
            case refine_2 => (intro w9 hSw; have l0 := (hSw.at bn [.int .i64 a, .int .i64 b, .int .i64 D] (by simp)).c 0 rfl; have l1 := (hSw.at bs [.string ⟨#[121, 101, 97, 114]⟩, .string ⟨#[109, 111, 110]⟩, .string ⟨#[100, 97, 121]⟩] (by simp)).c 0 rfl; clear hSw; go_simp; try with_reducible rfl)
            simp only [Act.put, List.setIfInBounds_toArray, List.set_cons_zero, List.set_cons_succ]
            refine wpAnyH_take (i := 5) (v := ?_) (oi := { dst := some 36, op := _, type := _, pos := _, after := _, guard := none }) rfl (by kernel_rfl) (by kernel_rfl) (by kernel_rfl) (fun _ _ _ h => h) (Or.inl ⟨by kernel_rfl, ?_⟩) (by assumption) ?_
            case refine_2 => (intro w9 hSw; clear hSw; go_simp; try with_reducible rfl)
            simp only [Act.put, List.setIfInBounds_toArray, List.set_cons_zero, List.set_cons_succ]
            refine wpAnyH_take (i := 6) (v := ?_) (oi := { dst := some 37, op := _, type := _, pos := _, after := _, guard := none }) rfl (by kernel_rfl) (by kernel_rfl) (by kernel_rfl) (fun _ _ _ h => h) (Or.inl ⟨by kernel_rfl, ?_⟩) (by assumption) ?_
            case refine_2 => (intro w9 hSw; clear hSw; go_simp; try with_reducible rfl)
            simp only [Act.put, List.setIfInBounds_toArray, List.set_cons_zero, List.set_cons_succ]
            refine wpAnyH_take (i := 7) (v := ?_) (oi := { dst := some 38, op := _, type := _, pos := _, after := _, guard := none }) rfl (by kernel_rfl) (by kernel_rfl) (by kernel_rfl) (fun _ _ _ h => h) (Or.inl ⟨by kernel_rfl, ?_⟩) (by assumption) ?_
            case refine_2 => (intro w9 hSw; clear hSw; go_simp; try with_reducible rfl)
            simp only [Act.put, List.setIfInBounds_toArray, List.set_cons_zero, List.set_cons_succ]
            refine wpAnyH_take (i := 8) (v := ?_) (oi := { dst := some 39, op := _, type := _, pos := _, after := _, guard := none }) rfl (by kernel_rfl) (by kernel_rfl) (by kernel_rfl) (fun _ _ _ h => h) (Or.inl ⟨by kernel_rfl, ?_⟩) (by assumption) ?_
            case refine_2 => (intro w9 hSw; have l0 := (hSw.at bn [.int .i64 a, .int .i64 b, .int .i64 D] (by simp)).c 0 rfl; have l1 := (hSw.at bs [.string ⟨#[121, 101, 97, 114]⟩, .string ⟨#[109, 111, 110]⟩, .string ⟨#[100, 97, 121]⟩] (by simp)).c 0 rfl; clear hSw; go_simp; try with_reducible rfl)
            simp only [Act.put, List.setIfInBounds_toArray, List.set_cons_zero, List.set_cons_succ]
            refine wpAnyH_take (i := 9) (v := ?_) (oi := { dst := some 40, op := _, type := _, pos := _, after := _, guard := none }) rfl (by kernel_rfl) (by kernel_rfl) (by kernel_rfl) (fun _ _ _ h => h) (Or.inl ⟨by kernel_rfl, ?_⟩) (by assumption) ?_
            case refine_2 => (intro w9 hSw; clear hSw; go_simp; try with_reducible rfl)
            simp only [Act.put, List.setIfInBounds_toArray, List.set_cons_zero, List.set_cons_succ]
            refine wpAnyH_ready (rs := [10]) (by kernel_rfl) (by simp) (AllReadyH.cons (o := { dst := some 41, op := _, type := _, pos := _, after := _, guard := none }) rfl (fun K hK => ?_) AllReadyH.nil)
            go_simp
            refine (un_ref a ⟨#[121, 101, 97, 114]⟩ l (by decide) (by omega) (by omega) _).mono ?_
            rintro e v1 ⟨rfl, hb1⟩
            refine hK.out _ _ (hHeld.below hb1) (fun hHeld => ?_)
            clear hK K hb1
            refine wpAnyH_take (i := 11) (v := ?_) (oi := { dst := some 42, op := _, type := _, pos := _, after := _, guard := none }) rfl (by kernel_rfl) (by kernel_rfl) (by kernel_rfl) (fun _ _ _ h => h) (Or.inl ⟨by kernel_rfl, ?_⟩) (by assumption) ?_
            case refine_2 => (intro w9 hSw; clear hSw; go_simp; try with_reducible rfl)
            simp only [Act.put, List.setIfInBounds_toArray, List.set_cons_zero, List.set_cons_succ]
            refine wpAnyH_take (i := 12) (v := ?_) (oi := { dst := some 5, op := _, type := _, pos := _, after := _, guard := none }) rfl (by kernel_rfl) (by kernel_rfl) (by kernel_rfl) (fun _ _ _ h => h) (Or.inl ⟨by kernel_rfl, ?_⟩) (by assumption) ?_
            case refine_2 => (intro w9 hSw; clear hSw; go_simp; try with_reducible rfl)
            simp only [Act.put, List.setIfInBounds_toArray, List.set_cons_zero, List.set_cons_succ]
            refine wpAnyH_done (by kernel_rfl) ?_ _
            have HB9 : Hid (BS w [(bs, [.string ⟨#[121, 101, 97, 114]⟩, .string ⟨#[109, 111, 110]⟩, .string ⟨#[100, 97, 121]⟩]), (bn, [.int .i64 a, .int .i64 b, .int .i64 D]), (w.heap.size, [.int .i64 0, .int .i64 M, .int .i64 D, .int .i64 U])] _) := hHeld
            clear hHeld
            obtain ⟨x0, x1, x2⟩ := (bo2 HB9).c3
            go_wp2_with fail
            go_roundw
            case rel => exact ⟨0 + 1, by go_num, by omega, by rw [est2.out, ← HV.out], by rw [est2.out], HB9⟩
            case measure => simp [intOf]
      · have est : stN a b D (1 + 1) = stW b ⟨#[109, 111, 110]⟩ (stN a b D 1) := rfl
        obtain ⟨x0, x1, x2⟩ := (bo2 HB).c3
        obtain ⟨y0, y1, y2⟩ := (bo1 HB).c3
        by_cases hz : b = 0
        · have est2 : Hid (stN a b D (1 + 1) = stN a b D 1) := by show _ = _; rw [est]; unfold stW; rw [if_pos hz]
          have z1 : (b == 0) = true := by simpa using hz
          have HT : Hid (jn ⟨#[32]⟩ (stN a b D 1).1 = tx) := htx
          have HLl : Hid ((stN a b D 1).2 = l) := hl
          clear hz est hE0 htx hl
          go_wp2_with fail
          go_roundw
          case rel => exact ⟨1 + 1, by go_num, by omega, by rw [est2.out, HT.out], by rw [est2.out, HLl.out], HB⟩
          case measure => simp [intOf]
        · have est2 : Hid (stN a b D (1 + 1) = ((stN a b D 1).1 ++ [unB b ⟨#[109, 111, 110]⟩ l], b)) := by show _ = _; rw [est]; unfold stW; rw [if_neg hz, hl]
          have z1 : (b == 0) = false := by simpa using hz
          have zu := unB_size b ⟨#[109, 111, 110]⟩ l (by decide) (by omega) (by omega)
          have c1 : ¬ 9223372036854775807 < tx.size + 1 := by omega
          have c2 : ¬ 9223372036854775807 < tx.size + (unB b ⟨#[109, 111, 110]⟩ l).size := by omega
          have c3 : ¬ 9223372036854775807 < tx.size + 1 + (unB b ⟨#[109, 111, 110]⟩ l).size := by omega
          have HT : Hid (jn ⟨#[32]⟩ (stN a b D 1).1 = tx) := htx
          clear hz est hl
          by_cases he : (stN a b D 1).1.length = 0
          · have hE : (tx.toList == []) = true := by rw [hE0]; exact decide_eq_true he
            have HV : Hid (tx ++ unB b ⟨#[109, 111, 110]⟩ l = jn ⟨#[32]⟩ ((stN a b D 1).1 ++ [unB b ⟨#[109, 111, 110]⟩ l])) := by (show _ = _; rw [jn_snoc, if_pos he, ← htx, List.eq_nil_of_length_eq_zero he, jn_nil, nil_app])
            clear hE0 htx he
            go_upto_region 11 with fail
            clear x0 x1 x2 y0 y1 y2
            refine wp_region_held_drew (S := BS w [(bs, [.string ⟨#[121, 101, 97, 114]⟩, .string ⟨#[109, 111, 110]⟩, .string ⟨#[100, 97, 121]⟩]), (bn, [.int .i64 a, .int .i64 b, .int .i64 D]), (w.heap.size, [.int .i64 0, .int .i64 M, .int .i64 D, .int .i64 U])]) (by kernel_rfl) HB.out.drew (fun hHeld => ?_)
            refine wpAnyH_take (i := 0) (v := ?_) (oi := { dst := some 31, op := _, type := _, pos := _, after := _, guard := none }) rfl (by kernel_rfl) (by kernel_rfl) (by kernel_rfl) (fun _ _ _ h => h) (Or.inl ⟨by kernel_rfl, ?_⟩) (by assumption) ?_
            case refine_2 => (intro w9 hSw; clear hSw; go_simp; try with_reducible rfl)
            simp only [Act.put, List.setIfInBounds_toArray, List.set_cons_zero, List.set_cons_succ]
            refine wpAnyH_take (i := 1) (v := ?_) (oi := { dst := some 32, op := _, type := _, pos := _, after := _, guard := none }) rfl (by kernel_rfl) (by kernel_rfl) (by kernel_rfl) (fun _ _ _ h => h) (Or.inl ⟨by kernel_rfl, ?_⟩) (by assumption) ?_
            case refine_2 => (intro w9 hSw; clear hSw; go_simp; try with_reducible rfl)
            simp only [Act.put, List.setIfInBounds_toArray, List.set_cons_zero, List.set_cons_succ]
            refine wpAnyH_take (i := 2) (v := ?_) (oi := { dst := some 33, op := _, type := _, pos := _, after := _, guard := none }) rfl (by kernel_rfl) (by kernel_rfl) (by kernel_rfl) (fun _ _ _ h => h) (Or.inl ⟨by kernel_rfl, ?_⟩) (by assumption) ?_
            case refine_2 => (intro w9 hSw; clear hSw; go_simp; try with_reducible rfl)
            simp only [Act.put, List.setIfInBounds_toArray, List.set_cons_zero, List.set_cons_succ]
            refine wpAnyH_take (i := 3) (v := ?_) (oi := { dst := some 34, op := _, type := _, pos := _, after := _, guard := none }) rfl (by kernel_rfl) (by kernel_rfl) (by kernel_rfl) (fun _ _ _ h => h) (Or.inl ⟨by kernel_rfl, ?_⟩) (by assumption) ?_
            case refine_2 => (intro w9 hSw; clear hSw; go_simp; try with_reducible rfl)
            simp only [Act.put, List.setIfInBounds_toArray, List.set_cons_zero, List.set_cons_succ]
            refine wpAnyH_take (i := 4) (v := ?_) (oi := { dst := some 35, op := _, type := _, pos := _, after := _, guard := none }) rfl (by kernel_rfl) (by kernel_rfl) (by kernel_rfl) (fun _ _ _ h => h) (Or.inl ⟨by kernel_rfl, ?_⟩) (by assumption) ?_
            case refine_2 => (intro w9 hSw; have l0 := (hSw.at bn [.int .i64 a, .int .i64 b, .int .i64 D] (by simp)).c 1 rfl; have l1 := (hSw.at bs [.string ⟨#[121, 101, 97, 114]⟩, .string ⟨#[109, 111, 110]⟩, .string ⟨#[100, 97, 121]⟩] (by simp)).c 1 rfl; clear hSw; go_simp; try with_reducible rfl)
            simp only [Act.put, List.setIfInBounds_toArray, List.set_cons_zero, List.set_cons_succ]
            refine wpAnyH_take (i := 5) (v := ?_) (oi := { dst := some 36, op := _, type := _, pos := _, after := _, guard := none }) rfl (by kernel_rfl) (by kernel_rfl) (by kernel_rfl) (fun _ _ _ h => h) (Or.inl ⟨by kernel_rfl, ?_⟩) (by assumption) ?_
            case refine_2 => (intro w9 hSw; clear hSw; go_simp; try with_reducible rfl)
            simp only [Act.put, List.setIfInBounds_toArray, List.set_cons_zero, List.set_cons_succ]
            refine wpAnyH_take (i := 6) (v := ?_) (oi := { dst := some 37, op := _, type := _, pos := _, after := _, guard := none }) rfl (by kernel_rfl) (by kernel_rfl) (by kernel_rfl) (fun _ _ _ h => h) (Or.inl ⟨by kernel_rfl, ?_⟩) (by assumption) ?_
            case refine_2 => (intro w9 hSw; clear hSw; go_simp; try with_reducible rfl)
            simp only [Act.put, List.setIfInBounds_toArray, List.set_cons_zero, List.set_cons_succ]
            refine wpAnyH_take (i := 7) (v := ?_) (oi := { dst := some 38, op := _, type := _, pos := _, after := _, guard := none }) rfl (by kernel_rfl) (by kernel_rfl) (by kernel_rfl) (fun _ _ _ h => h) (Or.inl ⟨by kernel_rfl, ?_⟩) (by assumption) ?_
            case refine_2 => (intro w9 hSw; clear hSw; go_simp; try with_reducible rfl)
            simp only [Act.put, List.setIfInBounds_toArray, List.set_cons_zero, List.set_cons_succ]
            refine wpAnyH_take (i := 8) (v := ?_) (oi := { dst := some 39, op := _, type := _, pos := _, after := _, guard := none }) rfl (by kernel_rfl) (by kernel_rfl) (by kernel_rfl) (fun _ _ _ h => h) (Or.inl ⟨by kernel_rfl, ?_⟩) (by assumption) ?_
            case refine_2 => (intro w9 hSw; have l0 := (hSw.at bn [.int .i64 a, .int .i64 b, .int .i64 D] (by simp)).c 1 rfl; have l1 := (hSw.at bs [.string ⟨#[121, 101, 97, 114]⟩, .string ⟨#[109, 111, 110]⟩, .string ⟨#[100, 97, 121]⟩] (by simp)).c 1 rfl; clear hSw; go_simp; try with_reducible rfl)
            simp only [Act.put, List.setIfInBounds_toArray, List.set_cons_zero, List.set_cons_succ]
            refine wpAnyH_take (i := 9) (v := ?_) (oi := { dst := some 40, op := _, type := _, pos := _, after := _, guard := none }) rfl (by kernel_rfl) (by kernel_rfl) (by kernel_rfl) (fun _ _ _ h => h) (Or.inl ⟨by kernel_rfl, ?_⟩) (by assumption) ?_
            case refine_2 => (intro w9 hSw; clear hSw; go_simp; try with_reducible rfl)
            simp only [Act.put, List.setIfInBounds_toArray, List.set_cons_zero, List.set_cons_succ]
            refine wpAnyH_ready (rs := [10]) (by kernel_rfl) (by simp) (AllReadyH.cons (o := { dst := some 41, op := _, type := _, pos := _, after := _, guard := none }) rfl (fun K hK => ?_) AllReadyH.nil)
            go_simp
            refine (un_ref b ⟨#[109, 111, 110]⟩ l (by decide) (by omega) (by omega) _).mono ?_
            rintro e v1 ⟨rfl, hb1⟩
            refine hK.out _ _ (hHeld.below hb1) (fun hHeld => ?_)
            clear hK K hb1
            refine wpAnyH_take (i := 11) (v := ?_) (oi := { dst := some 42, op := _, type := _, pos := _, after := _, guard := none }) rfl (by kernel_rfl) (by kernel_rfl) (by kernel_rfl) (fun _ _ _ h => h) (Or.inl ⟨by kernel_rfl, ?_⟩) (by assumption) ?_
            case refine_2 => (intro w9 hSw; clear hSw; go_simp; try with_reducible rfl)
            simp only [Act.put, List.setIfInBounds_toArray, List.set_cons_zero, List.set_cons_succ]
            refine wpAnyH_take (i := 12) (v := ?_) (oi := { dst := some 5, op := _, type := _, pos := _, after := _, guard := none }) rfl (by kernel_rfl) (by kernel_rfl) (by kernel_rfl) (fun _ _ _ h => h) (Or.inl ⟨by kernel_rfl, ?_⟩) (by assumption) ?_
            case refine_2 => (intro w9 hSw; clear hSw; go_simp; try with_reducible rfl)
            simp only [Act.put, List.setIfInBounds_toArray, List.set_cons_zero, List.set_cons_succ]
            refine wpAnyH_done (by kernel_rfl) ?_ _
            have HB9 : Hid (BS w [(bs, [.string ⟨#[121, 101, 97, 114]⟩, .string ⟨#[109, 111, 110]⟩, .string ⟨#[100, 97, 121]⟩]), (bn, [.int .i64 a, .int .i64 b, .int .i64 D]), (w.heap.size, [.int .i64 0, .int .i64 M, .int .i64 D, .int .i64 U])] _) := hHeld
            clear hHeld
            obtain ⟨x0, x1, x2⟩ := (bo2 HB9).c3
            go_wp2_with fail
            go_roundw
            case rel => exact ⟨1 + 1, by go_num, by omega, by rw [est2.out, ← HV.out], by rw [est2.out], HB9⟩
            case measure => simp [intOf]
          · have hE : (tx.toList == []) = false := by rw [hE0]; exact decide_eq_false he
            have HV : Hid (tx ++ ⟨#[32]⟩ ++ unB b ⟨#[109, 111, 110]⟩ l = jn ⟨#[32]⟩ ((stN a b D 1).1 ++ [unB b ⟨#[109, 111, 110]⟩ l])) := by (show _ = _; rw [jn_snoc, if_neg he, ← htx])
            clear hE0 htx he
            go_upto_region 11 with fail
            clear x0 x1 x2 y0 y1 y2
            refine wp_region_held_drew (S := BS w [(bs, [.string ⟨#[121, 101, 97, 114]⟩, .string ⟨#[109, 111, 110]⟩, .string ⟨#[100, 97, 121]⟩]), (bn, [.int .i64 a, .int .i64 b, .int .i64 D]), (w.heap.size, [.int .i64 0, .int .i64 M, .int .i64 D, .int .i64 U])]) (by kernel_rfl) HB.out.drew (fun hHeld => ?_)
            refine wpAnyH_take (i := 0) (v := ?_) (oi := { dst := some 31, op := _, type := _, pos := _, after := _, guard := none }) rfl (by kernel_rfl) (by kernel_rfl) (by kernel_rfl) (fun _ _ _ h => h) (Or.inl ⟨by kernel_rfl, ?_⟩) (by assumption) ?_
            case refine_2 => (intro w9 hSw; clear hSw; go_simp; try with_reducible rfl)
            simp only [Act.put, List.setIfInBounds_toArray, List.set_cons_zero, List.set_cons_succ]
            refine wpAnyH_take (i := 1) (v := ?_) (oi := { dst := some 32, op := _, type := _, pos := _, after := _, guard := none }) rfl (by kernel_rfl) (by kernel_rfl) (by kernel_rfl) (fun _ _ _ h => h) (Or.inl ⟨by kernel_rfl, ?_⟩) (by assumption) ?_
            case refine_2 => (intro w9 hSw; clear hSw; go_simp; try with_reducible rfl)
            simp only [Act.put, List.setIfInBounds_toArray, List.set_cons_zero, List.set_cons_succ]
            refine wpAnyH_take (i := 2) (v := ?_) (oi := { dst := some 33, op := _, type := _, pos := _, after := _, guard := none }) rfl (by kernel_rfl) (by kernel_rfl) (by kernel_rfl) (fun _ _ _ h => h) (Or.inl ⟨by kernel_rfl, ?_⟩) (by assumption) ?_
            case refine_2 => (intro w9 hSw; clear hSw; go_simp; try with_reducible rfl)
            simp only [Act.put, List.setIfInBounds_toArray, List.set_cons_zero, List.set_cons_succ]
            refine wpAnyH_take (i := 3) (v := ?_) (oi := { dst := some 34, op := _, type := _, pos := _, after := _, guard := none }) rfl (by kernel_rfl) (by kernel_rfl) (by kernel_rfl) (fun _ _ _ h => h) (Or.inl ⟨by kernel_rfl, ?_⟩) (by assumption) ?_
            case refine_2 => (intro w9 hSw; clear hSw; go_simp; try with_reducible rfl)
            simp only [Act.put, List.setIfInBounds_toArray, List.set_cons_zero, List.set_cons_succ]
            refine wpAnyH_take (i := 4) (v := ?_) (oi := { dst := some 35, op := _, type := _, pos := _, after := _, guard := none }) rfl (by kernel_rfl) (by kernel_rfl) (by kernel_rfl) (fun _ _ _ h => h) (Or.inl ⟨by kernel_rfl, ?_⟩) (by assumption) ?_
            case refine_2 => (intro w9 hSw; have l0 := (hSw.at bn [.int .i64 a, .int .i64 b, .int .i64 D] (by simp)).c 1 rfl; have l1 := (hSw.at bs [.string ⟨#[121, 101, 97, 114]⟩, .string ⟨#[109, 111, 110]⟩, .string ⟨#[100, 97, 121]⟩] (by simp)).c 1 rfl; clear hSw; go_simp; try with_reducible rfl)
            simp only [Act.put, List.setIfInBounds_toArray, List.set_cons_zero, List.set_cons_succ]
            refine wpAnyH_take (i := 5) (v := ?_) (oi := { dst := some 36, op := _, type := _, pos := _, after := _, guard := none }) rfl (by kernel_rfl) (by kernel_rfl) (by kernel_rfl) (fun _ _ _ h => h) (Or.inl ⟨by kernel_rfl, ?_⟩) (by assumption) ?_
            case refine_2 => (intro w9 hSw; clear hSw; go_simp; try with_reducible rfl)
            simp only [Act.put, List.setIfInBounds_toArray, List.set_cons_zero, List.set_cons_succ]
            refine wpAnyH_take (i := 6) (v := ?_) (oi := { dst := some 37, op := _, type := _, pos := _, after := _, guard := none }) rfl (by kernel_rfl) (by kernel_rfl) (by kernel_rfl) (fun _ _ _ h => h) (Or.inl ⟨by kernel_rfl, ?_⟩) (by assumption) ?_
            case refine_2 => (intro w9 hSw; clear hSw; go_simp; try with_reducible rfl)
            simp only [Act.put, List.setIfInBounds_toArray, List.set_cons_zero, List.set_cons_succ]
            refine wpAnyH_take (i := 7) (v := ?_) (oi := { dst := some 38, op := _, type := _, pos := _, after := _, guard := none }) rfl (by kernel_rfl) (by kernel_rfl) (by kernel_rfl) (fun _ _ _ h => h) (Or.inl ⟨by kernel_rfl, ?_⟩) (by assumption) ?_
            case refine_2 => (intro w9 hSw; clear hSw; go_simp; try with_reducible rfl)
            simp only [Act.put, List.setIfInBounds_toArray, List.set_cons_zero, List.set_cons_succ]
            refine wpAnyH_take (i := 8) (v := ?_) (oi := { dst := some 39, op := _, type := _, pos := _, after := _, guard := none }) rfl (by kernel_rfl) (by kernel_rfl) (by kernel_rfl) (fun _ _ _ h => h) (Or.inl ⟨by kernel_rfl, ?_⟩) (by assumption) ?_
            case refine_2 => (intro w9 hSw; have l0 := (hSw.at bn [.int .i64 a, .int .i64 b, .int .i64 D] (by simp)).c 1 rfl; have l1 := (hSw.at bs [.string ⟨#[121, 101, 97, 114]⟩, .string ⟨#[109, 111, 110]⟩, .string ⟨#[100, 97, 121]⟩] (by simp)).c 1 rfl; clear hSw; go_simp; try with_reducible rfl)
            simp only [Act.put, List.setIfInBounds_toArray, List.set_cons_zero, List.set_cons_succ]
            refine wpAnyH_take (i := 9) (v := ?_) (oi := { dst := some 40, op := _, type := _, pos := _, after := _, guard := none }) rfl (by kernel_rfl) (by kernel_rfl) (by kernel_rfl) (fun _ _ _ h => h) (Or.inl ⟨by kernel_rfl, ?_⟩) (by assumption) ?_
            case refine_2 => (intro w9 hSw; clear hSw; go_simp; try with_reducible rfl)
            simp only [Act.put, List.setIfInBounds_toArray, List.set_cons_zero, List.set_cons_succ]
            refine wpAnyH_ready (rs := [10]) (by kernel_rfl) (by simp) (AllReadyH.cons (o := { dst := some 41, op := _, type := _, pos := _, after := _, guard := none }) rfl (fun K hK => ?_) AllReadyH.nil)
            go_simp
            refine (un_ref b ⟨#[109, 111, 110]⟩ l (by decide) (by omega) (by omega) _).mono ?_
            rintro e v1 ⟨rfl, hb1⟩
            refine hK.out _ _ (hHeld.below hb1) (fun hHeld => ?_)
            clear hK K hb1
            refine wpAnyH_take (i := 11) (v := ?_) (oi := { dst := some 42, op := _, type := _, pos := _, after := _, guard := none }) rfl (by kernel_rfl) (by kernel_rfl) (by kernel_rfl) (fun _ _ _ h => h) (Or.inl ⟨by kernel_rfl, ?_⟩) (by assumption) ?_
            case refine_2 => (intro w9 hSw; clear hSw; go_simp; try with_reducible rfl)
            simp only [Act.put, List.setIfInBounds_toArray, List.set_cons_zero, List.set_cons_succ]
            refine wpAnyH_take (i := 12) (v := ?_) (oi := { dst := some 5, op := _, type := _, pos := _, after := _, guard := none }) rfl (by kernel_rfl) (by kernel_rfl) (by kernel_rfl) (fun _ _ _ h => h) (Or.inl ⟨by kernel_rfl, ?_⟩) (by assumption) ?_
            case refine_2 => (intro w9 hSw; clear hSw; go_simp; try with_reducible rfl)
            simp only [Act.put, List.setIfInBounds_toArray, List.set_cons_zero, List.set_cons_succ]
            refine wpAnyH_done (by kernel_rfl) ?_ _
            have HB9 : Hid (BS w [(bs, [.string ⟨#[121, 101, 97, 114]⟩, .string ⟨#[109, 111, 110]⟩, .string ⟨#[100, 97, 121]⟩]), (bn, [.int .i64 a, .int .i64 b, .int .i64 D]), (w.heap.size, [.int .i64 0, .int .i64 M, .int .i64 D, .int .i64 U])] _) := hHeld
            clear hHeld
            obtain ⟨x0, x1, x2⟩ := (bo2 HB9).c3
            go_wp2_with fail
            go_roundw
            case rel => exact ⟨1 + 1, by go_num, by omega, by rw [est2.out, ← HV.out], by rw [est2.out], HB9⟩
            case measure => simp [intOf]
      · have est : stN a b D (2 + 1) = stW D ⟨#[100, 97, 121]⟩ (stN a b D 2) := rfl
        obtain ⟨x0, x1, x2⟩ := (bo2 HB).c3
        obtain ⟨y0, y1, y2⟩ := (bo1 HB).c3
        by_cases hz : D = 0
        · have est2 : Hid (stN a b D (2 + 1) = stN a b D 2) := by show _ = _; rw [est]; unfold stW; rw [if_pos hz]
          have z1 : (D == 0) = true := by simpa using hz
          have HT : Hid (jn ⟨#[32]⟩ (stN a b D 2).1 = tx) := htx
          have HLl : Hid ((stN a b D 2).2 = l) := hl
          clear hz est hE0 htx hl
          go_wp2_with fail
          go_roundw
          case rel => exact ⟨2 + 1, by go_num, by omega, by rw [est2.out, HT.out], by rw [est2.out, HLl.out], HB⟩
          case measure => simp [intOf]
        · have est2 : Hid (stN a b D (2 + 1) = ((stN a b D 2).1 ++ [unB D ⟨#[100, 97, 121]⟩ l], D)) := by show _ = _; rw [est]; unfold stW; rw [if_neg hz, hl]
          have z1 : (D == 0) = false := by simpa using hz
          have zu := unB_size D ⟨#[100, 97, 121]⟩ l (by decide) (by omega) (by omega)
          have c1 : ¬ 9223372036854775807 < tx.size + 1 := by omega
          have c2 : ¬ 9223372036854775807 < tx.size + (unB D ⟨#[100, 97, 121]⟩ l).size := by omega
          have c3 : ¬ 9223372036854775807 < tx.size + 1 + (unB D ⟨#[100, 97, 121]⟩ l).size := by omega
          have HT : Hid (jn ⟨#[32]⟩ (stN a b D 2).1 = tx) := htx
          clear hz est hl
          by_cases he : (stN a b D 2).1.length = 0
          · have hE : (tx.toList == []) = true := by rw [hE0]; exact decide_eq_true he
            have HV : Hid (tx ++ unB D ⟨#[100, 97, 121]⟩ l = jn ⟨#[32]⟩ ((stN a b D 2).1 ++ [unB D ⟨#[100, 97, 121]⟩ l])) := by (show _ = _; rw [jn_snoc, if_pos he, ← htx, List.eq_nil_of_length_eq_zero he, jn_nil, nil_app])
            clear hE0 htx he
            go_upto_region 11 with fail
            clear x0 x1 x2 y0 y1 y2
            refine wp_region_held_drew (S := BS w [(bs, [.string ⟨#[121, 101, 97, 114]⟩, .string ⟨#[109, 111, 110]⟩, .string ⟨#[100, 97, 121]⟩]), (bn, [.int .i64 a, .int .i64 b, .int .i64 D]), (w.heap.size, [.int .i64 0, .int .i64 M, .int .i64 D, .int .i64 U])]) (by kernel_rfl) HB.out.drew (fun hHeld => ?_)
            refine wpAnyH_take (i := 0) (v := ?_) (oi := { dst := some 31, op := _, type := _, pos := _, after := _, guard := none }) rfl (by kernel_rfl) (by kernel_rfl) (by kernel_rfl) (fun _ _ _ h => h) (Or.inl ⟨by kernel_rfl, ?_⟩) (by assumption) ?_
            case refine_2 => (intro w9 hSw; clear hSw; go_simp; try with_reducible rfl)
            simp only [Act.put, List.setIfInBounds_toArray, List.set_cons_zero, List.set_cons_succ]
            refine wpAnyH_take (i := 1) (v := ?_) (oi := { dst := some 32, op := _, type := _, pos := _, after := _, guard := none }) rfl (by kernel_rfl) (by kernel_rfl) (by kernel_rfl) (fun _ _ _ h => h) (Or.inl ⟨by kernel_rfl, ?_⟩) (by assumption) ?_
            case refine_2 => (intro w9 hSw; clear hSw; go_simp; try with_reducible rfl)
            simp only [Act.put, List.setIfInBounds_toArray, List.set_cons_zero, List.set_cons_succ]
            refine wpAnyH_take (i := 2) (v := ?_) (oi := { dst := some 33, op := _, type := _, pos := _, after := _, guard := none }) rfl (by kernel_rfl) (by kernel_rfl) (by kernel_rfl) (fun _ _ _ h => h) (Or.inl ⟨by kernel_rfl, ?_⟩) (by assumption) ?_
            case refine_2 => (intro w9 hSw; clear hSw; go_simp; try with_reducible rfl)
            simp only [Act.put, List.setIfInBounds_toArray, List.set_cons_zero, List.set_cons_succ]
            refine wpAnyH_take (i := 3) (v := ?_) (oi := { dst := some 34, op := _, type := _, pos := _, after := _, guard := none }) rfl (by kernel_rfl) (by kernel_rfl) (by kernel_rfl) (fun _ _ _ h => h) (Or.inl ⟨by kernel_rfl, ?_⟩) (by assumption) ?_
            case refine_2 => (intro w9 hSw; clear hSw; go_simp; try with_reducible rfl)
            simp only [Act.put, List.setIfInBounds_toArray, List.set_cons_zero, List.set_cons_succ]
            refine wpAnyH_take (i := 4) (v := ?_) (oi := { dst := some 35, op := _, type := _, pos := _, after := _, guard := none }) rfl (by kernel_rfl) (by kernel_rfl) (by kernel_rfl) (fun _ _ _ h => h) (Or.inl ⟨by kernel_rfl, ?_⟩) (by assumption) ?_
            case refine_2 => (intro w9 hSw; have l0 := (hSw.at bn [.int .i64 a, .int .i64 b, .int .i64 D] (by simp)).c 2 rfl; have l1 := (hSw.at bs [.string ⟨#[121, 101, 97, 114]⟩, .string ⟨#[109, 111, 110]⟩, .string ⟨#[100, 97, 121]⟩] (by simp)).c 2 rfl; clear hSw; go_simp; try with_reducible rfl)
            simp only [Act.put, List.setIfInBounds_toArray, List.set_cons_zero, List.set_cons_succ]
            refine wpAnyH_take (i := 5) (v := ?_) (oi := { dst := some 36, op := _, type := _, pos := _, after := _, guard := none }) rfl (by kernel_rfl) (by kernel_rfl) (by kernel_rfl) (fun _ _ _ h => h) (Or.inl ⟨by kernel_rfl, ?_⟩) (by assumption) ?_
            case refine_2 => (intro w9 hSw; clear hSw; go_simp; try with_reducible rfl)
            simp only [Act.put, List.setIfInBounds_toArray, List.set_cons_zero, List.set_cons_succ]
            refine wpAnyH_take (i := 6) (v := ?_) (oi := { dst := some 37, op := _, type := _, pos := _, after := _, guard := none }) rfl (by kernel_rfl) (by kernel_rfl) (by kernel_rfl) (fun _ _ _ h => h) (Or.inl ⟨by kernel_rfl, ?_⟩) (by assumption) ?_
            case refine_2 => (intro w9 hSw; clear hSw; go_simp; try with_reducible rfl)
            simp only [Act.put, List.setIfInBounds_toArray, List.set_cons_zero, List.set_cons_succ]
            refine wpAnyH_take (i := 7) (v := ?_) (oi := { dst := some 38, op := _, type := _, pos := _, after := _, guard := none }) rfl (by kernel_rfl) (by kernel_rfl) (by kernel_rfl) (fun _ _ _ h => h) (Or.inl ⟨by kernel_rfl, ?_⟩) (by assumption) ?_
            case refine_2 => (intro w9 hSw; clear hSw; go_simp; try with_reducible rfl)
            simp only [Act.put, List.setIfInBounds_toArray, List.set_cons_zero, List.set_cons_succ]
            refine wpAnyH_take (i := 8) (v := ?_) (oi := { dst := some 39, op := _, type := _, pos := _, after := _, guard := none }) rfl (by kernel_rfl) (by kernel_rfl) (by kernel_rfl) (fun _ _ _ h => h) (Or.inl ⟨by kernel_rfl, ?_⟩) (by assumption) ?_
            case refine_2 => (intro w9 hSw; have l0 := (hSw.at bn [.int .i64 a, .int .i64 b, .int .i64 D] (by simp)).c 2 rfl; have l1 := (hSw.at bs [.string ⟨#[121, 101, 97, 114]⟩, .string ⟨#[109, 111, 110]⟩, .string ⟨#[100, 97, 121]⟩] (by simp)).c 2 rfl; clear hSw; go_simp; try with_reducible rfl)
            simp only [Act.put, List.setIfInBounds_toArray, List.set_cons_zero, List.set_cons_succ]
            refine wpAnyH_take (i := 9) (v := ?_) (oi := { dst := some 40, op := _, type := _, pos := _, after := _, guard := none }) rfl (by kernel_rfl) (by kernel_rfl) (by kernel_rfl) (fun _ _ _ h => h) (Or.inl ⟨by kernel_rfl, ?_⟩) (by assumption) ?_
            case refine_2 => (intro w9 hSw; clear hSw; go_simp; try with_reducible rfl)
            simp only [Act.put, List.setIfInBounds_toArray, List.set_cons_zero, List.set_cons_succ]
            refine wpAnyH_ready (rs := [10]) (by kernel_rfl) (by simp) (AllReadyH.cons (o := { dst := some 41, op := _, type := _, pos := _, after := _, guard := none }) rfl (fun K hK => ?_) AllReadyH.nil)
            go_simp
            refine (un_ref D ⟨#[100, 97, 121]⟩ l (by decide) (by omega) (by omega) _).mono ?_
            rintro e v1 ⟨rfl, hb1⟩
            refine hK.out _ _ (hHeld.below hb1) (fun hHeld => ?_)
            clear hK K hb1
            refine wpAnyH_take (i := 11) (v := ?_) (oi := { dst := some 42, op := _, type := _, pos := _, after := _, guard := none }) rfl (by kernel_rfl) (by kernel_rfl) (by kernel_rfl) (fun _ _ _ h => h) (Or.inl ⟨by kernel_rfl, ?_⟩) (by assumption) ?_
            case refine_2 => (intro w9 hSw; clear hSw; go_simp; try with_reducible rfl)
            simp only [Act.put, List.setIfInBounds_toArray, List.set_cons_zero, List.set_cons_succ]
            refine wpAnyH_take (i := 12) (v := ?_) (oi := { dst := some 5, op := _, type := _, pos := _, after := _, guard := none }) rfl (by kernel_rfl) (by kernel_rfl) (by kernel_rfl) (fun _ _ _ h => h) (Or.inl ⟨by kernel_rfl, ?_⟩) (by assumption) ?_
            case refine_2 => (intro w9 hSw; clear hSw; go_simp; try with_reducible rfl)
            simp only [Act.put, List.setIfInBounds_toArray, List.set_cons_zero, List.set_cons_succ]
            refine wpAnyH_done (by kernel_rfl) ?_ _
            have HB9 : Hid (BS w [(bs, [.string ⟨#[121, 101, 97, 114]⟩, .string ⟨#[109, 111, 110]⟩, .string ⟨#[100, 97, 121]⟩]), (bn, [.int .i64 a, .int .i64 b, .int .i64 D]), (w.heap.size, [.int .i64 0, .int .i64 M, .int .i64 D, .int .i64 U])] _) := hHeld
            clear hHeld
            obtain ⟨x0, x1, x2⟩ := (bo2 HB9).c3
            go_wp2_with fail
            go_roundw
            case rel => exact ⟨2 + 1, by go_num, by omega, by rw [est2.out, ← HV.out], by rw [est2.out], HB9⟩
            case measure => simp [intOf]
          · have hE : (tx.toList == []) = false := by rw [hE0]; exact decide_eq_false he
            have HV : Hid (tx ++ ⟨#[32]⟩ ++ unB D ⟨#[100, 97, 121]⟩ l = jn ⟨#[32]⟩ ((stN a b D 2).1 ++ [unB D ⟨#[100, 97, 121]⟩ l])) := by (show _ = _; rw [jn_snoc, if_neg he, ← htx])
            clear hE0 htx he
            go_upto_region 11 with fail
            clear x0 x1 x2 y0 y1 y2
            refine wp_region_held_drew (S := BS w [(bs, [.string ⟨#[121, 101, 97, 114]⟩, .string ⟨#[109, 111, 110]⟩, .string ⟨#[100, 97, 121]⟩]), (bn, [.int .i64 a, .int .i64 b, .int .i64 D]), (w.heap.size, [.int .i64 0, .int .i64 M, .int .i64 D, .int .i64 U])]) (by kernel_rfl) HB.out.drew (fun hHeld => ?_)
            refine wpAnyH_take (i := 0) (v := ?_) (oi := { dst := some 31, op := _, type := _, pos := _, after := _, guard := none }) rfl (by kernel_rfl) (by kernel_rfl) (by kernel_rfl) (fun _ _ _ h => h) (Or.inl ⟨by kernel_rfl, ?_⟩) (by assumption) ?_
            case refine_2 => (intro w9 hSw; clear hSw; go_simp; try with_reducible rfl)
            simp only [Act.put, List.setIfInBounds_toArray, List.set_cons_zero, List.set_cons_succ]
            refine wpAnyH_take (i := 1) (v := ?_) (oi := { dst := some 32, op := _, type := _, pos := _, after := _, guard := none }) rfl (by kernel_rfl) (by kernel_rfl) (by kernel_rfl) (fun _ _ _ h => h) (Or.inl ⟨by kernel_rfl, ?_⟩) (by assumption) ?_
            case refine_2 => (intro w9 hSw; clear hSw; go_simp; try with_reducible rfl)
            simp only [Act.put, List.setIfInBounds_toArray, List.set_cons_zero, List.set_cons_succ]
            refine wpAnyH_take (i := 2) (v := ?_) (oi := { dst := some 33, op := _, type := _, pos := _, after := _, guard := none }) rfl (by kernel_rfl) (by kernel_rfl) (by kernel_rfl) (fun _ _ _ h => h) (Or.inl ⟨by kernel_rfl, ?_⟩) (by assumption) ?_
            case refine_2 => (intro w9 hSw; clear hSw; go_simp; try with_reducible rfl)
            simp only [Act.put, List.setIfInBounds_toArray, List.set_cons_zero, List.set_cons_succ]
            refine wpAnyH_take (i := 3) (v := ?_) (oi := { dst := some 34, op := _, type := _, pos := _, after := _, guard := none }) rfl (by kernel_rfl) (by kernel_rfl) (by kernel_rfl) (fun _ _ _ h => h) (Or.inl ⟨by kernel_rfl, ?_⟩) (by assumption) ?_
            case refine_2 => (intro w9 hSw; clear hSw; go_simp; try with_reducible rfl)
            simp only [Act.put, List.setIfInBounds_toArray, List.set_cons_zero, List.set_cons_succ]
            refine wpAnyH_take (i := 4) (v := ?_) (oi := { dst := some 35, op := _, type := _, pos := _, after := _, guard := none }) rfl (by kernel_rfl) (by kernel_rfl) (by kernel_rfl) (fun _ _ _ h => h) (Or.inl ⟨by kernel_rfl, ?_⟩) (by assumption) ?_
            case refine_2 => (intro w9 hSw; have l0 := (hSw.at bn [.int .i64 a, .int .i64 b, .int .i64 D] (by simp)).c 2 rfl; have l1 := (hSw.at bs [.string ⟨#[121, 101, 97, 114]⟩, .string ⟨#[109, 111, 110]⟩, .string ⟨#[100, 97, 121]⟩] (by simp)).c 2 rfl; clear hSw; go_simp; try with_reducible rfl)
            simp only [Act.put, List.setIfInBounds_toArray, List.set_cons_zero, List.set_cons_succ]
            refine wpAnyH_take (i := 5) (v := ?_) (oi := { dst := some 36, op := _, type := _, pos := _, after := _, guard := none }) rfl (by kernel_rfl) (by kernel_rfl) (by kernel_rfl) (fun _ _ _ h => h) (Or.inl ⟨by kernel_rfl, ?_⟩) (by assumption) ?_
            case refine_2 => (intro w9 hSw; clear hSw; go_simp; try with_reducible rfl)
            simp only [Act.put, List.setIfInBounds_toArray, List.set_cons_zero, List.set_cons_succ]
            refine wpAnyH_take (i := 6) (v := ?_) (oi := { dst := some 37, op := _, type := _, pos := _, after := _, guard := none }) rfl (by kernel_rfl) (by kernel_rfl) (by kernel_rfl) (fun _ _ _ h => h) (Or.inl ⟨by kernel_rfl, ?_⟩) (by assumption) ?_
            case refine_2 => (intro w9 hSw; clear hSw; go_simp; try with_reducible rfl)
            simp only [Act.put, List.setIfInBounds_toArray, List.set_cons_zero, List.set_cons_succ]
            refine wpAnyH_take (i := 7) (v := ?_) (oi := { dst := some 38, op := _, type := _, pos := _, after := _, guard := none }) rfl (by kernel_rfl) (by kernel_rfl) (by kernel_rfl) (fun _ _ _ h => h) (Or.inl ⟨by kernel_rfl, ?_⟩) (by assumption) ?_
            case refine_2 => (intro w9 hSw; clear hSw; go_simp; try with_reducible rfl)
            simp only [Act.put, List.setIfInBounds_toArray, List.set_cons_zero, List.set_cons_succ]
            refine wpAnyH_take (i := 8) (v := ?_) (oi := { dst := some 39, op := _, type := _, pos := _, after := _, guard := none }) rfl (by kernel_rfl) (by kernel_rfl) (by kernel_rfl) (fun _ _ _ h => h) (Or.inl ⟨by kernel_rfl, ?_⟩) (by assumption) ?_
            case refine_2 => (intro w9 hSw; have l0 := (hSw.at bn [.int .i64 a, .int .i64 b, .int .i64 D] (by simp)).c 2 rfl; have l1 := (hSw.at bs [.string ⟨#[121, 101, 97, 114]⟩, .string ⟨#[109, 111, 110]⟩, .string ⟨#[100, 97, 121]⟩] (by simp)).c 2 rfl; clear hSw; go_simp; try with_reducible rfl)
            simp only [Act.put, List.setIfInBounds_toArray, List.set_cons_zero, List.set_cons_succ]
            refine wpAnyH_take (i := 9) (v := ?_) (oi := { dst := some 40, op := _, type := _, pos := _, after := _, guard := none }) rfl (by kernel_rfl) (by kernel_rfl) (by kernel_rfl) (fun _ _ _ h => h) (Or.inl ⟨by kernel_rfl, ?_⟩) (by assumption) ?_
            case refine_2 => (intro w9 hSw; clear hSw; go_simp; try with_reducible rfl)
            simp only [Act.put, List.setIfInBounds_toArray, List.set_cons_zero, List.set_cons_succ]
            refine wpAnyH_ready (rs := [10]) (by kernel_rfl) (by simp) (AllReadyH.cons (o := { dst := some 41, op := _, type := _, pos := _, after := _, guard := none }) rfl (fun K hK => ?_) AllReadyH.nil)
            go_simp
            refine (un_ref D ⟨#[100, 97, 121]⟩ l (by decide) (by omega) (by omega) _).mono ?_
            rintro e v1 ⟨rfl, hb1⟩
            refine hK.out _ _ (hHeld.below hb1) (fun hHeld => ?_)
            clear hK K hb1
            refine wpAnyH_take (i := 11) (v := ?_) (oi := { dst := some 42, op := _, type := _, pos := _, after := _, guard := none }) rfl (by kernel_rfl) (by kernel_rfl) (by kernel_rfl) (fun _ _ _ h => h) (Or.inl ⟨by kernel_rfl, ?_⟩) (by assumption) ?_
            case refine_2 => (intro w9 hSw; clear hSw; go_simp; try with_reducible rfl)
            simp only [Act.put, List.setIfInBounds_toArray, List.set_cons_zero, List.set_cons_succ]
            refine wpAnyH_take (i := 12) (v := ?_) (oi := { dst := some 5, op := _, type := _, pos := _, after := _, guard := none }) rfl (by kernel_rfl) (by kernel_rfl) (by kernel_rfl) (fun _ _ _ h => h) (Or.inl ⟨by kernel_rfl, ?_⟩) (by assumption) ?_
            case refine_2 => (intro w9 hSw; clear hSw; go_simp; try with_reducible rfl)
            simp only [Act.put, List.setIfInBounds_toArray, List.set_cons_zero, List.set_cons_succ]
            refine wpAnyH_done (by kernel_rfl) ?_ _
            have HB9 : Hid (BS w [(bs, [.string ⟨#[121, 101, 97, 114]⟩, .string ⟨#[109, 111, 110]⟩, .string ⟨#[100, 97, 121]⟩]), (bn, [.int .i64 a, .int .i64 b, .int .i64 D]), (w.heap.size, [.int .i64 0, .int .i64 M, .int .i64 D, .int .i64 U])] _) := hHeld
            clear hHeld
            obtain ⟨x0, x1, x2⟩ := (bo2 HB9).c3
            go_wp2_with fail
            go_roundw
            case rel => exact ⟨2 + 1, by go_num, by omega, by rw [est2.out, ← HV.out], by rw [est2.out], HB9⟩
            case measure => simp [intOf]
    · have hlt' : ¬ (i : Int) < 3 := by omega
      obtain rfl : i = 3 := by omega
      obtain ⟨c0, c1, c2, c3⟩ := (bo3 HB).c4
      have hE : (tx.toList == []) = false := by rw [hE0]; exact decide_eq_false (by have := HW.out; omega)
      have HT : Hid (jn ⟨#[32]⟩ (stN a b D 3).1 = tx) := htx
      clear hE0 htx hl
      go_wp2_with fail
      go_ret
      exact ⟨by rw [HT.out]; rfl, HB.out.1⟩

set_option maxRecDepth 100000 in
set_option maxHeartbeats 8000000 in
theorem pg_t (M D U a b : Int) (ha : M.tdiv 12 = a) (hb : M.tmod 12 = b) (a1 : -9223372036854775808 ≤ a) (a9 : a ≤ 9223372036854775807) (b1 : -9223372036854775808 ≤ b) (b9 : b ≤ 9223372036854775807) (D1 : -9223372036854775808 ≤ D) (D9 : D ≤ 9223372036854775807) (U1 : -9223372036854775808 ≤ U) (U9 : U ≤ 9223372036854775807) (hU : (U == 0) = false) (w : World) :
    Calls Tryd.prog 18 #[.agg #[.int .i64 0, .int .i64 M, .int .i64 D, .int .i64 U]] w fun r' w' => r' = .returned (.string (jn ⟨#[32]⟩ ((stN a b D 3).1 ++ [tmB (stN a b D 3).2 U]))) ∧ Below w.heap.size w w' := by
  have K0 : Hid (BS w [(w.heap.size + 1 + 1, [.string ⟨#[121, 101, 97, 114]⟩, .string ⟨#[109, 111, 110]⟩, .string ⟨#[100, 97, 121]⟩]), (w.heap.size + 1, [.int .i64 a, .int .i64 b, .int .i64 D]), (w.heap.size, [.int .i64 0, .int .i64 M, .int .i64 D, .int .i64 U])] (((w.alloc (.cells #[.int .i64 0, .int .i64 M, .int .i64 D, .int .i64 U] 23)).alloc (.cells #[.int .i64 a, .int .i64 b, .int .i64 D] 2)).alloc (.cells #[.string ⟨#[121, 101, 97, 114]⟩, .string ⟨#[109, 111, 110]⟩, .string ⟨#[100, 97, 121]⟩] 9))) := (((BS.start w).new [.int .i64 0, .int .i64 M, .int .i64 D, .int .i64 U] _ rfl).new [.int .i64 a, .int .i64 b, .int .i64 D] _ (by simp)).new [.string ⟨#[121, 101, 97, 114]⟩, .string ⟨#[109, 111, 110]⟩, .string ⟨#[100, 97, 121]⟩] _ (by simp)
  have hszN := fun i hi => stN_len a b D i hi
  go_enter Tryd.func18, Tryd.ntmps18
  go_upto_region 3 with fail
  refine bs_to K0 ?_
  clear K0
  intro W0 K0
  obtain ⟨bn, hbn⟩ : ∃ bn, w.heap.size + 1 = bn := ⟨_, rfl⟩
  obtain ⟨bs, hbs⟩ : ∃ bs, w.heap.size + 1 + 1 = bs := ⟨_, rfl⟩
  rw [hbs, hbn] at K0
  try rw [hbs]
  try rw [hbn]
  clear hbs hbn
  go_wp2_with fail
  go_loopw [5, 6, 7] (fun tv lv iv wr => ∃ i : Nat, iv = .int .i64 (i : Int) ∧ i ≤ 3 ∧ tv = .string (jn ⟨#[32]⟩ (stN a b D i).1) ∧ lv = .int .i64 (stN a b D i).2 ∧ Hid (BS w [(bs, [.string ⟨#[121, 101, 97, 114]⟩, .string ⟨#[109, 111, 110]⟩, .string ⟨#[100, 97, 121]⟩]), (bn, [.int .i64 a, .int .i64 b, .int .i64 D]), (w.heap.size, [.int .i64 0, .int .i64 M, .int .i64 D, .int .i64 U])] wr)) (fun _ _ iv _ => 3 - (intOf iv).toNat)
  case atStart => exact ⟨0, rfl, by decide, rfl, rfl, K0⟩
  case round =>
    clear K0
    obtain ⟨i, rfl, hi, rfl, rfl, HB⟩ := hrel
    obtain ⟨tx, htx⟩ : ∃ tx, jn ⟨#[32]⟩ (stN a b D i).1 = tx := ⟨_, rfl⟩
    obtain ⟨l, hl⟩ : ∃ l, (stN a b D i).2 = l := ⟨_, rfl⟩
    have zt : tx.size ≤ 200 := by
      rw [← htx, jn_size]
      have h1 := stN_len a b D i hi
      have h2 := stN_szi a b D i hi a1 a9 b1 b9 D1 D9
      have e : (⟨#[32]⟩ : ByteArray).size = 1 := rfl
      rw [e]
      omega
    have hE0 := tx_eq a b D i hi
    rw [htx] at hE0 ⊢
    rw [hl]
    by_cases hlt : i < 3
    · obtain rfl | rfl | rfl : i = 0 ∨ i = 1 ∨ i = 2 := by omega
      · have est : stN a b D (0 + 1) = stW a ⟨#[121, 101, 97, 114]⟩ (stN a b D 0) := rfl
        obtain ⟨x0, x1, x2⟩ := (bo2 HB).c3
        obtain ⟨y0, y1, y2⟩ := (bo1 HB).c3
        by_cases hz : a = 0
        · have est2 : Hid (stN a b D (0 + 1) = stN a b D 0) := by show _ = _; rw [est]; unfold stW; rw [if_pos hz]
          have z1 : (a == 0) = true := by simpa using hz
          have HT : Hid (jn ⟨#[32]⟩ (stN a b D 0).1 = tx) := htx
          have HLl : Hid ((stN a b D 0).2 = l) := hl
          clear hz est hE0 htx hl
          go_wp2_with fail
          go_roundw
          case rel => exact ⟨0 + 1, by go_num, by omega, by rw [est2.out, HT.out], by rw [est2.out, HLl.out], HB⟩
          case measure => simp [intOf]
        · have est2 : Hid (stN a b D (0 + 1) = ((stN a b D 0).1 ++ [unB a ⟨#[121, 101, 97, 114]⟩ l], a)) := by show _ = _; rw [est]; unfold stW; rw [if_neg hz, hl]
          have z1 : (a == 0) = false := by simpa using hz
          have zu := unB_size a ⟨#[121, 101, 97, 114]⟩ l (by decide) (by omega) (by omega)
          have c1 : ¬ 9223372036854775807 < tx.size + 1 := by omega
          have c2 : ¬ 9223372036854775807 < tx.size + (unB a ⟨#[121, 101, 97, 114]⟩ l).size := by omega
          have c3 : ¬ 9223372036854775807 < tx.size + 1 + (unB a ⟨#[121, 101, 97, 114]⟩ l).size := by omega
          have HT : Hid (jn ⟨#[32]⟩ (stN a b D 0).1 = tx) := htx
          clear hz est hl
          by_cases he : (stN a b D 0).1.length = 0
          · have hE : (tx.toList == []) = true := by rw [hE0]; exact decide_eq_true he
            have HV : Hid (tx ++ unB a ⟨#[121, 101, 97, 114]⟩ l = jn ⟨#[32]⟩ ((stN a b D 0).1 ++ [unB a ⟨#[121, 101, 97, 114]⟩ l])) := by (show _ = _; rw [jn_snoc, if_pos he, ← htx, List.eq_nil_of_length_eq_zero he, jn_nil, nil_app])
            clear hE0 htx he
            go_upto_region 11 with fail
            clear x0 x1 x2 y0 y1 y2
            refine wp_region_held_drew (S := BS w [(bs, [.string ⟨#[121, 101, 97, 114]⟩, .string ⟨#[109, 111, 110]⟩, .string ⟨#[100, 97, 121]⟩]), (bn, [.int .i64 a, .int .i64 b, .int .i64 D]), (w.heap.size, [.int .i64 0, .int .i64 M, .int .i64 D, .int .i64 U])]) (by kernel_rfl) HB.out.drew (fun hHeld => ?_)
            refine wpAnyH_take (i := 0) (v := ?_) (oi := { dst := some 31, op := _, type := _, pos := _, after := _, guard := none }) rfl (by kernel_rfl) (by kernel_rfl) (by kernel_rfl) (fun _ _ _ h => h) (Or.inl ⟨by kernel_rfl, ?_⟩) (by assumption) ?_
            case refine_2 => (intro w9 hSw; clear hSw; go_simp; try with_reducible rfl)
            simp only [Act.put, List.setIfInBounds_toArray, List.set_cons_zero, List.set_cons_succ]
            refine wpAnyH_take (i := 1) (v := ?_) (oi := { dst := some 32, op := _, type := _, pos := _, after := _, guard := none }) rfl (by kernel_rfl) (by kernel_rfl) (by kernel_rfl) (fun _ _ _ h => h) (Or.inl ⟨by kernel_rfl, ?_⟩) (by assumption) ?_
            case refine_2 => (intro w9 hSw; clear hSw; go_simp; try with_reducible rfl)
            simp only [Act.put, List.setIfInBounds_toArray, List.set_cons_zero, List.set_cons_succ]
            refine wpAnyH_take (i := 2) (v := ?_) (oi := { dst := some 33, op := _, type := _, pos := _, after := _, guard := none }) rfl (by kernel_rfl) (by kernel_rfl) (by kernel_rfl) (fun _ _ _ h => h) (Or.inl ⟨by kernel_rfl, ?_⟩) (by assumption) ?_
            case refine_2 => (intro w9 hSw; clear hSw; go_simp; try with_reducible rfl)
            simp only [Act.put, List.setIfInBounds_toArray, List.set_cons_zero, List.set_cons_succ]
            refine wpAnyH_take (i := 3) (v := ?_) (oi := { dst := some 34, op := _, type := _, pos := _, after := _, guard := none }) rfl (by kernel_rfl) (by kernel_rfl) (by kernel_rfl) (fun _ _ _ h => h) (Or.inl ⟨by kernel_rfl, ?_⟩) (by assumption) ?_
            case refine_2 => (intro w9 hSw; clear hSw; go_simp; try with_reducible rfl)
            simp only [Act.put, List.setIfInBounds_toArray, List.set_cons_zero, List.set_cons_succ]
            refine wpAnyH_take (i := 4) (v := ?_) (oi := { dst := some 35, op := _, type := _, pos := _, after := _, guard := none }) rfl (by kernel_rfl) (by kernel_rfl) (by kernel_rfl) (fun _ _ _ h => h) (Or.inl ⟨by kernel_rfl, ?_⟩) (by assumption) ?_
            case refine_2 => (intro w9 hSw; have l0 := (hSw.at bn [.int .i64 a, .int .i64 b, .int .i64 D] (by simp)).c 0 rfl; have l1 := (hSw.at bs [.string ⟨#[121, 101, 97, 114]⟩, .string ⟨#[109, 111, 110]⟩, .string ⟨#[100, 97, 121]⟩] (by simp)).c 0 rfl; clear hSw; go_simp; try with_reducible rfl)
            simp only [Act.put, List.setIfInBounds_toArray, List.set_cons_zero, List.set_cons_succ]
            refine wpAnyH_take (i := 5) (v := ?_) (oi := { dst := some 36, op := _, type := _, pos := _, after := _, guard := none }) rfl (by kernel_rfl) (by kernel_rfl) (by kernel_rfl) (fun _ _ _ h => h) (Or.inl ⟨by kernel_rfl, ?_⟩) (by assumption) ?_
            case refine_2 => (intro w9 hSw; clear hSw; go_simp; try with_reducible rfl)
            simp only [Act.put, List.setIfInBounds_toArray, List.set_cons_zero, List.set_cons_succ]
            refine wpAnyH_take (i := 6) (v := ?_) (oi := { dst := some 37, op := _, type := _, pos := _, after := _, guard := none }) rfl (by kernel_rfl) (by kernel_rfl) (by kernel_rfl) (fun _ _ _ h => h) (Or.inl ⟨by kernel_rfl, ?_⟩) (by assumption) ?_
            case refine_2 => (intro w9 hSw; clear hSw; go_simp; try with_reducible rfl)
            simp only [Act.put, List.setIfInBounds_toArray, List.set_cons_zero, List.set_cons_succ]
            refine wpAnyH_take (i := 7) (v := ?_) (oi := { dst := some 38, op := _, type := _, pos := _, after := _, guard := none }) rfl (by kernel_rfl) (by kernel_rfl) (by kernel_rfl) (fun _ _ _ h => h) (Or.inl ⟨by kernel_rfl, ?_⟩) (by assumption) ?_
            case refine_2 => (intro w9 hSw; clear hSw; go_simp; try with_reducible rfl)
            simp only [Act.put, List.setIfInBounds_toArray, List.set_cons_zero, List.set_cons_succ]
            refine wpAnyH_take (i := 8) (v := ?_) (oi := { dst := some 39, op := _, type := _, pos := _, after := _, guard := none }) rfl (by kernel_rfl) (by kernel_rfl) (by kernel_rfl) (fun _ _ _ h => h) (Or.inl ⟨by kernel_rfl, ?_⟩) (by assumption) ?_
            case refine_2 => (intro w9 hSw; have l0 := (hSw.at bn [.int .i64 a, .int .i64 b, .int .i64 D] (by simp)).c 0 rfl; have l1 := (hSw.at bs [.string ⟨#[121, 101, 97, 114]⟩, .string ⟨#[109, 111, 110]⟩, .string ⟨#[100, 97, 121]⟩] (by simp)).c 0 rfl; clear hSw; go_simp; try with_reducible rfl)
            simp only [Act.put, List.setIfInBounds_toArray, List.set_cons_zero, List.set_cons_succ]
            refine wpAnyH_take (i := 9) (v := ?_) (oi := { dst := some 40, op := _, type := _, pos := _, after := _, guard := none }) rfl (by kernel_rfl) (by kernel_rfl) (by kernel_rfl) (fun _ _ _ h => h) (Or.inl ⟨by kernel_rfl, ?_⟩) (by assumption) ?_
            case refine_2 => (intro w9 hSw; clear hSw; go_simp; try with_reducible rfl)
            simp only [Act.put, List.setIfInBounds_toArray, List.set_cons_zero, List.set_cons_succ]
            refine wpAnyH_ready (rs := [10]) (by kernel_rfl) (by simp) (AllReadyH.cons (o := { dst := some 41, op := _, type := _, pos := _, after := _, guard := none }) rfl (fun K hK => ?_) AllReadyH.nil)
            go_simp
            refine (un_ref a ⟨#[121, 101, 97, 114]⟩ l (by decide) (by omega) (by omega) _).mono ?_
            rintro e v1 ⟨rfl, hb1⟩
            refine hK.out _ _ (hHeld.below hb1) (fun hHeld => ?_)
            clear hK K hb1
            refine wpAnyH_take (i := 11) (v := ?_) (oi := { dst := some 42, op := _, type := _, pos := _, after := _, guard := none }) rfl (by kernel_rfl) (by kernel_rfl) (by kernel_rfl) (fun _ _ _ h => h) (Or.inl ⟨by kernel_rfl, ?_⟩) (by assumption) ?_
            case refine_2 => (intro w9 hSw; clear hSw; go_simp; try with_reducible rfl)
            simp only [Act.put, List.setIfInBounds_toArray, List.set_cons_zero, List.set_cons_succ]
            refine wpAnyH_take (i := 12) (v := ?_) (oi := { dst := some 5, op := _, type := _, pos := _, after := _, guard := none }) rfl (by kernel_rfl) (by kernel_rfl) (by kernel_rfl) (fun _ _ _ h => h) (Or.inl ⟨by kernel_rfl, ?_⟩) (by assumption) ?_
            case refine_2 => (intro w9 hSw; clear hSw; go_simp; try with_reducible rfl)
            simp only [Act.put, List.setIfInBounds_toArray, List.set_cons_zero, List.set_cons_succ]
            refine wpAnyH_done (by kernel_rfl) ?_ _
            have HB9 : Hid (BS w [(bs, [.string ⟨#[121, 101, 97, 114]⟩, .string ⟨#[109, 111, 110]⟩, .string ⟨#[100, 97, 121]⟩]), (bn, [.int .i64 a, .int .i64 b, .int .i64 D]), (w.heap.size, [.int .i64 0, .int .i64 M, .int .i64 D, .int .i64 U])] _) := hHeld
            clear hHeld
            obtain ⟨x0, x1, x2⟩ := (bo2 HB9).c3
            go_wp2_with fail
            go_roundw
            case rel => exact ⟨0 + 1, by go_num, by omega, by rw [est2.out, ← HV.out], by rw [est2.out], HB9⟩
            case measure => simp [intOf]
          · have hE : (tx.toList == []) = false := by rw [hE0]; exact decide_eq_false he
            have HV : Hid (tx ++ ⟨#[32]⟩ ++ unB a ⟨#[121, 101, 97, 114]⟩ l = jn ⟨#[32]⟩ ((stN a b D 0).1 ++ [unB a ⟨#[121, 101, 97, 114]⟩ l])) := by (show _ = _; rw [jn_snoc, if_neg he, ← htx])
            clear hE0 htx he
            go_upto_region 11 with fail
            clear x0 x1 x2 y0 y1 y2
            refine wp_region_held_drew (S := BS w [(bs, [.string ⟨#[121, 101, 97, 114]⟩, .string ⟨#[109, 111, 110]⟩, .string ⟨#[100, 97, 121]⟩]), (bn, [.int .i64 a, .int .i64 b, .int .i64 D]), (w.heap.size, [.int .i64 0, .int .i64 M, .int .i64 D, .int .i64 U])]) (by kernel_rfl) HB.out.drew (fun hHeld => ?_)
            refine wpAnyH_take (i := 0) (v := ?_) (oi := { dst := some 31, op := _, type := _, pos := _, after := _, guard := none }) rfl (by kernel_rfl) (by kernel_rfl) (by kernel_rfl) (fun _ _ _ h => h) (Or.inl ⟨by kernel_rfl, ?_⟩) (by assumption) ?_
            case refine_2 => (intro w9 hSw; clear hSw; go_simp; try with_reducible rfl)
            simp only [Act.put, List.setIfInBounds_toArray, List.set_cons_zero, List.set_cons_succ]
            refine wpAnyH_take (i := 1) (v := ?_) (oi := { dst := some 32, op := _, type := _, pos := _, after := _, guard := none }) rfl (by kernel_rfl) (by kernel_rfl) (by kernel_rfl) (fun _ _ _ h => h) (Or.inl ⟨by kernel_rfl, ?_⟩) (by assumption) ?_
            case refine_2 => (intro w9 hSw; clear hSw; go_simp; try with_reducible rfl)
            simp only [Act.put, List.setIfInBounds_toArray, List.set_cons_zero, List.set_cons_succ]
            refine wpAnyH_take (i := 2) (v := ?_) (oi := { dst := some 33, op := _, type := _, pos := _, after := _, guard := none }) rfl (by kernel_rfl) (by kernel_rfl) (by kernel_rfl) (fun _ _ _ h => h) (Or.inl ⟨by kernel_rfl, ?_⟩) (by assumption) ?_
            case refine_2 => (intro w9 hSw; clear hSw; go_simp; try with_reducible rfl)
            simp only [Act.put, List.setIfInBounds_toArray, List.set_cons_zero, List.set_cons_succ]
            refine wpAnyH_take (i := 3) (v := ?_) (oi := { dst := some 34, op := _, type := _, pos := _, after := _, guard := none }) rfl (by kernel_rfl) (by kernel_rfl) (by kernel_rfl) (fun _ _ _ h => h) (Or.inl ⟨by kernel_rfl, ?_⟩) (by assumption) ?_
            case refine_2 => (intro w9 hSw; clear hSw; go_simp; try with_reducible rfl)
            simp only [Act.put, List.setIfInBounds_toArray, List.set_cons_zero, List.set_cons_succ]
            refine wpAnyH_take (i := 4) (v := ?_) (oi := { dst := some 35, op := _, type := _, pos := _, after := _, guard := none }) rfl (by kernel_rfl) (by kernel_rfl) (by kernel_rfl) (fun _ _ _ h => h) (Or.inl ⟨by kernel_rfl, ?_⟩) (by assumption) ?_
            case refine_2 => (intro w9 hSw; have l0 := (hSw.at bn [.int .i64 a, .int .i64 b, .int .i64 D] (by simp)).c 0 rfl; have l1 := (hSw.at bs [.string ⟨#[121, 101, 97, 114]⟩, .string ⟨#[109, 111, 110]⟩, .string ⟨#[100, 97, 121]⟩] (by simp)).c 0 rfl; clear hSw; go_simp; try with_reducible rfl)
            simp only [Act.put, List.setIfInBounds_toArray, List.set_cons_zero, List.set_cons_succ]
            refine wpAnyH_take (i := 5) (v := ?_) (oi := { dst := some 36, op := _, type := _, pos := _, after := _, guard := none }) rfl (by kernel_rfl) (by kernel_rfl) (by kernel_rfl) (fun _ _ _ h => h) (Or.inl ⟨by kernel_rfl, ?_⟩) (by assumption) ?_
            case refine_2 => (intro w9 hSw; clear hSw; go_simp; try with_reducible rfl)
            simp only [Act.put, List.setIfInBounds_toArray, List.set_cons_zero, List.set_cons_succ]
            refine wpAnyH_take (i := 6) (v := ?_) (oi := { dst := some 37, op := _, type := _, pos := _, after := _, guard := none }) rfl (by kernel_rfl) (by kernel_rfl) (by kernel_rfl) (fun _ _ _ h => h) (Or.inl ⟨by kernel_rfl, ?_⟩) (by assumption) ?_
            case refine_2 => (intro w9 hSw; clear hSw; go_simp; try with_reducible rfl)
            simp only [Act.put, List.setIfInBounds_toArray, List.set_cons_zero, List.set_cons_succ]
            refine wpAnyH_take (i := 7) (v := ?_) (oi := { dst := some 38, op := _, type := _, pos := _, after := _, guard := none }) rfl (by kernel_rfl) (by kernel_rfl) (by kernel_rfl) (fun _ _ _ h => h) (Or.inl ⟨by kernel_rfl, ?_⟩) (by assumption) ?_
            case refine_2 => (intro w9 hSw; clear hSw; go_simp; try with_reducible rfl)
            simp only [Act.put, List.setIfInBounds_toArray, List.set_cons_zero, List.set_cons_succ]
            refine wpAnyH_take (i := 8) (v := ?_) (oi := { dst := some 39, op := _, type := _, pos := _, after := _, guard := none }) rfl (by kernel_rfl) (by kernel_rfl) (by kernel_rfl) (fun _ _ _ h => h) (Or.inl ⟨by kernel_rfl, ?_⟩) (by assumption) ?_
            case refine_2 => (intro w9 hSw; have l0 := (hSw.at bn [.int .i64 a, .int .i64 b, .int .i64 D] (by simp)).c 0 rfl; have l1 := (hSw.at bs [.string ⟨#[121, 101, 97, 114]⟩, .string ⟨#[109, 111, 110]⟩, .string ⟨#[100, 97, 121]⟩] (by simp)).c 0 rfl; clear hSw; go_simp; try with_reducible rfl)
            simp only [Act.put, List.setIfInBounds_toArray, List.set_cons_zero, List.set_cons_succ]
            refine wpAnyH_take (i := 9) (v := ?_) (oi := { dst := some 40, op := _, type := _, pos := _, after := _, guard := none }) rfl (by kernel_rfl) (by kernel_rfl) (by kernel_rfl) (fun _ _ _ h => h) (Or.inl ⟨by kernel_rfl, ?_⟩) (by assumption) ?_
            case refine_2 => (intro w9 hSw; clear hSw; go_simp; try with_reducible rfl)
            simp only [Act.put, List.setIfInBounds_toArray, List.set_cons_zero, List.set_cons_succ]
            refine wpAnyH_ready (rs := [10]) (by kernel_rfl) (by simp) (AllReadyH.cons (o := { dst := some 41, op := _, type := _, pos := _, after := _, guard := none }) rfl (fun K hK => ?_) AllReadyH.nil)
            go_simp
            refine (un_ref a ⟨#[121, 101, 97, 114]⟩ l (by decide) (by omega) (by omega) _).mono ?_
            rintro e v1 ⟨rfl, hb1⟩
            refine hK.out _ _ (hHeld.below hb1) (fun hHeld => ?_)
            clear hK K hb1
            refine wpAnyH_take (i := 11) (v := ?_) (oi := { dst := some 42, op := _, type := _, pos := _, after := _, guard := none }) rfl (by kernel_rfl) (by kernel_rfl) (by kernel_rfl) (fun _ _ _ h => h) (Or.inl ⟨by kernel_rfl, ?_⟩) (by assumption) ?_
            case refine_2 => (intro w9 hSw; clear hSw; go_simp; try with_reducible rfl)
            simp only [Act.put, List.setIfInBounds_toArray, List.set_cons_zero, List.set_cons_succ]
            refine wpAnyH_take (i := 12) (v := ?_) (oi := { dst := some 5, op := _, type := _, pos := _, after := _, guard := none }) rfl (by kernel_rfl) (by kernel_rfl) (by kernel_rfl) (fun _ _ _ h => h) (Or.inl ⟨by kernel_rfl, ?_⟩) (by assumption) ?_
            case refine_2 => (intro w9 hSw; clear hSw; go_simp; try with_reducible rfl)
            simp only [Act.put, List.setIfInBounds_toArray, List.set_cons_zero, List.set_cons_succ]
            refine wpAnyH_done (by kernel_rfl) ?_ _
            have HB9 : Hid (BS w [(bs, [.string ⟨#[121, 101, 97, 114]⟩, .string ⟨#[109, 111, 110]⟩, .string ⟨#[100, 97, 121]⟩]), (bn, [.int .i64 a, .int .i64 b, .int .i64 D]), (w.heap.size, [.int .i64 0, .int .i64 M, .int .i64 D, .int .i64 U])] _) := hHeld
            clear hHeld
            obtain ⟨x0, x1, x2⟩ := (bo2 HB9).c3
            go_wp2_with fail
            go_roundw
            case rel => exact ⟨0 + 1, by go_num, by omega, by rw [est2.out, ← HV.out], by rw [est2.out], HB9⟩
            case measure => simp [intOf]
      · have est : stN a b D (1 + 1) = stW b ⟨#[109, 111, 110]⟩ (stN a b D 1) := rfl
        obtain ⟨x0, x1, x2⟩ := (bo2 HB).c3
        obtain ⟨y0, y1, y2⟩ := (bo1 HB).c3
        by_cases hz : b = 0
        · have est2 : Hid (stN a b D (1 + 1) = stN a b D 1) := by show _ = _; rw [est]; unfold stW; rw [if_pos hz]
          have z1 : (b == 0) = true := by simpa using hz
          have HT : Hid (jn ⟨#[32]⟩ (stN a b D 1).1 = tx) := htx
          have HLl : Hid ((stN a b D 1).2 = l) := hl
          clear hz est hE0 htx hl
          go_wp2_with fail
          go_roundw
          case rel => exact ⟨1 + 1, by go_num, by omega, by rw [est2.out, HT.out], by rw [est2.out, HLl.out], HB⟩
          case measure => simp [intOf]
        · have est2 : Hid (stN a b D (1 + 1) = ((stN a b D 1).1 ++ [unB b ⟨#[109, 111, 110]⟩ l], b)) := by show _ = _; rw [est]; unfold stW; rw [if_neg hz, hl]
          have z1 : (b == 0) = false := by simpa using hz
          have zu := unB_size b ⟨#[109, 111, 110]⟩ l (by decide) (by omega) (by omega)
          have c1 : ¬ 9223372036854775807 < tx.size + 1 := by omega
          have c2 : ¬ 9223372036854775807 < tx.size + (unB b ⟨#[109, 111, 110]⟩ l).size := by omega
          have c3 : ¬ 9223372036854775807 < tx.size + 1 + (unB b ⟨#[109, 111, 110]⟩ l).size := by omega
          have HT : Hid (jn ⟨#[32]⟩ (stN a b D 1).1 = tx) := htx
          clear hz est hl
          by_cases he : (stN a b D 1).1.length = 0
          · have hE : (tx.toList == []) = true := by rw [hE0]; exact decide_eq_true he
            have HV : Hid (tx ++ unB b ⟨#[109, 111, 110]⟩ l = jn ⟨#[32]⟩ ((stN a b D 1).1 ++ [unB b ⟨#[109, 111, 110]⟩ l])) := by (show _ = _; rw [jn_snoc, if_pos he, ← htx, List.eq_nil_of_length_eq_zero he, jn_nil, nil_app])
            clear hE0 htx he
            go_upto_region 11 with fail
            clear x0 x1 x2 y0 y1 y2
            refine wp_region_held_drew (S := BS w [(bs, [.string ⟨#[121, 101, 97, 114]⟩, .string ⟨#[109, 111, 110]⟩, .string ⟨#[100, 97, 121]⟩]), (bn, [.int .i64 a, .int .i64 b, .int .i64 D]), (w.heap.size, [.int .i64 0, .int .i64 M, .int .i64 D, .int .i64 U])]) (by kernel_rfl) HB.out.drew (fun hHeld => ?_)
            refine wpAnyH_take (i := 0) (v := ?_) (oi := { dst := some 31, op := _, type := _, pos := _, after := _, guard := none }) rfl (by kernel_rfl) (by kernel_rfl) (by kernel_rfl) (fun _ _ _ h => h) (Or.inl ⟨by kernel_rfl, ?_⟩) (by assumption) ?_
            case refine_2 => (intro w9 hSw; clear hSw; go_simp; try with_reducible rfl)
            simp only [Act.put, List.setIfInBounds_toArray, List.set_cons_zero, List.set_cons_succ]
            refine wpAnyH_take (i := 1) (v := ?_) (oi := { dst := some 32, op := _, type := _, pos := _, after := _, guard := none }) rfl (by kernel_rfl) (by kernel_rfl) (by kernel_rfl) (fun _ _ _ h => h) (Or.inl ⟨by kernel_rfl, ?_⟩) (by assumption) ?_
            case refine_2 => (intro w9 hSw; clear hSw; go_simp; try with_reducible rfl)
            simp only [Act.put, List.setIfInBounds_toArray, List.set_cons_zero, List.set_cons_succ]
            refine wpAnyH_take (i := 2) (v := ?_) (oi := { dst := some 33, op := _, type := _, pos := _, after := _, guard := none }) rfl (by kernel_rfl) (by kernel_rfl) (by kernel_rfl) (fun _ _ _ h => h) (Or.inl ⟨by kernel_rfl, ?_⟩) (by assumption) ?_
            case refine_2 => (intro w9 hSw; clear hSw; go_simp; try with_reducible rfl)
            simp only [Act.put, List.setIfInBounds_toArray, List.set_cons_zero, List.set_cons_succ]
            refine wpAnyH_take (i := 3) (v := ?_) (oi := { dst := some 34, op := _, type := _, pos := _, after := _, guard := none }) rfl (by kernel_rfl) (by kernel_rfl) (by kernel_rfl) (fun _ _ _ h => h) (Or.inl ⟨by kernel_rfl, ?_⟩) (by assumption) ?_
            case refine_2 => (intro w9 hSw; clear hSw; go_simp; try with_reducible rfl)
            simp only [Act.put, List.setIfInBounds_toArray, List.set_cons_zero, List.set_cons_succ]
            refine wpAnyH_take (i := 4) (v := ?_) (oi := { dst := some 35, op := _, type := _, pos := _, after := _, guard := none }) rfl (by kernel_rfl) (by kernel_rfl) (by kernel_rfl) (fun _ _ _ h => h) (Or.inl ⟨by kernel_rfl, ?_⟩) (by assumption) ?_
            case refine_2 => (intro w9 hSw; have l0 := (hSw.at bn [.int .i64 a, .int .i64 b, .int .i64 D] (by simp)).c 1 rfl; have l1 := (hSw.at bs [.string ⟨#[121, 101, 97, 114]⟩, .string ⟨#[109, 111, 110]⟩, .string ⟨#[100, 97, 121]⟩] (by simp)).c 1 rfl; clear hSw; go_simp; try with_reducible rfl)
            simp only [Act.put, List.setIfInBounds_toArray, List.set_cons_zero, List.set_cons_succ]
            refine wpAnyH_take (i := 5) (v := ?_) (oi := { dst := some 36, op := _, type := _, pos := _, after := _, guard := none }) rfl (by kernel_rfl) (by kernel_rfl) (by kernel_rfl) (fun _ _ _ h => h) (Or.inl ⟨by kernel_rfl, ?_⟩) (by assumption) ?_
            case refine_2 => (intro w9 hSw; clear hSw; go_simp; try with_reducible rfl)
            simp only [Act.put, List.setIfInBounds_toArray, List.set_cons_zero, List.set_cons_succ]
            refine wpAnyH_take (i := 6) (v := ?_) (oi := { dst := some 37, op := _, type := _, pos := _, after := _, guard := none }) rfl (by kernel_rfl) (by kernel_rfl) (by kernel_rfl) (fun _ _ _ h => h) (Or.inl ⟨by kernel_rfl, ?_⟩) (by assumption) ?_
            case refine_2 => (intro w9 hSw; clear hSw; go_simp; try with_reducible rfl)
            simp only [Act.put, List.setIfInBounds_toArray, List.set_cons_zero, List.set_cons_succ]
            refine wpAnyH_take (i := 7) (v := ?_) (oi := { dst := some 38, op := _, type := _, pos := _, after := _, guard := none }) rfl (by kernel_rfl) (by kernel_rfl) (by kernel_rfl) (fun _ _ _ h => h) (Or.inl ⟨by kernel_rfl, ?_⟩) (by assumption) ?_
            case refine_2 => (intro w9 hSw; clear hSw; go_simp; try with_reducible rfl)
            simp only [Act.put, List.setIfInBounds_toArray, List.set_cons_zero, List.set_cons_succ]
            refine wpAnyH_take (i := 8) (v := ?_) (oi := { dst := some 39, op := _, type := _, pos := _, after := _, guard := none }) rfl (by kernel_rfl) (by kernel_rfl) (by kernel_rfl) (fun _ _ _ h => h) (Or.inl ⟨by kernel_rfl, ?_⟩) (by assumption) ?_
            case refine_2 => (intro w9 hSw; have l0 := (hSw.at bn [.int .i64 a, .int .i64 b, .int .i64 D] (by simp)).c 1 rfl; have l1 := (hSw.at bs [.string ⟨#[121, 101, 97, 114]⟩, .string ⟨#[109, 111, 110]⟩, .string ⟨#[100, 97, 121]⟩] (by simp)).c 1 rfl; clear hSw; go_simp; try with_reducible rfl)
            simp only [Act.put, List.setIfInBounds_toArray, List.set_cons_zero, List.set_cons_succ]
            refine wpAnyH_take (i := 9) (v := ?_) (oi := { dst := some 40, op := _, type := _, pos := _, after := _, guard := none }) rfl (by kernel_rfl) (by kernel_rfl) (by kernel_rfl) (fun _ _ _ h => h) (Or.inl ⟨by kernel_rfl, ?_⟩) (by assumption) ?_
            case refine_2 => (intro w9 hSw; clear hSw; go_simp; try with_reducible rfl)
            simp only [Act.put, List.setIfInBounds_toArray, List.set_cons_zero, List.set_cons_succ]
            refine wpAnyH_ready (rs := [10]) (by kernel_rfl) (by simp) (AllReadyH.cons (o := { dst := some 41, op := _, type := _, pos := _, after := _, guard := none }) rfl (fun K hK => ?_) AllReadyH.nil)
            go_simp
            refine (un_ref b ⟨#[109, 111, 110]⟩ l (by decide) (by omega) (by omega) _).mono ?_
            rintro e v1 ⟨rfl, hb1⟩
            refine hK.out _ _ (hHeld.below hb1) (fun hHeld => ?_)
            clear hK K hb1
            refine wpAnyH_take (i := 11) (v := ?_) (oi := { dst := some 42, op := _, type := _, pos := _, after := _, guard := none }) rfl (by kernel_rfl) (by kernel_rfl) (by kernel_rfl) (fun _ _ _ h => h) (Or.inl ⟨by kernel_rfl, ?_⟩) (by assumption) ?_
            case refine_2 => (intro w9 hSw; clear hSw; go_simp; try with_reducible rfl)
            simp only [Act.put, List.setIfInBounds_toArray, List.set_cons_zero, List.set_cons_succ]
            refine wpAnyH_take (i := 12) (v := ?_) (oi := { dst := some 5, op := _, type := _, pos := _, after := _, guard := none }) rfl (by kernel_rfl) (by kernel_rfl) (by kernel_rfl) (fun _ _ _ h => h) (Or.inl ⟨by kernel_rfl, ?_⟩) (by assumption) ?_
            case refine_2 => (intro w9 hSw; clear hSw; go_simp; try with_reducible rfl)
            simp only [Act.put, List.setIfInBounds_toArray, List.set_cons_zero, List.set_cons_succ]
            refine wpAnyH_done (by kernel_rfl) ?_ _
            have HB9 : Hid (BS w [(bs, [.string ⟨#[121, 101, 97, 114]⟩, .string ⟨#[109, 111, 110]⟩, .string ⟨#[100, 97, 121]⟩]), (bn, [.int .i64 a, .int .i64 b, .int .i64 D]), (w.heap.size, [.int .i64 0, .int .i64 M, .int .i64 D, .int .i64 U])] _) := hHeld
            clear hHeld
            obtain ⟨x0, x1, x2⟩ := (bo2 HB9).c3
            go_wp2_with fail
            go_roundw
            case rel => exact ⟨1 + 1, by go_num, by omega, by rw [est2.out, ← HV.out], by rw [est2.out], HB9⟩
            case measure => simp [intOf]
          · have hE : (tx.toList == []) = false := by rw [hE0]; exact decide_eq_false he
            have HV : Hid (tx ++ ⟨#[32]⟩ ++ unB b ⟨#[109, 111, 110]⟩ l = jn ⟨#[32]⟩ ((stN a b D 1).1 ++ [unB b ⟨#[109, 111, 110]⟩ l])) := by (show _ = _; rw [jn_snoc, if_neg he, ← htx])
            clear hE0 htx he
            go_upto_region 11 with fail
            clear x0 x1 x2 y0 y1 y2
            refine wp_region_held_drew (S := BS w [(bs, [.string ⟨#[121, 101, 97, 114]⟩, .string ⟨#[109, 111, 110]⟩, .string ⟨#[100, 97, 121]⟩]), (bn, [.int .i64 a, .int .i64 b, .int .i64 D]), (w.heap.size, [.int .i64 0, .int .i64 M, .int .i64 D, .int .i64 U])]) (by kernel_rfl) HB.out.drew (fun hHeld => ?_)
            refine wpAnyH_take (i := 0) (v := ?_) (oi := { dst := some 31, op := _, type := _, pos := _, after := _, guard := none }) rfl (by kernel_rfl) (by kernel_rfl) (by kernel_rfl) (fun _ _ _ h => h) (Or.inl ⟨by kernel_rfl, ?_⟩) (by assumption) ?_
            case refine_2 => (intro w9 hSw; clear hSw; go_simp; try with_reducible rfl)
            simp only [Act.put, List.setIfInBounds_toArray, List.set_cons_zero, List.set_cons_succ]
            refine wpAnyH_take (i := 1) (v := ?_) (oi := { dst := some 32, op := _, type := _, pos := _, after := _, guard := none }) rfl (by kernel_rfl) (by kernel_rfl) (by kernel_rfl) (fun _ _ _ h => h) (Or.inl ⟨by kernel_rfl, ?_⟩) (by assumption) ?_
            case refine_2 => (intro w9 hSw; clear hSw; go_simp; try with_reducible rfl)
            simp only [Act.put, List.setIfInBounds_toArray, List.set_cons_zero, List.set_cons_succ]
            refine wpAnyH_take (i := 2) (v := ?_) (oi := { dst := some 33, op := _, type := _, pos := _, after := _, guard := none }) rfl (by kernel_rfl) (by kernel_rfl) (by kernel_rfl) (fun _ _ _ h => h) (Or.inl ⟨by kernel_rfl, ?_⟩) (by assumption) ?_
            case refine_2 => (intro w9 hSw; clear hSw; go_simp; try with_reducible rfl)
            simp only [Act.put, List.setIfInBounds_toArray, List.set_cons_zero, List.set_cons_succ]
            refine wpAnyH_take (i := 3) (v := ?_) (oi := { dst := some 34, op := _, type := _, pos := _, after := _, guard := none }) rfl (by kernel_rfl) (by kernel_rfl) (by kernel_rfl) (fun _ _ _ h => h) (Or.inl ⟨by kernel_rfl, ?_⟩) (by assumption) ?_
            case refine_2 => (intro w9 hSw; clear hSw; go_simp; try with_reducible rfl)
            simp only [Act.put, List.setIfInBounds_toArray, List.set_cons_zero, List.set_cons_succ]
            refine wpAnyH_take (i := 4) (v := ?_) (oi := { dst := some 35, op := _, type := _, pos := _, after := _, guard := none }) rfl (by kernel_rfl) (by kernel_rfl) (by kernel_rfl) (fun _ _ _ h => h) (Or.inl ⟨by kernel_rfl, ?_⟩) (by assumption) ?_
            case refine_2 => (intro w9 hSw; have l0 := (hSw.at bn [.int .i64 a, .int .i64 b, .int .i64 D] (by simp)).c 1 rfl; have l1 := (hSw.at bs [.string ⟨#[121, 101, 97, 114]⟩, .string ⟨#[109, 111, 110]⟩, .string ⟨#[100, 97, 121]⟩] (by simp)).c 1 rfl; clear hSw; go_simp; try with_reducible rfl)
            simp only [Act.put, List.setIfInBounds_toArray, List.set_cons_zero, List.set_cons_succ]
            refine wpAnyH_take (i := 5) (v := ?_) (oi := { dst := some 36, op := _, type := _, pos := _, after := _, guard := none }) rfl (by kernel_rfl) (by kernel_rfl) (by kernel_rfl) (fun _ _ _ h => h) (Or.inl ⟨by kernel_rfl, ?_⟩) (by assumption) ?_
            case refine_2 => (intro w9 hSw; clear hSw; go_simp; try with_reducible rfl)
            simp only [Act.put, List.setIfInBounds_toArray, List.set_cons_zero, List.set_cons_succ]
            refine wpAnyH_take (i := 6) (v := ?_) (oi := { dst := some 37, op := _, type := _, pos := _, after := _, guard := none }) rfl (by kernel_rfl) (by kernel_rfl) (by kernel_rfl) (fun _ _ _ h => h) (Or.inl ⟨by kernel_rfl, ?_⟩) (by assumption) ?_
            case refine_2 => (intro w9 hSw; clear hSw; go_simp; try with_reducible rfl)
            simp only [Act.put, List.setIfInBounds_toArray, List.set_cons_zero, List.set_cons_succ]
            refine wpAnyH_take (i := 7) (v := ?_) (oi := { dst := some 38, op := _, type := _, pos := _, after := _, guard := none }) rfl (by kernel_rfl) (by kernel_rfl) (by kernel_rfl) (fun _ _ _ h => h) (Or.inl ⟨by kernel_rfl, ?_⟩) (by assumption) ?_
            case refine_2 => (intro w9 hSw; clear hSw; go_simp; try with_reducible rfl)
            simp only [Act.put, List.setIfInBounds_toArray, List.set_cons_zero, List.set_cons_succ]
            refine wpAnyH_take (i := 8) (v := ?_) (oi := { dst := some 39, op := _, type := _, pos := _, after := _, guard := none }) rfl (by kernel_rfl) (by kernel_rfl) (by kernel_rfl) (fun _ _ _ h => h) (Or.inl ⟨by kernel_rfl, ?_⟩) (by assumption) ?_
            case refine_2 => (intro w9 hSw; have l0 := (hSw.at bn [.int .i64 a, .int .i64 b, .int .i64 D] (by simp)).c 1 rfl; have l1 := (hSw.at bs [.string ⟨#[121, 101, 97, 114]⟩, .string ⟨#[109, 111, 110]⟩, .string ⟨#[100, 97, 121]⟩] (by simp)).c 1 rfl; clear hSw; go_simp; try with_reducible rfl)
            simp only [Act.put, List.setIfInBounds_toArray, List.set_cons_zero, List.set_cons_succ]
            refine wpAnyH_take (i := 9) (v := ?_) (oi := { dst := some 40, op := _, type := _, pos := _, after := _, guard := none }) rfl (by kernel_rfl) (by kernel_rfl) (by kernel_rfl) (fun _ _ _ h => h) (Or.inl ⟨by kernel_rfl, ?_⟩) (by assumption) ?_
            case refine_2 => (intro w9 hSw; clear hSw; go_simp; try with_reducible rfl)
            simp only [Act.put, List.setIfInBounds_toArray, List.set_cons_zero, List.set_cons_succ]
            refine wpAnyH_ready (rs := [10]) (by kernel_rfl) (by simp) (AllReadyH.cons (o := { dst := some 41, op := _, type := _, pos := _, after := _, guard := none }) rfl (fun K hK => ?_) AllReadyH.nil)
            go_simp
            refine (un_ref b ⟨#[109, 111, 110]⟩ l (by decide) (by omega) (by omega) _).mono ?_
            rintro e v1 ⟨rfl, hb1⟩
            refine hK.out _ _ (hHeld.below hb1) (fun hHeld => ?_)
            clear hK K hb1
            refine wpAnyH_take (i := 11) (v := ?_) (oi := { dst := some 42, op := _, type := _, pos := _, after := _, guard := none }) rfl (by kernel_rfl) (by kernel_rfl) (by kernel_rfl) (fun _ _ _ h => h) (Or.inl ⟨by kernel_rfl, ?_⟩) (by assumption) ?_
            case refine_2 => (intro w9 hSw; clear hSw; go_simp; try with_reducible rfl)
            simp only [Act.put, List.setIfInBounds_toArray, List.set_cons_zero, List.set_cons_succ]
            refine wpAnyH_take (i := 12) (v := ?_) (oi := { dst := some 5, op := _, type := _, pos := _, after := _, guard := none }) rfl (by kernel_rfl) (by kernel_rfl) (by kernel_rfl) (fun _ _ _ h => h) (Or.inl ⟨by kernel_rfl, ?_⟩) (by assumption) ?_
            case refine_2 => (intro w9 hSw; clear hSw; go_simp; try with_reducible rfl)
            simp only [Act.put, List.setIfInBounds_toArray, List.set_cons_zero, List.set_cons_succ]
            refine wpAnyH_done (by kernel_rfl) ?_ _
            have HB9 : Hid (BS w [(bs, [.string ⟨#[121, 101, 97, 114]⟩, .string ⟨#[109, 111, 110]⟩, .string ⟨#[100, 97, 121]⟩]), (bn, [.int .i64 a, .int .i64 b, .int .i64 D]), (w.heap.size, [.int .i64 0, .int .i64 M, .int .i64 D, .int .i64 U])] _) := hHeld
            clear hHeld
            obtain ⟨x0, x1, x2⟩ := (bo2 HB9).c3
            go_wp2_with fail
            go_roundw
            case rel => exact ⟨1 + 1, by go_num, by omega, by rw [est2.out, ← HV.out], by rw [est2.out], HB9⟩
            case measure => simp [intOf]
      · have est : stN a b D (2 + 1) = stW D ⟨#[100, 97, 121]⟩ (stN a b D 2) := rfl
        obtain ⟨x0, x1, x2⟩ := (bo2 HB).c3
        obtain ⟨y0, y1, y2⟩ := (bo1 HB).c3
        by_cases hz : D = 0
        · have est2 : Hid (stN a b D (2 + 1) = stN a b D 2) := by show _ = _; rw [est]; unfold stW; rw [if_pos hz]
          have z1 : (D == 0) = true := by simpa using hz
          have HT : Hid (jn ⟨#[32]⟩ (stN a b D 2).1 = tx) := htx
          have HLl : Hid ((stN a b D 2).2 = l) := hl
          clear hz est hE0 htx hl
          go_wp2_with fail
          go_roundw
          case rel => exact ⟨2 + 1, by go_num, by omega, by rw [est2.out, HT.out], by rw [est2.out, HLl.out], HB⟩
          case measure => simp [intOf]
        · have est2 : Hid (stN a b D (2 + 1) = ((stN a b D 2).1 ++ [unB D ⟨#[100, 97, 121]⟩ l], D)) := by show _ = _; rw [est]; unfold stW; rw [if_neg hz, hl]
          have z1 : (D == 0) = false := by simpa using hz
          have zu := unB_size D ⟨#[100, 97, 121]⟩ l (by decide) (by omega) (by omega)
          have c1 : ¬ 9223372036854775807 < tx.size + 1 := by omega
          have c2 : ¬ 9223372036854775807 < tx.size + (unB D ⟨#[100, 97, 121]⟩ l).size := by omega
          have c3 : ¬ 9223372036854775807 < tx.size + 1 + (unB D ⟨#[100, 97, 121]⟩ l).size := by omega
          have HT : Hid (jn ⟨#[32]⟩ (stN a b D 2).1 = tx) := htx
          clear hz est hl
          by_cases he : (stN a b D 2).1.length = 0
          · have hE : (tx.toList == []) = true := by rw [hE0]; exact decide_eq_true he
            have HV : Hid (tx ++ unB D ⟨#[100, 97, 121]⟩ l = jn ⟨#[32]⟩ ((stN a b D 2).1 ++ [unB D ⟨#[100, 97, 121]⟩ l])) := by (show _ = _; rw [jn_snoc, if_pos he, ← htx, List.eq_nil_of_length_eq_zero he, jn_nil, nil_app])
            clear hE0 htx he
            go_upto_region 11 with fail
            clear x0 x1 x2 y0 y1 y2
            refine wp_region_held_drew (S := BS w [(bs, [.string ⟨#[121, 101, 97, 114]⟩, .string ⟨#[109, 111, 110]⟩, .string ⟨#[100, 97, 121]⟩]), (bn, [.int .i64 a, .int .i64 b, .int .i64 D]), (w.heap.size, [.int .i64 0, .int .i64 M, .int .i64 D, .int .i64 U])]) (by kernel_rfl) HB.out.drew (fun hHeld => ?_)
            refine wpAnyH_take (i := 0) (v := ?_) (oi := { dst := some 31, op := _, type := _, pos := _, after := _, guard := none }) rfl (by kernel_rfl) (by kernel_rfl) (by kernel_rfl) (fun _ _ _ h => h) (Or.inl ⟨by kernel_rfl, ?_⟩) (by assumption) ?_
            case refine_2 => (intro w9 hSw; clear hSw; go_simp; try with_reducible rfl)
            simp only [Act.put, List.setIfInBounds_toArray, List.set_cons_zero, List.set_cons_succ]
            refine wpAnyH_take (i := 1) (v := ?_) (oi := { dst := some 32, op := _, type := _, pos := _, after := _, guard := none }) rfl (by kernel_rfl) (by kernel_rfl) (by kernel_rfl) (fun _ _ _ h => h) (Or.inl ⟨by kernel_rfl, ?_⟩) (by assumption) ?_
            case refine_2 => (intro w9 hSw; clear hSw; go_simp; try with_reducible rfl)
            simp only [Act.put, List.setIfInBounds_toArray, List.set_cons_zero, List.set_cons_succ]
            refine wpAnyH_take (i := 2) (v := ?_) (oi := { dst := some 33, op := _, type := _, pos := _, after := _, guard := none }) rfl (by kernel_rfl) (by kernel_rfl) (by kernel_rfl) (fun _ _ _ h => h) (Or.inl ⟨by kernel_rfl, ?_⟩) (by assumption) ?_
            case refine_2 => (intro w9 hSw; clear hSw; go_simp; try with_reducible rfl)
            simp only [Act.put, List.setIfInBounds_toArray, List.set_cons_zero, List.set_cons_succ]
            refine wpAnyH_take (i := 3) (v := ?_) (oi := { dst := some 34, op := _, type := _, pos := _, after := _, guard := none }) rfl (by kernel_rfl) (by kernel_rfl) (by kernel_rfl) (fun _ _ _ h => h) (Or.inl ⟨by kernel_rfl, ?_⟩) (by assumption) ?_
            case refine_2 => (intro w9 hSw; clear hSw; go_simp; try with_reducible rfl)
            simp only [Act.put, List.setIfInBounds_toArray, List.set_cons_zero, List.set_cons_succ]
            refine wpAnyH_take (i := 4) (v := ?_) (oi := { dst := some 35, op := _, type := _, pos := _, after := _, guard := none }) rfl (by kernel_rfl) (by kernel_rfl) (by kernel_rfl) (fun _ _ _ h => h) (Or.inl ⟨by kernel_rfl, ?_⟩) (by assumption) ?_
            case refine_2 => (intro w9 hSw; have l0 := (hSw.at bn [.int .i64 a, .int .i64 b, .int .i64 D] (by simp)).c 2 rfl; have l1 := (hSw.at bs [.string ⟨#[121, 101, 97, 114]⟩, .string ⟨#[109, 111, 110]⟩, .string ⟨#[100, 97, 121]⟩] (by simp)).c 2 rfl; clear hSw; go_simp; try with_reducible rfl)
            simp only [Act.put, List.setIfInBounds_toArray, List.set_cons_zero, List.set_cons_succ]
            refine wpAnyH_take (i := 5) (v := ?_) (oi := { dst := some 36, op := _, type := _, pos := _, after := _, guard := none }) rfl (by kernel_rfl) (by kernel_rfl) (by kernel_rfl) (fun _ _ _ h => h) (Or.inl ⟨by kernel_rfl, ?_⟩) (by assumption) ?_
            case refine_2 => (intro w9 hSw; clear hSw; go_simp; try with_reducible rfl)
            simp only [Act.put, List.setIfInBounds_toArray, List.set_cons_zero, List.set_cons_succ]
            refine wpAnyH_take (i := 6) (v := ?_) (oi := { dst := some 37, op := _, type := _, pos := _, after := _, guard := none }) rfl (by kernel_rfl) (by kernel_rfl) (by kernel_rfl) (fun _ _ _ h => h) (Or.inl ⟨by kernel_rfl, ?_⟩) (by assumption) ?_
            case refine_2 => (intro w9 hSw; clear hSw; go_simp; try with_reducible rfl)
            simp only [Act.put, List.setIfInBounds_toArray, List.set_cons_zero, List.set_cons_succ]
            refine wpAnyH_take (i := 7) (v := ?_) (oi := { dst := some 38, op := _, type := _, pos := _, after := _, guard := none }) rfl (by kernel_rfl) (by kernel_rfl) (by kernel_rfl) (fun _ _ _ h => h) (Or.inl ⟨by kernel_rfl, ?_⟩) (by assumption) ?_
            case refine_2 => (intro w9 hSw; clear hSw; go_simp; try with_reducible rfl)
            simp only [Act.put, List.setIfInBounds_toArray, List.set_cons_zero, List.set_cons_succ]
            refine wpAnyH_take (i := 8) (v := ?_) (oi := { dst := some 39, op := _, type := _, pos := _, after := _, guard := none }) rfl (by kernel_rfl) (by kernel_rfl) (by kernel_rfl) (fun _ _ _ h => h) (Or.inl ⟨by kernel_rfl, ?_⟩) (by assumption) ?_
            case refine_2 => (intro w9 hSw; have l0 := (hSw.at bn [.int .i64 a, .int .i64 b, .int .i64 D] (by simp)).c 2 rfl; have l1 := (hSw.at bs [.string ⟨#[121, 101, 97, 114]⟩, .string ⟨#[109, 111, 110]⟩, .string ⟨#[100, 97, 121]⟩] (by simp)).c 2 rfl; clear hSw; go_simp; try with_reducible rfl)
            simp only [Act.put, List.setIfInBounds_toArray, List.set_cons_zero, List.set_cons_succ]
            refine wpAnyH_take (i := 9) (v := ?_) (oi := { dst := some 40, op := _, type := _, pos := _, after := _, guard := none }) rfl (by kernel_rfl) (by kernel_rfl) (by kernel_rfl) (fun _ _ _ h => h) (Or.inl ⟨by kernel_rfl, ?_⟩) (by assumption) ?_
            case refine_2 => (intro w9 hSw; clear hSw; go_simp; try with_reducible rfl)
            simp only [Act.put, List.setIfInBounds_toArray, List.set_cons_zero, List.set_cons_succ]
            refine wpAnyH_ready (rs := [10]) (by kernel_rfl) (by simp) (AllReadyH.cons (o := { dst := some 41, op := _, type := _, pos := _, after := _, guard := none }) rfl (fun K hK => ?_) AllReadyH.nil)
            go_simp
            refine (un_ref D ⟨#[100, 97, 121]⟩ l (by decide) (by omega) (by omega) _).mono ?_
            rintro e v1 ⟨rfl, hb1⟩
            refine hK.out _ _ (hHeld.below hb1) (fun hHeld => ?_)
            clear hK K hb1
            refine wpAnyH_take (i := 11) (v := ?_) (oi := { dst := some 42, op := _, type := _, pos := _, after := _, guard := none }) rfl (by kernel_rfl) (by kernel_rfl) (by kernel_rfl) (fun _ _ _ h => h) (Or.inl ⟨by kernel_rfl, ?_⟩) (by assumption) ?_
            case refine_2 => (intro w9 hSw; clear hSw; go_simp; try with_reducible rfl)
            simp only [Act.put, List.setIfInBounds_toArray, List.set_cons_zero, List.set_cons_succ]
            refine wpAnyH_take (i := 12) (v := ?_) (oi := { dst := some 5, op := _, type := _, pos := _, after := _, guard := none }) rfl (by kernel_rfl) (by kernel_rfl) (by kernel_rfl) (fun _ _ _ h => h) (Or.inl ⟨by kernel_rfl, ?_⟩) (by assumption) ?_
            case refine_2 => (intro w9 hSw; clear hSw; go_simp; try with_reducible rfl)
            simp only [Act.put, List.setIfInBounds_toArray, List.set_cons_zero, List.set_cons_succ]
            refine wpAnyH_done (by kernel_rfl) ?_ _
            have HB9 : Hid (BS w [(bs, [.string ⟨#[121, 101, 97, 114]⟩, .string ⟨#[109, 111, 110]⟩, .string ⟨#[100, 97, 121]⟩]), (bn, [.int .i64 a, .int .i64 b, .int .i64 D]), (w.heap.size, [.int .i64 0, .int .i64 M, .int .i64 D, .int .i64 U])] _) := hHeld
            clear hHeld
            obtain ⟨x0, x1, x2⟩ := (bo2 HB9).c3
            go_wp2_with fail
            go_roundw
            case rel => exact ⟨2 + 1, by go_num, by omega, by rw [est2.out, ← HV.out], by rw [est2.out], HB9⟩
            case measure => simp [intOf]
          · have hE : (tx.toList == []) = false := by rw [hE0]; exact decide_eq_false he
            have HV : Hid (tx ++ ⟨#[32]⟩ ++ unB D ⟨#[100, 97, 121]⟩ l = jn ⟨#[32]⟩ ((stN a b D 2).1 ++ [unB D ⟨#[100, 97, 121]⟩ l])) := by (show _ = _; rw [jn_snoc, if_neg he, ← htx])
            clear hE0 htx he
            go_upto_region 11 with fail
            clear x0 x1 x2 y0 y1 y2
            refine wp_region_held_drew (S := BS w [(bs, [.string ⟨#[121, 101, 97, 114]⟩, .string ⟨#[109, 111, 110]⟩, .string ⟨#[100, 97, 121]⟩]), (bn, [.int .i64 a, .int .i64 b, .int .i64 D]), (w.heap.size, [.int .i64 0, .int .i64 M, .int .i64 D, .int .i64 U])]) (by kernel_rfl) HB.out.drew (fun hHeld => ?_)
            refine wpAnyH_take (i := 0) (v := ?_) (oi := { dst := some 31, op := _, type := _, pos := _, after := _, guard := none }) rfl (by kernel_rfl) (by kernel_rfl) (by kernel_rfl) (fun _ _ _ h => h) (Or.inl ⟨by kernel_rfl, ?_⟩) (by assumption) ?_
            case refine_2 => (intro w9 hSw; clear hSw; go_simp; try with_reducible rfl)
            simp only [Act.put, List.setIfInBounds_toArray, List.set_cons_zero, List.set_cons_succ]
            refine wpAnyH_take (i := 1) (v := ?_) (oi := { dst := some 32, op := _, type := _, pos := _, after := _, guard := none }) rfl (by kernel_rfl) (by kernel_rfl) (by kernel_rfl) (fun _ _ _ h => h) (Or.inl ⟨by kernel_rfl, ?_⟩) (by assumption) ?_
            case refine_2 => (intro w9 hSw; clear hSw; go_simp; try with_reducible rfl)
            simp only [Act.put, List.setIfInBounds_toArray, List.set_cons_zero, List.set_cons_succ]
            refine wpAnyH_take (i := 2) (v := ?_) (oi := { dst := some 33, op := _, type := _, pos := _, after := _, guard := none }) rfl (by kernel_rfl) (by kernel_rfl) (by kernel_rfl) (fun _ _ _ h => h) (Or.inl ⟨by kernel_rfl, ?_⟩) (by assumption) ?_
            case refine_2 => (intro w9 hSw; clear hSw; go_simp; try with_reducible rfl)
            simp only [Act.put, List.setIfInBounds_toArray, List.set_cons_zero, List.set_cons_succ]
            refine wpAnyH_take (i := 3) (v := ?_) (oi := { dst := some 34, op := _, type := _, pos := _, after := _, guard := none }) rfl (by kernel_rfl) (by kernel_rfl) (by kernel_rfl) (fun _ _ _ h => h) (Or.inl ⟨by kernel_rfl, ?_⟩) (by assumption) ?_
            case refine_2 => (intro w9 hSw; clear hSw; go_simp; try with_reducible rfl)
            simp only [Act.put, List.setIfInBounds_toArray, List.set_cons_zero, List.set_cons_succ]
            refine wpAnyH_take (i := 4) (v := ?_) (oi := { dst := some 35, op := _, type := _, pos := _, after := _, guard := none }) rfl (by kernel_rfl) (by kernel_rfl) (by kernel_rfl) (fun _ _ _ h => h) (Or.inl ⟨by kernel_rfl, ?_⟩) (by assumption) ?_
            case refine_2 => (intro w9 hSw; have l0 := (hSw.at bn [.int .i64 a, .int .i64 b, .int .i64 D] (by simp)).c 2 rfl; have l1 := (hSw.at bs [.string ⟨#[121, 101, 97, 114]⟩, .string ⟨#[109, 111, 110]⟩, .string ⟨#[100, 97, 121]⟩] (by simp)).c 2 rfl; clear hSw; go_simp; try with_reducible rfl)
            simp only [Act.put, List.setIfInBounds_toArray, List.set_cons_zero, List.set_cons_succ]
            refine wpAnyH_take (i := 5) (v := ?_) (oi := { dst := some 36, op := _, type := _, pos := _, after := _, guard := none }) rfl (by kernel_rfl) (by kernel_rfl) (by kernel_rfl) (fun _ _ _ h => h) (Or.inl ⟨by kernel_rfl, ?_⟩) (by assumption) ?_
            case refine_2 => (intro w9 hSw; clear hSw; go_simp; try with_reducible rfl)
            simp only [Act.put, List.setIfInBounds_toArray, List.set_cons_zero, List.set_cons_succ]
            refine wpAnyH_take (i := 6) (v := ?_) (oi := { dst := some 37, op := _, type := _, pos := _, after := _, guard := none }) rfl (by kernel_rfl) (by kernel_rfl) (by kernel_rfl) (fun _ _ _ h => h) (Or.inl ⟨by kernel_rfl, ?_⟩) (by assumption) ?_
            case refine_2 => (intro w9 hSw; clear hSw; go_simp; try with_reducible rfl)
            simp only [Act.put, List.setIfInBounds_toArray, List.set_cons_zero, List.set_cons_succ]
            refine wpAnyH_take (i := 7) (v := ?_) (oi := { dst := some 38, op := _, type := _, pos := _, after := _, guard := none }) rfl (by kernel_rfl) (by kernel_rfl) (by kernel_rfl) (fun _ _ _ h => h) (Or.inl ⟨by kernel_rfl, ?_⟩) (by assumption) ?_
            case refine_2 => (intro w9 hSw; clear hSw; go_simp; try with_reducible rfl)
            simp only [Act.put, List.setIfInBounds_toArray, List.set_cons_zero, List.set_cons_succ]
            refine wpAnyH_take (i := 8) (v := ?_) (oi := { dst := some 39, op := _, type := _, pos := _, after := _, guard := none }) rfl (by kernel_rfl) (by kernel_rfl) (by kernel_rfl) (fun _ _ _ h => h) (Or.inl ⟨by kernel_rfl, ?_⟩) (by assumption) ?_
            case refine_2 => (intro w9 hSw; have l0 := (hSw.at bn [.int .i64 a, .int .i64 b, .int .i64 D] (by simp)).c 2 rfl; have l1 := (hSw.at bs [.string ⟨#[121, 101, 97, 114]⟩, .string ⟨#[109, 111, 110]⟩, .string ⟨#[100, 97, 121]⟩] (by simp)).c 2 rfl; clear hSw; go_simp; try with_reducible rfl)
            simp only [Act.put, List.setIfInBounds_toArray, List.set_cons_zero, List.set_cons_succ]
            refine wpAnyH_take (i := 9) (v := ?_) (oi := { dst := some 40, op := _, type := _, pos := _, after := _, guard := none }) rfl (by kernel_rfl) (by kernel_rfl) (by kernel_rfl) (fun _ _ _ h => h) (Or.inl ⟨by kernel_rfl, ?_⟩) (by assumption) ?_
            case refine_2 => (intro w9 hSw; clear hSw; go_simp; try with_reducible rfl)
            simp only [Act.put, List.setIfInBounds_toArray, List.set_cons_zero, List.set_cons_succ]
            refine wpAnyH_ready (rs := [10]) (by kernel_rfl) (by simp) (AllReadyH.cons (o := { dst := some 41, op := _, type := _, pos := _, after := _, guard := none }) rfl (fun K hK => ?_) AllReadyH.nil)
            go_simp
            refine (un_ref D ⟨#[100, 97, 121]⟩ l (by decide) (by omega) (by omega) _).mono ?_
            rintro e v1 ⟨rfl, hb1⟩
            refine hK.out _ _ (hHeld.below hb1) (fun hHeld => ?_)
            clear hK K hb1
            refine wpAnyH_take (i := 11) (v := ?_) (oi := { dst := some 42, op := _, type := _, pos := _, after := _, guard := none }) rfl (by kernel_rfl) (by kernel_rfl) (by kernel_rfl) (fun _ _ _ h => h) (Or.inl ⟨by kernel_rfl, ?_⟩) (by assumption) ?_
            case refine_2 => (intro w9 hSw; clear hSw; go_simp; try with_reducible rfl)
            simp only [Act.put, List.setIfInBounds_toArray, List.set_cons_zero, List.set_cons_succ]
            refine wpAnyH_take (i := 12) (v := ?_) (oi := { dst := some 5, op := _, type := _, pos := _, after := _, guard := none }) rfl (by kernel_rfl) (by kernel_rfl) (by kernel_rfl) (fun _ _ _ h => h) (Or.inl ⟨by kernel_rfl, ?_⟩) (by assumption) ?_
            case refine_2 => (intro w9 hSw; clear hSw; go_simp; try with_reducible rfl)
            simp only [Act.put, List.setIfInBounds_toArray, List.set_cons_zero, List.set_cons_succ]
            refine wpAnyH_done (by kernel_rfl) ?_ _
            have HB9 : Hid (BS w [(bs, [.string ⟨#[121, 101, 97, 114]⟩, .string ⟨#[109, 111, 110]⟩, .string ⟨#[100, 97, 121]⟩]), (bn, [.int .i64 a, .int .i64 b, .int .i64 D]), (w.heap.size, [.int .i64 0, .int .i64 M, .int .i64 D, .int .i64 U])] _) := hHeld
            clear hHeld
            obtain ⟨x0, x1, x2⟩ := (bo2 HB9).c3
            go_wp2_with fail
            go_roundw
            case rel => exact ⟨2 + 1, by go_num, by omega, by rw [est2.out, ← HV.out], by rw [est2.out], HB9⟩
            case measure => simp [intOf]
    · have hlt' : ¬ (i : Int) < 3 := by omega
      obtain rfl : i = 3 := by omega
      obtain ⟨c0, c1, c2, c3⟩ := (bo3 HB).c4
      have zl := long_size U U1 U9
      have HT : Hid (jn ⟨#[32]⟩ (stN a b D 3).1 = tx) := htx
      have HLl : Hid ((stN a b D 3).2 = l) := hl
      clear htx hl
      by_cases he : (stN a b D 3).1.length = 0
      · have hE : (tx.toList == []) = true := by rw [hE0]; exact decide_eq_true he
        clear hE0
        have d1 : ¬ 9223372036854775807 < tx.size + 1 := by omega
        have d2 : ¬ 9223372036854775807 < tx.size + (Clk.longB U).size := by omega
        have d3 : ¬ 9223372036854775807 < tx.size + 1 + (Clk.longB U).size := by omega
        have d4 : ¬ 9223372036854775807 < tx.size + 1 + 1 := by omega
        have d5 : ¬ 9223372036854775807 < tx.size + 1 + 1 + (Clk.longB U).size := by omega
        by_cases hp : l < 0
        · by_cases hg : 0 < U
          · go_wp2_with fail
            refine (Clk.elong_any U U1 U9 _).mono ?_
            rintro e wf ⟨rfl, hbf⟩
            have HF : Hid (Below w.heap.size w wf) := HB.out.1.trans (hbf.mono HB.out.1.size)
            clear hbf
            go_wp2_with fail
            go_ret
            exact ⟨Clk.ret_str (by (rw [jn_snoc, if_pos he, HLl.out]; have htx := HT.out; rw [List.eq_nil_of_length_eq_zero he, jn_nil] at htx; subst htx; unfold tmB trn; rw [if_pos ⟨hp, hg⟩]; try (first | rfl | (apply ByteArray.ext; simp)))), HF.out⟩
          · go_wp2_with fail
            refine (Clk.elong_any U U1 U9 _).mono ?_
            rintro e wf ⟨rfl, hbf⟩
            have HF : Hid (Below w.heap.size w wf) := HB.out.1.trans (hbf.mono HB.out.1.size)
            clear hbf
            go_wp2_with fail
            go_ret
            exact ⟨Clk.ret_str (by (rw [jn_snoc, if_pos he, HLl.out]; have htx := HT.out; rw [List.eq_nil_of_length_eq_zero he, jn_nil] at htx; subst htx; unfold tmB trn; rw [if_neg (fun q => by have := q.2; omega)]; try (first | rfl | (apply ByteArray.ext; simp)))), HF.out⟩
        · go_wp2_with fail
          refine (Clk.elong_any U U1 U9 _).mono ?_
          rintro e wf ⟨rfl, hbf⟩
          have HF : Hid (Below w.heap.size w wf) := HB.out.1.trans (hbf.mono HB.out.1.size)
          clear hbf
          go_wp2_with fail
          go_ret
          exact ⟨Clk.ret_str (by (rw [jn_snoc, if_pos he, HLl.out]; have htx := HT.out; rw [List.eq_nil_of_length_eq_zero he, jn_nil] at htx; subst htx; unfold tmB trn; rw [if_neg (fun q => by have := q.1; omega)]; try (first | rfl | (apply ByteArray.ext; simp)))), HF.out⟩
      · have hE : (tx.toList == []) = false := by rw [hE0]; exact decide_eq_false he
        clear hE0
        have d1 : ¬ 9223372036854775807 < tx.size + 1 := by omega
        have d2 : ¬ 9223372036854775807 < tx.size + (Clk.longB U).size := by omega
        have d3 : ¬ 9223372036854775807 < tx.size + 1 + (Clk.longB U).size := by omega
        have d4 : ¬ 9223372036854775807 < tx.size + 1 + 1 := by omega
        have d5 : ¬ 9223372036854775807 < tx.size + 1 + 1 + (Clk.longB U).size := by omega
        by_cases hp : l < 0
        · by_cases hg : 0 < U
          · go_wp2_with fail
            refine (Clk.elong_any U U1 U9 _).mono ?_
            rintro e wf ⟨rfl, hbf⟩
            have HF : Hid (Below w.heap.size w wf) := HB.out.1.trans (hbf.mono HB.out.1.size)
            clear hbf
            go_wp2_with fail
            go_ret
            exact ⟨Clk.ret_str (by (rw [jn_snoc, if_neg he, HLl.out]; rw [HT.out]; unfold tmB trn; rw [if_pos ⟨hp, hg⟩]; try (first | rfl | (apply ByteArray.ext; simp)))), HF.out⟩
          · go_wp2_with fail
            refine (Clk.elong_any U U1 U9 _).mono ?_
            rintro e wf ⟨rfl, hbf⟩
            have HF : Hid (Below w.heap.size w wf) := HB.out.1.trans (hbf.mono HB.out.1.size)
            clear hbf
            go_wp2_with fail
            go_ret
            exact ⟨Clk.ret_str (by (rw [jn_snoc, if_neg he, HLl.out]; rw [HT.out]; unfold tmB trn; rw [if_neg (fun q => by have := q.2; omega)]; try (first | rfl | (apply ByteArray.ext; simp)))), HF.out⟩
        · go_wp2_with fail
          refine (Clk.elong_any U U1 U9 _).mono ?_
          rintro e wf ⟨rfl, hbf⟩
          have HF : Hid (Below w.heap.size w wf) := HB.out.1.trans (hbf.mono HB.out.1.size)
          clear hbf
          go_wp2_with fail
          go_ret
          exact ⟨Clk.ret_str (by (rw [jn_snoc, if_neg he, HLl.out]; rw [HT.out]; unfold tmB trn; rw [if_neg (fun q => by have := q.1; omega)]; try (first | rfl | (apply ByteArray.ext; simp)))), HF.out⟩

set_option maxRecDepth 100000 in
set_option maxHeartbeats 8000000 in
theorem pg_e (M D U a b : Int) (ha : M.tdiv 12 = a) (hb : M.tmod 12 = b) (a1 : -9223372036854775808 ≤ a) (a9 : a ≤ 9223372036854775807) (b1 : -9223372036854775808 ≤ b) (b9 : b ≤ 9223372036854775807) (D1 : -9223372036854775808 ≤ D) (D9 : D ≤ 9223372036854775807) (U1 : -9223372036854775808 ≤ U) (U9 : U ≤ 9223372036854775807) (hU : (U == 0) = true) (HW : Hid ((stN a b D 3).1.length = 0)) (w : World) :
    Calls Tryd.prog 18 #[.agg #[.int .i64 0, .int .i64 M, .int .i64 D, .int .i64 U]] w fun r' w' => r' = .returned (.string (jn ⟨#[32]⟩ ((stN a b D 3).1 ++ [tmB (stN a b D 3).2 U]))) ∧ Below w.heap.size w w' := by
  have K0 : Hid (BS w [(w.heap.size + 1 + 1, [.string ⟨#[121, 101, 97, 114]⟩, .string ⟨#[109, 111, 110]⟩, .string ⟨#[100, 97, 121]⟩]), (w.heap.size + 1, [.int .i64 a, .int .i64 b, .int .i64 D]), (w.heap.size, [.int .i64 0, .int .i64 M, .int .i64 D, .int .i64 U])] (((w.alloc (.cells #[.int .i64 0, .int .i64 M, .int .i64 D, .int .i64 U] 23)).alloc (.cells #[.int .i64 a, .int .i64 b, .int .i64 D] 2)).alloc (.cells #[.string ⟨#[121, 101, 97, 114]⟩, .string ⟨#[109, 111, 110]⟩, .string ⟨#[100, 97, 121]⟩] 9))) := (((BS.start w).new [.int .i64 0, .int .i64 M, .int .i64 D, .int .i64 U] _ rfl).new [.int .i64 a, .int .i64 b, .int .i64 D] _ (by simp)).new [.string ⟨#[121, 101, 97, 114]⟩, .string ⟨#[109, 111, 110]⟩, .string ⟨#[100, 97, 121]⟩] _ (by simp)
  have hszN := fun i hi => stN_len a b D i hi
  go_enter Tryd.func18, Tryd.ntmps18
  go_upto_region 3 with fail
  refine bs_to K0 ?_
  clear K0
  intro W0 K0
  obtain ⟨bn, hbn⟩ : ∃ bn, w.heap.size + 1 = bn := ⟨_, rfl⟩
  obtain ⟨bs, hbs⟩ : ∃ bs, w.heap.size + 1 + 1 = bs := ⟨_, rfl⟩
  rw [hbs, hbn] at K0
  try rw [hbs]
  try rw [hbn]
  clear hbs hbn
  go_wp2_with fail
  go_loopw [5, 6, 7] (fun tv lv iv wr => ∃ i : Nat, iv = .int .i64 (i : Int) ∧ i ≤ 3 ∧ tv = .string (jn ⟨#[32]⟩ (stN a b D i).1) ∧ lv = .int .i64 (stN a b D i).2 ∧ Hid (BS w [(bs, [.string ⟨#[121, 101, 97, 114]⟩, .string ⟨#[109, 111, 110]⟩, .string ⟨#[100, 97, 121]⟩]), (bn, [.int .i64 a, .int .i64 b, .int .i64 D]), (w.heap.size, [.int .i64 0, .int .i64 M, .int .i64 D, .int .i64 U])] wr)) (fun _ _ iv _ => 3 - (intOf iv).toNat)
  case atStart => exact ⟨0, rfl, by decide, rfl, rfl, K0⟩
  case round =>
    clear K0
    obtain ⟨i, rfl, hi, rfl, rfl, HB⟩ := hrel
    obtain ⟨tx, htx⟩ : ∃ tx, jn ⟨#[32]⟩ (stN a b D i).1 = tx := ⟨_, rfl⟩
    obtain ⟨l, hl⟩ : ∃ l, (stN a b D i).2 = l := ⟨_, rfl⟩
    have zt : tx.size ≤ 200 := by
      rw [← htx, jn_size]
      have h1 := stN_len a b D i hi
      have h2 := stN_szi a b D i hi a1 a9 b1 b9 D1 D9
      have e : (⟨#[32]⟩ : ByteArray).size = 1 := rfl
      rw [e]
      omega
    have hE0 := tx_eq a b D i hi
    rw [htx] at hE0 ⊢
    rw [hl]
    by_cases hlt : i < 3
    · obtain rfl | rfl | rfl : i = 0 ∨ i = 1 ∨ i = 2 := by omega
      · have est : stN a b D (0 + 1) = stW a ⟨#[121, 101, 97, 114]⟩ (stN a b D 0) := rfl
        obtain ⟨x0, x1, x2⟩ := (bo2 HB).c3
        obtain ⟨y0, y1, y2⟩ := (bo1 HB).c3
        by_cases hz : a = 0
        · have est2 : Hid (stN a b D (0 + 1) = stN a b D 0) := by show _ = _; rw [est]; unfold stW; rw [if_pos hz]
          have z1 : (a == 0) = true := by simpa using hz
          have HT : Hid (jn ⟨#[32]⟩ (stN a b D 0).1 = tx) := htx
          have HLl : Hid ((stN a b D 0).2 = l) := hl
          clear hz est hE0 htx hl
          go_wp2_with fail
          go_roundw
          case rel => exact ⟨0 + 1, by go_num, by omega, by rw [est2.out, HT.out], by rw [est2.out, HLl.out], HB⟩
          case measure => simp [intOf]
        · have est2 : Hid (stN a b D (0 + 1) = ((stN a b D 0).1 ++ [unB a ⟨#[121, 101, 97, 114]⟩ l], a)) := by show _ = _; rw [est]; unfold stW; rw [if_neg hz, hl]
          have z1 : (a == 0) = false := by simpa using hz
          have zu := unB_size a ⟨#[121, 101, 97, 114]⟩ l (by decide) (by omega) (by omega)
          have c1 : ¬ 9223372036854775807 < tx.size + 1 := by omega
          have c2 : ¬ 9223372036854775807 < tx.size + (unB a ⟨#[121, 101, 97, 114]⟩ l).size := by omega
          have c3 : ¬ 9223372036854775807 < tx.size + 1 + (unB a ⟨#[121, 101, 97, 114]⟩ l).size := by omega
          have HT : Hid (jn ⟨#[32]⟩ (stN a b D 0).1 = tx) := htx
          clear hz est hl
          by_cases he : (stN a b D 0).1.length = 0
          · have hE : (tx.toList == []) = true := by rw [hE0]; exact decide_eq_true he
            have HV : Hid (tx ++ unB a ⟨#[121, 101, 97, 114]⟩ l = jn ⟨#[32]⟩ ((stN a b D 0).1 ++ [unB a ⟨#[121, 101, 97, 114]⟩ l])) := by (show _ = _; rw [jn_snoc, if_pos he, ← htx, List.eq_nil_of_length_eq_zero he, jn_nil, nil_app])
            clear hE0 htx he
            go_upto_region 11 with fail
            clear x0 x1 x2 y0 y1 y2
            refine wp_region_held_drew (S := BS w [(bs, [.string ⟨#[121, 101, 97, 114]⟩, .string ⟨#[109, 111, 110]⟩, .string ⟨#[100, 97, 121]⟩]), (bn, [.int .i64 a, .int .i64 b, .int .i64 D]), (w.heap.size, [.int .i64 0, .int .i64 M, .int .i64 D, .int .i64 U])]) (by kernel_rfl) HB.out.drew (fun hHeld => ?_)
            refine wpAnyH_take (i := 0) (v := ?_) (oi := { dst := some 31, op := _, type := _, pos := _, after := _, guard := none }) rfl (by kernel_rfl) (by kernel_rfl) (by kernel_rfl) (fun _ _ _ h => h) (Or.inl ⟨by kernel_rfl, ?_⟩) (by assumption) ?_
            case refine_2 => (intro w9 hSw; clear hSw; go_simp; try with_reducible rfl)
            simp only [Act.put, List.setIfInBounds_toArray, List.set_cons_zero, List.set_cons_succ]
            refine wpAnyH_take (i := 1) (v := ?_) (oi := { dst := some 32, op := _, type := _, pos := _, after := _, guard := none }) rfl (by kernel_rfl) (by kernel_rfl) (by kernel_rfl) (fun _ _ _ h => h) (Or.inl ⟨by kernel_rfl, ?_⟩) (by assumption) ?_
            case refine_2 => (intro w9 hSw; clear hSw; go_simp; try with_reducible rfl)
            simp only [Act.put, List.setIfInBounds_toArray, List.set_cons_zero, List.set_cons_succ]
            refine wpAnyH_take (i := 2) (v := ?_) (oi := { dst := some 33, op := _, type := _, pos := _, after := _, guard := none }) rfl (by kernel_rfl) (by kernel_rfl) (by kernel_rfl) (fun _ _ _ h => h) (Or.inl ⟨by kernel_rfl, ?_⟩) (by assumption) ?_
            case refine_2 => (intro w9 hSw; clear hSw; go_simp; try with_reducible rfl)
            simp only [Act.put, List.setIfInBounds_toArray, List.set_cons_zero, List.set_cons_succ]
            refine wpAnyH_take (i := 3) (v := ?_) (oi := { dst := some 34, op := _, type := _, pos := _, after := _, guard := none }) rfl (by kernel_rfl) (by kernel_rfl) (by kernel_rfl) (fun _ _ _ h => h) (Or.inl ⟨by kernel_rfl, ?_⟩) (by assumption) ?_
            case refine_2 => (intro w9 hSw; clear hSw; go_simp; try with_reducible rfl)
            simp only [Act.put, List.setIfInBounds_toArray, List.set_cons_zero, List.set_cons_succ]
            refine wpAnyH_take (i := 4) (v := ?_) (oi := { dst := some 35, op := _, type := _, pos := _, after := _, guard := none }) rfl (by kernel_rfl) (by kernel_rfl) (by kernel_rfl) (fun _ _ _ h => h) (Or.inl ⟨by kernel_rfl, ?_⟩) (by assumption) ?_
            case refine_2 => (intro w9 hSw; have l0 := (hSw.at bn [.int .i64 a, .int .i64 b, .int .i64 D] (by simp)).c 0 rfl; have l1 := (hSw.at bs [.string ⟨#[121, 101, 97, 114]⟩, .string ⟨#[109, 111, 110]⟩, .string ⟨#[100, 97, 121]⟩] (by simp)).c 0 rfl; clear hSw; go_simp; try with_reducible rfl)
            simp only [Act.put, List.setIfInBounds_toArray, List.set_cons_zero, List.set_cons_succ]
            refine wpAnyH_take (i := 5) (v := ?_) (oi := { dst := some 36, op := _, type := _, pos := _, after := _, guard := none }) rfl (by kernel_rfl) (by kernel_rfl) (by kernel_rfl) (fun _ _ _ h => h) (Or.inl ⟨by kernel_rfl, ?_⟩) (by assumption) ?_
            case refine_2 => (intro w9 hSw; clear hSw; go_simp; try with_reducible rfl)
            simp only [Act.put, List.setIfInBounds_toArray, List.set_cons_zero, List.set_cons_succ]
            refine wpAnyH_take (i := 6) (v := ?_) (oi := { dst := some 37, op := _, type := _, pos := _, after := _, guard := none }) rfl (by kernel_rfl) (by kernel_rfl) (by kernel_rfl) (fun _ _ _ h => h) (Or.inl ⟨by kernel_rfl, ?_⟩) (by assumption) ?_
            case refine_2 => (intro w9 hSw; clear hSw; go_simp; try with_reducible rfl)
            simp only [Act.put, List.setIfInBounds_toArray, List.set_cons_zero, List.set_cons_succ]
            refine wpAnyH_take (i := 7) (v := ?_) (oi := { dst := some 38, op := _, type := _, pos := _, after := _, guard := none }) rfl (by kernel_rfl) (by kernel_rfl) (by kernel_rfl) (fun _ _ _ h => h) (Or.inl ⟨by kernel_rfl, ?_⟩) (by assumption) ?_
            case refine_2 => (intro w9 hSw; clear hSw; go_simp; try with_reducible rfl)
            simp only [Act.put, List.setIfInBounds_toArray, List.set_cons_zero, List.set_cons_succ]
            refine wpAnyH_take (i := 8) (v := ?_) (oi := { dst := some 39, op := _, type := _, pos := _, after := _, guard := none }) rfl (by kernel_rfl) (by kernel_rfl) (by kernel_rfl) (fun _ _ _ h => h) (Or.inl ⟨by kernel_rfl, ?_⟩) (by assumption) ?_
            case refine_2 => (intro w9 hSw; have l0 := (hSw.at bn [.int .i64 a, .int .i64 b, .int .i64 D] (by simp)).c 0 rfl; have l1 := (hSw.at bs [.string ⟨#[121, 101, 97, 114]⟩, .string ⟨#[109, 111, 110]⟩, .string ⟨#[100, 97, 121]⟩] (by simp)).c 0 rfl; clear hSw; go_simp; try with_reducible rfl)
            simp only [Act.put, List.setIfInBounds_toArray, List.set_cons_zero, List.set_cons_succ]
            refine wpAnyH_take (i := 9) (v := ?_) (oi := { dst := some 40, op := _, type := _, pos := _, after := _, guard := none }) rfl (by kernel_rfl) (by kernel_rfl) (by kernel_rfl) (fun _ _ _ h => h) (Or.inl ⟨by kernel_rfl, ?_⟩) (by assumption) ?_
            case refine_2 => (intro w9 hSw; clear hSw; go_simp; try with_reducible rfl)
            simp only [Act.put, List.setIfInBounds_toArray, List.set_cons_zero, List.set_cons_succ]
            refine wpAnyH_ready (rs := [10]) (by kernel_rfl) (by simp) (AllReadyH.cons (o := { dst := some 41, op := _, type := _, pos := _, after := _, guard := none }) rfl (fun K hK => ?_) AllReadyH.nil)
            go_simp
            refine (un_ref a ⟨#[121, 101, 97, 114]⟩ l (by decide) (by omega) (by omega) _).mono ?_
            rintro e v1 ⟨rfl, hb1⟩
            refine hK.out _ _ (hHeld.below hb1) (fun hHeld => ?_)
            clear hK K hb1
            refine wpAnyH_take (i := 11) (v := ?_) (oi := { dst := some 42, op := _, type := _, pos := _, after := _, guard := none }) rfl (by kernel_rfl) (by kernel_rfl) (by kernel_rfl) (fun _ _ _ h => h) (Or.inl ⟨by kernel_rfl, ?_⟩) (by assumption) ?_
            case refine_2 => (intro w9 hSw; clear hSw; go_simp; try with_reducible rfl)
            simp only [Act.put, List.setIfInBounds_toArray, List.set_cons_zero, List.set_cons_succ]
            refine wpAnyH_take (i := 12) (v := ?_) (oi := { dst := some 5, op := _, type := _, pos := _, after := _, guard := none }) rfl (by kernel_rfl) (by kernel_rfl) (by kernel_rfl) (fun _ _ _ h => h) (Or.inl ⟨by kernel_rfl, ?_⟩) (by assumption) ?_
            case refine_2 => (intro w9 hSw; clear hSw; go_simp; try with_reducible rfl)
            simp only [Act.put, List.setIfInBounds_toArray, List.set_cons_zero, List.set_cons_succ]
            refine wpAnyH_done (by kernel_rfl) ?_ _
            have HB9 : Hid (BS w [(bs, [.string ⟨#[121, 101, 97, 114]⟩, .string ⟨#[109, 111, 110]⟩, .string ⟨#[100, 97, 121]⟩]), (bn, [.int .i64 a, .int .i64 b, .int .i64 D]), (w.heap.size, [.int .i64 0, .int .i64 M, .int .i64 D, .int .i64 U])] _) := hHeld
            clear hHeld
            obtain ⟨x0, x1, x2⟩ := (bo2 HB9).c3
            go_wp2_with fail
            go_roundw
            case rel => exact ⟨0 + 1, by go_num, by omega, by rw [est2.out, ← HV.out], by rw [est2.out], HB9⟩
            case measure => simp [intOf]
          · have hE : (tx.toList == []) = false := by rw [hE0]; exact decide_eq_false he
            have HV : Hid (tx ++ ⟨#[32]⟩ ++ unB a ⟨#[121, 101, 97, 114]⟩ l = jn ⟨#[32]⟩ ((stN a b D 0).1 ++ [unB a ⟨#[121, 101, 97, 114]⟩ l])) := by (show _ = _; rw [jn_snoc, if_neg he, ← htx])
            clear hE0 htx he
            go_upto_region 11 with fail
            clear x0 x1 x2 y0 y1 y2
            refine wp_region_held_drew (S := BS w [(bs, [.string ⟨#[121, 101, 97, 114]⟩, .string ⟨#[109, 111, 110]⟩, .string ⟨#[100, 97, 121]⟩]), (bn, [.int .i64 a, .int .i64 b, .int .i64 D]), (w.heap.size, [.int .i64 0, .int .i64 M, .int .i64 D, .int .i64 U])]) (by kernel_rfl) HB.out.drew (fun hHeld => ?_)
            refine wpAnyH_take (i := 0) (v := ?_) (oi := { dst := some 31, op := _, type := _, pos := _, after := _, guard := none }) rfl (by kernel_rfl) (by kernel_rfl) (by kernel_rfl) (fun _ _ _ h => h) (Or.inl ⟨by kernel_rfl, ?_⟩) (by assumption) ?_
            case refine_2 => (intro w9 hSw; clear hSw; go_simp; try with_reducible rfl)
            simp only [Act.put, List.setIfInBounds_toArray, List.set_cons_zero, List.set_cons_succ]
            refine wpAnyH_take (i := 1) (v := ?_) (oi := { dst := some 32, op := _, type := _, pos := _, after := _, guard := none }) rfl (by kernel_rfl) (by kernel_rfl) (by kernel_rfl) (fun _ _ _ h => h) (Or.inl ⟨by kernel_rfl, ?_⟩) (by assumption) ?_
            case refine_2 => (intro w9 hSw; clear hSw; go_simp; try with_reducible rfl)
            simp only [Act.put, List.setIfInBounds_toArray, List.set_cons_zero, List.set_cons_succ]
            refine wpAnyH_take (i := 2) (v := ?_) (oi := { dst := some 33, op := _, type := _, pos := _, after := _, guard := none }) rfl (by kernel_rfl) (by kernel_rfl) (by kernel_rfl) (fun _ _ _ h => h) (Or.inl ⟨by kernel_rfl, ?_⟩) (by assumption) ?_
            case refine_2 => (intro w9 hSw; clear hSw; go_simp; try with_reducible rfl)
            simp only [Act.put, List.setIfInBounds_toArray, List.set_cons_zero, List.set_cons_succ]
            refine wpAnyH_take (i := 3) (v := ?_) (oi := { dst := some 34, op := _, type := _, pos := _, after := _, guard := none }) rfl (by kernel_rfl) (by kernel_rfl) (by kernel_rfl) (fun _ _ _ h => h) (Or.inl ⟨by kernel_rfl, ?_⟩) (by assumption) ?_
            case refine_2 => (intro w9 hSw; clear hSw; go_simp; try with_reducible rfl)
            simp only [Act.put, List.setIfInBounds_toArray, List.set_cons_zero, List.set_cons_succ]
            refine wpAnyH_take (i := 4) (v := ?_) (oi := { dst := some 35, op := _, type := _, pos := _, after := _, guard := none }) rfl (by kernel_rfl) (by kernel_rfl) (by kernel_rfl) (fun _ _ _ h => h) (Or.inl ⟨by kernel_rfl, ?_⟩) (by assumption) ?_
            case refine_2 => (intro w9 hSw; have l0 := (hSw.at bn [.int .i64 a, .int .i64 b, .int .i64 D] (by simp)).c 0 rfl; have l1 := (hSw.at bs [.string ⟨#[121, 101, 97, 114]⟩, .string ⟨#[109, 111, 110]⟩, .string ⟨#[100, 97, 121]⟩] (by simp)).c 0 rfl; clear hSw; go_simp; try with_reducible rfl)
            simp only [Act.put, List.setIfInBounds_toArray, List.set_cons_zero, List.set_cons_succ]
            refine wpAnyH_take (i := 5) (v := ?_) (oi := { dst := some 36, op := _, type := _, pos := _, after := _, guard := none }) rfl (by kernel_rfl) (by kernel_rfl) (by kernel_rfl) (fun _ _ _ h => h) (Or.inl ⟨by kernel_rfl, ?_⟩) (by assumption) ?_
            case refine_2 => (intro w9 hSw; clear hSw; go_simp; try with_reducible rfl)
            simp only [Act.put, List.setIfInBounds_toArray, List.set_cons_zero, List.set_cons_succ]
            refine wpAnyH_take (i := 6) (v := ?_) (oi := { dst := some 37, op := _, type := _, pos := _, after := _, guard := none }) rfl (by kernel_rfl) (by kernel_rfl) (by kernel_rfl) (fun _ _ _ h => h) (Or.inl ⟨by kernel_rfl, ?_⟩) (by assumption) ?_
            case refine_2 => (intro w9 hSw; clear hSw; go_simp; try with_reducible rfl)
            simp only [Act.put, List.setIfInBounds_toArray, List.set_cons_zero, List.set_cons_succ]
            refine wpAnyH_take (i := 7) (v := ?_) (oi := { dst := some 38, op := _, type := _, pos := _, after := _, guard := none }) rfl (by kernel_rfl) (by kernel_rfl) (by kernel_rfl) (fun _ _ _ h => h) (Or.inl ⟨by kernel_rfl, ?_⟩) (by assumption) ?_
            case refine_2 => (intro w9 hSw; clear hSw; go_simp; try with_reducible rfl)
            simp only [Act.put, List.setIfInBounds_toArray, List.set_cons_zero, List.set_cons_succ]
            refine wpAnyH_take (i := 8) (v := ?_) (oi := { dst := some 39, op := _, type := _, pos := _, after := _, guard := none }) rfl (by kernel_rfl) (by kernel_rfl) (by kernel_rfl) (fun _ _ _ h => h) (Or.inl ⟨by kernel_rfl, ?_⟩) (by assumption) ?_
            case refine_2 => (intro w9 hSw; have l0 := (hSw.at bn [.int .i64 a, .int .i64 b, .int .i64 D] (by simp)).c 0 rfl; have l1 := (hSw.at bs [.string ⟨#[121, 101, 97, 114]⟩, .string ⟨#[109, 111, 110]⟩, .string ⟨#[100, 97, 121]⟩] (by simp)).c 0 rfl; clear hSw; go_simp; try with_reducible rfl)
            simp only [Act.put, List.setIfInBounds_toArray, List.set_cons_zero, List.set_cons_succ]
            refine wpAnyH_take (i := 9) (v := ?_) (oi := { dst := some 40, op := _, type := _, pos := _, after := _, guard := none }) rfl (by kernel_rfl) (by kernel_rfl) (by kernel_rfl) (fun _ _ _ h => h) (Or.inl ⟨by kernel_rfl, ?_⟩) (by assumption) ?_
            case refine_2 => (intro w9 hSw; clear hSw; go_simp; try with_reducible rfl)
            simp only [Act.put, List.setIfInBounds_toArray, List.set_cons_zero, List.set_cons_succ]
            refine wpAnyH_ready (rs := [10]) (by kernel_rfl) (by simp) (AllReadyH.cons (o := { dst := some 41, op := _, type := _, pos := _, after := _, guard := none }) rfl (fun K hK => ?_) AllReadyH.nil)
            go_simp
            refine (un_ref a ⟨#[121, 101, 97, 114]⟩ l (by decide) (by omega) (by omega) _).mono ?_
            rintro e v1 ⟨rfl, hb1⟩
            refine hK.out _ _ (hHeld.below hb1) (fun hHeld => ?_)
            clear hK K hb1
            refine wpAnyH_take (i := 11) (v := ?_) (oi := { dst := some 42, op := _, type := _, pos := _, after := _, guard := none }) rfl (by kernel_rfl) (by kernel_rfl) (by kernel_rfl) (fun _ _ _ h => h) (Or.inl ⟨by kernel_rfl, ?_⟩) (by assumption) ?_
            case refine_2 => (intro w9 hSw; clear hSw; go_simp; try with_reducible rfl)
            simp only [Act.put, List.setIfInBounds_toArray, List.set_cons_zero, List.set_cons_succ]
            refine wpAnyH_take (i := 12) (v := ?_) (oi := { dst := some 5, op := _, type := _, pos := _, after := _, guard := none }) rfl (by kernel_rfl) (by kernel_rfl) (by kernel_rfl) (fun _ _ _ h => h) (Or.inl ⟨by kernel_rfl, ?_⟩) (by assumption) ?_
            case refine_2 => (intro w9 hSw; clear hSw; go_simp; try with_reducible rfl)
            simp only [Act.put, List.setIfInBounds_toArray, List.set_cons_zero, List.set_cons_succ]
            refine wpAnyH_done (by kernel_rfl) ?_ _
            have HB9 : Hid (BS w [(bs, [.string ⟨#[121, 101, 97, 114]⟩, .string ⟨#[109, 111, 110]⟩, .string ⟨#[100, 97, 121]⟩]), (bn, [.int .i64 a, .int .i64 b, .int .i64 D]), (w.heap.size, [.int .i64 0, .int .i64 M, .int .i64 D, .int .i64 U])] _) := hHeld
            clear hHeld
            obtain ⟨x0, x1, x2⟩ := (bo2 HB9).c3
            go_wp2_with fail
            go_roundw
            case rel => exact ⟨0 + 1, by go_num, by omega, by rw [est2.out, ← HV.out], by rw [est2.out], HB9⟩
            case measure => simp [intOf]
      · have est : stN a b D (1 + 1) = stW b ⟨#[109, 111, 110]⟩ (stN a b D 1) := rfl
        obtain ⟨x0, x1, x2⟩ := (bo2 HB).c3
        obtain ⟨y0, y1, y2⟩ := (bo1 HB).c3
        by_cases hz : b = 0
        · have est2 : Hid (stN a b D (1 + 1) = stN a b D 1) := by show _ = _; rw [est]; unfold stW; rw [if_pos hz]
          have z1 : (b == 0) = true := by simpa using hz
          have HT : Hid (jn ⟨#[32]⟩ (stN a b D 1).1 = tx) := htx
          have HLl : Hid ((stN a b D 1).2 = l) := hl
          clear hz est hE0 htx hl
          go_wp2_with fail
          go_roundw
          case rel => exact ⟨1 + 1, by go_num, by omega, by rw [est2.out, HT.out], by rw [est2.out, HLl.out], HB⟩
          case measure => simp [intOf]
        · have est2 : Hid (stN a b D (1 + 1) = ((stN a b D 1).1 ++ [unB b ⟨#[109, 111, 110]⟩ l], b)) := by show _ = _; rw [est]; unfold stW; rw [if_neg hz, hl]
          have z1 : (b == 0) = false := by simpa using hz
          have zu := unB_size b ⟨#[109, 111, 110]⟩ l (by decide) (by omega) (by omega)
          have c1 : ¬ 9223372036854775807 < tx.size + 1 := by omega
          have c2 : ¬ 9223372036854775807 < tx.size + (unB b ⟨#[109, 111, 110]⟩ l).size := by omega
          have c3 : ¬ 9223372036854775807 < tx.size + 1 + (unB b ⟨#[109, 111, 110]⟩ l).size := by omega
          have HT : Hid (jn ⟨#[32]⟩ (stN a b D 1).1 = tx) := htx
          clear hz est hl
          by_cases he : (stN a b D 1).1.length = 0
          · have hE : (tx.toList == []) = true := by rw [hE0]; exact decide_eq_true he
            have HV : Hid (tx ++ unB b ⟨#[109, 111, 110]⟩ l = jn ⟨#[32]⟩ ((stN a b D 1).1 ++ [unB b ⟨#[109, 111, 110]⟩ l])) := by (show _ = _; rw [jn_snoc, if_pos he, ← htx, List.eq_nil_of_length_eq_zero he, jn_nil, nil_app])
            clear hE0 htx he
            go_upto_region 11 with fail
            clear x0 x1 x2 y0 y1 y2
            refine wp_region_held_drew (S := BS w [(bs, [.string ⟨#[121, 101, 97, 114]⟩, .string ⟨#[109, 111, 110]⟩, .string ⟨#[100, 97, 121]⟩]), (bn, [.int .i64 a, .int .i64 b, .int .i64 D]), (w.heap.size, [.int .i64 0, .int .i64 M, .int .i64 D, .int .i64 U])]) (by kernel_rfl) HB.out.drew (fun hHeld => ?_)
            refine wpAnyH_take (i := 0) (v := ?_) (oi := { dst := some 31, op := _, type := _, pos := _, after := _, guard := none }) rfl (by kernel_rfl) (by kernel_rfl) (by kernel_rfl) (fun _ _ _ h => h) (Or.inl ⟨by kernel_rfl, ?_⟩) (by assumption) ?_
            case refine_2 => (intro w9 hSw; clear hSw; go_simp; try with_reducible rfl)
            simp only [Act.put, List.setIfInBounds_toArray, List.set_cons_zero, List.set_cons_succ]
            refine wpAnyH_take (i := 1) (v := ?_) (oi := { dst := some 32, op := _, type := _, pos := _, after := _, guard := none }) rfl (by kernel_rfl) (by kernel_rfl) (by kernel_rfl) (fun _ _ _ h => h) (Or.inl ⟨by kernel_rfl, ?_⟩) (by assumption) ?_
            case refine_2 => (intro w9 hSw; clear hSw; go_simp; try with_reducible rfl)
            simp only [Act.put, List.setIfInBounds_toArray, List.set_cons_zero, List.set_cons_succ]
            refine wpAnyH_take (i := 2) (v := ?_) (oi := { dst := some 33, op := _, type := _, pos := _, after := _, guard := none }) rfl (by kernel_rfl) (by kernel_rfl) (by kernel_rfl) (fun _ _ _ h => h) (Or.inl ⟨by kernel_rfl, ?_⟩) (by assumption) ?_
            case refine_2 => (intro w9 hSw; clear hSw; go_simp; try with_reducible rfl)
            simp only [Act.put, List.setIfInBounds_toArray, List.set_cons_zero, List.set_cons_succ]
            refine wpAnyH_take (i := 3) (v := ?_) (oi := { dst := some 34, op := _, type := _, pos := _, after := _, guard := none }) rfl (by kernel_rfl) (by kernel_rfl) (by kernel_rfl) (fun _ _ _ h => h) (Or.inl ⟨by kernel_rfl, ?_⟩) (by assumption) ?_
            case refine_2 => (intro w9 hSw; clear hSw; go_simp; try with_reducible rfl)
            simp only [Act.put, List.setIfInBounds_toArray, List.set_cons_zero, List.set_cons_succ]
            refine wpAnyH_take (i := 4) (v := ?_) (oi := { dst := some 35, op := _, type := _, pos := _, after := _, guard := none }) rfl (by kernel_rfl) (by kernel_rfl) (by kernel_rfl) (fun _ _ _ h => h) (Or.inl ⟨by kernel_rfl, ?_⟩) (by assumption) ?_
            case refine_2 => (intro w9 hSw; have l0 := (hSw.at bn [.int .i64 a, .int .i64 b, .int .i64 D] (by simp)).c 1 rfl; have l1 := (hSw.at bs [.string ⟨#[121, 101, 97, 114]⟩, .string ⟨#[109, 111, 110]⟩, .string ⟨#[100, 97, 121]⟩] (by simp)).c 1 rfl; clear hSw; go_simp; try with_reducible rfl)
            simp only [Act.put, List.setIfInBounds_toArray, List.set_cons_zero, List.set_cons_succ]
            refine wpAnyH_take (i := 5) (v := ?_) (oi := { dst := some 36, op := _, type := _, pos := _, after := _, guard := none }) rfl (by kernel_rfl) (by kernel_rfl) (by kernel_rfl) (fun _ _ _ h => h) (Or.inl ⟨by kernel_rfl, ?_⟩) (by assumption) ?_
            case refine_2 => (intro w9 hSw; clear hSw; go_simp; try with_reducible rfl)
            simp only [Act.put, List.setIfInBounds_toArray, List.set_cons_zero, List.set_cons_succ]
            refine wpAnyH_take (i := 6) (v := ?_) (oi := { dst := some 37, op := _, type := _, pos := _, after := _, guard := none }) rfl (by kernel_rfl) (by kernel_rfl) (by kernel_rfl) (fun _ _ _ h => h) (Or.inl ⟨by kernel_rfl, ?_⟩) (by assumption) ?_
            case refine_2 => (intro w9 hSw; clear hSw; go_simp; try with_reducible rfl)
            simp only [Act.put, List.setIfInBounds_toArray, List.set_cons_zero, List.set_cons_succ]
            refine wpAnyH_take (i := 7) (v := ?_) (oi := { dst := some 38, op := _, type := _, pos := _, after := _, guard := none }) rfl (by kernel_rfl) (by kernel_rfl) (by kernel_rfl) (fun _ _ _ h => h) (Or.inl ⟨by kernel_rfl, ?_⟩) (by assumption) ?_
            case refine_2 => (intro w9 hSw; clear hSw; go_simp; try with_reducible rfl)
            simp only [Act.put, List.setIfInBounds_toArray, List.set_cons_zero, List.set_cons_succ]
            refine wpAnyH_take (i := 8) (v := ?_) (oi := { dst := some 39, op := _, type := _, pos := _, after := _, guard := none }) rfl (by kernel_rfl) (by kernel_rfl) (by kernel_rfl) (fun _ _ _ h => h) (Or.inl ⟨by kernel_rfl, ?_⟩) (by assumption) ?_
            case refine_2 => (intro w9 hSw; have l0 := (hSw.at bn [.int .i64 a, .int .i64 b, .int .i64 D] (by simp)).c 1 rfl; have l1 := (hSw.at bs [.string ⟨#[121, 101, 97, 114]⟩, .string ⟨#[109, 111, 110]⟩, .string ⟨#[100, 97, 121]⟩] (by simp)).c 1 rfl; clear hSw; go_simp; try with_reducible rfl)
            simp only [Act.put, List.setIfInBounds_toArray, List.set_cons_zero, List.set_cons_succ]
            refine wpAnyH_take (i := 9) (v := ?_) (oi := { dst := some 40, op := _, type := _, pos := _, after := _, guard := none }) rfl (by kernel_rfl) (by kernel_rfl) (by kernel_rfl) (fun _ _ _ h => h) (Or.inl ⟨by kernel_rfl, ?_⟩) (by assumption) ?_
            case refine_2 => (intro w9 hSw; clear hSw; go_simp; try with_reducible rfl)
            simp only [Act.put, List.setIfInBounds_toArray, List.set_cons_zero, List.set_cons_succ]
            refine wpAnyH_ready (rs := [10]) (by kernel_rfl) (by simp) (AllReadyH.cons (o := { dst := some 41, op := _, type := _, pos := _, after := _, guard := none }) rfl (fun K hK => ?_) AllReadyH.nil)
            go_simp
            refine (un_ref b ⟨#[109, 111, 110]⟩ l (by decide) (by omega) (by omega) _).mono ?_
            rintro e v1 ⟨rfl, hb1⟩
            refine hK.out _ _ (hHeld.below hb1) (fun hHeld => ?_)
            clear hK K hb1
            refine wpAnyH_take (i := 11) (v := ?_) (oi := { dst := some 42, op := _, type := _, pos := _, after := _, guard := none }) rfl (by kernel_rfl) (by kernel_rfl) (by kernel_rfl) (fun _ _ _ h => h) (Or.inl ⟨by kernel_rfl, ?_⟩) (by assumption) ?_
            case refine_2 => (intro w9 hSw; clear hSw; go_simp; try with_reducible rfl)
            simp only [Act.put, List.setIfInBounds_toArray, List.set_cons_zero, List.set_cons_succ]
            refine wpAnyH_take (i := 12) (v := ?_) (oi := { dst := some 5, op := _, type := _, pos := _, after := _, guard := none }) rfl (by kernel_rfl) (by kernel_rfl) (by kernel_rfl) (fun _ _ _ h => h) (Or.inl ⟨by kernel_rfl, ?_⟩) (by assumption) ?_
            case refine_2 => (intro w9 hSw; clear hSw; go_simp; try with_reducible rfl)
            simp only [Act.put, List.setIfInBounds_toArray, List.set_cons_zero, List.set_cons_succ]
            refine wpAnyH_done (by kernel_rfl) ?_ _
            have HB9 : Hid (BS w [(bs, [.string ⟨#[121, 101, 97, 114]⟩, .string ⟨#[109, 111, 110]⟩, .string ⟨#[100, 97, 121]⟩]), (bn, [.int .i64 a, .int .i64 b, .int .i64 D]), (w.heap.size, [.int .i64 0, .int .i64 M, .int .i64 D, .int .i64 U])] _) := hHeld
            clear hHeld
            obtain ⟨x0, x1, x2⟩ := (bo2 HB9).c3
            go_wp2_with fail
            go_roundw
            case rel => exact ⟨1 + 1, by go_num, by omega, by rw [est2.out, ← HV.out], by rw [est2.out], HB9⟩
            case measure => simp [intOf]
          · have hE : (tx.toList == []) = false := by rw [hE0]; exact decide_eq_false he
            have HV : Hid (tx ++ ⟨#[32]⟩ ++ unB b ⟨#[109, 111, 110]⟩ l = jn ⟨#[32]⟩ ((stN a b D 1).1 ++ [unB b ⟨#[109, 111, 110]⟩ l])) := by (show _ = _; rw [jn_snoc, if_neg he, ← htx])
            clear hE0 htx he
            go_upto_region 11 with fail
            clear x0 x1 x2 y0 y1 y2
            refine wp_region_held_drew (S := BS w [(bs, [.string ⟨#[121, 101, 97, 114]⟩, .string ⟨#[109, 111, 110]⟩, .string ⟨#[100, 97, 121]⟩]), (bn, [.int .i64 a, .int .i64 b, .int .i64 D]), (w.heap.size, [.int .i64 0, .int .i64 M, .int .i64 D, .int .i64 U])]) (by kernel_rfl) HB.out.drew (fun hHeld => ?_)
            refine wpAnyH_take (i := 0) (v := ?_) (oi := { dst := some 31, op := _, type := _, pos := _, after := _, guard := none }) rfl (by kernel_rfl) (by kernel_rfl) (by kernel_rfl) (fun _ _ _ h => h) (Or.inl ⟨by kernel_rfl, ?_⟩) (by assumption) ?_
            case refine_2 => (intro w9 hSw; clear hSw; go_simp; try with_reducible rfl)
            simp only [Act.put, List.setIfInBounds_toArray, List.set_cons_zero, List.set_cons_succ]
            refine wpAnyH_take (i := 1) (v := ?_) (oi := { dst := some 32, op := _, type := _, pos := _, after := _, guard := none }) rfl (by kernel_rfl) (by kernel_rfl) (by kernel_rfl) (fun _ _ _ h => h) (Or.inl ⟨by kernel_rfl, ?_⟩) (by assumption) ?_
            case refine_2 => (intro w9 hSw; clear hSw; go_simp; try with_reducible rfl)
            simp only [Act.put, List.setIfInBounds_toArray, List.set_cons_zero, List.set_cons_succ]
            refine wpAnyH_take (i := 2) (v := ?_) (oi := { dst := some 33, op := _, type := _, pos := _, after := _, guard := none }) rfl (by kernel_rfl) (by kernel_rfl) (by kernel_rfl) (fun _ _ _ h => h) (Or.inl ⟨by kernel_rfl, ?_⟩) (by assumption) ?_
            case refine_2 => (intro w9 hSw; clear hSw; go_simp; try with_reducible rfl)
            simp only [Act.put, List.setIfInBounds_toArray, List.set_cons_zero, List.set_cons_succ]
            refine wpAnyH_take (i := 3) (v := ?_) (oi := { dst := some 34, op := _, type := _, pos := _, after := _, guard := none }) rfl (by kernel_rfl) (by kernel_rfl) (by kernel_rfl) (fun _ _ _ h => h) (Or.inl ⟨by kernel_rfl, ?_⟩) (by assumption) ?_
            case refine_2 => (intro w9 hSw; clear hSw; go_simp; try with_reducible rfl)
            simp only [Act.put, List.setIfInBounds_toArray, List.set_cons_zero, List.set_cons_succ]
            refine wpAnyH_take (i := 4) (v := ?_) (oi := { dst := some 35, op := _, type := _, pos := _, after := _, guard := none }) rfl (by kernel_rfl) (by kernel_rfl) (by kernel_rfl) (fun _ _ _ h => h) (Or.inl ⟨by kernel_rfl, ?_⟩) (by assumption) ?_
            case refine_2 => (intro w9 hSw; have l0 := (hSw.at bn [.int .i64 a, .int .i64 b, .int .i64 D] (by simp)).c 1 rfl; have l1 := (hSw.at bs [.string ⟨#[121, 101, 97, 114]⟩, .string ⟨#[109, 111, 110]⟩, .string ⟨#[100, 97, 121]⟩] (by simp)).c 1 rfl; clear hSw; go_simp; try with_reducible rfl)
            simp only [Act.put, List.setIfInBounds_toArray, List.set_cons_zero, List.set_cons_succ]
            refine wpAnyH_take (i := 5) (v := ?_) (oi := { dst := some 36, op := _, type := _, pos := _, after := _, guard := none }) rfl (by kernel_rfl) (by kernel_rfl) (by kernel_rfl) (fun _ _ _ h => h) (Or.inl ⟨by kernel_rfl, ?_⟩) (by assumption) ?_
            case refine_2 => (intro w9 hSw; clear hSw; go_simp; try with_reducible rfl)
            simp only [Act.put, List.setIfInBounds_toArray, List.set_cons_zero, List.set_cons_succ]
            refine wpAnyH_take (i := 6) (v := ?_) (oi := { dst := some 37, op := _, type := _, pos := _, after := _, guard := none }) rfl (by kernel_rfl) (by kernel_rfl) (by kernel_rfl) (fun _ _ _ h => h) (Or.inl ⟨by kernel_rfl, ?_⟩) (by assumption) ?_
            case refine_2 => (intro w9 hSw; clear hSw; go_simp; try with_reducible rfl)
            simp only [Act.put, List.setIfInBounds_toArray, List.set_cons_zero, List.set_cons_succ]
            refine wpAnyH_take (i := 7) (v := ?_) (oi := { dst := some 38, op := _, type := _, pos := _, after := _, guard := none }) rfl (by kernel_rfl) (by kernel_rfl) (by kernel_rfl) (fun _ _ _ h => h) (Or.inl ⟨by kernel_rfl, ?_⟩) (by assumption) ?_
            case refine_2 => (intro w9 hSw; clear hSw; go_simp; try with_reducible rfl)
            simp only [Act.put, List.setIfInBounds_toArray, List.set_cons_zero, List.set_cons_succ]
            refine wpAnyH_take (i := 8) (v := ?_) (oi := { dst := some 39, op := _, type := _, pos := _, after := _, guard := none }) rfl (by kernel_rfl) (by kernel_rfl) (by kernel_rfl) (fun _ _ _ h => h) (Or.inl ⟨by kernel_rfl, ?_⟩) (by assumption) ?_
            case refine_2 => (intro w9 hSw; have l0 := (hSw.at bn [.int .i64 a, .int .i64 b, .int .i64 D] (by simp)).c 1 rfl; have l1 := (hSw.at bs [.string ⟨#[121, 101, 97, 114]⟩, .string ⟨#[109, 111, 110]⟩, .string ⟨#[100, 97, 121]⟩] (by simp)).c 1 rfl; clear hSw; go_simp; try with_reducible rfl)
            simp only [Act.put, List.setIfInBounds_toArray, List.set_cons_zero, List.set_cons_succ]
            refine wpAnyH_take (i := 9) (v := ?_) (oi := { dst := some 40, op := _, type := _, pos := _, after := _, guard := none }) rfl (by kernel_rfl) (by kernel_rfl) (by kernel_rfl) (fun _ _ _ h => h) (Or.inl ⟨by kernel_rfl, ?_⟩) (by assumption) ?_
            case refine_2 => (intro w9 hSw; clear hSw; go_simp; try with_reducible rfl)
            simp only [Act.put, List.setIfInBounds_toArray, List.set_cons_zero, List.set_cons_succ]
            refine wpAnyH_ready (rs := [10]) (by kernel_rfl) (by simp) (AllReadyH.cons (o := { dst := some 41, op := _, type := _, pos := _, after := _, guard := none }) rfl (fun K hK => ?_) AllReadyH.nil)
            go_simp
            refine (un_ref b ⟨#[109, 111, 110]⟩ l (by decide) (by omega) (by omega) _).mono ?_
            rintro e v1 ⟨rfl, hb1⟩
            refine hK.out _ _ (hHeld.below hb1) (fun hHeld => ?_)
            clear hK K hb1
            refine wpAnyH_take (i := 11) (v := ?_) (oi := { dst := some 42, op := _, type := _, pos := _, after := _, guard := none }) rfl (by kernel_rfl) (by kernel_rfl) (by kernel_rfl) (fun _ _ _ h => h) (Or.inl ⟨by kernel_rfl, ?_⟩) (by assumption) ?_
            case refine_2 => (intro w9 hSw; clear hSw; go_simp; try with_reducible rfl)
            simp only [Act.put, List.setIfInBounds_toArray, List.set_cons_zero, List.set_cons_succ]
            refine wpAnyH_take (i := 12) (v := ?_) (oi := { dst := some 5, op := _, type := _, pos := _, after := _, guard := none }) rfl (by kernel_rfl) (by kernel_rfl) (by kernel_rfl) (fun _ _ _ h => h) (Or.inl ⟨by kernel_rfl, ?_⟩) (by assumption) ?_
            case refine_2 => (intro w9 hSw; clear hSw; go_simp; try with_reducible rfl)
            simp only [Act.put, List.setIfInBounds_toArray, List.set_cons_zero, List.set_cons_succ]
            refine wpAnyH_done (by kernel_rfl) ?_ _
            have HB9 : Hid (BS w [(bs, [.string ⟨#[121, 101, 97, 114]⟩, .string ⟨#[109, 111, 110]⟩, .string ⟨#[100, 97, 121]⟩]), (bn, [.int .i64 a, .int .i64 b, .int .i64 D]), (w.heap.size, [.int .i64 0, .int .i64 M, .int .i64 D, .int .i64 U])] _) := hHeld
            clear hHeld
            obtain ⟨x0, x1, x2⟩ := (bo2 HB9).c3
            go_wp2_with fail
            go_roundw
            case rel => exact ⟨1 + 1, by go_num, by omega, by rw [est2.out, ← HV.out], by rw [est2.out], HB9⟩
            case measure => simp [intOf]
      · have est : stN a b D (2 + 1) = stW D ⟨#[100, 97, 121]⟩ (stN a b D 2) := rfl
        obtain ⟨x0, x1, x2⟩ := (bo2 HB).c3
        obtain ⟨y0, y1, y2⟩ := (bo1 HB).c3
        by_cases hz : D = 0
        · have est2 : Hid (stN a b D (2 + 1) = stN a b D 2) := by show _ = _; rw [est]; unfold stW; rw [if_pos hz]
          have z1 : (D == 0) = true := by simpa using hz
          have HT : Hid (jn ⟨#[32]⟩ (stN a b D 2).1 = tx) := htx
          have HLl : Hid ((stN a b D 2).2 = l) := hl
          clear hz est hE0 htx hl
          go_wp2_with fail
          go_roundw
          case rel => exact ⟨2 + 1, by go_num, by omega, by rw [est2.out, HT.out], by rw [est2.out, HLl.out], HB⟩
          case measure => simp [intOf]
        · have est2 : Hid (stN a b D (2 + 1) = ((stN a b D 2).1 ++ [unB D ⟨#[100, 97, 121]⟩ l], D)) := by show _ = _; rw [est]; unfold stW; rw [if_neg hz, hl]
          have z1 : (D == 0) = false := by simpa using hz
          have zu := unB_size D ⟨#[100, 97, 121]⟩ l (by decide) (by omega) (by omega)
          have c1 : ¬ 9223372036854775807 < tx.size + 1 := by omega
          have c2 : ¬ 9223372036854775807 < tx.size + (unB D ⟨#[100, 97, 121]⟩ l).size := by omega
          have c3 : ¬ 9223372036854775807 < tx.size + 1 + (unB D ⟨#[100, 97, 121]⟩ l).size := by omega
          have HT : Hid (jn ⟨#[32]⟩ (stN a b D 2).1 = tx) := htx
          clear hz est hl
          by_cases he : (stN a b D 2).1.length = 0
          · have hE : (tx.toList == []) = true := by rw [hE0]; exact decide_eq_true he
            have HV : Hid (tx ++ unB D ⟨#[100, 97, 121]⟩ l = jn ⟨#[32]⟩ ((stN a b D 2).1 ++ [unB D ⟨#[100, 97, 121]⟩ l])) := by (show _ = _; rw [jn_snoc, if_pos he, ← htx, List.eq_nil_of_length_eq_zero he, jn_nil, nil_app])
            clear hE0 htx he
            go_upto_region 11 with fail
            clear x0 x1 x2 y0 y1 y2
            refine wp_region_held_drew (S := BS w [(bs, [.string ⟨#[121, 101, 97, 114]⟩, .string ⟨#[109, 111, 110]⟩, .string ⟨#[100, 97, 121]⟩]), (bn, [.int .i64 a, .int .i64 b, .int .i64 D]), (w.heap.size, [.int .i64 0, .int .i64 M, .int .i64 D, .int .i64 U])]) (by kernel_rfl) HB.out.drew (fun hHeld => ?_)
            refine wpAnyH_take (i := 0) (v := ?_) (oi := { dst := some 31, op := _, type := _, pos := _, after := _, guard := none }) rfl (by kernel_rfl) (by kernel_rfl) (by kernel_rfl) (fun _ _ _ h => h) (Or.inl ⟨by kernel_rfl, ?_⟩) (by assumption) ?_
            case refine_2 => (intro w9 hSw; clear hSw; go_simp; try with_reducible rfl)
            simp only [Act.put, List.setIfInBounds_toArray, List.set_cons_zero, List.set_cons_succ]
            refine wpAnyH_take (i := 1) (v := ?_) (oi := { dst := some 32, op := _, type := _, pos := _, after := _, guard := none }) rfl (by kernel_rfl) (by kernel_rfl) (by kernel_rfl) (fun _ _ _ h => h) (Or.inl ⟨by kernel_rfl, ?_⟩) (by assumption) ?_
            case refine_2 => (intro w9 hSw; clear hSw; go_simp; try with_reducible rfl)
            simp only [Act.put, List.setIfInBounds_toArray, List.set_cons_zero, List.set_cons_succ]
            refine wpAnyH_take (i := 2) (v := ?_) (oi := { dst := some 33, op := _, type := _, pos := _, after := _, guard := none }) rfl (by kernel_rfl) (by kernel_rfl) (by kernel_rfl) (fun _ _ _ h => h) (Or.inl ⟨by kernel_rfl, ?_⟩) (by assumption) ?_
            case refine_2 => (intro w9 hSw; clear hSw; go_simp; try with_reducible rfl)
            simp only [Act.put, List.setIfInBounds_toArray, List.set_cons_zero, List.set_cons_succ]
            refine wpAnyH_take (i := 3) (v := ?_) (oi := { dst := some 34, op := _, type := _, pos := _, after := _, guard := none }) rfl (by kernel_rfl) (by kernel_rfl) (by kernel_rfl) (fun _ _ _ h => h) (Or.inl ⟨by kernel_rfl, ?_⟩) (by assumption) ?_
            case refine_2 => (intro w9 hSw; clear hSw; go_simp; try with_reducible rfl)
            simp only [Act.put, List.setIfInBounds_toArray, List.set_cons_zero, List.set_cons_succ]
            refine wpAnyH_take (i := 4) (v := ?_) (oi := { dst := some 35, op := _, type := _, pos := _, after := _, guard := none }) rfl (by kernel_rfl) (by kernel_rfl) (by kernel_rfl) (fun _ _ _ h => h) (Or.inl ⟨by kernel_rfl, ?_⟩) (by assumption) ?_
            case refine_2 => (intro w9 hSw; have l0 := (hSw.at bn [.int .i64 a, .int .i64 b, .int .i64 D] (by simp)).c 2 rfl; have l1 := (hSw.at bs [.string ⟨#[121, 101, 97, 114]⟩, .string ⟨#[109, 111, 110]⟩, .string ⟨#[100, 97, 121]⟩] (by simp)).c 2 rfl; clear hSw; go_simp; try with_reducible rfl)
            simp only [Act.put, List.setIfInBounds_toArray, List.set_cons_zero, List.set_cons_succ]
            refine wpAnyH_take (i := 5) (v := ?_) (oi := { dst := some 36, op := _, type := _, pos := _, after := _, guard := none }) rfl (by kernel_rfl) (by kernel_rfl) (by kernel_rfl) (fun _ _ _ h => h) (Or.inl ⟨by kernel_rfl, ?_⟩) (by assumption) ?_
            case refine_2 => (intro w9 hSw; clear hSw; go_simp; try with_reducible rfl)
            simp only [Act.put, List.setIfInBounds_toArray, List.set_cons_zero, List.set_cons_succ]
            refine wpAnyH_take (i := 6) (v := ?_) (oi := { dst := some 37, op := _, type := _, pos := _, after := _, guard := none }) rfl (by kernel_rfl) (by kernel_rfl) (by kernel_rfl) (fun _ _ _ h => h) (Or.inl ⟨by kernel_rfl, ?_⟩) (by assumption) ?_
            case refine_2 => (intro w9 hSw; clear hSw; go_simp; try with_reducible rfl)
            simp only [Act.put, List.setIfInBounds_toArray, List.set_cons_zero, List.set_cons_succ]
            refine wpAnyH_take (i := 7) (v := ?_) (oi := { dst := some 38, op := _, type := _, pos := _, after := _, guard := none }) rfl (by kernel_rfl) (by kernel_rfl) (by kernel_rfl) (fun _ _ _ h => h) (Or.inl ⟨by kernel_rfl, ?_⟩) (by assumption) ?_
            case refine_2 => (intro w9 hSw; clear hSw; go_simp; try with_reducible rfl)
            simp only [Act.put, List.setIfInBounds_toArray, List.set_cons_zero, List.set_cons_succ]
            refine wpAnyH_take (i := 8) (v := ?_) (oi := { dst := some 39, op := _, type := _, pos := _, after := _, guard := none }) rfl (by kernel_rfl) (by kernel_rfl) (by kernel_rfl) (fun _ _ _ h => h) (Or.inl ⟨by kernel_rfl, ?_⟩) (by assumption) ?_
            case refine_2 => (intro w9 hSw; have l0 := (hSw.at bn [.int .i64 a, .int .i64 b, .int .i64 D] (by simp)).c 2 rfl; have l1 := (hSw.at bs [.string ⟨#[121, 101, 97, 114]⟩, .string ⟨#[109, 111, 110]⟩, .string ⟨#[100, 97, 121]⟩] (by simp)).c 2 rfl; clear hSw; go_simp; try with_reducible rfl)
            simp only [Act.put, List.setIfInBounds_toArray, List.set_cons_zero, List.set_cons_succ]
            refine wpAnyH_take (i := 9) (v := ?_) (oi := { dst := some 40, op := _, type := _, pos := _, after := _, guard := none }) rfl (by kernel_rfl) (by kernel_rfl) (by kernel_rfl) (fun _ _ _ h => h) (Or.inl ⟨by kernel_rfl, ?_⟩) (by assumption) ?_
            case refine_2 => (intro w9 hSw; clear hSw; go_simp; try with_reducible rfl)
            simp only [Act.put, List.setIfInBounds_toArray, List.set_cons_zero, List.set_cons_succ]
            refine wpAnyH_ready (rs := [10]) (by kernel_rfl) (by simp) (AllReadyH.cons (o := { dst := some 41, op := _, type := _, pos := _, after := _, guard := none }) rfl (fun K hK => ?_) AllReadyH.nil)
            go_simp
            refine (un_ref D ⟨#[100, 97, 121]⟩ l (by decide) (by omega) (by omega) _).mono ?_
            rintro e v1 ⟨rfl, hb1⟩
            refine hK.out _ _ (hHeld.below hb1) (fun hHeld => ?_)
            clear hK K hb1
            refine wpAnyH_take (i := 11) (v := ?_) (oi := { dst := some 42, op := _, type := _, pos := _, after := _, guard := none }) rfl (by kernel_rfl) (by kernel_rfl) (by kernel_rfl) (fun _ _ _ h => h) (Or.inl ⟨by kernel_rfl, ?_⟩) (by assumption) ?_
            case refine_2 => (intro w9 hSw; clear hSw; go_simp; try with_reducible rfl)
            simp only [Act.put, List.setIfInBounds_toArray, List.set_cons_zero, List.set_cons_succ]
            refine wpAnyH_take (i := 12) (v := ?_) (oi := { dst := some 5, op := _, type := _, pos := _, after := _, guard := none }) rfl (by kernel_rfl) (by kernel_rfl) (by kernel_rfl) (fun _ _ _ h => h) (Or.inl ⟨by kernel_rfl, ?_⟩) (by assumption) ?_
            case refine_2 => (intro w9 hSw; clear hSw; go_simp; try with_reducible rfl)
            simp only [Act.put, List.setIfInBounds_toArray, List.set_cons_zero, List.set_cons_succ]
            refine wpAnyH_done (by kernel_rfl) ?_ _
            have HB9 : Hid (BS w [(bs, [.string ⟨#[121, 101, 97, 114]⟩, .string ⟨#[109, 111, 110]⟩, .string ⟨#[100, 97, 121]⟩]), (bn, [.int .i64 a, .int .i64 b, .int .i64 D]), (w.heap.size, [.int .i64 0, .int .i64 M, .int .i64 D, .int .i64 U])] _) := hHeld
            clear hHeld
            obtain ⟨x0, x1, x2⟩ := (bo2 HB9).c3
            go_wp2_with fail
            go_roundw
            case rel => exact ⟨2 + 1, by go_num, by omega, by rw [est2.out, ← HV.out], by rw [est2.out], HB9⟩
            case measure => simp [intOf]
          · have hE : (tx.toList == []) = false := by rw [hE0]; exact decide_eq_false he
            have HV : Hid (tx ++ ⟨#[32]⟩ ++ unB D ⟨#[100, 97, 121]⟩ l = jn ⟨#[32]⟩ ((stN a b D 2).1 ++ [unB D ⟨#[100, 97, 121]⟩ l])) := by (show _ = _; rw [jn_snoc, if_neg he, ← htx])
            clear hE0 htx he
            go_upto_region 11 with fail
            clear x0 x1 x2 y0 y1 y2
            refine wp_region_held_drew (S := BS w [(bs, [.string ⟨#[121, 101, 97, 114]⟩, .string ⟨#[109, 111, 110]⟩, .string ⟨#[100, 97, 121]⟩]), (bn, [.int .i64 a, .int .i64 b, .int .i64 D]), (w.heap.size, [.int .i64 0, .int .i64 M, .int .i64 D, .int .i64 U])]) (by kernel_rfl) HB.out.drew (fun hHeld => ?_)
            refine wpAnyH_take (i := 0) (v := ?_) (oi := { dst := some 31, op := _, type := _, pos := _, after := _, guard := none }) rfl (by kernel_rfl) (by kernel_rfl) (by kernel_rfl) (fun _ _ _ h => h) (Or.inl ⟨by kernel_rfl, ?_⟩) (by assumption) ?_
            case refine_2 => (intro w9 hSw; clear hSw; go_simp; try with_reducible rfl)
            simp only [Act.put, List.setIfInBounds_toArray, List.set_cons_zero, List.set_cons_succ]
            refine wpAnyH_take (i := 1) (v := ?_) (oi := { dst := some 32, op := _, type := _, pos := _, after := _, guard := none }) rfl (by kernel_rfl) (by kernel_rfl) (by kernel_rfl) (fun _ _ _ h => h) (Or.inl ⟨by kernel_rfl, ?_⟩) (by assumption) ?_
            case refine_2 => (intro w9 hSw; clear hSw; go_simp; try with_reducible rfl)
            simp only [Act.put, List.setIfInBounds_toArray, List.set_cons_zero, List.set_cons_succ]
            refine wpAnyH_take (i := 2) (v := ?_) (oi := { dst := some 33, op := _, type := _, pos := _, after := _, guard := none }) rfl (by kernel_rfl) (by kernel_rfl) (by kernel_rfl) (fun _ _ _ h => h) (Or.inl ⟨by kernel_rfl, ?_⟩) (by assumption) ?_
            case refine_2 => (intro w9 hSw; clear hSw; go_simp; try with_reducible rfl)
            simp only [Act.put, List.setIfInBounds_toArray, List.set_cons_zero, List.set_cons_succ]
            refine wpAnyH_take (i := 3) (v := ?_) (oi := { dst := some 34, op := _, type := _, pos := _, after := _, guard := none }) rfl (by kernel_rfl) (by kernel_rfl) (by kernel_rfl) (fun _ _ _ h => h) (Or.inl ⟨by kernel_rfl, ?_⟩) (by assumption) ?_
            case refine_2 => (intro w9 hSw; clear hSw; go_simp; try with_reducible rfl)
            simp only [Act.put, List.setIfInBounds_toArray, List.set_cons_zero, List.set_cons_succ]
            refine wpAnyH_take (i := 4) (v := ?_) (oi := { dst := some 35, op := _, type := _, pos := _, after := _, guard := none }) rfl (by kernel_rfl) (by kernel_rfl) (by kernel_rfl) (fun _ _ _ h => h) (Or.inl ⟨by kernel_rfl, ?_⟩) (by assumption) ?_
            case refine_2 => (intro w9 hSw; have l0 := (hSw.at bn [.int .i64 a, .int .i64 b, .int .i64 D] (by simp)).c 2 rfl; have l1 := (hSw.at bs [.string ⟨#[121, 101, 97, 114]⟩, .string ⟨#[109, 111, 110]⟩, .string ⟨#[100, 97, 121]⟩] (by simp)).c 2 rfl; clear hSw; go_simp; try with_reducible rfl)
            simp only [Act.put, List.setIfInBounds_toArray, List.set_cons_zero, List.set_cons_succ]
            refine wpAnyH_take (i := 5) (v := ?_) (oi := { dst := some 36, op := _, type := _, pos := _, after := _, guard := none }) rfl (by kernel_rfl) (by kernel_rfl) (by kernel_rfl) (fun _ _ _ h => h) (Or.inl ⟨by kernel_rfl, ?_⟩) (by assumption) ?_
            case refine_2 => (intro w9 hSw; clear hSw; go_simp; try with_reducible rfl)
            simp only [Act.put, List.setIfInBounds_toArray, List.set_cons_zero, List.set_cons_succ]
            refine wpAnyH_take (i := 6) (v := ?_) (oi := { dst := some 37, op := _, type := _, pos := _, after := _, guard := none }) rfl (by kernel_rfl) (by kernel_rfl) (by kernel_rfl) (fun _ _ _ h => h) (Or.inl ⟨by kernel_rfl, ?_⟩) (by assumption) ?_
            case refine_2 => (intro w9 hSw; clear hSw; go_simp; try with_reducible rfl)
            simp only [Act.put, List.setIfInBounds_toArray, List.set_cons_zero, List.set_cons_succ]
            refine wpAnyH_take (i := 7) (v := ?_) (oi := { dst := some 38, op := _, type := _, pos := _, after := _, guard := none }) rfl (by kernel_rfl) (by kernel_rfl) (by kernel_rfl) (fun _ _ _ h => h) (Or.inl ⟨by kernel_rfl, ?_⟩) (by assumption) ?_
            case refine_2 => (intro w9 hSw; clear hSw; go_simp; try with_reducible rfl)
            simp only [Act.put, List.setIfInBounds_toArray, List.set_cons_zero, List.set_cons_succ]
            refine wpAnyH_take (i := 8) (v := ?_) (oi := { dst := some 39, op := _, type := _, pos := _, after := _, guard := none }) rfl (by kernel_rfl) (by kernel_rfl) (by kernel_rfl) (fun _ _ _ h => h) (Or.inl ⟨by kernel_rfl, ?_⟩) (by assumption) ?_
            case refine_2 => (intro w9 hSw; have l0 := (hSw.at bn [.int .i64 a, .int .i64 b, .int .i64 D] (by simp)).c 2 rfl; have l1 := (hSw.at bs [.string ⟨#[121, 101, 97, 114]⟩, .string ⟨#[109, 111, 110]⟩, .string ⟨#[100, 97, 121]⟩] (by simp)).c 2 rfl; clear hSw; go_simp; try with_reducible rfl)
            simp only [Act.put, List.setIfInBounds_toArray, List.set_cons_zero, List.set_cons_succ]
            refine wpAnyH_take (i := 9) (v := ?_) (oi := { dst := some 40, op := _, type := _, pos := _, after := _, guard := none }) rfl (by kernel_rfl) (by kernel_rfl) (by kernel_rfl) (fun _ _ _ h => h) (Or.inl ⟨by kernel_rfl, ?_⟩) (by assumption) ?_
            case refine_2 => (intro w9 hSw; clear hSw; go_simp; try with_reducible rfl)
            simp only [Act.put, List.setIfInBounds_toArray, List.set_cons_zero, List.set_cons_succ]
            refine wpAnyH_ready (rs := [10]) (by kernel_rfl) (by simp) (AllReadyH.cons (o := { dst := some 41, op := _, type := _, pos := _, after := _, guard := none }) rfl (fun K hK => ?_) AllReadyH.nil)
            go_simp
            refine (un_ref D ⟨#[100, 97, 121]⟩ l (by decide) (by omega) (by omega) _).mono ?_
            rintro e v1 ⟨rfl, hb1⟩
            refine hK.out _ _ (hHeld.below hb1) (fun hHeld => ?_)
            clear hK K hb1
            refine wpAnyH_take (i := 11) (v := ?_) (oi := { dst := some 42, op := _, type := _, pos := _, after := _, guard := none }) rfl (by kernel_rfl) (by kernel_rfl) (by kernel_rfl) (fun _ _ _ h => h) (Or.inl ⟨by kernel_rfl, ?_⟩) (by assumption) ?_
            case refine_2 => (intro w9 hSw; clear hSw; go_simp; try with_reducible rfl)
            simp only [Act.put, List.setIfInBounds_toArray, List.set_cons_zero, List.set_cons_succ]
            refine wpAnyH_take (i := 12) (v := ?_) (oi := { dst := some 5, op := _, type := _, pos := _, after := _, guard := none }) rfl (by kernel_rfl) (by kernel_rfl) (by kernel_rfl) (fun _ _ _ h => h) (Or.inl ⟨by kernel_rfl, ?_⟩) (by assumption) ?_
            case refine_2 => (intro w9 hSw; clear hSw; go_simp; try with_reducible rfl)
            simp only [Act.put, List.setIfInBounds_toArray, List.set_cons_zero, List.set_cons_succ]
            refine wpAnyH_done (by kernel_rfl) ?_ _
            have HB9 : Hid (BS w [(bs, [.string ⟨#[121, 101, 97, 114]⟩, .string ⟨#[109, 111, 110]⟩, .string ⟨#[100, 97, 121]⟩]), (bn, [.int .i64 a, .int .i64 b, .int .i64 D]), (w.heap.size, [.int .i64 0, .int .i64 M, .int .i64 D, .int .i64 U])] _) := hHeld
            clear hHeld
            obtain ⟨x0, x1, x2⟩ := (bo2 HB9).c3
            go_wp2_with fail
            go_roundw
            case rel => exact ⟨2 + 1, by go_num, by omega, by rw [est2.out, ← HV.out], by rw [est2.out], HB9⟩
            case measure => simp [intOf]
    · have hlt' : ¬ (i : Int) < 3 := by omega
      obtain rfl : i = 3 := by omega
      obtain ⟨c0, c1, c2, c3⟩ := (bo3 HB).c4
      have zl := long_size U U1 U9
      have HT : Hid (jn ⟨#[32]⟩ (stN a b D 3).1 = tx) := htx
      have HLl : Hid ((stN a b D 3).2 = l) := hl
      clear htx hl
      have he : (stN a b D 3).1.length = 0 := HW.out
      · have hE : (tx.toList == []) = true := by rw [hE0]; exact decide_eq_true he
        clear hE0
        have d1 : ¬ 9223372036854775807 < tx.size + 1 := by omega
        have d2 : ¬ 9223372036854775807 < tx.size + (Clk.longB U).size := by omega
        have d3 : ¬ 9223372036854775807 < tx.size + 1 + (Clk.longB U).size := by omega
        have d4 : ¬ 9223372036854775807 < tx.size + 1 + 1 := by omega
        have d5 : ¬ 9223372036854775807 < tx.size + 1 + 1 + (Clk.longB U).size := by omega
        by_cases hp : l < 0
        · by_cases hg : 0 < U
          · go_wp2_with fail
            refine (Clk.elong_any U U1 U9 _).mono ?_
            rintro e wf ⟨rfl, hbf⟩
            have HF : Hid (Below w.heap.size w wf) := HB.out.1.trans (hbf.mono HB.out.1.size)
            clear hbf
            go_wp2_with fail
            go_ret
            exact ⟨Clk.ret_str (by (rw [jn_snoc, if_pos he, HLl.out]; have htx := HT.out; rw [List.eq_nil_of_length_eq_zero he, jn_nil] at htx; subst htx; unfold tmB trn; rw [if_pos ⟨hp, hg⟩]; try (first | rfl | (apply ByteArray.ext; simp)))), HF.out⟩
          · go_wp2_with fail
            refine (Clk.elong_any U U1 U9 _).mono ?_
            rintro e wf ⟨rfl, hbf⟩
            have HF : Hid (Below w.heap.size w wf) := HB.out.1.trans (hbf.mono HB.out.1.size)
            clear hbf
            go_wp2_with fail
            go_ret
            exact ⟨Clk.ret_str (by (rw [jn_snoc, if_pos he, HLl.out]; have htx := HT.out; rw [List.eq_nil_of_length_eq_zero he, jn_nil] at htx; subst htx; unfold tmB trn; rw [if_neg (fun q => by have := q.2; omega)]; try (first | rfl | (apply ByteArray.ext; simp)))), HF.out⟩
        · go_wp2_with fail
          refine (Clk.elong_any U U1 U9 _).mono ?_
          rintro e wf ⟨rfl, hbf⟩
          have HF : Hid (Below w.heap.size w wf) := HB.out.1.trans (hbf.mono HB.out.1.size)
          clear hbf
          go_wp2_with fail
          go_ret
          exact ⟨Clk.ret_str (by (rw [jn_snoc, if_pos he, HLl.out]; have htx := HT.out; rw [List.eq_nil_of_length_eq_zero he, jn_nil] at htx; subst htx; unfold tmB trn; rw [if_neg (fun q => by have := q.1; omega)]; try (first | rfl | (apply ByteArray.ext; simp)))), HF.out⟩


end Go.Proofs.YtmohhbgmbicklaaDoor
