import Derived.Test.YtcmefhnfdcngfaaDoorO38
/- KindOne, where the operations and the numbers of kinds are the same. -/
namespace Go.Proofs.YtcmefhnfdcngfaaDoor
open Go.RowKit
set_option linter.unusedVariables false

set_option maxRecDepth 100000 in
set_option maxHeartbeats 4000000 in
theorem one_args {i j : Nat} {O : ByteArray} {A A2 : List Int} {T T2 : Int} (hx : rtb[i]? = some (O, A, T)) (hy : rtb[j]? = some (O, A2, T2)) (hij : i ≠ j) (hL : A.length = A2.length) (RT : Hid (∀ V : World, Calls Tryd.prog 15 #[] V fun e w' => e = .returned (.slice (some ⟨V.heap.size + 90, 0, none⟩) 90 90) ∧ TB V w')) (w : World) (hG : G23 w) :
    Calls Tryd.prog 4 #[.int .i64 (i : Int), .int .i64 (j : Int)] w fun e w' => e = .returned (.bool true) ∧ Below w.heap.size w w' := by
  have hAA : Hid (A ≠ A2) := rtb_apart hx hy hij rfl
  have hi := (List.getElem?_eq_some_iff.1 hx).1
  have hj := (List.getElem?_eq_some_iff.1 hy).1
  rw [rtb_len] at hi hj
  have hiI : (i : Int) < 90 := by omega
  have hjI : (j : Int) < 90 := by omega
  have hi0 : (0 : Int) ≤ (i : Int) := by omega
  have hj0 : (0 : Int) ≤ (j : Int) := by omega
  have hijI : ((i : Int) == (j : Int)) = false := by simp; omega
  obtain ⟨hfin, hA1, hA2⟩ := rtb_got hx
  simp only at hfin hA1 hA2
  have HFi : Hid (∀ V : World, TB w V → Calls Tryd.prog 6 #[.string O, .slice (some ⟨w.heap.size + i, 0, none⟩) A.length A.length] V fun e w' => e = .returned (.tuple #[.int .i64 T, .bool (decide (O = srs)), .bool true]) ∧ Below V.heap.size V w') := fun V hV => by
    have q := find_any O A (.slice (some ⟨w.heap.size + i, 0, none⟩) A.length A.length) V (hG.below hV.low).2 ⟨_, _, rfl, Nat.le_refl _, by unfold maxLen; omega, fun m k hk => ⟨_, _, rfl, by have := hV.hi; omega, by rw [Nat.zero_add]; exact (hV.tab i _ hx).2.2.2 m k hk⟩⟩
    rw [hfin] at q
    exact q
  clear hfin
  have HG : Hid (G23 w) := hG
  clear hG
  go_enter Tryd.func4, Tryd.ntmps4
  go_wp2_with fail
  refine (RT.out w).mono ?_
  rintro e W ⟨rfl, hT⟩
  have HT : Hid (TB w W) := hT
  clear hT RT
  obtain ⟨y0, y1, -, -⟩ := HT.out.tab i _ hx
  obtain ⟨z0, z1, -, -⟩ := HT.out.tab j _ hy
  have hh := HT.out.hi
  simp only at y0 y1 z0 z1
  have g0 : ((A.length : Int) == (A2.length : Int)) = true := by simp; omega
  have HL : Hid (A.length = A2.length) := hL
  have hA1I : (A.length : Int) ≤ 4 := by omega
  have hB1I : (A2.length : Int) ≤ 4 := by omega
  have hB0I : (0 : Int) ≤ (A2.length : Int) := by omega
  clear hL
  go_wp2_with fail
  go_quiet (fail)
  refine gen_exK (TB w) (tb_drewN HT.out nq) ?_
  intro W3 hT3
  have HT3 : Hid (TB w W3) := hT3
  clear hT3
  clear HT y0 y1 z0 z1 hh
  go_wp2_with fail
  go_loopw [6, 7] (fun u v V => ∃ (m : Nat), u = .bool (decide (A.take m = A2.take m)) ∧ v = .int .i64 (m : Int) ∧ m ≤ A.length ∧ Hid (TB w V)) (fun _ v _ => A.length - (intOf v).toNat)
  case atStart => exact ⟨0, by simp, rfl, Nat.zero_le _, HT3⟩
  case round =>
    obtain ⟨m, rfl, rfl, hm, KT⟩ := hrel
    clear HT3
    obtain ⟨-, y1, -, y3⟩ := KT.out.tab i _ hx
    obtain ⟨-, z1, -, z3⟩ := KT.out.tab j _ hy
    have hh := KT.out.hi
    simp only at y1 y3 z1 z3
    have hm0 : (0 : Int) ≤ (m : Int) := by omega
    by_cases hml : m < A.length
    · have hmI : (m : Int) < (A.length : Int) := by omega
      have hmJ : (m : Int) < (A2.length : Int) := by have := HL.out; omega
      have hb1 : w.heap.size + i < wr.heap.size := by omega
      have hb2 : w.heap.size + j < wr.heap.size := by omega
      have v0 := y3 m _ (List.getElem?_eq_getElem hml)
      have v1 := z3 m _ (List.getElem?_eq_getElem (show m < A2.length by have := HL.out; omega))
      obtain ⟨X, hX⟩ : ∃ X, A[m] = X := ⟨_, rfl⟩
      obtain ⟨Y, hY⟩ : ∃ Y, A2[m]'(by have := HL.out; omega) = Y := ⟨_, rfl⟩
      rw [hX] at v0
      rw [hY] at v1
      have ht : A.take (m + 1) = A.take m ++ [X] := by rw [List.take_add_one, List.getElem?_eq_getElem hml, hX]; rfl
      have hs : A2.take (m + 1) = A2.take m ++ [Y] := by rw [List.take_add_one, List.getElem?_eq_getElem (by have := HL.out; omega), hY]; rfl
      have hlt : (A.take m).length = (A2.take m).length := by rw [List.length_take, List.length_take, HL.out]
      by_cases hpre : A.take m = A2.take m
      · rw [decide_eq_true hpre]
        by_cases hXY : X = Y
        · have hE : decide (A.take (m + 1) = A2.take (m + 1)) = true := decide_eq_true (by rw [ht, hs, hpre, hXY])
          subst hXY
          have HE : Hid _ := hE
          clear hE hX hY ht hs hlt hpre y3 z3
          go_wp2_with fail
          go_quiet (fail)
          refine gen_exK (TB w) (tb_drewN KT.out nq) ?_
          intro V4 hV4
          go_wp2
          exact ⟨⟨m + 1, by rw [HE.out], by simp, by omega, hV4⟩, by simp [intOf]; omega⟩
        · have hE : decide (A.take (m + 1) = A2.take (m + 1)) = false := decide_eq_false (by rw [ht, hs]; intro e; exact hXY (by have := (List.append_inj e hlt).2; simpa using this))
          have HE : Hid _ := hE
          have g1 : (X == Y) = false := by simpa using hXY
          clear hE hX hY ht hs hlt hpre y3 z3
          go_wp2_with fail
          go_quiet (fail)
          refine gen_exK (TB w) (tb_drewN KT.out nq) ?_
          intro V4 hV4
          go_wp2
          exact ⟨⟨m + 1, by rw [HE.out], by simp, by omega, hV4⟩, by simp [intOf]; omega⟩
      · rw [decide_eq_false hpre]
        have hE : decide (A.take (m + 1) = A2.take (m + 1)) = false := decide_eq_false (by rw [ht, hs]; intro e; exact hpre (List.append_inj e hlt).1)
        have HE : Hid _ := hE
        clear hE hX hY ht hs hlt hpre y3 z3
        go_wp2_with fail
        go_quiet (fail)
        refine gen_exK (TB w) (tb_drewN KT.out nq) ?_
        intro V4 hV4
        go_wp2
        exact ⟨⟨m + 1, by rw [HE.out], by simp, by omega, hV4⟩, by simp [intOf]; omega⟩
    · obtain rfl : m = A.length := by omega
      have hmI : ¬ (A.length : Int) < (A.length : Int) := by omega
      have hE : decide (A.take A.length = A2.take A.length) = false := decide_eq_false (by rw [List.take_length, HL.out, List.take_length]; exact hAA.out)
      rw [hE]
      clear hE y3 z3 z1
      go_upto_region 12 with fail
      refine wp_region_held_drew (S := TB w) (by kernel_rfl) (tb_drew KT.out) (fun hHeld => ?_)
      refine wpAnyH_take (i := 0) (v := ?_) (oi := { dst := some 94, op := _, type := _, pos := _, after := _, guard := none }) rfl (by kernel_rfl) (by kernel_rfl) (by kernel_rfl) (fun _ _ _ h => h) (Or.inl ⟨by kernel_rfl, ?_⟩) (by assumption) ?_
      case refine_2 => (intro w9 hSw; clear hSw; go_simp; try with_reducible rfl)
      simp only [Act.put, List.setIfInBounds_toArray, List.set_cons_zero, List.set_cons_succ]
      refine wpAnyH_take (i := 1) (v := ?_) (oi := { dst := some 95, op := _, type := _, pos := _, after := _, guard := none }) rfl (by kernel_rfl) (by kernel_rfl) (by kernel_rfl) (fun _ _ _ h => h) (Or.inl ⟨by kernel_rfl, ?_⟩) (by assumption) ?_
      case refine_2 => (intro w9 hSw; clear hSw; go_simp; try with_reducible rfl)
      simp only [Act.put, List.setIfInBounds_toArray, List.set_cons_zero, List.set_cons_succ]
      refine wpAnyH_take (i := 2) (v := ?_) (oi := { dst := some 96, op := _, type := _, pos := _, after := _, guard := none }) rfl (by kernel_rfl) (by kernel_rfl) (by kernel_rfl) (fun _ _ _ h => h) (Or.inl ⟨by kernel_rfl, ?_⟩) (by assumption) ?_
      case refine_2 => (intro w9 hSw; clear hSw; go_simp; try with_reducible rfl)
      simp only [Act.put, List.setIfInBounds_toArray, List.set_cons_zero, List.set_cons_succ]
      refine wpAnyH_take (i := 3) (v := ?_) (oi := { dst := some 97, op := _, type := _, pos := _, after := _, guard := none }) rfl (by kernel_rfl) (by kernel_rfl) (by kernel_rfl) (fun _ _ _ h => h) (Or.inl ⟨by kernel_rfl, ?_⟩) (by assumption) ?_
      case refine_2 => (intro w9 hSw; clear hSw; go_simp; try with_reducible rfl)
      simp only [Act.put, List.setIfInBounds_toArray, List.set_cons_zero, List.set_cons_succ]
      refine wpAnyH_take (i := 4) (v := ?_) (oi := { dst := some 98, op := _, type := _, pos := _, after := _, guard := none }) rfl (by kernel_rfl) (by kernel_rfl) (by kernel_rfl) (fun _ _ _ h => h) (Or.inl ⟨by kernel_rfl, ?_⟩) (by assumption) ?_
      case refine_2 => (intro w9 hSw; obtain ⟨m0, m1, -, -⟩ := hSw.tab i _ hx; have mh := hSw.hi; simp only at m0 m1; clear hSw; go_simp; try with_reducible rfl)
      simp only [Act.put, List.setIfInBounds_toArray, List.set_cons_zero, List.set_cons_succ]
      refine wpAnyH_take (i := 5) (v := ?_) (oi := { dst := some 99, op := _, type := _, pos := _, after := _, guard := none }) rfl (by kernel_rfl) (by kernel_rfl) (by kernel_rfl) (fun _ _ _ h => h) (Or.inl ⟨by kernel_rfl, ?_⟩) (by assumption) ?_
      case refine_2 => (intro w9 hSw; clear hSw; go_simp; try with_reducible rfl)
      simp only [Act.put, List.setIfInBounds_toArray, List.set_cons_zero, List.set_cons_succ]
      refine wpAnyH_take (i := 6) (v := ?_) (oi := { dst := some 100, op := _, type := _, pos := _, after := _, guard := none }) rfl (by kernel_rfl) (by kernel_rfl) (by kernel_rfl) (fun _ _ _ h => h) (Or.inl ⟨by kernel_rfl, ?_⟩) (by assumption) ?_
      case refine_2 => (intro w9 hSw; clear hSw; go_simp; try with_reducible rfl)
      simp only [Act.put, List.setIfInBounds_toArray, List.set_cons_zero, List.set_cons_succ]
      refine wpAnyH_take (i := 7) (v := ?_) (oi := { dst := some 101, op := _, type := _, pos := _, after := _, guard := none }) rfl (by kernel_rfl) (by kernel_rfl) (by kernel_rfl) (fun _ _ _ h => h) (Or.inl ⟨by kernel_rfl, ?_⟩) (by assumption) ?_
      case refine_2 => (intro w9 hSw; clear hSw; go_simp; try with_reducible rfl)
      simp only [Act.put, List.setIfInBounds_toArray, List.set_cons_zero, List.set_cons_succ]
      refine wpAnyH_take (i := 8) (v := ?_) (oi := { dst := some 102, op := _, type := _, pos := _, after := _, guard := none }) rfl (by kernel_rfl) (by kernel_rfl) (by kernel_rfl) (fun _ _ _ h => h) (Or.inl ⟨by kernel_rfl, ?_⟩) (by assumption) ?_
      case refine_2 => (intro w9 hSw; clear hSw; go_simp; try with_reducible rfl)
      simp only [Act.put, List.setIfInBounds_toArray, List.set_cons_zero, List.set_cons_succ]
      refine wpAnyH_take (i := 9) (v := ?_) (oi := { dst := some 103, op := _, type := _, pos := _, after := _, guard := none }) rfl (by kernel_rfl) (by kernel_rfl) (by kernel_rfl) (fun _ _ _ h => h) (Or.inl ⟨by kernel_rfl, ?_⟩) (by assumption) ?_
      case refine_2 => (intro w9 hSw; obtain ⟨m0, m1, -, -⟩ := hSw.tab i _ hx; have mh := hSw.hi; simp only at m0 m1; clear hSw; go_simp; try with_reducible rfl)
      simp only [Act.put, List.setIfInBounds_toArray, List.set_cons_zero, List.set_cons_succ]
      refine wpAnyH_ready (rs := [10]) (by kernel_rfl) (by simp) (AllReadyH.cons (o := { dst := some 104, op := _, type := _, pos := _, after := _, guard := none }) rfl (fun K hK => ?_) AllReadyH.nil)
      go_simp
      refine (HFi.out _ hHeld).mono ?_
      rintro e v1 ⟨rfl, hb1⟩
      refine hK.out _ _ (hHeld.below hb1) (fun hHeld => ?_)
      clear hK K hb1
      refine wpAnyH_take (i := 11) (v := ?_) (oi := { dst := some 93, op := _, type := _, pos := _, after := _, guard := none }) rfl (by kernel_rfl) (by kernel_rfl) (by kernel_rfl) (fun _ _ _ h => h) (Or.inl ⟨by kernel_rfl, ?_⟩) (by assumption) ?_
      case refine_2 => (intro w9 hSw; clear hSw; go_simp; try with_reducible rfl)
      simp only [Act.put, List.setIfInBounds_toArray, List.set_cons_zero, List.set_cons_succ]
      refine wpAnyH_take (i := 12) (v := ?_) (oi := { dst := some 105, op := _, type := _, pos := _, after := _, guard := none }) rfl (by kernel_rfl) (by kernel_rfl) (by kernel_rfl) (fun _ _ _ h => h) (Or.inl ⟨by kernel_rfl, ?_⟩) (by assumption) ?_
      case refine_2 => (intro w9 hSw; clear hSw; go_simp; try with_reducible rfl)
      simp only [Act.put, List.setIfInBounds_toArray, List.set_cons_zero, List.set_cons_succ]
      refine wpAnyH_take (i := 13) (v := ?_) (oi := { dst := some 106, op := _, type := _, pos := _, after := _, guard := none }) rfl (by kernel_rfl) (by kernel_rfl) (by kernel_rfl) (fun _ _ _ h => h) (Or.inl ⟨by kernel_rfl, ?_⟩) (by assumption) ?_
      case refine_2 => (intro w9 hSw; clear hSw; go_simp; try with_reducible rfl)
      simp only [Act.put, List.setIfInBounds_toArray, List.set_cons_zero, List.set_cons_succ]
      refine wpAnyH_take (i := 14) (v := ?_) (oi := { dst := some 107, op := _, type := _, pos := _, after := _, guard := none }) rfl (by kernel_rfl) (by kernel_rfl) (by kernel_rfl) (fun _ _ _ h => h) (Or.inl ⟨by kernel_rfl, ?_⟩) (by assumption) ?_
      case refine_2 => (intro w9 hSw; clear hSw; go_simp; try with_reducible rfl)
      simp only [Act.put, List.setIfInBounds_toArray, List.set_cons_zero, List.set_cons_succ]
      refine wpAnyH_take (i := 15) (v := ?_) (oi := { dst := some 8, op := _, type := _, pos := _, after := _, guard := none }) rfl (by kernel_rfl) (by kernel_rfl) (by kernel_rfl) (fun _ _ _ h => h) (Or.inl ⟨by kernel_rfl, ?_⟩) (by assumption) ?_
      case refine_2 => (intro w9 hSw; clear hSw; go_simp; try with_reducible rfl)
      simp only [Act.put, List.setIfInBounds_toArray, List.set_cons_zero, List.set_cons_succ]
      refine wpAnyH_take (i := 16) (v := ?_) (oi := { dst := some 9, op := _, type := _, pos := _, after := _, guard := none }) rfl (by kernel_rfl) (by kernel_rfl) (by kernel_rfl) (fun _ _ _ h => h) (Or.inl ⟨by kernel_rfl, ?_⟩) (by assumption) ?_
      case refine_2 => (intro w9 hSw; clear hSw; go_simp; try with_reducible rfl)
      simp only [Act.put, List.setIfInBounds_toArray, List.set_cons_zero, List.set_cons_succ]
      refine wpAnyH_take (i := 17) (v := ?_) (oi := { dst := some 10, op := _, type := _, pos := _, after := _, guard := none }) rfl (by kernel_rfl) (by kernel_rfl) (by kernel_rfl) (fun _ _ _ h => h) (Or.inl ⟨by kernel_rfl, ?_⟩) (by assumption) ?_
      case refine_2 => (intro w9 hSw; clear hSw; go_simp; try with_reducible rfl)
      simp only [Act.put, List.setIfInBounds_toArray, List.set_cons_zero, List.set_cons_succ]
      refine wpAnyH_done (by kernel_rfl) ?_ _
      have HT5 : Hid (TB w _) := hHeld
      clear hHeld
      obtain ⟨-, -, n2, -⟩ := HT5.out.tab i _ hx
      have nh := HT5.out.hi
      simp only at n2
      go_wp2_with fail
      refine (known23_any _ (HG.out.below HT5.out.low)).mono ?_
      rintro e U ⟨rfl, hb⟩
      have HF : Hid (Below w.heap.size w U) := HT5.out.low.trans (hb.mono HT5.out.low.size)
      clear hb HT5
      go_wp2
      go_ret
      exact ⟨rfl, HF.out⟩

end Go.Proofs.YtcmefhnfdcngfaaDoor
/- KindOne of any two numbers, over the reference's Table. -/
namespace Go.Proofs.YtcmefhnfdcngfaaDoor
open Go.RowKit
set_option linter.unusedVariables false

theorem one_any (a b : Int) (RT : Hid (∀ V : World, Calls Tryd.prog 15 #[] V fun e w' => e = .returned (.slice (some ⟨V.heap.size + 90, 0, none⟩) 90 90) ∧ TB V w')) (w : World) (hG : G23 w) :
    Calls Tryd.prog 4 #[.int .i64 a, .int .i64 b] w fun e w' => e = .returned (.bool true) ∧ Below w.heap.size w w' := by
  by_cases h1 : a < 0
  · exact one_o1 a b h1 RT w hG
  by_cases h2 : b < 0
  · exact one_o2 a b h1 h2 RT w hG
  by_cases h3 : 90 ≤ a
  · exact one_o3 a b h1 h2 h3 RT w hG
  by_cases h4 : 90 ≤ b
  · exact one_o4 a b h1 h2 h3 h4 RT w hG
  by_cases h5 : a = b
  · subst h5
    exact one_o5 a h1 h3 RT w hG
  obtain ⟨i, rfl⟩ : ∃ i : Nat, a = (i : Int) := ⟨a.toNat, by omega⟩
  obtain ⟨j, rfl⟩ : ∃ j : Nat, b = (j : Int) := ⟨b.toNat, by omega⟩
  have hij : i ≠ j := fun e => h5 (by rw [e])
  obtain ⟨⟨O, A, T⟩, hx⟩ : ∃ x, rtb[i]? = some x := ⟨_, List.getElem?_eq_getElem (by rw [rtb_len]; omega)⟩
  obtain ⟨⟨O2, A2, T2⟩, hy⟩ : ∃ x, rtb[j]? = some x := ⟨_, List.getElem?_eq_getElem (by rw [rtb_len]; omega)⟩
  by_cases hO : O = O2
  · subst hO
    by_cases hL : A.length = A2.length
    · exact one_args hx hy hij hL RT w hG
    · exact one_len hx hy hij hL RT w hG
  · exact one_ops hx hy hij hO RT w hG

end Go.Proofs.YtcmefhnfdcngfaaDoor
