/- Contract of the reference's Read of a decimal: whatever text it is given. -/
import Derived.Test.YtebjicnjbiiioaaDoorDecRd
import Derived.Test.YtebjicnjbiiioaaDoorDecS
namespace Go.Proofs.YtebjicnjbiiioaaDoor
open Go.RowKit
set_option linter.unusedVariables false

theorem some_at {t : ByteArray} {k : Nat} (h : k < t.size) : ∃ c : UInt8, t.data.toList[k]? = some c ∧ byteAt t k = c.toNat := by
  have hl : k < t.data.toList.length := by simpa using h
  refine ⟨t.data.toList[k]'hl, List.getElem?_eq_getElem hl, ?_⟩
  unfold byteAt
  rw [List.getD_eq_getElem?_getD, List.getElem?_eq_getElem hl]; rfl
theorem isD_nat (c : UInt8) : isD c = decide (48 ≤ c.toNat ∧ c.toNat ≤ 57) := rfl
theorem point_nat {c : UInt8} (h : c.toNat = 46) : c = 46 := UInt8.toNat_inj.1 h
theorem bel_at {s : ByteArray} {c : UInt8} (h : s.data.toList[0]? = some c) : bel s = decide (c.toNat = 45) := by
  unfold bel
  match hl : s.data.toList, h with
  | d :: l, h =>
    simp at h
    subst h
    rw [head_hp]
    by_cases q : d = 45
    · subst q; rfl
    · rw [decide_eq_false (fun k => q (UInt8.toNat_inj.1 (by rw [k]; rfl))), beq_eq_false_iff_ne]; exact fun k => q k.symm
theorem pls_at {s : ByteArray} {c : UInt8} (h : s.data.toList[0]? = some c) : pls s = decide (c.toNat = 43) := by
  unfold pls
  match hl : s.data.toList, h with
  | d :: l, h =>
    simp at h
    subst h
    rw [head_hp]
    by_cases q : d = 43
    · subst q; rfl
    · rw [decide_eq_false (fun k => q (UInt8.toNat_inj.1 (by rw [k]; rfl))), beq_eq_false_iff_ne]; exact fun k => q k.symm
theorem mul10_lt {X : Int} {d : Nat} (h0 : 0 ≤ X) (h : X < 18446744073709551616) (h9 : d ≤ 9) : (X * 10 + (d : Int)).natAbs < 18446744073709551616 * 4294967296 := by omega

set_option maxRecDepth 100000 in
set_option maxHeartbeats 16000000 in
theorem eread_loop (t : ByteArray) (neg : Bool) (s : ByteArray) (N S E : Int) (ht : t.size ≤ 9223372036854775806)
    (H13 : Hid (¬ OkL t.data.toList → N = 0 ∧ S = 0 ∧ E = 13))
    (H10 : Hid (OkL t.data.toList → smE (sg neg (valL (t.data.toList.erase 46))) ≠ 0 → N = 0 ∧ S = 0 ∧ E = 10))
    (H0 : Hid (OkL t.data.toList → smE (sg neg (valL (t.data.toList.erase 46))) = 0 → N = smV (sg neg (valL (t.data.toList.erase 46))) ∧ S = (if Lib.indexByte t.data.toList 46 = -1 then 0 else (t.size : Int) - Lib.indexByte t.data.toList 46 - 1) ∧ E = 0))
    (w : World)
    (hs : (rest s) = t) (hn : bel s = neg) (hs9 : s.size ≤ 9223372036854775806) :
    Calls Tryd.prog 12 #[.string s] w fun e w' => e = .returned (.tuple #[.agg #[.int .i64 N, .int .i64 S], .int .i64 E]) ∧ Below w.heap.size w w' := by
  have B0 : Hid (Below w.heap.size w (w.alloc (.cells #[.int .i64 0, .int .i64 0] 23))) := (Below.refl _ _).alloc (Nat.le_refl _) _
  have X0 : Hid (Box (w.alloc (.cells #[.int .i64 0, .int .i64 0] 23)) w.heap.size 0 0) := ⟨by simp, by rw [World.cell?_alloc_at _ _ _ _ rfl]; rfl, by rw [World.cell?_alloc_at _ _ _ _ rfl]; rfl, by rw [World.frozen?_alloc_at _ _ _ _ rfl], by rw [World.frozen?_alloc_at _ _ _ _ rfl]⟩
  go_enter Tryd.func12, Tryd.ntmps12
  go_upto_region 2 with fail
  go_cut [25] (fun p W => p = .bool (bel s || pls s) ∧ W = w.alloc (.cells #[.int .i64 0, .int .i64 0] 23))
  case first =>
    clear H13 H10 H0 B0 X0 hs hn
    by_cases h0 : s.size = 0
    · have e1 : bel s = false := by unfold bel Lib.hasPrefix; rw [List.eq_nil_of_length_eq_zero (show s.data.toList.length = 0 by simpa using h0)]; rfl
      have e2 : pls s = false := by unfold pls Lib.hasPrefix; rw [List.eq_nil_of_length_eq_zero (show s.data.toList.length = 0 by simpa using h0)]; rfl
      have E1 : Hid (bel s = false) := e1
      have E2 : Hid (pls s = false) := e2
      have h0' : (s.size : Int) = 0 := by omega
      have h0'' : ¬ (0 : Int) < (s.size : Int) := by omega
      clear e1 e2 h0 hs9
      go_wp2_with fail
      go_meet
      case rel => exact ⟨by rw [E1.out, E2.out]; rfl, rfl⟩
    · obtain ⟨c, hc1, hc2⟩ := some_at (t := s) (k := 0) (by omega)
      have e1 : bel s = decide (c.toNat = 45) := bel_at hc1
      have e2 : pls s = decide (c.toNat = 43) := pls_at hc1
      have hix : ∀ w0 : World, (Instr.index 9 (.string s) (.int .i64 0)).run Tryd.prog w0 = .ok (.int .u8 (c.toNat : Int)) w0 := ixB s 0 _ (by omega) hc2
      have hz : (0 : Int) < (s.size : Int) := by omega
      have E1 : Hid (bel s = decide (c.toNat = 45)) := e1
      have E2 : Hid (pls s = decide (c.toNat = 43)) := e2
      clear e1 e2 h0 hc1 hc2 hs9
      generalize c.toNat = C at *
      by_cases q1 : C = 45
      · subst q1
        go_wp2_with fail
        go_meet
        case rel => exact ⟨by rw [E1.out, E2.out]; rfl, rfl⟩
      · have q1' : ¬ (C : Int) = 45 := by omega
        have q1'' : ((C : Int) == 45) = false := by rw [beq_eq_false_iff_ne]; exact q1'
        by_cases q2 : C = 43
        · subst q2
          go_wp2_with fail
          go_meet
          case rel => exact ⟨by rw [E1.out, E2.out]; rfl, rfl⟩
        · have q2' : ¬ (C : Int) = 43 := by omega
          have q2'' : ((C : Int) == 43) = false := by rw [beq_eq_false_iff_ne]; exact q2'
          have Q12 : Hid (¬ C = 45 ∧ ¬ C = 43) := ⟨q1, q2⟩
          clear q1 q2
          go_wp2_with fail
          go_meet
          case rel => exact ⟨by rw [E1.out, E2.out, decide_eq_false Q12.out.1, decide_eq_false Q12.out.2]; rfl, rfl⟩
  case rest =>
  obtain ⟨rfl, rfl⟩ := hcut
  go_upto_if 25 with fail
  go_cut [0, 4] (fun p q W => p = .string t ∧ q = .bool neg ∧ W = w.alloc (.cells #[.int .i64 0, .int .i64 0] 23))
  case first =>
    clear H13 H10 H0 B0 X0
    cases hbp : bel s || pls s
    · have e1 : s = t := by rw [← hs]; unfold rest; rw [hbp]; rfl
      have e2 : neg = false := by rw [← hn]; cases q : bel s; rfl; rw [q] at hbp; exact absurd hbp (by simp)
      subst e1 e2
      clear hs hn hbp hs9
      go_wp2_with fail
      go_meet
      case rel => exact ⟨rfl, rfl, rfl⟩
    · have h0 : 0 < s.size := Nat.pos_of_ne_zero (fun h0 => by
        have e1 : bel s = false := by unfold bel Lib.hasPrefix; rw [List.eq_nil_of_length_eq_zero (show s.data.toList.length = 0 by simpa using h0)]; rfl
        have e2 : pls s = false := by unfold pls Lib.hasPrefix; rw [List.eq_nil_of_length_eq_zero (show s.data.toList.length = 0 by simpa using h0)]; rfl
        rw [e1, e2] at hbp; exact absurd hbp (by decide))
      obtain ⟨c, hc1, hc2⟩ := some_at (t := s) (k := 0) h0
      have e1 : bel s = decide (c.toNat = 45) := bel_at hc1
      have e3 : s.extract 1 s.size = t := by rw [← hs]; unfold rest; rw [hbp]; rfl
      have hix : ∀ w0 : World, (Instr.index 9 (.string s) (.int .i64 0)).run Tryd.prog w0 = .ok (.int .u8 (c.toNat : Int)) w0 := ixB s 0 _ h0 hc2
      have hz : (1 : Int) ≤ (s.size : Int) := by omega
      have HT : Hid (s.extract 1 s.size = t) := e3
      have HN : Hid (((c.toNat : Int) == 45) = neg) := by
        show _ = neg
        rw [← hn, e1]
        by_cases q : c.toNat = 45
        · rw [q]; rfl
        · rw [decide_eq_false q, beq_eq_false_iff_ne]; omega
      clear hs hn e1 e3 h0 hc1 hc2 hbp hs9
      generalize c.toNat = C at *
      go_wp2_with fail
      go_meet
      case rel => exact ⟨by rw [HT.out], by rw [HN.out], rfl⟩
  case rest =>
    clear hs hn hs9
    obtain ⟨rfl, rfl, rfl⟩ := hcut
    go_wp2_with fail
    refine (wof 0 (by decide) (by decide) _).mono ?_
    rintro e w1 ⟨u, rfl, q0, hb⟩
    obtain ⟨g0, b0, rfl⟩ := isW_split q0
    have R0 : Hid (Rds w w1.heap.size g0 b0 0 (w1.alloc (.cells #[.bool g0, .slice (some ⟨b0, 0, none⟩) 6 6] 63))) := Rds.new _ (X0.out.below hb X0.out.1) (B0.out.trans (hb.mono B0.out.size)) q0
    clear hb X0 B0 q0
    go_wp2_with fail
    generalize w1.heap.size = nb at *
    go_loopw [6, 7, 8] (fun l p i wr => ∃ (k : Nat) (L : Bool) (P X : Int) (g : Bool) (b : Nat), k ≤ t.size ∧ i = .int .i64 (k : Int) ∧ l = .bool L ∧ p = .int .i64 P ∧ Hid (Lx t.data.toList k L X ∧ Gd t.data.toList k P) ∧ Hid (Rds w nb g b X wr)) (fun _ _ i _ => t.size - (intOf i).toNat)
    case atStart => exact ⟨0, false, -1, 0, g0, b0, by omega, rfl, rfl, rfl, ⟨⟨fun _ => ⟨rfl, by decide⟩, fun q => absurd q (by decide), by decide⟩, ⟨rfl, rfl, by decide⟩⟩, R0⟩
    case round =>
      clear R0
      obtain ⟨k, L, P, X, g, b, hk, rfl, rfl, rfl, HL, HR⟩ := hrel
      by_cases hkt : k < t.size
      · have hkt' : (k : Int) < (t.size : Int) := by omega
        have hkw : IntKind.i64.wrap ((k : Int) + 1) = (k : Int) + 1 := by rw [IntKind.wrap_i64]; omega
        obtain ⟨c, hc1, hc2⟩ := some_at hkt
        have hix : ∀ w0 : World, (Instr.index 9 (.string t) (.int .i64 (k : Int))).run Tryd.prog w0 = .ok (.int .u8 (c.toNat : Int)) w0 := ixB t k _ hkt hc2
        clear hc2
        obtain ⟨C, hC⟩ : ∃ C : Nat, c.toNat = C := ⟨_, rfl⟩
        rw [hC] at hix
        have HC : Hid (t.data.toList[k]? = some c ∧ c.toNat = C) := ⟨hc1, hC⟩
        clear hc1 hC
        by_cases hp : C = 46 ∧ P < 0 ∧ 0 < k
        · obtain ⟨rfl, hp, hk0⟩ := hp
          have hk0' : (0 : Int) < (k : Int) := by omega
          have HG : Hid (Lx t.data.toList (k + 1) L X ∧ Gd t.data.toList (k + 1) (k : Int)) := by
            have e : c = 46 := point_nat HC.out.2
            obtain ⟨q1, q2⟩ := gd_point HL.out.2 (by rw [← e]; exact HC.out.1) hp hk0
            exact ⟨lx_point HL.out.1 q2, q1⟩
          clear HL HC
          go_wp2
          exact ⟨⟨k + 1, L, k, X, g, b, by omega, by go_num, rfl, rfl, HG, HR⟩, by simp [intOf]; omega⟩
        · by_cases hd : 48 ≤ C ∧ C ≤ 57
          · obtain ⟨d1, d2⟩ := hd
            have d1' : ¬ (C : Int) < 48 := by omega
            have d2' : ¬ 57 < (C : Int) := by omega
            have d3' : ((C : Int) == 46) = false := by rw [beq_eq_false_iff_ne]; omega
            have hD : Hid (isD c = true) := by
              show isD c = true
              rw [isD_nat, HC.out.2]; exact decide_eq_true ⟨d1, d2⟩
            have HG : Hid (Gd t.data.toList (k + 1) P) := gd_digit HL.out.2 HC.out.1 hD.out
            clear hp
            cases L
            · obtain ⟨d, hdd, hd9⟩ : ∃ d : Nat, C = 48 + d ∧ d ≤ 9 := ⟨C - 48, by omega, by omega⟩
              have HLx : Hid (Lx t.data.toList (k + 1) (decide (18446744073709551616 ≤ X * 10 + (d : Int))) (X * 10 + d)) := lx_more HL.out.1 HC.out.1 hD.out (by rw [HC.out.2]; exact hdd) hd9
              have hX0 := HL.out.1.2.2
              have hX1 := (HL.out.1.1 rfl).2
              have hw1 : IntKind.u8.wrap ((C : Int) - 48) = (d : Int) := by rw [IntKind.wrap_u8]; omega
              have hw2 : IntKind.i64.wrap (d : Int) = (d : Int) := by rw [IntKind.wrap_i64]; omega
              have HX : Hid (0 ≤ X ∧ X < 18446744073709551616 ∧ d ≤ 9) := ⟨hX0, hX1, hd9⟩
              have HT : Hid (∀ (v u : Value) (W : World), IsW W v X → IsW W u 10 → Calls Tryd.prog 36 #[v, u] W fun e w' => ∃ v', e = .returned v' ∧ IsW w' v' (X * 10) ∧ Below W.heap.size W w') := fun v u W h1 h2 => wtimes v u X 10 W h1 h2 (by omega) (by decide)
              have HD : Hid (∀ W : World, Calls Tryd.prog 34 #[.int .i64 (d : Int)] W fun e w' => ∃ v, e = .returned v ∧ IsW w' v (d : Int) ∧ Below W.heap.size W w') := fun W => wof d (by omega) (by omega) W
              have HP : Hid (∀ (v u : Value) (W : World), IsW W v (X * 10) → IsW W u (d : Int) → Calls Tryd.prog 35 #[v, u] W fun e w' => ∃ v', e = .returned v' ∧ IsW w' v' (X * 10 + d) ∧ Below W.heap.size W w') := fun v u W h1 h2 => wplus v u (X * 10) d W h1 h2 (by
                have : (4294967296 : Nat) ^ 6 = 6277101735386680763835789423207666416102355444464034512896 := by decide
                omega)
              have hR := HR.out
              clear HR HL HC hD hdd hd9 hX0 hX1 d1 d2
              go_wp2_with fail
              go_cut [] from 63 to 72 (fun wx => ∃ g2 b2, Rds w nb g2 b2 (X * 10 + (d : Int)) wx)
              case first =>
                replace hR := hR.drew
                refine wp_region_held_drew (S := fun _ => True) (by kernel_rfl) trivial (fun hHeld => ?_)
                refine wpAnyH_take (i := 3) (v := ?_) (oi := { dst := some 66, op := _, type := _, pos := _, after := _, guard := none }) rfl (by kernel_rfl) (by kernel_rfl) (by kernel_rfl) (fun _ _ _ h => h) (Or.inl ⟨by kernel_rfl, ?_⟩) (by assumption) ?_
                case refine_2 => (intro w9 hSw; clear hSw; go_simp; try with_reducible rfl)
                simp only [Act.put, List.setIfInBounds_toArray, List.set_cons_zero, List.set_cons_succ]
                refine wpAnyH_take (i := 4) (v := ?_) (oi := { dst := some 67, op := _, type := _, pos := _, after := _, guard := none }) rfl (by kernel_rfl) (by kernel_rfl) (by kernel_rfl) (fun _ _ _ h => h) (Or.inl ⟨by kernel_rfl, ?_⟩) (by assumption) ?_
                case refine_2 => (intro w9 hSw; clear hSw; go_simp; try with_reducible rfl)
                simp only [Act.put, List.setIfInBounds_toArray, List.set_cons_zero, List.set_cons_succ]
                refine wpAnyH_take (i := 5) (v := ?_) (oi := { dst := some 68, op := _, type := _, pos := _, after := _, guard := none }) rfl (by kernel_rfl) (by kernel_rfl) (by kernel_rfl) (fun _ _ _ h => h) (Or.inl ⟨by kernel_rfl, ?_⟩) (by assumption) ?_
                case refine_2 => (intro w9 hSw; clear hSw; go_simp; try with_reducible rfl)
                simp only [Act.put, List.setIfInBounds_toArray, List.set_cons_zero, List.set_cons_succ]
                refine wpAnyH_take (i := 6) (v := ?_) (oi := { dst := some 69, op := _, type := _, pos := _, after := _, guard := none }) rfl (by kernel_rfl) (by kernel_rfl) (by kernel_rfl) (fun _ _ _ h => h) (Or.inl ⟨by kernel_rfl, ?_⟩) (by assumption) ?_
                case refine_2 => (intro w9 hSw; clear hSw; go_simp; try with_reducible rfl)
                simp only [Act.put, List.setIfInBounds_toArray, List.set_cons_zero, List.set_cons_succ]
                refine wpAnyH_take (i := 7) (v := ?_) (oi := { dst := some 70, op := _, type := _, pos := _, after := _, guard := none }) rfl (by kernel_rfl) (by kernel_rfl) (by kernel_rfl) (fun _ _ _ h => h) (Or.inl ⟨by kernel_rfl, ?_⟩) (by assumption) ?_
                case refine_2 => (intro w9 hSw; clear hSw; go_simp; try with_reducible rfl)
                simp only [Act.put, List.setIfInBounds_toArray, List.set_cons_zero, List.set_cons_succ]
                refine wpAnyH_ready (rs := [0, 1]) (by kernel_rfl) (by simp) (AllReadyH.cons (o := { dst := some 63, op := _, type := _, pos := _, after := _, guard := none }) rfl (fun K hK => ?_) (AllReadyH.cons (o := { dst := some 64, op := _, type := _, pos := _, after := _, guard := none }) rfl (fun K hK => ?_) AllReadyH.nil))
                ·
                  obtain ⟨⟨za, zb, zc, zd, ze⟩, _⟩ := id hR
                  go_simp
                  refine hK.out _ _ trivial (fun _ => ?_)
                  clear hK K za zb zc zd ze
                  refine wpAnyH_ready (rs := [1]) (by kernel_rfl) (by simp) (AllReadyH.cons (o := { dst := some 64, op := _, type := _, pos := _, after := _, guard := none }) rfl (fun K hK => ?_) AllReadyH.nil)
                  go_simp
                  refine (wof 10 (by decide) (by decide) _).mono ?_
                  rintro e v2 ⟨u10, rfl, q10, hb2⟩
                  replace hR := hR.below hb2
                  refine hK.out _ _ trivial (fun _ => ?_)
                  clear hK K hb2
                  refine wpAnyH_ready (rs := [2]) (by kernel_rfl) (by simp) (AllReadyH.cons (o := { dst := some 65, op := _, type := _, pos := _, after := _, guard := none }) rfl (fun K hK => ?_) AllReadyH.nil)
                  go_simp
                  refine (HT.out _ _ _ hR.2.1 q10).mono ?_
                  rintro e v3 ⟨uT, rfl, qT, hb3⟩
                  replace hR := hR.below hb3
                  refine hK.out _ _ trivial (fun _ => ?_)
                  clear hK K hb3 q10
                  refine wpAnyH_ready (rs := [8]) (by kernel_rfl) (by simp) (AllReadyH.cons (o := { dst := some 71, op := _, type := _, pos := _, after := _, guard := none }) rfl (fun K hK => ?_) AllReadyH.nil)
                  go_simp
                  refine (HD.out _).mono ?_
                  rintro e v4 ⟨uD, rfl, qD, hb4⟩
                  replace hR := hR.below hb4
                  replace qT := qT.below hb4
                  refine hK.out _ _ trivial (fun _ => ?_)
                  clear hK K hb4
                  refine wpAnyH_ready (rs := [9]) (by kernel_rfl) (by simp) (AllReadyH.cons (o := { dst := some 72, op := _, type := _, pos := _, after := _, guard := none }) rfl (fun K hK => ?_) AllReadyH.nil)
                  go_simp
                  refine (HP.out _ _ _ qT qD).mono ?_
                  rintro e v5 ⟨uP, rfl, qP, hb5⟩
                  replace hR := hR.below hb5
                  obtain ⟨g2, b2, rfl⟩ := isW_split qP
                  refine hK.out _ _ trivial (fun _ => ?_)
                  clear hK K hb5 qT qD
                  refine wpAnyH_ready (rs := [10]) (by kernel_rfl) (by simp) (AllReadyH.cons (o := { dst := none, op := _, type := _, pos := _, after := _, guard := none }) rfl (fun K hK => ?_) AllReadyH.nil)
                  obtain ⟨⟨za, zb, zc, zd, ze⟩, _⟩ := id hR
                  go_simp
                  replace hR := hR.set qP
                  refine hK.out _ _ trivial (fun _ => ?_)
                  clear hK K qP za zb zc zd ze
                  refine wpAnyH_done (by kernel_rfl) ?_ _
                  go_wp2_with fail
                  go_meet
                  case rel => exact ⟨_, _, hR⟩
                ·
                  go_simp
                  refine (wof 10 (by decide) (by decide) _).mono ?_
                  rintro e v7 ⟨u10, rfl, q10, hb7⟩
                  replace hR := hR.below hb7
                  refine hK.out _ _ trivial (fun _ => ?_)
                  clear hK K hb7
                  refine wpAnyH_ready (rs := [0]) (by kernel_rfl) (by simp) (AllReadyH.cons (o := { dst := some 63, op := _, type := _, pos := _, after := _, guard := none }) rfl (fun K hK => ?_) AllReadyH.nil)
                  obtain ⟨⟨za, zb, zc, zd, ze⟩, _⟩ := id hR
                  go_simp
                  refine hK.out _ _ trivial (fun _ => ?_)
                  clear hK K za zb zc zd ze
                  refine wpAnyH_ready (rs := [2]) (by kernel_rfl) (by simp) (AllReadyH.cons (o := { dst := some 65, op := _, type := _, pos := _, after := _, guard := none }) rfl (fun K hK => ?_) AllReadyH.nil)
                  go_simp
                  refine (HT.out _ _ _ hR.2.1 q10).mono ?_
                  rintro e v9 ⟨uT, rfl, qT, hb9⟩
                  replace hR := hR.below hb9
                  refine hK.out _ _ trivial (fun _ => ?_)
                  clear hK K hb9 q10
                  refine wpAnyH_ready (rs := [8]) (by kernel_rfl) (by simp) (AllReadyH.cons (o := { dst := some 71, op := _, type := _, pos := _, after := _, guard := none }) rfl (fun K hK => ?_) AllReadyH.nil)
                  go_simp
                  refine (HD.out _).mono ?_
                  rintro e v10 ⟨uD, rfl, qD, hb10⟩
                  replace hR := hR.below hb10
                  replace qT := qT.below hb10
                  refine hK.out _ _ trivial (fun _ => ?_)
                  clear hK K hb10
                  refine wpAnyH_ready (rs := [9]) (by kernel_rfl) (by simp) (AllReadyH.cons (o := { dst := some 72, op := _, type := _, pos := _, after := _, guard := none }) rfl (fun K hK => ?_) AllReadyH.nil)
                  go_simp
                  refine (HP.out _ _ _ qT qD).mono ?_
                  rintro e v11 ⟨uP, rfl, qP, hb11⟩
                  replace hR := hR.below hb11
                  obtain ⟨g2, b2, rfl⟩ := isW_split qP
                  refine hK.out _ _ trivial (fun _ => ?_)
                  clear hK K hb11 qT qD
                  refine wpAnyH_ready (rs := [10]) (by kernel_rfl) (by simp) (AllReadyH.cons (o := { dst := none, op := _, type := _, pos := _, after := _, guard := none }) rfl (fun K hK => ?_) AllReadyH.nil)
                  obtain ⟨⟨za, zb, zc, zd, ze⟩, _⟩ := id hR
                  go_simp
                  replace hR := hR.set qP
                  refine hK.out _ _ trivial (fun _ => ?_)
                  clear hK K qP za zb zc zd ze
                  refine wpAnyH_done (by kernel_rfl) ?_ _
                  go_wp2_with fail
                  go_meet
                  case rel => exact ⟨_, _, hR⟩
              case rest =>
                obtain ⟨g2, b2, hR2⟩ := hcut
                obtain ⟨Y, hY⟩ : ∃ Y : Int, X * 10 + (d : Int) = Y := ⟨_, rfl⟩
                rw [hY] at hR2 HLx
                have HY : Hid (0 ≤ Y ∧ Y.natAbs < 18446744073709551616 * 4294967296) := by
                  obtain ⟨q1, q2, q3⟩ := HX.out
                  exact ⟨by omega, by rw [← hY]; exact mul10_lt q1 q2 q3⟩
                have HR2 : Hid (Rds w nb g2 b2 Y wc) := hR2
                obtain ⟨⟨z1, z2, z3, z4, z5⟩, hI, _⟩ := hR2
                have HRow : Hid (Row wc b2 Y.natAbs) := (isW_parts hI).2
                clear hI hY hw1 hw2 HX HT HD HP hix d1' d2' d3'
                go_wp2_with fail
                go_loopw [6, 9] (fun l kk wr => ∃ j : Nat, 2 ≤ j ∧ j ≤ 6 ∧ kk = .int .i64 (j : Int) ∧ l = .bool (decide (2 < j) && decide (18446744073709551616 ≤ Y)) ∧ wr = wc) (fun _ kk _ => 6 - (intOf kk).toNat)
                case atStart => exact ⟨2, by omega, by omega, rfl, rfl, rfl⟩
                case round =>
                  obtain ⟨j, hj2, hj6, rfl, rfl, rfl⟩ := hrel
                  by_cases hj : j < 6
                  · have hj' : (j : Int) < 6 := by omega
                    have hjw : IntKind.i64.wrap ((j : Int) + 1) = (j : Int) + 1 := by rw [IntKind.wrap_i64]; omega
                    have ck : wr.cell? ⟨b2, j, none⟩ = some (.int .u64 ((Wd.dg Y.natAbs j : Nat) : Int)) := HRow.out.2.2 j hj
                    have hs6 := six_parts HY.out.2
                    by_cases hl : 2 < j ∧ 18446744073709551616 ≤ Y
                    · have e : (decide (2 < j) && decide (18446744073709551616 ≤ Y)) = true := by simp [hl]
                      have HE : Hid ((decide (2 < j + 1) && decide (18446744073709551616 ≤ Y)) = true) := by
                        show _ = true
                        simp [hl]; omega
                      rw [e]
                      clear e hs6 hl
                      go_wp2
                      exact ⟨⟨j + 1, by omega, by omega, by go_num, by rw [HE.out], trivial⟩, by simp [intOf]; omega⟩
                    · have e : (decide (2 < j) && decide (18446744073709551616 ≤ Y)) = false := by
                        by_cases q : 2 < j
                        · rw [decide_eq_false (fun k => hl ⟨q, k⟩), Bool.and_false]
                        · rw [decide_eq_false q, Bool.false_and]
                      have HE : Hid ((decide (2 < j + 1) && decide (18446744073709551616 ≤ Y)) = (((Wd.dg Y.natAbs j : Nat) : Int) != 0)) := by
                        show _ = _
                        rw [decide_eq_true (show 2 < j + 1 by omega), Bool.true_and]
                        have hY0 := HY.out.1
                        by_cases q : 2 < j
                        · rw [hs6.2 j q hj, decide_eq_false (fun k => hl ⟨q, k⟩)]; rfl
                        · have ej : j = 2 := by omega
                          subst ej
                          by_cases q2 : 18446744073709551616 ≤ Y
                          · rw [decide_eq_true q2]
                            symm; rw [bne_iff_ne]
                            intro k
                            have := hs6.1.1 (by omega)
                            omega
                          · rw [decide_eq_false q2]
                            symm; rw [bne_eq_false_iff_eq, hs6.1.2 (by omega)]; rfl
                      rw [e]
                      clear e hs6 hl
                      generalize ((Wd.dg Y.natAbs j : Nat) : Int) = D at *
                      go_wp2
                      exact ⟨⟨j + 1, by omega, by omega, by go_num, by rw [HE.out], trivial⟩, by simp [intOf]; omega⟩
                  · have e6 : j = 6 := by omega
                    subst e6
                    rw [show (decide (2 < 6) && decide (18446744073709551616 ≤ Y)) = decide (18446744073709551616 ≤ Y) by simp]
                    clear hj hj2 hj6
                    go_wp2
                    exact ⟨⟨k + 1, _, P, Y, g2, b2, by omega, by go_num, rfl, rfl, ⟨HLx.out, HG.out⟩, HR2⟩, by simp [intOf]; omega⟩
            · have HLx : Hid (Lx t.data.toList (k + 1) true X) := lx_large HL.out.1 HC.out.1 hD.out
              clear HL HC hD d1 d2
              go_wp2
              exact ⟨⟨k + 1, true, P, X, g, b, by omega, by go_num, rfl, rfl, ⟨HLx.out, HG.out⟩, HR⟩, by simp [intOf]; omega⟩
          · have HN : Hid (N = 0 ∧ S = 0 ∧ E = 13) := H13.out (bad_here HL.out.2 HC.out.1 (by rw [isD_nat, HC.out.2]; exact decide_eq_false hd) (fun q => hp ⟨by rw [← HC.out.2, q.1]; rfl, q.2⟩))
            clear HL HC H13 H10 H0
            obtain ⟨rfl, rfl, rfl⟩ := HN
            have hR := HR.out
            clear HR
            obtain ⟨_, _, ⟨x1, x2, x3, x4, x5⟩, hlt, hB⟩ := hR
            have HB : Hid (Below w.heap.size w wr) := hB
            clear hB hlt
            by_cases h46 : C = 46
            · subst h46
              by_cases hP : P < 0
              · have hk0 : ¬ (0 : Int) < (k : Int) := by omega
                clear hp hd
                go_wp2_with fail
                exact bodyPost_ret (v := .tuple #[d0, .int .i64 13]) (by simp [results, Tryd.results12, go_sem, x2, x3]) rfl ⟨rfl, (HB.out.setCell (by simp) _).setCell (by simp) _⟩
              · clear hp hd
                go_wp2_with fail
                exact bodyPost_ret (v := .tuple #[d0, .int .i64 13]) (by simp [results, Tryd.results12, go_sem, x2, x3]) rfl ⟨rfl, (HB.out.setCell (by simp) _).setCell (by simp) _⟩
            · have d3' : ((C : Int) == 46) = false := by rw [beq_eq_false_iff_ne]; omega
              clear hp
              by_cases h48 : C < 48
              · have h48' : (C : Int) < 48 := by omega
                clear hd h48 h46
                go_wp2_with fail
                exact bodyPost_ret (v := .tuple #[d0, .int .i64 13]) (by simp [results, Tryd.results12, go_sem, x2, x3]) rfl ⟨rfl, (HB.out.setCell (by simp) _).setCell (by simp) _⟩
              · have h48' : ¬ (C : Int) < 48 := by omega
                have h57' : 57 < (C : Int) := by omega
                clear hd h48 h46
                go_wp2_with fail
                exact bodyPost_ret (v := .tuple #[d0, .int .i64 13]) (by simp [results, Tryd.results12, go_sem, x2, x3]) rfl ⟨rfl, (HB.out.setCell (by simp) _).setCell (by simp) _⟩
      · have e : k = t.size := by omega
        subst e
        have eT : t.data.toList.take t.size = t.data.toList := List.take_of_length_le (by simp)
        have HX : Hid ((L = false → X = (valL (t.data.toList.erase 46) : Int) ∧ X < 18446744073709551616) ∧ (L = true → 18446744073709551616 ≤ valL (t.data.toList.erase 46)) ∧ 0 ≤ X) := by
          have := HL.out.1
          unfold Lx at this
          rw [eT] at this
          exact this
        have HGd : Hid ((t.data.toList.erase 46).all isD = true ∧ P = Lib.indexByte t.data.toList 46 ∧ P ≠ 0) := by
          have := HL.out.2
          unfold Gd at this
          rw [eT] at this
          exact this
        have HI : Hid (-1 ≤ P ∧ P < (t.size : Int)) := by
          have := index_lt 46 t.data.toList
          rw [← HGd.out.2.1] at this
          show _ ∧ _
          simpa using this
        clear HL eT
        have htt : ¬ (t.size : Int) < (t.size : Int) := by omega
        have hR := HR.out
        clear HR
        go_upto_if 90 with fail
        go_cut [10] (fun p W => ∃ sc : Int, p = .int .i64 sc ∧ Hid (sc = if Lib.indexByte t.data.toList 46 = -1 then 0 else (t.size : Int) - Lib.indexByte t.data.toList 46 - 1) ∧ Hid (Lib.indexByte t.data.toList 46 = -1 ∨ (1 ≤ Lib.indexByte t.data.toList 46 ∧ 1 ≤ (t.data.toList.length : Int) - Lib.indexByte t.data.toList 46 - 1 ∧ (t.data.toList.length : Int) - Lib.indexByte t.data.toList 46 - 1 ≤ 9)) ∧ W = wr)
        case first =>
          by_cases hP : 0 ≤ P
          · have hw1 : IntKind.i64.wrap ((t.size : Int) - P) = (t.size : Int) - P := by rw [IntKind.wrap_i64]; have := HI.out; omega
            have hw2 : IntKind.i64.wrap ((t.size : Int) - P - 1) = (t.size : Int) - P - 1 := by rw [IntKind.wrap_i64]; have := HI.out; omega
            by_cases h1 : (t.size : Int) - P - 1 < 1
            · have HN : Hid (N = 0 ∧ S = 0 ∧ E = 13) := H13.out (fun o => by
                obtain ⟨_, _, o3⟩ := o
                rw [← HGd.out.2.1, show (t.data.toList.length : Int) = (t.size : Int) by simp] at o3
                omega)
              clear H13 H10 H0 HX HGd HI
              obtain ⟨rfl, rfl, rfl⟩ := HN
              obtain ⟨_, _, ⟨x1, x2, x3, x4, x5⟩, hlt, hB⟩ := hR
              have HB : Hid (Below w.heap.size w wr) := hB
              clear hB hlt
              go_wp2_with fail
              exact bodyPost_ret (v := .tuple #[d0, .int .i64 13]) (by simp [results, Tryd.results12, go_sem, x2, x3]) rfl ⟨rfl, (HB.out.setCell (by simp) _).setCell (by simp) _⟩
            · by_cases h2 : 9 < (t.size : Int) - P - 1
              · have HN : Hid (N = 0 ∧ S = 0 ∧ E = 13) := H13.out (fun o => by
                  obtain ⟨_, _, o3⟩ := o
                  rw [← HGd.out.2.1, show (t.data.toList.length : Int) = (t.size : Int) by simp] at o3
                  omega)
                clear H13 H10 H0 HX HGd HI
                obtain ⟨rfl, rfl, rfl⟩ := HN
                obtain ⟨_, _, ⟨x1, x2, x3, x4, x5⟩, hlt, hB⟩ := hR
                have HB : Hid (Below w.heap.size w wr) := hB
                clear hB hlt
                go_wp2_with fail
                exact bodyPost_ret (v := .tuple #[d0, .int .i64 13]) (by simp [results, Tryd.results12, go_sem, x2, x3]) rfl ⟨rfl, (HB.out.setCell (by simp) _).setCell (by simp) _⟩
              · have HP2 : Hid (0 ≤ P ∧ P ≠ 0 ∧ ¬ (t.size : Int) - P - 1 < 1 ∧ ¬ 9 < (t.size : Int) - P - 1) := ⟨hP, HGd.out.2.2, h1, h2⟩
                go_wp2_with fail
                go_meet
                case rel =>
                  obtain ⟨q1, q2, q3, q4⟩ := HP2.out
                  refine ⟨_, rfl, ?_, ?_, rfl⟩
                  · show _ = _
                    rw [← HGd.out.2.1, if_neg (by omega)]
                  · show _ ∨ _
                    rw [← HGd.out.2.1, show (t.data.toList.length : Int) = (t.size : Int) by simp]
                    right; omega
          · have hP' : P = -1 := by have := HI.out; omega
            have HP2 : Hid (P = -1) := hP'
            clear hP'
            go_wp2_with fail
            go_meet
            case rel =>
              refine ⟨0, rfl, ?_, ?_, rfl⟩
              · show _ = _
                rw [← HGd.out.2.1, if_pos HP2.out]
              · show _ ∨ _
                rw [← HGd.out.2.1]; exact .inl HP2.out
        case rest =>
          obtain ⟨sc, rfl, HS, HO, rfl⟩ := hcut
          by_cases hz : t.size = 0
          · have HN : Hid (N = 0 ∧ S = 0 ∧ E = 13) := H13.out (fun o => o.2.1 (List.eq_nil_of_length_eq_zero (by simpa using hz)))
            have hz' : (t.size : Int) = 0 := by omega
            clear H13 H10 H0 HX HGd HI HS HO
            obtain ⟨rfl, rfl, rfl⟩ := HN
            obtain ⟨_, _, ⟨x1, x2, x3, x4, x5⟩, hlt, hB⟩ := hR
            have HB : Hid (Below w.heap.size w wc) := hB
            clear hB hlt
            go_wp2_with fail
            exact bodyPost_ret (v := .tuple #[d0, .int .i64 13]) (by simp [results, Tryd.results12, go_sem, x2, x3]) rfl ⟨rfl, (HB.out.setCell (by simp) _).setCell (by simp) _⟩
          · have hz' : ((t.size : Int) == 0) = false := by rw [beq_eq_false_iff_ne]; omega
            have hz'' : ¬ (t.size : Int) = 0 := by omega
            have OK : OkL t.data.toList := ⟨HGd.out.1, fun e => hz (by have := congrArg List.length e; simpa using this), HO.out⟩
            have G10 : Hid (smE (sg neg (valL (t.data.toList.erase 46))) ≠ 0 → N = 0 ∧ S = 0 ∧ E = 10) := H10.out OK
            have G0 : Hid (smE (sg neg (valL (t.data.toList.erase 46))) = 0 → N = smV (sg neg (valL (t.data.toList.erase 46))) ∧ S = sc ∧ E = 0) := fun q => by
              obtain ⟨q1, q2, q3⟩ := H0.out OK q
              exact ⟨q1, by rw [q2, HS.out], q3⟩
            clear H13 H10 H0 HGd HI HS HO OK hz
            generalize valL (t.data.toList.erase 46) = V at *
            go_upto_if 107 with fail
            go_cut [] (fun W => ∃ g b, Rds w nb g b (if neg = true then -X else X) W)
            case first =>
              clear HX G10 G0
              cases neg
              · go_wp2_with fail
                go_meet
                case rel => exact ⟨g, b, hR⟩
              · obtain ⟨⟨z1, z2, z3, z4, z5⟩, _⟩ := id hR
                go_wp2_with fail
                refine (wminus _ X _ hR.2.1).mono ?_
                rintro e w2 ⟨u2, rfl, q2, hb⟩
                obtain ⟨g2, b2, rfl⟩ := isW_split q2
                have hR2 := hR.below hb
                clear hR hb z1 z2 z3 z4 z5
                obtain ⟨⟨z1, z2, z3, z4, z5⟩, _⟩ := id hR2
                go_wp2_with fail
                go_meet
                case rel => exact ⟨g2, b2, hR2.set q2⟩
            case rest =>
              clear hR
              obtain ⟨g2, b2, hR⟩ := hcut
              obtain ⟨Y, hY⟩ : ∃ Y : Int, (if neg = true then -X else X) = Y := ⟨_, rfl⟩
              rw [hY] at hR
              obtain ⟨⟨z1, z2, z3, z4, z5⟩, _⟩ := id hR
              go_wp2_with fail
              refine (wsmall _ Y _ hR.2.1).mono ?_
              rintro e w2 ⟨rfl, hb⟩
              have hR2 := hR.below hb
              clear hR hb z1 z2 z3 z4 z5
              obtain ⟨_, _, ⟨x1, x2, x3, x4, x5⟩, hlt, hB⟩ := hR2
              have HB : Hid (Below w.heap.size w w2) := hB
              clear hB hlt
              cases L
              · have e1 : Y = sg neg V := by
                  rw [← hY, (HX.out.1 rfl).1]; rfl
                rw [← e1] at G10 G0
                by_cases hE : smE Y = 0
                · obtain ⟨n1, n2, n3⟩ := G0.out hE
                  clear G0 G10 HX e1 hY
                  subst n2 n3
                  rw [hE, ← n1]
                  clear hE n1
                  go_wp2_with fail
                  exact bodyPost_ret (v := .tuple #[.agg #[.int .i64 N, .int .i64 S], .int .i64 0]) (by simp [results, Tryd.results12, go_sem, x2, x3]) rfl ⟨rfl, (HB.out.setCell (by simp) _).setCell (by simp) _⟩
                · obtain ⟨n1, n2, n3⟩ := G10.out hE
                  have hE' : (smE Y == 0) = false := by rw [beq_eq_false_iff_ne]; exact hE
                  have hE2 : (smE Y != 0) = true := by rw [bne_iff_ne]; exact hE
                  clear G0 G10 HX e1 hY hE
                  subst n1 n2 n3
                  generalize smV Y = M at *
                  generalize smE Y = F at *
                  go_wp2_with fail
                  exact bodyPost_ret (v := .tuple #[d0, .int .i64 10]) (by simp [results, Tryd.results12, go_sem, x2, x3]) rfl ⟨rfl, (HB.out.setCell (by simp) _).setCell (by simp) _⟩
              · have hV := HX.out.2.1 rfl
                obtain ⟨n1, n2, n3⟩ := G10.out (by
                  unfold smE sg
                  cases neg
                  · rw [if_neg (by simp; omega)]; decide
                  · rw [if_neg (by simp; omega)]; decide)
                clear G0 G10 HX hV hY
                subst n1 n2 n3
                generalize smV Y = M at *
                by_cases hE : smE Y = 0
                · rw [hE]
                  clear hE
                  go_wp2_with fail
                  exact bodyPost_ret (v := .tuple #[d0, .int .i64 10]) (by simp [results, Tryd.results12, go_sem, x2, x3]) rfl ⟨rfl, (HB.out.setCell (by simp) _).setCell (by simp) _⟩
                · have hE' : (smE Y == 0) = false := by rw [beq_eq_false_iff_ne]; exact hE
                  have hE2 : (smE Y != 0) = true := by rw [bne_iff_ne]; exact hE
                  clear hE
                  generalize smE Y = F at *
                  go_wp2_with fail
                  exact bodyPost_ret (v := .tuple #[d0, .int .i64 10]) (by simp [results, Tryd.results12, go_sem, x2, x3]) rfl ⟨rfl, (HB.out.setCell (by simp) _).setCell (by simp) _⟩

/-- the reference's Read, whatever text it is given. -/
theorem eread_any (s : ByteArray) (hs : s.size ≤ 140737488351232) (w : World) :
    Calls Tryd.prog 12 #[.string s] w fun e w' => e = .returned (.tuple #[.agg #[.int .i64 (rdN s), .int .i64 (rdS s)], .int .i64 (rdE s)]) ∧ Below w.heap.size w w' := by
  have hr : (rest s).size ≤ s.size := by
    unfold rest
    split
    · rw [ByteArray.size_extract]; omega
    · exact Nat.le_refl _
  have hz := @cutB_size (rest s)
  refine eread_loop (rest s) (bel s) s (rdN s) (rdS s) (rdE s) (by omega) (fun o => ?_) (fun o q => ?_) (fun o q => ?_) w rfl rfl (by omega)
  · have k : ¬ okT (rest s) = true := fun k => o ((ok_iff _).1 k)
    unfold rdN rdS rdE
    rw [if_neg k, if_neg k, if_neg k]
    exact ⟨rfl, rfl, rfl⟩
  · have k : okT (rest s) = true := (ok_iff _).2 o
    have ev : vT s = sg (bel s) (valL ((rest s).data.toList.erase 46)) := by unfold vT; rw [cutAB]
    rw [← ev] at q
    unfold rdN rdS rdE
    rw [if_pos k, if_pos k, if_pos k]
    obtain ⟨q1, q2⟩ := of_err q (smV (vT s)) ((cutB (rest s)).size : Int)
    refine ⟨q1, q2, ?_⟩
    unfold smE at q ⊢
    split
    · rename_i h; rw [if_pos h] at q; exact absurd rfl q
    · rfl
  · have k : okT (rest s) = true := (ok_iff _).2 o
    have ev : vT s = sg (bel s) (valL ((rest s).data.toList.erase 46)) := by unfold vT; rw [cutAB]
    rw [← ev] at q ⊢
    unfold rdN rdS rdE
    rw [if_pos k, if_pos k, if_pos k, q]
    exact ⟨rfl, hz, rfl⟩

/-- dec.Read, whatever text it is given. -/
theorem dread_any (s : ByteArray) (hs : s.size ≤ 140737488351232) (w : World) :
    Calls Tryd.prog 11 #[.string s] w fun e w' => e = .returned (.tuple #[.agg #[.int .i64 (rdN s), .int .i64 (rdS s)], .int .i64 (rdE s)]) ∧ Below w.heap.size w w' := by
  have hcut : ∀ T : ByteArray, (cutA T).size + (cutB T).size ≤ T.size := fun T => by
    have := congrArg List.length (cutAB T)
    rw [ByteArray.data_append, Array.toList_append, List.length_append] at this
    have h2 := List.length_erase_le (a := (46 : UInt8)) (l := T.data.toList)
    simp at this h2 ⊢
    omega
  have P1 : Hid (∀ w : World, Calls Tryd.prog 29 #[.string s, .string ⟨#[45]⟩] w fun e w' => e = .returned (.bool (bel s)) ∧ w' = w) := fun w => Tryd.strings_HasPrefix _ _ w
  have P2 : Hid (∀ w : World, Calls Tryd.prog 29 #[.string s, .string ⟨#[43]⟩] w fun e w' => e = .returned (.bool (pls s)) ∧ w' = w) := fun w => Tryd.strings_HasPrefix _ _ w
  have hpos : (bel s || pls s) = true → 1 ≤ s.size := fun h => Nat.pos_of_ne_zero (fun h0 => by
    have e1 : bel s = false := by unfold bel Lib.hasPrefix; rw [List.eq_nil_of_length_eq_zero (show s.data.toList.length = 0 by simpa using h0)]; rfl
    have e2 : pls s = false := by unfold pls Lib.hasPrefix; rw [List.eq_nil_of_length_eq_zero (show s.data.toList.length = 0 by simpa using h0)]; rfl
    rw [e1, e2] at h; exact absurd h (by decide))
  have hrs : (rest s).size ≤ s.size := by
    unfold rest
    split
    · rw [ByteArray.size_extract]; omega
    · exact Nat.le_refl _
  have HC := cut_any (rest s) (by omega)
  have hsz : (cutA (rest s)).size + (cutB (rest s)).size ≤ 9223372036854775807 := by have := hcut (rest s); omega
  have DA := areDigits_any (cutA (rest s))
  have DB := areDigits_any (cutB (rest s))
  have NU : okT (rest s) = true → ∀ w : World, Calls Tryd.prog 32 #[.string (cutA (rest s) ++ cutB (rest s)), .bool (bel s)] w fun e w' => e = .returned (.tuple #[.int .i64 (smV (vT s)), .int .i64 (smE (vT s))]) ∧ Below w.heap.size w w' := fun h w => by
    refine number_any _ (bel s) ?_ w
    have := (ok_iff _).1 h
    unfold allD
    rw [cutAB]
    exact this.1
  have key : okT (rest s) = (areD (cutA (rest s)) && (!cutF (rest s) || (areD (cutB (rest s)) && decide ((cutB (rest s)).size ≤ 9)))) := rfl
  unfold rdN rdS rdE
  cases hb : bel s
  · cases hp : pls s
    · have er : rest s = s := by unfold rest; rw [hb, hp]; rfl
      rw [hb] at P1 NU
      rw [hp] at P2
      cases ha : areD (cutA (rest s))
      · have ko : ¬ okT (rest s) = true := by rw [key, ha]; simp
        rw [if_neg ko, if_neg ko, if_neg ko]
        rw [ha] at DA
        rw [er] at HC DA DB hsz
        exact read_none_b1 s _ _ _ _ P1 P2 HC DA DB hsz w
      · rw [ha] at DA
        cases hf : cutF (rest s)
        · have ko : okT (rest s) = true := by rw [key, ha, hf]; rfl
          have NU' := NU ko
          rw [if_pos ko, if_pos ko, if_pos ko]
          rw [hf] at HC
          rw [er] at HC DA DB hsz NU' ⊢
          exact read_none_g2 s _ _ _ _ _ P1 P2 HC DA DB NU' hsz w
        · rw [hf] at HC
          cases hB : areD (cutB (rest s))
          · have ko : ¬ okT (rest s) = true := by rw [key, ha, hf, hB]; simp
            rw [if_neg ko, if_neg ko, if_neg ko]
            rw [hB] at DB
            rw [er] at HC DA DB hsz
            exact read_none_b2 s _ _ P1 P2 HC DA DB hsz w
          · rw [hB] at DB
            by_cases h9 : (cutB (rest s)).size ≤ 9
            · have ko : okT (rest s) = true := by rw [key, ha, hf, hB]; simp [h9]
              have NU' := NU ko
              rw [if_pos ko, if_pos ko, if_pos ko]
              rw [er] at HC DA DB hsz NU' h9 ⊢
              exact read_none_g1 s _ _ _ _ (by omega) P1 P2 HC DA DB NU' hsz w
            · have ko : ¬ okT (rest s) = true := by rw [key, ha, hf, hB]; simp [h9]
              rw [if_neg ko, if_neg ko, if_neg ko]
              rw [er] at HC DA DB hsz h9
              exact read_none_b3 s _ _ (by omega) P1 P2 HC DA DB hsz w
    · have er : rest s = s.extract 1 s.size := by unfold rest; rw [hb, hp]; rfl
      have h1 := hpos (by rw [hb, hp]; rfl)
      rw [hb] at P1 NU
      rw [hp] at P2
      cases ha : areD (cutA (rest s))
      · have ko : ¬ okT (rest s) = true := by rw [key, ha]; simp
        rw [if_neg ko, if_neg ko, if_neg ko]
        rw [ha] at DA
        rw [er] at HC DA DB hsz
        exact read_plus_b1 s _ _ _ _ h1 P1 P2 HC DA DB hsz w
      · rw [ha] at DA
        cases hf : cutF (rest s)
        · have ko : okT (rest s) = true := by rw [key, ha, hf]; rfl
          have NU' := NU ko
          rw [if_pos ko, if_pos ko, if_pos ko]
          rw [hf] at HC
          rw [er] at HC DA DB hsz NU' ⊢
          exact read_plus_g2 s _ _ _ _ _ h1 P1 P2 HC DA DB NU' hsz w
        · rw [hf] at HC
          cases hB : areD (cutB (rest s))
          · have ko : ¬ okT (rest s) = true := by rw [key, ha, hf, hB]; simp
            rw [if_neg ko, if_neg ko, if_neg ko]
            rw [hB] at DB
            rw [er] at HC DA DB hsz
            exact read_plus_b2 s _ _ h1 P1 P2 HC DA DB hsz w
          · rw [hB] at DB
            by_cases h9 : (cutB (rest s)).size ≤ 9
            · have ko : okT (rest s) = true := by rw [key, ha, hf, hB]; simp [h9]
              have NU' := NU ko
              rw [if_pos ko, if_pos ko, if_pos ko]
              rw [er] at HC DA DB hsz NU' h9 ⊢
              exact read_plus_g1 s _ _ _ _ h1 (by omega) P1 P2 HC DA DB NU' hsz w
            · have ko : ¬ okT (rest s) = true := by rw [key, ha, hf, hB]; simp [h9]
              rw [if_neg ko, if_neg ko, if_neg ko]
              rw [er] at HC DA DB hsz h9
              exact read_plus_b3 s _ _ h1 (by omega) P1 P2 HC DA DB hsz w
  · have er : rest s = s.extract 1 s.size := by unfold rest; rw [hb]; rfl
    have h1 := hpos (by rw [hb]; rfl)
    rw [hb] at P1 NU
    cases ha : areD (cutA (rest s))
    · have ko : ¬ okT (rest s) = true := by rw [key, ha]; simp
      rw [if_neg ko, if_neg ko, if_neg ko]
      rw [ha] at DA
      rw [er] at HC DA DB hsz
      exact read_neg_b1 s _ _ _ _ h1 P1 HC DA DB hsz w
    · rw [ha] at DA
      cases hf : cutF (rest s)
      · have ko : okT (rest s) = true := by rw [key, ha, hf]; rfl
        have NU' := NU ko
        rw [if_pos ko, if_pos ko, if_pos ko]
        rw [hf] at HC
        rw [er] at HC DA DB hsz NU' ⊢
        exact read_neg_g2 s _ _ _ _ _ h1 P1 HC DA DB NU' hsz w
      · rw [hf] at HC
        cases hB : areD (cutB (rest s))
        · have ko : ¬ okT (rest s) = true := by rw [key, ha, hf, hB]; simp
          rw [if_neg ko, if_neg ko, if_neg ko]
          rw [hB] at DB
          rw [er] at HC DA DB hsz
          exact read_neg_b2 s _ _ h1 P1 HC DA DB hsz w
        · rw [hB] at DB
          by_cases h9 : (cutB (rest s)).size ≤ 9
          · have ko : okT (rest s) = true := by rw [key, ha, hf, hB]; simp [h9]
            have NU' := NU ko
            rw [if_pos ko, if_pos ko, if_pos ko]
            rw [er] at HC DA DB hsz NU' h9 ⊢
            exact read_neg_g1 s _ _ _ _ h1 (by omega) P1 HC DA DB NU' hsz w
          · have ko : ¬ okT (rest s) = true := by rw [key, ha, hf, hB]; simp [h9]
            rw [if_neg ko, if_neg ko, if_neg ko]
            rw [er] at HC DA DB hsz h9
            exact read_neg_b3 s _ _ h1 (by omega) P1 HC DA DB hsz w

end Go.Proofs.YtebjicnjbiiioaaDoor
