/- Contract of the reference's Read where seconds and a fraction come. -/
import Derived.Test.YtdkodkkbggdpbaaDoorScnC
namespace Go.Proofs.YtdkodkkbggdpbaaDoor
open Go.RowKit
set_option linter.unusedVariables false

theorem takeWhile_all (p : UInt8 → Bool) : ∀ (l : List UInt8) (c : UInt8), c ∈ l.takeWhile p → p c = true
  | [], c, h => by simp at h
  | x :: l, c, h => by
    by_cases hx : p x = true
    · rw [List.takeWhile_cons_of_pos hx] at h
      rcases List.mem_cons.1 h with rfl | h
      · exact hx
      · exact takeWhile_all p l c h
    · rw [List.takeWhile_cons_of_neg hx] at h; cases h

set_option maxRecDepth 100000 in
set_option maxHeartbeats 16000000 in
theorem eread_3 (l : List UInt8) (hl : l.length ≤ 140737488351232) (hc2 : sgnB 58 (rL3 l) = true) (hc3 : sgnB 46 (rL5 l) = true) (w : World) :
    Calls Tryd.prog 10 #[.string ⟨l.toArray⟩] w fun e w' => e = .returned (.tuple #[.int .i64 (rdV (rQ7 l) (rL7 l) (mkV (valD 0 (rA l)) (valD 0 (rM l)) (valD 0 (rS l)) (valD 0 (rU l) * 10 ^ (6 - (rU l).length)))), .int .i64 (rdE (rQ7 l) (rL7 l) (mkE (valD 0 (rA l)) (valD 0 (rM l)) (valD 0 (rS l)) (valD 0 (rU l) * 10 ^ (6 - (rU l).length))))]) ∧ Below w.heap.size w w' := by
  have HM : Hid (∀ w : World, Calls Tryd.prog 39 #[.int .i64 (valD 0 (rA l)), .int .i64 (valD 0 (rM l)), .int .i64 (valD 0 (rS l)), .int .i64 (valD 0 (rU l) * 10 ^ (6 - (rU l).length))] w fun e w' => e = .returned (.tuple #[.int .i64 (mkV (valD 0 (rA l)) (valD 0 (rM l)) (valD 0 (rS l)) (valD 0 (rU l) * 10 ^ (6 - (rU l).length))), .int .i64 (mkE (valD 0 (rA l)) (valD 0 (rM l)) (valD 0 (rS l)) (valD 0 (rU l) * 10 ^ (6 - (rU l).length)))]) ∧ w' = w) := rmake_any _ _ _ _
  have k1 : (rL1 l).length ≤ l.length := by unfold rL1; simp
  have k2 : (rL2 l).length ≤ (rL1 l).length := sgnL_len _ _
  have k3 : (rL3 l).length ≤ (rL2 l).length := by unfold rL3; simp
  have k4 : (rL4 l).length ≤ (rL3 l).length := sgnL_len _ _
  have k5 : (rL5 l).length ≤ (rL4 l).length := by unfold rL5; simp
  have k6 : (rL6 l).length ≤ (rL5 l).length := sgnL_len _ _
  obtain ⟨V, hV⟩ : ∃ V, V = mkV (valD 0 (rA l)) (valD 0 (rM l)) (valD 0 (rS l)) (valD 0 (rU l) * 10 ^ (6 - (rU l).length)) := ⟨_, rfl⟩
  obtain ⟨E, hE⟩ : ∃ E, E = mkE (valD 0 (rA l)) (valD 0 (rM l)) (valD 0 (rS l)) (valD 0 (rU l) * 10 ^ (6 - (rU l).length)) := ⟨_, rfl⟩
  rw [← hV, ← hE] at HM ⊢
  clear hV hE
  obtain ⟨a, ha⟩ : ∃ a, a = valD 0 (rA l) := ⟨_, rfl⟩
  obtain ⟨m, hm⟩ : ∃ m, m = valD 0 (rM l) := ⟨_, rfl⟩
  obtain ⟨sc, hsc⟩ : ∃ sc, sc = valD 0 (rS l) := ⟨_, rfl⟩
  have N1 : Hid (∀ W : World, SBox W w.heap.size l false → Calls Tryd.prog 37 #[.pointer (some ⟨w.heap.size, 0, none⟩), .int .i64 1, .int .i64 2] W fun e w' => e = .returned (.int .i64 a) ∧ SBox w' w.heap.size (rL1 l) (rQ1 l) ∧ Below w.heap.size W w') := fun W S => by rw [ha]; exact num_any w.heap.size l false 1 2 (by decide) (by decide) W S hl
  have N2 : Hid (∀ W : World, SBox W w.heap.size (rL2 l) (rQ2 l) → Calls Tryd.prog 37 #[.pointer (some ⟨w.heap.size, 0, none⟩), .int .i64 2, .int .i64 2] W fun e w' => e = .returned (.int .i64 m) ∧ SBox w' w.heap.size (rL3 l) (rQ3 l) ∧ Below w.heap.size W w') := fun W S => by rw [hm]; exact num_any w.heap.size (rL2 l) (rQ2 l) 2 2 (by decide) (by decide) W S (by omega)
  have N3 : Hid (∀ W : World, SBox W w.heap.size (rL4 l) (rQ3 l) → Calls Tryd.prog 37 #[.pointer (some ⟨w.heap.size, 0, none⟩), .int .i64 2, .int .i64 2] W fun e w' => e = .returned (.int .i64 sc) ∧ SBox w' w.heap.size (rL5 l) (rQ5 l) ∧ Below w.heap.size W w') := fun W S => by rw [hsc]; exact num_any w.heap.size (rL4 l) (rQ3 l) 2 2 (by decide) (by decide) W S (by omega)
  have G1 : Hid (∀ W : World, SBox W w.heap.size (rL1 l) (rQ1 l) → Calls Tryd.prog 38 #[.pointer (some ⟨w.heap.size, 0, none⟩), .int .u8 58] W fun e w' => e = .returned (.bool (sgnB 58 (rL1 l))) ∧ SBox w' w.heap.size (rL2 l) (rQ1 l) ∧ Below w.heap.size W w') := fun W S => sign_any w.heap.size (rL1 l) (rQ1 l) 58 W S (by omega)
  have G2 : Hid (∀ W : World, SBox W w.heap.size (rL3 l) (rQ3 l) → Calls Tryd.prog 38 #[.pointer (some ⟨w.heap.size, 0, none⟩), .int .u8 58] W fun e w' => e = .returned (.bool true) ∧ SBox w' w.heap.size (rL4 l) (rQ3 l) ∧ Below w.heap.size W w') := fun W S => by rw [← hc2]; exact sign_any w.heap.size (rL3 l) (rQ3 l) 58 W S (by omega)
  have G3 : Hid (∀ W : World, SBox W w.heap.size (rL5 l) (rQ5 l) → Calls Tryd.prog 38 #[.pointer (some ⟨w.heap.size, 0, none⟩), .int .u8 46] W fun e w' => e = .returned (.bool true) ∧ SBox w' w.heap.size (rL6 l) (rQ5 l) ∧ Below w.heap.size W w') := fun W S => by rw [← hc3]; exact sign_any w.heap.size (rL5 l) (rQ5 l) 46 W S (by omega)
  obtain ⟨u0, hu0⟩ : ∃ u0, u0 = valD 0 (rU l) := ⟨_, rfl⟩
  obtain ⟨d, hd⟩ : ∃ d, d = (rU l).length := ⟨_, rfl⟩
  have N4 : Hid (∀ W : World, SBox W w.heap.size (rL6 l) (rQ5 l) → Calls Tryd.prog 37 #[.pointer (some ⟨w.heap.size, 0, none⟩), .int .i64 1, .int .i64 6] W fun e w' => e = .returned (.int .i64 u0) ∧ SBox w' w.heap.size (rL7 l) (rQ7 l) ∧ Below w.heap.size W w') := fun W S => by rw [hu0]; exact num_any w.heap.size (rL6 l) (rQ5 l) 1 6 (by decide) (by decide) W S (by omega)
  have hdg : ∀ c ∈ rU l, isDg c = true := fun c hc => by unfold rU digs at hc; exact takeWhile_all _ _ c hc
  obtain ⟨v1, v2⟩ := valD_bd (rU l) 0 (by omega) hdg
  have hd6 : (rU l).length ≤ 6 := by
    unfold rU digs
    exact Nat.le_trans (List.takeWhile_sublist _).length_le (by rw [List.length_take]; omega)
  have hdn : (rU l).length ≤ (rL6 l).length := by
    unfold rU digs
    exact Nat.le_trans (List.takeWhile_sublist _).length_le (by rw [List.length_take]; omega)
  have h7 : (rL7 l).length = (rL6 l).length - (rU l).length := by unfold rL7; simp
  rw [← ha, ← hm, ← hsc, ← hu0, ← hd] at HM
  rw [← hd] at hd6 hdn h7 v2
  rw [← hu0] at v1 v2
  have HW : Hid (∀ j : Nat, d + j ≤ 6 → 0 ≤ u0 * 10 ^ j ∧ u0 * 10 ^ j ≤ 999999) := fun j hj => by
    have p : (0 : Int) < 10 ^ j := Int.pow_pos (by decide)
    have a1 : 0 ≤ u0 * 10 ^ j := Int.mul_nonneg v1 (Int.le_of_lt p)
    have b1 : (u0 + 1) * 10 ^ j ≤ 10 ^ d * 10 ^ j := Int.mul_le_mul_of_nonneg_right (by omega) (Int.le_of_lt p)
    rw [← Int.pow_add, Int.add_mul, Int.one_mul] at b1
    have c1 : (10 : Int) ^ (d + j) ≤ 1000000 := by
      have : ∀ z : Fin 7, (10 : Int) ^ z.val ≤ 1000000 := by decide
      exact this ⟨d + j, by omega⟩
    omega
  clear v1 v2 hdg
  obtain ⟨n6, hn6⟩ : ∃ n6, n6 = (rL6 l).length := ⟨_, rfl⟩
  rw [← hn6] at hdn h7
  have HN6 : Hid (n6 = (rL6 l).length) := hn6
  have hQ2 : Hid (rQ2 l = if sgnB 58 (rL1 l) = true then rQ1 l else true) := rfl
  obtain ⟨R, hR⟩ : ∃ R, R = rL7 l := ⟨_, rfl⟩
  rw [← hR] at N4 h7 ⊢
  have hRl : R.length ≤ 140737488351232 := by omega
  have h67 : (n6 : Int) - (R.length : Int) = (d : Int) := by omega
  have n6b : n6 ≤ 140737488351232 := by omega
  generalize rQ7 l = q7 at *
  generalize rQ5 l = q5 at *
  generalize rL6 l = l6 at *
  generalize rQ3 l = q3 at *
  generalize rQ2 l = q2 at *
  generalize rQ1 l = q1 at *
  generalize rL5 l = l5 at *
  generalize rL4 l = l4 at *
  generalize rL3 l = l3 at *
  generalize rL2 l = l2 at *
  generalize rL1 l = l1 at *
  clear k1 k2 k3 k4 k5 k6 ha hm hsc hR hc2 hc3 hu0 hd hdn h7 hn6
  obtain ⟨s, hs⟩ : ∃ s : ByteArray, s = ⟨l.toArray⟩ := ⟨_, rfl⟩
  rw [← hs]
  have S0 : Hid (SBox (w.alloc (.cells #[.string s, .bool false] 65)) w.heap.size l false) := SBox.new w l s hs _
  have B0 : Hid (Below w.heap.size w (w.alloc (.cells #[.string s, .bool false] 65))) := (Below.refl _ _).alloc (Nat.le_refl _) _
  clear hs hl
  cases hg1 : sgnB 58 l1
  · rw [hg1] at G1 hQ2
    cases q7
    · cases R with
      | nil =>
        rw [(rd_yes rfl rfl V E).1, (rd_yes rfl rfl V E).2]
        have e2 : q2 = true := hQ2.out.trans (if_neg (by decide))
        subst e2
        go_enter Tryd.func10, Tryd.ntmps10
        go_wp2_with fail
        refine (N1.out _ S0.out).mono ?_
        rintro e w1 ⟨rfl, s1, b1⟩
        have B1 : Hid (Below w.heap.size w w1) := B0.out.trans b1
        have S1 : Hid (SBox w1 w.heap.size _ _) := s1
        clear b1 S0 B0
        clear s1
        go_wp2_with fail
        refine (G1.out _ S1.out).mono ?_
        rintro e w2 ⟨rfl, s2, b2⟩
        have B2 : Hid (Below w.heap.size w w2) := B1.out.trans b2
        have S2 : Hid (SBox w2 w.heap.size _ _) := s2
        clear b2 S1 B1
        obtain ⟨z1, z2, z3, z4, z5⟩ := s2
        go_wp2_with fail
        refine (N2.out _ (S2.out.set1 true)).mono ?_
        rintro e w3 ⟨rfl, s3, b3⟩
        have B3 : Hid (Below w.heap.size w w3) := (B2.out.setCell (show w.heap.size ≤ w.heap.size from Nat.le_refl _) _).trans b3
        have S3 : Hid (SBox w3 w.heap.size _ _) := s3
        clear z1 z2 z3 z4 z5
        clear b3 S2 B2
        clear s3
        go_wp2_with fail
        refine (G2.out _ S3.out).mono ?_
        rintro e w4 ⟨rfl, s4, b4⟩
        have B4 : Hid (Below w.heap.size w w4) := B3.out.trans b4
        have S4 : Hid (SBox w4 w.heap.size _ _) := s4
        clear b4 S3 B3
        clear s4
        go_wp2_with fail
        refine (N3.out _ S4.out).mono ?_
        rintro e w5 ⟨rfl, s5, b5⟩
        have B5 : Hid (Below w.heap.size w w5) := B4.out.trans b5
        have S5 : Hid (SBox w5 w.heap.size _ _) := s5
        clear b5 S4 B4
        clear s5
        go_wp2_with fail
        refine (G3.out _ S5.out).mono ?_
        rintro e w6 ⟨rfl, s6, b6⟩
        have B6 : Hid (Below w.heap.size w w6) := B5.out.trans b6
        have S6 : Hid (SBox w6 w.heap.size _ _) := s6
        clear b6 S5 B5
        obtain ⟨y1, y2, y3, y4, y5⟩ := s6
        obtain ⟨s6, hs6⟩ : ∃ s6 : ByteArray, s6 = ⟨l6.toArray⟩ := ⟨_, rfl⟩
        rw [← hs6] at y2
        have hsz6 : s6.size = n6 := by rw [hs6, HN6.out]; show l6.toArray.size = _; simp
        clear hs6
        go_wp2_with fail
        refine (N4.out _ S6.out).mono ?_
        rintro e w7 ⟨rfl, s7, b7⟩
        have B7 : Hid (Below w.heap.size w w7) := B6.out.trans b7
        have S7 : Hid (SBox w7 w.heap.size _ _) := s7
        clear b7 S6 B6
        clear y1 y2 y3 y4 y5 hsz6
        obtain ⟨f1, f2, f3, f4, f5⟩ := s7
        obtain ⟨s4, hs4⟩ : ∃ s4 : ByteArray, s4 = ⟨#[]⟩ := ⟨_, rfl⟩
        have f2' : w7.cell? ⟨w.heap.size, 0, none⟩ = some (.string s4) := by rw [hs4]; exact f2
        clear f2
        have hsz : s4.size = 0 := by rw [hs4]; rfl
        have h67' : (n6 : Int) = (d : Int) := by simpa using h67
        clear hs4 h67
        go_wp2_with fail
        go_loopw [8, 10] (fun v kv W => ∃ j : Nat, d + j ≤ 6 ∧ v = .int .i64 (u0 * 10 ^ j) ∧ kv = .int .i64 ((d + j : Nat) : Int) ∧ W = w7) (fun _ kv _ => 6 - (intOf kv).toNat)
        case atStart => exact ⟨0, by omega, by simp, by first | rfl | (simp [h67']), rfl⟩
        case round =>
          obtain ⟨j, hj, rfl, rfl, hwr⟩ := hrel
          obtain rfl := hwr.symm
          clear hwr
          by_cases hj6 : d + j < 6
          · obtain ⟨p1, p2⟩ := HW.out j hj
            have HE : Hid (u0 * 10 ^ (j + 1) = u0 * 10 ^ j * 10) := by show _ = _; rw [Int.pow_succ, Int.mul_assoc]
            obtain ⟨t, ht⟩ : ∃ t : Nat, t = d + j := ⟨_, rfl⟩
            have HT : Hid (t = d + j) := ht
            rw [← ht] at hj6 ⊢
            have hj' : (t : Int) < 6 := by omega
            clear ht hj
            obtain ⟨y, hy⟩ : ∃ y, y = u0 * 10 ^ j := ⟨_, rfl⟩
            have HY : Hid (y = u0 * 10 ^ j) := hy
            rw [← hy] at p1 p2 ⊢
            clear hy
            go_wp2_with fail
            go_roundw
            case rel => exact ⟨j + 1, by rw [HT.out] at hj6; omega, by rw [HE.out, HY.out], by rw [HT.out]; first | rfl | (congr 1; omega), (by first | trivial | rfl)⟩
            case measure => simp [intOf]; omega
          · have ej : 6 - d = j := by omega
            have HJ : Hid (6 - d = j) := ej
            obtain ⟨t, ht⟩ : ∃ t : Nat, t = d + j := ⟨_, rfl⟩
            rw [← ht] at hj6 ⊢
            have hj' : ¬ (t : Int) < 6 := by omega
            rw [ej] at HM
            clear ht hj ej
            go_wp2_with fail
            refine (HM.out _).mono ?_
            rintro e w8 ⟨rfl, rfl⟩
            go_wp2
            go_ret2
            exact ⟨rfl, B7.out⟩
      | cons x r =>
        rw [(rd_left (List.cons_ne_nil x r) V E).1, (rd_left (List.cons_ne_nil x r) V E).2]
        have e2 : q2 = true := hQ2.out.trans (if_neg (by decide))
        subst e2
        go_enter Tryd.func10, Tryd.ntmps10
        go_wp2_with fail
        refine (N1.out _ S0.out).mono ?_
        rintro e w1 ⟨rfl, s1, b1⟩
        have B1 : Hid (Below w.heap.size w w1) := B0.out.trans b1
        have S1 : Hid (SBox w1 w.heap.size _ _) := s1
        clear b1 S0 B0
        clear s1
        go_wp2_with fail
        refine (G1.out _ S1.out).mono ?_
        rintro e w2 ⟨rfl, s2, b2⟩
        have B2 : Hid (Below w.heap.size w w2) := B1.out.trans b2
        have S2 : Hid (SBox w2 w.heap.size _ _) := s2
        clear b2 S1 B1
        obtain ⟨z1, z2, z3, z4, z5⟩ := s2
        go_wp2_with fail
        refine (N2.out _ (S2.out.set1 true)).mono ?_
        rintro e w3 ⟨rfl, s3, b3⟩
        have B3 : Hid (Below w.heap.size w w3) := (B2.out.setCell (show w.heap.size ≤ w.heap.size from Nat.le_refl _) _).trans b3
        have S3 : Hid (SBox w3 w.heap.size _ _) := s3
        clear z1 z2 z3 z4 z5
        clear b3 S2 B2
        clear s3
        go_wp2_with fail
        refine (G2.out _ S3.out).mono ?_
        rintro e w4 ⟨rfl, s4, b4⟩
        have B4 : Hid (Below w.heap.size w w4) := B3.out.trans b4
        have S4 : Hid (SBox w4 w.heap.size _ _) := s4
        clear b4 S3 B3
        clear s4
        go_wp2_with fail
        refine (N3.out _ S4.out).mono ?_
        rintro e w5 ⟨rfl, s5, b5⟩
        have B5 : Hid (Below w.heap.size w w5) := B4.out.trans b5
        have S5 : Hid (SBox w5 w.heap.size _ _) := s5
        clear b5 S4 B4
        clear s5
        go_wp2_with fail
        refine (G3.out _ S5.out).mono ?_
        rintro e w6 ⟨rfl, s6, b6⟩
        have B6 : Hid (Below w.heap.size w w6) := B5.out.trans b6
        have S6 : Hid (SBox w6 w.heap.size _ _) := s6
        clear b6 S5 B5
        obtain ⟨y1, y2, y3, y4, y5⟩ := s6
        obtain ⟨s6, hs6⟩ : ∃ s6 : ByteArray, s6 = ⟨l6.toArray⟩ := ⟨_, rfl⟩
        rw [← hs6] at y2
        have hsz6 : s6.size = n6 := by rw [hs6, HN6.out]; show l6.toArray.size = _; simp
        clear hs6
        go_wp2_with fail
        refine (N4.out _ S6.out).mono ?_
        rintro e w7 ⟨rfl, s7, b7⟩
        have B7 : Hid (Below w.heap.size w w7) := B6.out.trans b7
        have S7 : Hid (SBox w7 w.heap.size _ _) := s7
        clear b7 S6 B6
        clear y1 y2 y3 y4 y5 hsz6
        obtain ⟨f1, f2, f3, f4, f5⟩ := s7
        obtain ⟨s4, hs4⟩ : ∃ s4 : ByteArray, s4 = ⟨(x :: r).toArray⟩ := ⟨_, rfl⟩
        have f2' : w7.cell? ⟨w.heap.size, 0, none⟩ = some (.string s4) := by rw [hs4]; exact f2
        clear f2
        have hsz : s4.size = r.length + 1 := by rw [hs4]; show (x :: r).toArray.size = _; simp
        have h67' : (n6 : Int) - ((r.length : Int) + 1) = (d : Int) := by have := h67; simp only [List.length_cons] at this; omega
        have hpos : (0 : Int) < (r.length : Int) + 1 := by omega
        have hrb : r.length ≤ 140737488351232 := by simp at hRl; omega
        clear hs4 h67
        go_wp2_with fail
        go_loopw [8, 10] (fun v kv W => ∃ j : Nat, d + j ≤ 6 ∧ v = .int .i64 (u0 * 10 ^ j) ∧ kv = .int .i64 ((d + j : Nat) : Int) ∧ W = w7) (fun _ kv _ => 6 - (intOf kv).toNat)
        case atStart => exact ⟨0, by omega, by simp, by first | rfl | (simp [h67']), rfl⟩
        case round =>
          obtain ⟨j, hj, rfl, rfl, hwr⟩ := hrel
          obtain rfl := hwr.symm
          clear hwr
          by_cases hj6 : d + j < 6
          · obtain ⟨p1, p2⟩ := HW.out j hj
            have HE : Hid (u0 * 10 ^ (j + 1) = u0 * 10 ^ j * 10) := by show _ = _; rw [Int.pow_succ, Int.mul_assoc]
            obtain ⟨t, ht⟩ : ∃ t : Nat, t = d + j := ⟨_, rfl⟩
            have HT : Hid (t = d + j) := ht
            rw [← ht] at hj6 ⊢
            have hj' : (t : Int) < 6 := by omega
            clear ht hj
            obtain ⟨y, hy⟩ : ∃ y, y = u0 * 10 ^ j := ⟨_, rfl⟩
            have HY : Hid (y = u0 * 10 ^ j) := hy
            rw [← hy] at p1 p2 ⊢
            clear hy
            go_wp2_with fail
            go_roundw
            case rel => exact ⟨j + 1, by rw [HT.out] at hj6; omega, by rw [HE.out, HY.out], by rw [HT.out]; first | rfl | (congr 1; omega), (by first | trivial | rfl)⟩
            case measure => simp [intOf]; omega
          · have ej : 6 - d = j := by omega
            have HJ : Hid (6 - d = j) := ej
            obtain ⟨t, ht⟩ : ∃ t : Nat, t = d + j := ⟨_, rfl⟩
            rw [← ht] at hj6 ⊢
            have hj' : ¬ (t : Int) < 6 := by omega
            rw [ej] at HM
            clear ht hj ej
            go_wp2
            go_ret2
            exact ⟨rfl, B7.out⟩
    · cases R with
      | nil =>
        rw [(rd_bad rfl V E).1, (rd_bad rfl V E).2]
        have e2 : q2 = true := hQ2.out.trans (if_neg (by decide))
        subst e2
        go_enter Tryd.func10, Tryd.ntmps10
        go_wp2_with fail
        refine (N1.out _ S0.out).mono ?_
        rintro e w1 ⟨rfl, s1, b1⟩
        have B1 : Hid (Below w.heap.size w w1) := B0.out.trans b1
        have S1 : Hid (SBox w1 w.heap.size _ _) := s1
        clear b1 S0 B0
        clear s1
        go_wp2_with fail
        refine (G1.out _ S1.out).mono ?_
        rintro e w2 ⟨rfl, s2, b2⟩
        have B2 : Hid (Below w.heap.size w w2) := B1.out.trans b2
        have S2 : Hid (SBox w2 w.heap.size _ _) := s2
        clear b2 S1 B1
        obtain ⟨z1, z2, z3, z4, z5⟩ := s2
        go_wp2_with fail
        refine (N2.out _ (S2.out.set1 true)).mono ?_
        rintro e w3 ⟨rfl, s3, b3⟩
        have B3 : Hid (Below w.heap.size w w3) := (B2.out.setCell (show w.heap.size ≤ w.heap.size from Nat.le_refl _) _).trans b3
        have S3 : Hid (SBox w3 w.heap.size _ _) := s3
        clear z1 z2 z3 z4 z5
        clear b3 S2 B2
        clear s3
        go_wp2_with fail
        refine (G2.out _ S3.out).mono ?_
        rintro e w4 ⟨rfl, s4, b4⟩
        have B4 : Hid (Below w.heap.size w w4) := B3.out.trans b4
        have S4 : Hid (SBox w4 w.heap.size _ _) := s4
        clear b4 S3 B3
        clear s4
        go_wp2_with fail
        refine (N3.out _ S4.out).mono ?_
        rintro e w5 ⟨rfl, s5, b5⟩
        have B5 : Hid (Below w.heap.size w w5) := B4.out.trans b5
        have S5 : Hid (SBox w5 w.heap.size _ _) := s5
        clear b5 S4 B4
        clear s5
        go_wp2_with fail
        refine (G3.out _ S5.out).mono ?_
        rintro e w6 ⟨rfl, s6, b6⟩
        have B6 : Hid (Below w.heap.size w w6) := B5.out.trans b6
        have S6 : Hid (SBox w6 w.heap.size _ _) := s6
        clear b6 S5 B5
        obtain ⟨y1, y2, y3, y4, y5⟩ := s6
        obtain ⟨s6, hs6⟩ : ∃ s6 : ByteArray, s6 = ⟨l6.toArray⟩ := ⟨_, rfl⟩
        rw [← hs6] at y2
        have hsz6 : s6.size = n6 := by rw [hs6, HN6.out]; show l6.toArray.size = _; simp
        clear hs6
        go_wp2_with fail
        refine (N4.out _ S6.out).mono ?_
        rintro e w7 ⟨rfl, s7, b7⟩
        have B7 : Hid (Below w.heap.size w w7) := B6.out.trans b7
        have S7 : Hid (SBox w7 w.heap.size _ _) := s7
        clear b7 S6 B6
        clear y1 y2 y3 y4 y5 hsz6
        obtain ⟨f1, f2, f3, f4, f5⟩ := s7
        obtain ⟨s4, hs4⟩ : ∃ s4 : ByteArray, s4 = ⟨#[]⟩ := ⟨_, rfl⟩
        have f2' : w7.cell? ⟨w.heap.size, 0, none⟩ = some (.string s4) := by rw [hs4]; exact f2
        clear f2
        have hsz : s4.size = 0 := by rw [hs4]; rfl
        have h67' : (n6 : Int) = (d : Int) := by simpa using h67
        clear hs4 h67
        go_wp2_with fail
        go_loopw [8, 10] (fun v kv W => ∃ j : Nat, d + j ≤ 6 ∧ v = .int .i64 (u0 * 10 ^ j) ∧ kv = .int .i64 ((d + j : Nat) : Int) ∧ W = w7) (fun _ kv _ => 6 - (intOf kv).toNat)
        case atStart => exact ⟨0, by omega, by simp, by first | rfl | (simp [h67']), rfl⟩
        case round =>
          obtain ⟨j, hj, rfl, rfl, hwr⟩ := hrel
          obtain rfl := hwr.symm
          clear hwr
          by_cases hj6 : d + j < 6
          · obtain ⟨p1, p2⟩ := HW.out j hj
            have HE : Hid (u0 * 10 ^ (j + 1) = u0 * 10 ^ j * 10) := by show _ = _; rw [Int.pow_succ, Int.mul_assoc]
            obtain ⟨t, ht⟩ : ∃ t : Nat, t = d + j := ⟨_, rfl⟩
            have HT : Hid (t = d + j) := ht
            rw [← ht] at hj6 ⊢
            have hj' : (t : Int) < 6 := by omega
            clear ht hj
            obtain ⟨y, hy⟩ : ∃ y, y = u0 * 10 ^ j := ⟨_, rfl⟩
            have HY : Hid (y = u0 * 10 ^ j) := hy
            rw [← hy] at p1 p2 ⊢
            clear hy
            go_wp2_with fail
            go_roundw
            case rel => exact ⟨j + 1, by rw [HT.out] at hj6; omega, by rw [HE.out, HY.out], by rw [HT.out]; first | rfl | (congr 1; omega), (by first | trivial | rfl)⟩
            case measure => simp [intOf]; omega
          · have ej : 6 - d = j := by omega
            have HJ : Hid (6 - d = j) := ej
            obtain ⟨t, ht⟩ : ∃ t : Nat, t = d + j := ⟨_, rfl⟩
            rw [← ht] at hj6 ⊢
            have hj' : ¬ (t : Int) < 6 := by omega
            rw [ej] at HM
            clear ht hj ej
            go_wp2
            go_ret2
            exact ⟨rfl, B7.out⟩
      | cons x r =>
        rw [(rd_bad rfl V E).1, (rd_bad rfl V E).2]
        have e2 : q2 = true := hQ2.out.trans (if_neg (by decide))
        subst e2
        go_enter Tryd.func10, Tryd.ntmps10
        go_wp2_with fail
        refine (N1.out _ S0.out).mono ?_
        rintro e w1 ⟨rfl, s1, b1⟩
        have B1 : Hid (Below w.heap.size w w1) := B0.out.trans b1
        have S1 : Hid (SBox w1 w.heap.size _ _) := s1
        clear b1 S0 B0
        clear s1
        go_wp2_with fail
        refine (G1.out _ S1.out).mono ?_
        rintro e w2 ⟨rfl, s2, b2⟩
        have B2 : Hid (Below w.heap.size w w2) := B1.out.trans b2
        have S2 : Hid (SBox w2 w.heap.size _ _) := s2
        clear b2 S1 B1
        obtain ⟨z1, z2, z3, z4, z5⟩ := s2
        go_wp2_with fail
        refine (N2.out _ (S2.out.set1 true)).mono ?_
        rintro e w3 ⟨rfl, s3, b3⟩
        have B3 : Hid (Below w.heap.size w w3) := (B2.out.setCell (show w.heap.size ≤ w.heap.size from Nat.le_refl _) _).trans b3
        have S3 : Hid (SBox w3 w.heap.size _ _) := s3
        clear z1 z2 z3 z4 z5
        clear b3 S2 B2
        clear s3
        go_wp2_with fail
        refine (G2.out _ S3.out).mono ?_
        rintro e w4 ⟨rfl, s4, b4⟩
        have B4 : Hid (Below w.heap.size w w4) := B3.out.trans b4
        have S4 : Hid (SBox w4 w.heap.size _ _) := s4
        clear b4 S3 B3
        clear s4
        go_wp2_with fail
        refine (N3.out _ S4.out).mono ?_
        rintro e w5 ⟨rfl, s5, b5⟩
        have B5 : Hid (Below w.heap.size w w5) := B4.out.trans b5
        have S5 : Hid (SBox w5 w.heap.size _ _) := s5
        clear b5 S4 B4
        clear s5
        go_wp2_with fail
        refine (G3.out _ S5.out).mono ?_
        rintro e w6 ⟨rfl, s6, b6⟩
        have B6 : Hid (Below w.heap.size w w6) := B5.out.trans b6
        have S6 : Hid (SBox w6 w.heap.size _ _) := s6
        clear b6 S5 B5
        obtain ⟨y1, y2, y3, y4, y5⟩ := s6
        obtain ⟨s6, hs6⟩ : ∃ s6 : ByteArray, s6 = ⟨l6.toArray⟩ := ⟨_, rfl⟩
        rw [← hs6] at y2
        have hsz6 : s6.size = n6 := by rw [hs6, HN6.out]; show l6.toArray.size = _; simp
        clear hs6
        go_wp2_with fail
        refine (N4.out _ S6.out).mono ?_
        rintro e w7 ⟨rfl, s7, b7⟩
        have B7 : Hid (Below w.heap.size w w7) := B6.out.trans b7
        have S7 : Hid (SBox w7 w.heap.size _ _) := s7
        clear b7 S6 B6
        clear y1 y2 y3 y4 y5 hsz6
        obtain ⟨f1, f2, f3, f4, f5⟩ := s7
        obtain ⟨s4, hs4⟩ : ∃ s4 : ByteArray, s4 = ⟨(x :: r).toArray⟩ := ⟨_, rfl⟩
        have f2' : w7.cell? ⟨w.heap.size, 0, none⟩ = some (.string s4) := by rw [hs4]; exact f2
        clear f2
        have hsz : s4.size = r.length + 1 := by rw [hs4]; show (x :: r).toArray.size = _; simp
        have h67' : (n6 : Int) - ((r.length : Int) + 1) = (d : Int) := by have := h67; simp only [List.length_cons] at this; omega
        have hpos : (0 : Int) < (r.length : Int) + 1 := by omega
        have hrb : r.length ≤ 140737488351232 := by simp at hRl; omega
        clear hs4 h67
        go_wp2_with fail
        go_loopw [8, 10] (fun v kv W => ∃ j : Nat, d + j ≤ 6 ∧ v = .int .i64 (u0 * 10 ^ j) ∧ kv = .int .i64 ((d + j : Nat) : Int) ∧ W = w7) (fun _ kv _ => 6 - (intOf kv).toNat)
        case atStart => exact ⟨0, by omega, by simp, by first | rfl | (simp [h67']), rfl⟩
        case round =>
          obtain ⟨j, hj, rfl, rfl, hwr⟩ := hrel
          obtain rfl := hwr.symm
          clear hwr
          by_cases hj6 : d + j < 6
          · obtain ⟨p1, p2⟩ := HW.out j hj
            have HE : Hid (u0 * 10 ^ (j + 1) = u0 * 10 ^ j * 10) := by show _ = _; rw [Int.pow_succ, Int.mul_assoc]
            obtain ⟨t, ht⟩ : ∃ t : Nat, t = d + j := ⟨_, rfl⟩
            have HT : Hid (t = d + j) := ht
            rw [← ht] at hj6 ⊢
            have hj' : (t : Int) < 6 := by omega
            clear ht hj
            obtain ⟨y, hy⟩ : ∃ y, y = u0 * 10 ^ j := ⟨_, rfl⟩
            have HY : Hid (y = u0 * 10 ^ j) := hy
            rw [← hy] at p1 p2 ⊢
            clear hy
            go_wp2_with fail
            go_roundw
            case rel => exact ⟨j + 1, by rw [HT.out] at hj6; omega, by rw [HE.out, HY.out], by rw [HT.out]; first | rfl | (congr 1; omega), (by first | trivial | rfl)⟩
            case measure => simp [intOf]; omega
          · have ej : 6 - d = j := by omega
            have HJ : Hid (6 - d = j) := ej
            obtain ⟨t, ht⟩ : ∃ t : Nat, t = d + j := ⟨_, rfl⟩
            rw [← ht] at hj6 ⊢
            have hj' : ¬ (t : Int) < 6 := by omega
            rw [ej] at HM
            clear ht hj ej
            go_wp2
            go_ret2
            exact ⟨rfl, B7.out⟩
  · rw [hg1] at G1 hQ2
    cases q7
    · cases R with
      | nil =>
        rw [(rd_yes rfl rfl V E).1, (rd_yes rfl rfl V E).2]
        have e2 : q1 = q2 := (hQ2.out.trans (if_pos rfl)).symm
        subst e2
        go_enter Tryd.func10, Tryd.ntmps10
        go_wp2_with fail
        refine (N1.out _ S0.out).mono ?_
        rintro e w1 ⟨rfl, s1, b1⟩
        have B1 : Hid (Below w.heap.size w w1) := B0.out.trans b1
        have S1 : Hid (SBox w1 w.heap.size _ _) := s1
        clear b1 S0 B0
        clear s1
        go_wp2_with fail
        refine (G1.out _ S1.out).mono ?_
        rintro e w2 ⟨rfl, s2, b2⟩
        have B2 : Hid (Below w.heap.size w w2) := B1.out.trans b2
        have S2 : Hid (SBox w2 w.heap.size _ _) := s2
        clear b2 S1 B1
        clear s2
        go_wp2_with fail
        refine (N2.out _ S2.out).mono ?_
        rintro e w3 ⟨rfl, s3, b3⟩
        have B3 : Hid (Below w.heap.size w w3) := B2.out.trans b3
        have S3 : Hid (SBox w3 w.heap.size _ _) := s3
        clear b3 S2 B2
        clear s3
        go_wp2_with fail
        refine (G2.out _ S3.out).mono ?_
        rintro e w4 ⟨rfl, s4, b4⟩
        have B4 : Hid (Below w.heap.size w w4) := B3.out.trans b4
        have S4 : Hid (SBox w4 w.heap.size _ _) := s4
        clear b4 S3 B3
        clear s4
        go_wp2_with fail
        refine (N3.out _ S4.out).mono ?_
        rintro e w5 ⟨rfl, s5, b5⟩
        have B5 : Hid (Below w.heap.size w w5) := B4.out.trans b5
        have S5 : Hid (SBox w5 w.heap.size _ _) := s5
        clear b5 S4 B4
        clear s5
        go_wp2_with fail
        refine (G3.out _ S5.out).mono ?_
        rintro e w6 ⟨rfl, s6, b6⟩
        have B6 : Hid (Below w.heap.size w w6) := B5.out.trans b6
        have S6 : Hid (SBox w6 w.heap.size _ _) := s6
        clear b6 S5 B5
        obtain ⟨y1, y2, y3, y4, y5⟩ := s6
        obtain ⟨s6, hs6⟩ : ∃ s6 : ByteArray, s6 = ⟨l6.toArray⟩ := ⟨_, rfl⟩
        rw [← hs6] at y2
        have hsz6 : s6.size = n6 := by rw [hs6, HN6.out]; show l6.toArray.size = _; simp
        clear hs6
        go_wp2_with fail
        refine (N4.out _ S6.out).mono ?_
        rintro e w7 ⟨rfl, s7, b7⟩
        have B7 : Hid (Below w.heap.size w w7) := B6.out.trans b7
        have S7 : Hid (SBox w7 w.heap.size _ _) := s7
        clear b7 S6 B6
        clear y1 y2 y3 y4 y5 hsz6
        obtain ⟨f1, f2, f3, f4, f5⟩ := s7
        obtain ⟨s4, hs4⟩ : ∃ s4 : ByteArray, s4 = ⟨#[]⟩ := ⟨_, rfl⟩
        have f2' : w7.cell? ⟨w.heap.size, 0, none⟩ = some (.string s4) := by rw [hs4]; exact f2
        clear f2
        have hsz : s4.size = 0 := by rw [hs4]; rfl
        have h67' : (n6 : Int) = (d : Int) := by simpa using h67
        clear hs4 h67
        go_wp2_with fail
        go_loopw [8, 10] (fun v kv W => ∃ j : Nat, d + j ≤ 6 ∧ v = .int .i64 (u0 * 10 ^ j) ∧ kv = .int .i64 ((d + j : Nat) : Int) ∧ W = w7) (fun _ kv _ => 6 - (intOf kv).toNat)
        case atStart => exact ⟨0, by omega, by simp, by first | rfl | (simp [h67']), rfl⟩
        case round =>
          obtain ⟨j, hj, rfl, rfl, hwr⟩ := hrel
          obtain rfl := hwr.symm
          clear hwr
          by_cases hj6 : d + j < 6
          · obtain ⟨p1, p2⟩ := HW.out j hj
            have HE : Hid (u0 * 10 ^ (j + 1) = u0 * 10 ^ j * 10) := by show _ = _; rw [Int.pow_succ, Int.mul_assoc]
            obtain ⟨t, ht⟩ : ∃ t : Nat, t = d + j := ⟨_, rfl⟩
            have HT : Hid (t = d + j) := ht
            rw [← ht] at hj6 ⊢
            have hj' : (t : Int) < 6 := by omega
            clear ht hj
            obtain ⟨y, hy⟩ : ∃ y, y = u0 * 10 ^ j := ⟨_, rfl⟩
            have HY : Hid (y = u0 * 10 ^ j) := hy
            rw [← hy] at p1 p2 ⊢
            clear hy
            go_wp2_with fail
            go_roundw
            case rel => exact ⟨j + 1, by rw [HT.out] at hj6; omega, by rw [HE.out, HY.out], by rw [HT.out]; first | rfl | (congr 1; omega), (by first | trivial | rfl)⟩
            case measure => simp [intOf]; omega
          · have ej : 6 - d = j := by omega
            have HJ : Hid (6 - d = j) := ej
            obtain ⟨t, ht⟩ : ∃ t : Nat, t = d + j := ⟨_, rfl⟩
            rw [← ht] at hj6 ⊢
            have hj' : ¬ (t : Int) < 6 := by omega
            rw [ej] at HM
            clear ht hj ej
            go_wp2_with fail
            refine (HM.out _).mono ?_
            rintro e w8 ⟨rfl, rfl⟩
            go_wp2
            go_ret2
            exact ⟨rfl, B7.out⟩
      | cons x r =>
        rw [(rd_left (List.cons_ne_nil x r) V E).1, (rd_left (List.cons_ne_nil x r) V E).2]
        have e2 : q1 = q2 := (hQ2.out.trans (if_pos rfl)).symm
        subst e2
        go_enter Tryd.func10, Tryd.ntmps10
        go_wp2_with fail
        refine (N1.out _ S0.out).mono ?_
        rintro e w1 ⟨rfl, s1, b1⟩
        have B1 : Hid (Below w.heap.size w w1) := B0.out.trans b1
        have S1 : Hid (SBox w1 w.heap.size _ _) := s1
        clear b1 S0 B0
        clear s1
        go_wp2_with fail
        refine (G1.out _ S1.out).mono ?_
        rintro e w2 ⟨rfl, s2, b2⟩
        have B2 : Hid (Below w.heap.size w w2) := B1.out.trans b2
        have S2 : Hid (SBox w2 w.heap.size _ _) := s2
        clear b2 S1 B1
        clear s2
        go_wp2_with fail
        refine (N2.out _ S2.out).mono ?_
        rintro e w3 ⟨rfl, s3, b3⟩
        have B3 : Hid (Below w.heap.size w w3) := B2.out.trans b3
        have S3 : Hid (SBox w3 w.heap.size _ _) := s3
        clear b3 S2 B2
        clear s3
        go_wp2_with fail
        refine (G2.out _ S3.out).mono ?_
        rintro e w4 ⟨rfl, s4, b4⟩
        have B4 : Hid (Below w.heap.size w w4) := B3.out.trans b4
        have S4 : Hid (SBox w4 w.heap.size _ _) := s4
        clear b4 S3 B3
        clear s4
        go_wp2_with fail
        refine (N3.out _ S4.out).mono ?_
        rintro e w5 ⟨rfl, s5, b5⟩
        have B5 : Hid (Below w.heap.size w w5) := B4.out.trans b5
        have S5 : Hid (SBox w5 w.heap.size _ _) := s5
        clear b5 S4 B4
        clear s5
        go_wp2_with fail
        refine (G3.out _ S5.out).mono ?_
        rintro e w6 ⟨rfl, s6, b6⟩
        have B6 : Hid (Below w.heap.size w w6) := B5.out.trans b6
        have S6 : Hid (SBox w6 w.heap.size _ _) := s6
        clear b6 S5 B5
        obtain ⟨y1, y2, y3, y4, y5⟩ := s6
        obtain ⟨s6, hs6⟩ : ∃ s6 : ByteArray, s6 = ⟨l6.toArray⟩ := ⟨_, rfl⟩
        rw [← hs6] at y2
        have hsz6 : s6.size = n6 := by rw [hs6, HN6.out]; show l6.toArray.size = _; simp
        clear hs6
        go_wp2_with fail
        refine (N4.out _ S6.out).mono ?_
        rintro e w7 ⟨rfl, s7, b7⟩
        have B7 : Hid (Below w.heap.size w w7) := B6.out.trans b7
        have S7 : Hid (SBox w7 w.heap.size _ _) := s7
        clear b7 S6 B6
        clear y1 y2 y3 y4 y5 hsz6
        obtain ⟨f1, f2, f3, f4, f5⟩ := s7
        obtain ⟨s4, hs4⟩ : ∃ s4 : ByteArray, s4 = ⟨(x :: r).toArray⟩ := ⟨_, rfl⟩
        have f2' : w7.cell? ⟨w.heap.size, 0, none⟩ = some (.string s4) := by rw [hs4]; exact f2
        clear f2
        have hsz : s4.size = r.length + 1 := by rw [hs4]; show (x :: r).toArray.size = _; simp
        have h67' : (n6 : Int) - ((r.length : Int) + 1) = (d : Int) := by have := h67; simp only [List.length_cons] at this; omega
        have hpos : (0 : Int) < (r.length : Int) + 1 := by omega
        have hrb : r.length ≤ 140737488351232 := by simp at hRl; omega
        clear hs4 h67
        go_wp2_with fail
        go_loopw [8, 10] (fun v kv W => ∃ j : Nat, d + j ≤ 6 ∧ v = .int .i64 (u0 * 10 ^ j) ∧ kv = .int .i64 ((d + j : Nat) : Int) ∧ W = w7) (fun _ kv _ => 6 - (intOf kv).toNat)
        case atStart => exact ⟨0, by omega, by simp, by first | rfl | (simp [h67']), rfl⟩
        case round =>
          obtain ⟨j, hj, rfl, rfl, hwr⟩ := hrel
          obtain rfl := hwr.symm
          clear hwr
          by_cases hj6 : d + j < 6
          · obtain ⟨p1, p2⟩ := HW.out j hj
            have HE : Hid (u0 * 10 ^ (j + 1) = u0 * 10 ^ j * 10) := by show _ = _; rw [Int.pow_succ, Int.mul_assoc]
            obtain ⟨t, ht⟩ : ∃ t : Nat, t = d + j := ⟨_, rfl⟩
            have HT : Hid (t = d + j) := ht
            rw [← ht] at hj6 ⊢
            have hj' : (t : Int) < 6 := by omega
            clear ht hj
            obtain ⟨y, hy⟩ : ∃ y, y = u0 * 10 ^ j := ⟨_, rfl⟩
            have HY : Hid (y = u0 * 10 ^ j) := hy
            rw [← hy] at p1 p2 ⊢
            clear hy
            go_wp2_with fail
            go_roundw
            case rel => exact ⟨j + 1, by rw [HT.out] at hj6; omega, by rw [HE.out, HY.out], by rw [HT.out]; first | rfl | (congr 1; omega), (by first | trivial | rfl)⟩
            case measure => simp [intOf]; omega
          · have ej : 6 - d = j := by omega
            have HJ : Hid (6 - d = j) := ej
            obtain ⟨t, ht⟩ : ∃ t : Nat, t = d + j := ⟨_, rfl⟩
            rw [← ht] at hj6 ⊢
            have hj' : ¬ (t : Int) < 6 := by omega
            rw [ej] at HM
            clear ht hj ej
            go_wp2
            go_ret2
            exact ⟨rfl, B7.out⟩
    · cases R with
      | nil =>
        rw [(rd_bad rfl V E).1, (rd_bad rfl V E).2]
        have e2 : q1 = q2 := (hQ2.out.trans (if_pos rfl)).symm
        subst e2
        go_enter Tryd.func10, Tryd.ntmps10
        go_wp2_with fail
        refine (N1.out _ S0.out).mono ?_
        rintro e w1 ⟨rfl, s1, b1⟩
        have B1 : Hid (Below w.heap.size w w1) := B0.out.trans b1
        have S1 : Hid (SBox w1 w.heap.size _ _) := s1
        clear b1 S0 B0
        clear s1
        go_wp2_with fail
        refine (G1.out _ S1.out).mono ?_
        rintro e w2 ⟨rfl, s2, b2⟩
        have B2 : Hid (Below w.heap.size w w2) := B1.out.trans b2
        have S2 : Hid (SBox w2 w.heap.size _ _) := s2
        clear b2 S1 B1
        clear s2
        go_wp2_with fail
        refine (N2.out _ S2.out).mono ?_
        rintro e w3 ⟨rfl, s3, b3⟩
        have B3 : Hid (Below w.heap.size w w3) := B2.out.trans b3
        have S3 : Hid (SBox w3 w.heap.size _ _) := s3
        clear b3 S2 B2
        clear s3
        go_wp2_with fail
        refine (G2.out _ S3.out).mono ?_
        rintro e w4 ⟨rfl, s4, b4⟩
        have B4 : Hid (Below w.heap.size w w4) := B3.out.trans b4
        have S4 : Hid (SBox w4 w.heap.size _ _) := s4
        clear b4 S3 B3
        clear s4
        go_wp2_with fail
        refine (N3.out _ S4.out).mono ?_
        rintro e w5 ⟨rfl, s5, b5⟩
        have B5 : Hid (Below w.heap.size w w5) := B4.out.trans b5
        have S5 : Hid (SBox w5 w.heap.size _ _) := s5
        clear b5 S4 B4
        clear s5
        go_wp2_with fail
        refine (G3.out _ S5.out).mono ?_
        rintro e w6 ⟨rfl, s6, b6⟩
        have B6 : Hid (Below w.heap.size w w6) := B5.out.trans b6
        have S6 : Hid (SBox w6 w.heap.size _ _) := s6
        clear b6 S5 B5
        obtain ⟨y1, y2, y3, y4, y5⟩ := s6
        obtain ⟨s6, hs6⟩ : ∃ s6 : ByteArray, s6 = ⟨l6.toArray⟩ := ⟨_, rfl⟩
        rw [← hs6] at y2
        have hsz6 : s6.size = n6 := by rw [hs6, HN6.out]; show l6.toArray.size = _; simp
        clear hs6
        go_wp2_with fail
        refine (N4.out _ S6.out).mono ?_
        rintro e w7 ⟨rfl, s7, b7⟩
        have B7 : Hid (Below w.heap.size w w7) := B6.out.trans b7
        have S7 : Hid (SBox w7 w.heap.size _ _) := s7
        clear b7 S6 B6
        clear y1 y2 y3 y4 y5 hsz6
        obtain ⟨f1, f2, f3, f4, f5⟩ := s7
        obtain ⟨s4, hs4⟩ : ∃ s4 : ByteArray, s4 = ⟨#[]⟩ := ⟨_, rfl⟩
        have f2' : w7.cell? ⟨w.heap.size, 0, none⟩ = some (.string s4) := by rw [hs4]; exact f2
        clear f2
        have hsz : s4.size = 0 := by rw [hs4]; rfl
        have h67' : (n6 : Int) = (d : Int) := by simpa using h67
        clear hs4 h67
        go_wp2_with fail
        go_loopw [8, 10] (fun v kv W => ∃ j : Nat, d + j ≤ 6 ∧ v = .int .i64 (u0 * 10 ^ j) ∧ kv = .int .i64 ((d + j : Nat) : Int) ∧ W = w7) (fun _ kv _ => 6 - (intOf kv).toNat)
        case atStart => exact ⟨0, by omega, by simp, by first | rfl | (simp [h67']), rfl⟩
        case round =>
          obtain ⟨j, hj, rfl, rfl, hwr⟩ := hrel
          obtain rfl := hwr.symm
          clear hwr
          by_cases hj6 : d + j < 6
          · obtain ⟨p1, p2⟩ := HW.out j hj
            have HE : Hid (u0 * 10 ^ (j + 1) = u0 * 10 ^ j * 10) := by show _ = _; rw [Int.pow_succ, Int.mul_assoc]
            obtain ⟨t, ht⟩ : ∃ t : Nat, t = d + j := ⟨_, rfl⟩
            have HT : Hid (t = d + j) := ht
            rw [← ht] at hj6 ⊢
            have hj' : (t : Int) < 6 := by omega
            clear ht hj
            obtain ⟨y, hy⟩ : ∃ y, y = u0 * 10 ^ j := ⟨_, rfl⟩
            have HY : Hid (y = u0 * 10 ^ j) := hy
            rw [← hy] at p1 p2 ⊢
            clear hy
            go_wp2_with fail
            go_roundw
            case rel => exact ⟨j + 1, by rw [HT.out] at hj6; omega, by rw [HE.out, HY.out], by rw [HT.out]; first | rfl | (congr 1; omega), (by first | trivial | rfl)⟩
            case measure => simp [intOf]; omega
          · have ej : 6 - d = j := by omega
            have HJ : Hid (6 - d = j) := ej
            obtain ⟨t, ht⟩ : ∃ t : Nat, t = d + j := ⟨_, rfl⟩
            rw [← ht] at hj6 ⊢
            have hj' : ¬ (t : Int) < 6 := by omega
            rw [ej] at HM
            clear ht hj ej
            go_wp2
            go_ret2
            exact ⟨rfl, B7.out⟩
      | cons x r =>
        rw [(rd_bad rfl V E).1, (rd_bad rfl V E).2]
        have e2 : q1 = q2 := (hQ2.out.trans (if_pos rfl)).symm
        subst e2
        go_enter Tryd.func10, Tryd.ntmps10
        go_wp2_with fail
        refine (N1.out _ S0.out).mono ?_
        rintro e w1 ⟨rfl, s1, b1⟩
        have B1 : Hid (Below w.heap.size w w1) := B0.out.trans b1
        have S1 : Hid (SBox w1 w.heap.size _ _) := s1
        clear b1 S0 B0
        clear s1
        go_wp2_with fail
        refine (G1.out _ S1.out).mono ?_
        rintro e w2 ⟨rfl, s2, b2⟩
        have B2 : Hid (Below w.heap.size w w2) := B1.out.trans b2
        have S2 : Hid (SBox w2 w.heap.size _ _) := s2
        clear b2 S1 B1
        clear s2
        go_wp2_with fail
        refine (N2.out _ S2.out).mono ?_
        rintro e w3 ⟨rfl, s3, b3⟩
        have B3 : Hid (Below w.heap.size w w3) := B2.out.trans b3
        have S3 : Hid (SBox w3 w.heap.size _ _) := s3
        clear b3 S2 B2
        clear s3
        go_wp2_with fail
        refine (G2.out _ S3.out).mono ?_
        rintro e w4 ⟨rfl, s4, b4⟩
        have B4 : Hid (Below w.heap.size w w4) := B3.out.trans b4
        have S4 : Hid (SBox w4 w.heap.size _ _) := s4
        clear b4 S3 B3
        clear s4
        go_wp2_with fail
        refine (N3.out _ S4.out).mono ?_
        rintro e w5 ⟨rfl, s5, b5⟩
        have B5 : Hid (Below w.heap.size w w5) := B4.out.trans b5
        have S5 : Hid (SBox w5 w.heap.size _ _) := s5
        clear b5 S4 B4
        clear s5
        go_wp2_with fail
        refine (G3.out _ S5.out).mono ?_
        rintro e w6 ⟨rfl, s6, b6⟩
        have B6 : Hid (Below w.heap.size w w6) := B5.out.trans b6
        have S6 : Hid (SBox w6 w.heap.size _ _) := s6
        clear b6 S5 B5
        obtain ⟨y1, y2, y3, y4, y5⟩ := s6
        obtain ⟨s6, hs6⟩ : ∃ s6 : ByteArray, s6 = ⟨l6.toArray⟩ := ⟨_, rfl⟩
        rw [← hs6] at y2
        have hsz6 : s6.size = n6 := by rw [hs6, HN6.out]; show l6.toArray.size = _; simp
        clear hs6
        go_wp2_with fail
        refine (N4.out _ S6.out).mono ?_
        rintro e w7 ⟨rfl, s7, b7⟩
        have B7 : Hid (Below w.heap.size w w7) := B6.out.trans b7
        have S7 : Hid (SBox w7 w.heap.size _ _) := s7
        clear b7 S6 B6
        clear y1 y2 y3 y4 y5 hsz6
        obtain ⟨f1, f2, f3, f4, f5⟩ := s7
        obtain ⟨s4, hs4⟩ : ∃ s4 : ByteArray, s4 = ⟨(x :: r).toArray⟩ := ⟨_, rfl⟩
        have f2' : w7.cell? ⟨w.heap.size, 0, none⟩ = some (.string s4) := by rw [hs4]; exact f2
        clear f2
        have hsz : s4.size = r.length + 1 := by rw [hs4]; show (x :: r).toArray.size = _; simp
        have h67' : (n6 : Int) - ((r.length : Int) + 1) = (d : Int) := by have := h67; simp only [List.length_cons] at this; omega
        have hpos : (0 : Int) < (r.length : Int) + 1 := by omega
        have hrb : r.length ≤ 140737488351232 := by simp at hRl; omega
        clear hs4 h67
        go_wp2_with fail
        go_loopw [8, 10] (fun v kv W => ∃ j : Nat, d + j ≤ 6 ∧ v = .int .i64 (u0 * 10 ^ j) ∧ kv = .int .i64 ((d + j : Nat) : Int) ∧ W = w7) (fun _ kv _ => 6 - (intOf kv).toNat)
        case atStart => exact ⟨0, by omega, by simp, by first | rfl | (simp [h67']), rfl⟩
        case round =>
          obtain ⟨j, hj, rfl, rfl, hwr⟩ := hrel
          obtain rfl := hwr.symm
          clear hwr
          by_cases hj6 : d + j < 6
          · obtain ⟨p1, p2⟩ := HW.out j hj
            have HE : Hid (u0 * 10 ^ (j + 1) = u0 * 10 ^ j * 10) := by show _ = _; rw [Int.pow_succ, Int.mul_assoc]
            obtain ⟨t, ht⟩ : ∃ t : Nat, t = d + j := ⟨_, rfl⟩
            have HT : Hid (t = d + j) := ht
            rw [← ht] at hj6 ⊢
            have hj' : (t : Int) < 6 := by omega
            clear ht hj
            obtain ⟨y, hy⟩ : ∃ y, y = u0 * 10 ^ j := ⟨_, rfl⟩
            have HY : Hid (y = u0 * 10 ^ j) := hy
            rw [← hy] at p1 p2 ⊢
            clear hy
            go_wp2_with fail
            go_roundw
            case rel => exact ⟨j + 1, by rw [HT.out] at hj6; omega, by rw [HE.out, HY.out], by rw [HT.out]; first | rfl | (congr 1; omega), (by first | trivial | rfl)⟩
            case measure => simp [intOf]; omega
          · have ej : 6 - d = j := by omega
            have HJ : Hid (6 - d = j) := ej
            obtain ⟨t, ht⟩ : ∃ t : Nat, t = d + j := ⟨_, rfl⟩
            rw [← ht] at hj6 ⊢
            have hj' : ¬ (t : Int) < 6 := by omega
            rw [ej] at HM
            clear ht hj ej
            go_wp2
            go_ret2
            exact ⟨rfl, B7.out⟩

end Go.Proofs.YtdkodkkbggdpbaaDoor
