/- Contracts: the reference's letter, digit, letters, Name (of a source). -/
import Derived.Test.YtgnfkkcagbbhmaaGreatDoorSrEq
namespace Go.Proofs.YtgnfkkcagbbhmaaGreatDoor
open Go.RowKit
set_option linter.unusedVariables false

set_option maxRecDepth 100000 in
set_option maxHeartbeats 4000000 in
theorem qletter_any (R : Int) (w : World) : Calls Tryz.prog 43 #[.int .u8 R] w fun e w' => e = .returned (.bool (isL R)) ∧ w' = w := by
  go_enter Tryz.func43, Tryz.ntmps43
  go_wp2
  all_goals (go_ret; exact ⟨ret_bl (by unfold isL; by_cases a1 : 97 ≤ R <;> by_cases a2 : R ≤ 122 <;> by_cases a3 : 65 ≤ R <;> by_cases a4 : R ≤ 90 <;> simp_all <;> omega), rfl⟩)

set_option maxRecDepth 100000 in
set_option maxHeartbeats 4000000 in
theorem qdigit_any (R : Int) (w : World) : Calls Tryz.prog 44 #[.int .u8 R] w fun e w' => e = .returned (.bool (isD R)) ∧ w' = w := by
  go_enter Tryz.func44, Tryz.ntmps44
  go_wp2
  all_goals (go_ret; exact ⟨ret_bl (by simp [isD] <;> omega), rfl⟩)

theorem all_at {s : ByteArray} {p : UInt8 → Bool} {j : Nat} (h : j < s.size) : (s.data.toList.drop j).all p = (p (s[j]'h) && (s.data.toList.drop (j + 1)).all p) := by
  rw [List.drop_eq_getElem_cons (by simpa using h), List.all_cons]
  rfl
/-- a byte of a name, whichever it is. -/
def nmE (R : Int) : Bool := isL R || isD R || isP R

set_option maxRecDepth 100000 in
set_option maxHeartbeats 4000000 in
theorem qletters_any (s : ByteArray) (hs9 : s.size ≤ maxLen) (w : World) : Calls Tryz.prog 91 #[.string s] w fun e w' => e = .returned (.bool (decide (1 ≤ s.size) && decide (s.size ≤ 8) && allLD s.data.toList)) ∧ Below w.heap.size w w' := by
  unfold maxLen at hs9
  obtain ⟨G, hG⟩ : ∃ G, (decide (1 ≤ s.size) && decide (s.size ≤ 8) && allLD s.data.toList) = G := ⟨_, rfl⟩
  rw [hG]
  by_cases h1 : 1 ≤ s.size
  · have h1I : (1 : Int) ≤ (s.size : Int) := by omega
    by_cases h8 : s.size ≤ 8
    · have h8I : (s.size : Int) ≤ 8 := by omega
      have HG : Hid ((true && allLD (s.data.toList.drop 0)) = G) := by show _ = _; rw [← hG, List.drop_zero]; simp [h1, h8]
      clear hG h1 h8
      go_enter Tryz.func91, Tryz.ntmps91
      go_wp2_with fail
      go_loopw [3, 4] (fun bv iv W => ∃ (j : Nat) (b : Bool), bv = .bool b ∧ iv = .int .i64 (j : Int) ∧ j ≤ s.size ∧ Hid ((b && allLD (s.data.toList.drop j)) = G) ∧ Hid (Below w.heap.size w W)) (fun _ iv _ => s.size - (intOf iv).toNat)
      case atStart => exact ⟨0, _, rfl, rfl, Nat.zero_le _, HG, Below.refl _ _⟩
      case round =>
        obtain ⟨j, b, rfl, rfl, hj, HE, HW⟩ := hrel
        have hj0 : (0 : Int) ≤ (j : Int) := by omega
        by_cases hjn : j < s.size
        · have hjI : (j : Int) < (s.size : Int) := by omega
          have hjw : IntKind.i64.wrap ((j : Int) + 1) = (j : Int) + 1 := by rw [IntKind.wrap_i64]; omega
          have hat := all_at (p := fun c => isLD (c.toNat : Int)) hjn
          obtain ⟨R, hR⟩ : ∃ R : Int, ((s[j]'hjn).toNat : Int) = R := ⟨_, rfl⟩
          have HE2 : Hid ((b && (isLD R && allLD (s.data.toList.drop (j + 1)))) = G) := by
            have := HE.out
            unfold allLD at this ⊢
            rw [hat] at this
            rw [← hR]; exact this
          clear hat HE
          cases b with
          | false =>
            have HE3 : Hid ((false && allLD (s.data.toList.drop (j + 1))) = G) := HE2.out
            clear HE2 hR
            go_wp2_with fail
            exact ⟨⟨j + 1, false, rfl, rfl, hjn, HE3, HW⟩, by simp only [intOf]; omega⟩
          | true =>
            go_wp2_with fail
            refine (qletter_any R _).mono ?_
            rintro e w2 ⟨rfl, hw2⟩
            subst hw2
            cases hl : isL R with
            | true =>
              have HE3 : Hid ((true && allLD (s.data.toList.drop (j + 1))) = G) := by have := HE2.out; show _ = _; simpa [isLD, hl] using this
              clear HE2 hR
              go_wp2_with fail
              exact ⟨⟨j + 1, true, rfl, rfl, hjn, HE3, HW⟩, by simp only [intOf]; omega⟩
            | false =>
              go_wp2_with fail
              refine (qdigit_any R _).mono ?_
              rintro e w2 ⟨rfl, hw2⟩
              subst hw2
              cases hd : isD R with
              | true =>
                have HE3 : Hid ((true && allLD (s.data.toList.drop (j + 1))) = G) := by have := HE2.out; show _ = _; simpa [isLD, hl, hd] using this
                clear HE2 hR
                go_wp2_with fail
                exact ⟨⟨j + 1, true, rfl, rfl, hjn, HE3, HW⟩, by simp only [intOf]; omega⟩
              | false =>
                have HE3 : Hid ((false && allLD (s.data.toList.drop (j + 1))) = G) := by have := HE2.out; show _ = _; simpa [isLD, hl, hd] using this
                clear HE2 hR
                go_wp2_with fail
                exact ⟨⟨j + 1, false, rfl, rfl, hjn, HE3, HW⟩, by simp only [intOf]; omega⟩
        · have hjI : ¬ (j : Int) < (s.size : Int) := by omega
          have hG : G = b := by rw [← HE.out, List.drop_eq_nil_of_le (by simp; omega)]; simp [allLD]
          go_wp2_with fail
          go_ret
          exact ⟨by first | rfl | (rw [hG]; rfl), HW.out⟩
    · have h8I : ¬ (s.size : Int) ≤ 8 := by omega
      have HG : Hid ((false && allLD (s.data.toList.drop 0)) = G) := by show _ = _; rw [← hG]; simp [h8]
      clear hG h1 h8
      go_enter Tryz.func91, Tryz.ntmps91
      go_wp2_with fail
      go_loopw [3, 4] (fun bv iv W => ∃ (j : Nat) (b : Bool), bv = .bool b ∧ iv = .int .i64 (j : Int) ∧ j ≤ s.size ∧ Hid ((b && allLD (s.data.toList.drop j)) = G) ∧ Hid (Below w.heap.size w W)) (fun _ iv _ => s.size - (intOf iv).toNat)
      case atStart => exact ⟨0, _, rfl, rfl, Nat.zero_le _, HG, Below.refl _ _⟩
      case round =>
        obtain ⟨j, b, rfl, rfl, hj, HE, HW⟩ := hrel
        have hj0 : (0 : Int) ≤ (j : Int) := by omega
        by_cases hjn : j < s.size
        · have hjI : (j : Int) < (s.size : Int) := by omega
          have hjw : IntKind.i64.wrap ((j : Int) + 1) = (j : Int) + 1 := by rw [IntKind.wrap_i64]; omega
          have hat := all_at (p := fun c => isLD (c.toNat : Int)) hjn
          obtain ⟨R, hR⟩ : ∃ R : Int, ((s[j]'hjn).toNat : Int) = R := ⟨_, rfl⟩
          have HE2 : Hid ((b && (isLD R && allLD (s.data.toList.drop (j + 1)))) = G) := by
            have := HE.out
            unfold allLD at this ⊢
            rw [hat] at this
            rw [← hR]; exact this
          clear hat HE
          cases b with
          | false =>
            have HE3 : Hid ((false && allLD (s.data.toList.drop (j + 1))) = G) := HE2.out
            clear HE2 hR
            go_wp2_with fail
            exact ⟨⟨j + 1, false, rfl, rfl, hjn, HE3, HW⟩, by simp only [intOf]; omega⟩
          | true =>
            go_wp2_with fail
            refine (qletter_any R _).mono ?_
            rintro e w2 ⟨rfl, hw2⟩
            subst hw2
            cases hl : isL R with
            | true =>
              have HE3 : Hid ((true && allLD (s.data.toList.drop (j + 1))) = G) := by have := HE2.out; show _ = _; simpa [isLD, hl] using this
              clear HE2 hR
              go_wp2_with fail
              exact ⟨⟨j + 1, true, rfl, rfl, hjn, HE3, HW⟩, by simp only [intOf]; omega⟩
            | false =>
              go_wp2_with fail
              refine (qdigit_any R _).mono ?_
              rintro e w2 ⟨rfl, hw2⟩
              subst hw2
              cases hd : isD R with
              | true =>
                have HE3 : Hid ((true && allLD (s.data.toList.drop (j + 1))) = G) := by have := HE2.out; show _ = _; simpa [isLD, hl, hd] using this
                clear HE2 hR
                go_wp2_with fail
                exact ⟨⟨j + 1, true, rfl, rfl, hjn, HE3, HW⟩, by simp only [intOf]; omega⟩
              | false =>
                have HE3 : Hid ((false && allLD (s.data.toList.drop (j + 1))) = G) := by have := HE2.out; show _ = _; simpa [isLD, hl, hd] using this
                clear HE2 hR
                go_wp2_with fail
                exact ⟨⟨j + 1, false, rfl, rfl, hjn, HE3, HW⟩, by simp only [intOf]; omega⟩
        · have hjI : ¬ (j : Int) < (s.size : Int) := by omega
          have hG : G = b := by rw [← HE.out, List.drop_eq_nil_of_le (by simp; omega)]; simp [allLD]
          go_wp2_with fail
          go_ret
          exact ⟨by first | rfl | (rw [hG]; rfl), HW.out⟩
  · have h1I : ¬ (1 : Int) ≤ (s.size : Int) := by omega
    have HG : Hid ((false && allLD (s.data.toList.drop 0)) = G) := by show _ = _; rw [← hG]; simp [h1]
    clear hG h1
    go_enter Tryz.func91, Tryz.ntmps91
    go_wp2_with fail
    go_loopw [3, 4] (fun bv iv W => ∃ (j : Nat) (b : Bool), bv = .bool b ∧ iv = .int .i64 (j : Int) ∧ j ≤ s.size ∧ Hid ((b && allLD (s.data.toList.drop j)) = G) ∧ Hid (Below w.heap.size w W)) (fun _ iv _ => s.size - (intOf iv).toNat)
    case atStart => exact ⟨0, _, rfl, rfl, Nat.zero_le _, HG, Below.refl _ _⟩
    case round =>
      obtain ⟨j, b, rfl, rfl, hj, HE, HW⟩ := hrel
      have hj0 : (0 : Int) ≤ (j : Int) := by omega
      by_cases hjn : j < s.size
      · have hjI : (j : Int) < (s.size : Int) := by omega
        have hjw : IntKind.i64.wrap ((j : Int) + 1) = (j : Int) + 1 := by rw [IntKind.wrap_i64]; omega
        have hat := all_at (p := fun c => isLD (c.toNat : Int)) hjn
        obtain ⟨R, hR⟩ : ∃ R : Int, ((s[j]'hjn).toNat : Int) = R := ⟨_, rfl⟩
        have HE2 : Hid ((b && (isLD R && allLD (s.data.toList.drop (j + 1)))) = G) := by
          have := HE.out
          unfold allLD at this ⊢
          rw [hat] at this
          rw [← hR]; exact this
        clear hat HE
        cases b with
        | false =>
          have HE3 : Hid ((false && allLD (s.data.toList.drop (j + 1))) = G) := HE2.out
          clear HE2 hR
          go_wp2_with fail
          exact ⟨⟨j + 1, false, rfl, rfl, hjn, HE3, HW⟩, by simp only [intOf]; omega⟩
        | true =>
          go_wp2_with fail
          refine (qletter_any R _).mono ?_
          rintro e w2 ⟨rfl, hw2⟩
          subst hw2
          cases hl : isL R with
          | true =>
            have HE3 : Hid ((true && allLD (s.data.toList.drop (j + 1))) = G) := by have := HE2.out; show _ = _; simpa [isLD, hl] using this
            clear HE2 hR
            go_wp2_with fail
            exact ⟨⟨j + 1, true, rfl, rfl, hjn, HE3, HW⟩, by simp only [intOf]; omega⟩
          | false =>
            go_wp2_with fail
            refine (qdigit_any R _).mono ?_
            rintro e w2 ⟨rfl, hw2⟩
            subst hw2
            cases hd : isD R with
            | true =>
              have HE3 : Hid ((true && allLD (s.data.toList.drop (j + 1))) = G) := by have := HE2.out; show _ = _; simpa [isLD, hl, hd] using this
              clear HE2 hR
              go_wp2_with fail
              exact ⟨⟨j + 1, true, rfl, rfl, hjn, HE3, HW⟩, by simp only [intOf]; omega⟩
            | false =>
              have HE3 : Hid ((false && allLD (s.data.toList.drop (j + 1))) = G) := by have := HE2.out; show _ = _; simpa [isLD, hl, hd] using this
              clear HE2 hR
              go_wp2_with fail
              exact ⟨⟨j + 1, false, rfl, rfl, hjn, HE3, HW⟩, by simp only [intOf]; omega⟩
      · have hjI : ¬ (j : Int) < (s.size : Int) := by omega
        have hG : G = b := by rw [← HE.out, List.drop_eq_nil_of_le (by simp; omega)]; simp [allLD]
        go_wp2_with fail
        go_ret
        exact ⟨by first | rfl | (rw [hG]; rfl), HW.out⟩

theorem nmF_all : ∀ (l : List UInt8) (i : Nat), nmF (i + 1) l = l.all (fun c => nmE (c.toNat : Int))
  | [], i => rfl
  | c :: l, i => by
    rw [nmF, List.all_cons, nmF_all l (i + 1)]
    congr 1
    simp [nmC, nmE, Bool.or_assoc]
theorem nameB_eq (s : ByteArray) (h : 0 < s.size) : nameB s = (decide (s.size ≤ 32) && (isL ((s[0]'h).toNat : Int) && (s.data.toList.drop 0).all (fun c => nmE (c.toNat : Int)))) := by
  have e : s.data.toList = (s[0]'h) :: s.data.toList.drop 1 := by
    have := List.drop_eq_getElem_cons (l := s.data.toList) (i := 0) (by simpa using h)
    rw [List.drop_zero] at this
    exact this
  unfold nameB
  rw [List.drop_zero]
  generalize s.data.toList.drop 1 = l at e
  rw [e, nmF, nmF_all, List.all_cons]
  have h0 : s.size ≠ 0 := by omega
  simp only [nmC, nmE]
  generalize isL ((s[0]'h).toNat : Int) = a
  generalize (l.all fun c => nmE (c.toNat : Int)) = b
  by_cases h32 : s.size ≤ 32 <;> cases a <;> cases b <;> simp [h0, h32]

set_option maxRecDepth 100000 in
set_option maxHeartbeats 4000000 in
theorem qname_any (s : ByteArray) (hs9 : s.size ≤ maxLen) (w : World) : Calls Tryz.prog 16 #[.string s] w fun e w' => e = .returned (.bool (nameB s)) ∧ Below w.heap.size w w' := by
  unfold maxLen at hs9
  obtain ⟨G, hG⟩ : ∃ G, nameB s = G := ⟨_, rfl⟩
  rw [hG]
  by_cases h1 : 0 < s.size
  · have h1I : (1 : Int) ≤ (s.size : Int) := by omega
    have h1J : (0 : Int) < (s.size : Int) := by omega
    obtain ⟨R0, hR0⟩ : ∃ R : Int, ((s[0]'h1).toNat : Int) = R := ⟨_, rfl⟩
    by_cases h8 : s.size ≤ 32
    · have h8I : (s.size : Int) ≤ 32 := by omega
      have HG : Hid ((isL R0 && (s.data.toList.drop 0).all (fun c => nmE (c.toNat : Int))) = G) := by show _ = _; rw [← hG, nameB_eq s h1, hR0]; simp [h8]
      clear hG h8
      go_enter Tryz.func16, Tryz.ntmps16
      go_wp2_with fail
      refine (qletter_any R0 _).mono ?_
      rintro e w2 ⟨rfl, hw2⟩
      have hw3 := hw2.symm
      clear hw2
      subst hw3
      generalize isL R0 = b0 at *
      clear hR0
      go_wp2_with fail
      go_loopw [3, 4] (fun bv iv W => ∃ (j : Nat) (b : Bool), bv = .bool b ∧ iv = .int .i64 (j : Int) ∧ j ≤ s.size ∧ Hid ((b && (s.data.toList.drop j).all (fun c => nmE (c.toNat : Int))) = G) ∧ Hid (Below w.heap.size w W)) (fun _ iv _ => s.size - (intOf iv).toNat)
      case atStart => exact ⟨0, _, rfl, rfl, Nat.zero_le _, HG, Below.refl _ _⟩
      case round =>
        obtain ⟨j, b, rfl, rfl, hj, HE, HW⟩ := hrel
        have hj0 : (0 : Int) ≤ (j : Int) := by omega
        by_cases hjn : j < s.size
        · have hjI : (j : Int) < (s.size : Int) := by omega
          have hjw : IntKind.i64.wrap ((j : Int) + 1) = (j : Int) + 1 := by rw [IntKind.wrap_i64]; omega
          have hat := all_at (p := fun c => nmE (c.toNat : Int)) hjn
          obtain ⟨R, hR⟩ : ∃ R : Int, ((s[j]'hjn).toNat : Int) = R := ⟨_, rfl⟩
          have HE2 : Hid ((b && (nmE R && (s.data.toList.drop (j + 1)).all (fun c => nmE (c.toNat : Int)))) = G) := by
            have := HE.out
            skip
            rw [hat] at this
            rw [← hR]; exact this
          clear hat HE
          cases b with
          | false =>
            have HE3 : Hid ((false && (s.data.toList.drop (j + 1)).all (fun c => nmE (c.toNat : Int))) = G) := HE2.out
            clear HE2 hR
            go_wp2_with fail
            exact ⟨⟨j + 1, false, rfl, rfl, hjn, HE3, HW⟩, by simp only [intOf]; omega⟩
          | true =>
            go_wp2_with fail
            refine (qletter_any R _).mono ?_
            rintro e w2 ⟨rfl, hw2⟩
            subst hw2
            cases hl : isL R with
            | true =>
              have HE3 : Hid ((true && (s.data.toList.drop (j + 1)).all (fun c => nmE (c.toNat : Int))) = G) := by have := HE2.out; show _ = _; simpa [nmE, isP, hl] using this
              clear HE2
              go_wp2_with fail
              exact ⟨⟨j + 1, true, rfl, rfl, hjn, HE3, HW⟩, by simp only [intOf]; omega⟩
            | false =>
              go_wp2_with fail
              refine (qdigit_any R _).mono ?_
              rintro e w2 ⟨rfl, hw2⟩
              subst hw2
              cases hd : isD R with
              | true =>
                have HE3 : Hid ((true && (s.data.toList.drop (j + 1)).all (fun c => nmE (c.toNat : Int))) = G) := by have := HE2.out; show _ = _; simpa [nmE, isP, hl, hd] using this
                clear HE2
                go_wp2_with fail
                exact ⟨⟨j + 1, true, rfl, rfl, hjn, HE3, HW⟩, by simp only [intOf]; omega⟩
              | false =>
                by_cases p0 : R = 95
                · skip
                  have HE3 : Hid ((true && (s.data.toList.drop (j + 1)).all (fun c => nmE (c.toNat : Int))) = G) := by have := HE2.out; show _ = _; simpa [nmE, isP, hl, hd, p0] using this
                  clear HE2
                  subst p0
                  go_wp2_with fail
                  exact ⟨⟨j + 1, true, rfl, rfl, hjn, HE3, HW⟩, by simp only [intOf]; omega⟩
                · have q0 : (R == 95) = false := by simpa using p0
                  by_cases p1 : R = 45
                  · skip
                    have HE3 : Hid ((true && (s.data.toList.drop (j + 1)).all (fun c => nmE (c.toNat : Int))) = G) := by have := HE2.out; show _ = _; simpa [nmE, isP, hl, hd, p0, p1] using this
                    clear HE2
                    subst p1
                    go_wp2_with fail
                    exact ⟨⟨j + 1, true, rfl, rfl, hjn, HE3, HW⟩, by simp only [intOf]; omega⟩
                  · have q1 : (R == 45) = false := by simpa using p1
                    by_cases p2 : R = 43
                    · skip
                      have HE3 : Hid ((true && (s.data.toList.drop (j + 1)).all (fun c => nmE (c.toNat : Int))) = G) := by have := HE2.out; show _ = _; simpa [nmE, isP, hl, hd, p0, p1, p2] using this
                      clear HE2
                      subst p2
                      go_wp2_with fail
                      exact ⟨⟨j + 1, true, rfl, rfl, hjn, HE3, HW⟩, by simp only [intOf]; omega⟩
                    · have q2 : (R == 43) = false := by simpa using p2
                      by_cases p3 : R = 47
                      · skip
                        have HE3 : Hid ((true && (s.data.toList.drop (j + 1)).all (fun c => nmE (c.toNat : Int))) = G) := by have := HE2.out; show _ = _; simpa [nmE, isP, hl, hd, p0, p1, p2, p3] using this
                        clear HE2
                        subst p3
                        go_wp2_with fail
                        exact ⟨⟨j + 1, true, rfl, rfl, hjn, HE3, HW⟩, by simp only [intOf]; omega⟩
                      · have q3 : (R == 47) = false := by simpa using p3
                        have HE3 : Hid ((false && (s.data.toList.drop (j + 1)).all (fun c => nmE (c.toNat : Int))) = G) := by have := HE2.out; show _ = _; simpa [nmE, isP, hl, hd, p0, p1, p2, p3] using this
                        clear HE2
                        go_wp2_with fail
                        exact ⟨⟨j + 1, false, rfl, rfl, hjn, HE3, HW⟩, by simp only [intOf]; omega⟩
        · have hjI : ¬ (j : Int) < (s.size : Int) := by omega
          have hG : G = b := by rw [← HE.out, List.drop_eq_nil_of_le (by simp; omega)]; simp 
          go_wp2_with fail
          go_ret
          exact ⟨by first | rfl | (rw [hG]; rfl), HW.out⟩
    · have h8I : ¬ (s.size : Int) ≤ 32 := by omega
      have HG : Hid ((false && (s.data.toList.drop 0).all (fun c => nmE (c.toNat : Int))) = G) := by show _ = _; rw [← hG, nameB_eq s h1]; simp [h8]
      clear hG h8
      go_enter Tryz.func16, Tryz.ntmps16
      go_wp2_with fail
      go_loopw [3, 4] (fun bv iv W => ∃ (j : Nat) (b : Bool), bv = .bool b ∧ iv = .int .i64 (j : Int) ∧ j ≤ s.size ∧ Hid ((b && (s.data.toList.drop j).all (fun c => nmE (c.toNat : Int))) = G) ∧ Hid (Below w.heap.size w W)) (fun _ iv _ => s.size - (intOf iv).toNat)
      case atStart => exact ⟨0, _, rfl, rfl, Nat.zero_le _, HG, Below.refl _ _⟩
      case round =>
        obtain ⟨j, b, rfl, rfl, hj, HE, HW⟩ := hrel
        have hj0 : (0 : Int) ≤ (j : Int) := by omega
        by_cases hjn : j < s.size
        · have hjI : (j : Int) < (s.size : Int) := by omega
          have hjw : IntKind.i64.wrap ((j : Int) + 1) = (j : Int) + 1 := by rw [IntKind.wrap_i64]; omega
          have hat := all_at (p := fun c => nmE (c.toNat : Int)) hjn
          obtain ⟨R, hR⟩ : ∃ R : Int, ((s[j]'hjn).toNat : Int) = R := ⟨_, rfl⟩
          have HE2 : Hid ((b && (nmE R && (s.data.toList.drop (j + 1)).all (fun c => nmE (c.toNat : Int)))) = G) := by
            have := HE.out
            skip
            rw [hat] at this
            rw [← hR]; exact this
          clear hat HE
          cases b with
          | false =>
            have HE3 : Hid ((false && (s.data.toList.drop (j + 1)).all (fun c => nmE (c.toNat : Int))) = G) := HE2.out
            clear HE2 hR
            go_wp2_with fail
            exact ⟨⟨j + 1, false, rfl, rfl, hjn, HE3, HW⟩, by simp only [intOf]; omega⟩
          | true =>
            go_wp2_with fail
            refine (qletter_any R _).mono ?_
            rintro e w2 ⟨rfl, hw2⟩
            subst hw2
            cases hl : isL R with
            | true =>
              have HE3 : Hid ((true && (s.data.toList.drop (j + 1)).all (fun c => nmE (c.toNat : Int))) = G) := by have := HE2.out; show _ = _; simpa [nmE, isP, hl] using this
              clear HE2
              go_wp2_with fail
              exact ⟨⟨j + 1, true, rfl, rfl, hjn, HE3, HW⟩, by simp only [intOf]; omega⟩
            | false =>
              go_wp2_with fail
              refine (qdigit_any R _).mono ?_
              rintro e w2 ⟨rfl, hw2⟩
              subst hw2
              cases hd : isD R with
              | true =>
                have HE3 : Hid ((true && (s.data.toList.drop (j + 1)).all (fun c => nmE (c.toNat : Int))) = G) := by have := HE2.out; show _ = _; simpa [nmE, isP, hl, hd] using this
                clear HE2
                go_wp2_with fail
                exact ⟨⟨j + 1, true, rfl, rfl, hjn, HE3, HW⟩, by simp only [intOf]; omega⟩
              | false =>
                by_cases p0 : R = 95
                · skip
                  have HE3 : Hid ((true && (s.data.toList.drop (j + 1)).all (fun c => nmE (c.toNat : Int))) = G) := by have := HE2.out; show _ = _; simpa [nmE, isP, hl, hd, p0] using this
                  clear HE2
                  subst p0
                  go_wp2_with fail
                  exact ⟨⟨j + 1, true, rfl, rfl, hjn, HE3, HW⟩, by simp only [intOf]; omega⟩
                · have q0 : (R == 95) = false := by simpa using p0
                  by_cases p1 : R = 45
                  · skip
                    have HE3 : Hid ((true && (s.data.toList.drop (j + 1)).all (fun c => nmE (c.toNat : Int))) = G) := by have := HE2.out; show _ = _; simpa [nmE, isP, hl, hd, p0, p1] using this
                    clear HE2
                    subst p1
                    go_wp2_with fail
                    exact ⟨⟨j + 1, true, rfl, rfl, hjn, HE3, HW⟩, by simp only [intOf]; omega⟩
                  · have q1 : (R == 45) = false := by simpa using p1
                    by_cases p2 : R = 43
                    · skip
                      have HE3 : Hid ((true && (s.data.toList.drop (j + 1)).all (fun c => nmE (c.toNat : Int))) = G) := by have := HE2.out; show _ = _; simpa [nmE, isP, hl, hd, p0, p1, p2] using this
                      clear HE2
                      subst p2
                      go_wp2_with fail
                      exact ⟨⟨j + 1, true, rfl, rfl, hjn, HE3, HW⟩, by simp only [intOf]; omega⟩
                    · have q2 : (R == 43) = false := by simpa using p2
                      by_cases p3 : R = 47
                      · skip
                        have HE3 : Hid ((true && (s.data.toList.drop (j + 1)).all (fun c => nmE (c.toNat : Int))) = G) := by have := HE2.out; show _ = _; simpa [nmE, isP, hl, hd, p0, p1, p2, p3] using this
                        clear HE2
                        subst p3
                        go_wp2_with fail
                        exact ⟨⟨j + 1, true, rfl, rfl, hjn, HE3, HW⟩, by simp only [intOf]; omega⟩
                      · have q3 : (R == 47) = false := by simpa using p3
                        have HE3 : Hid ((false && (s.data.toList.drop (j + 1)).all (fun c => nmE (c.toNat : Int))) = G) := by have := HE2.out; show _ = _; simpa [nmE, isP, hl, hd, p0, p1, p2, p3] using this
                        clear HE2
                        go_wp2_with fail
                        exact ⟨⟨j + 1, false, rfl, rfl, hjn, HE3, HW⟩, by simp only [intOf]; omega⟩
        · have hjI : ¬ (j : Int) < (s.size : Int) := by omega
          have hG : G = b := by rw [← HE.out, List.drop_eq_nil_of_le (by simp; omega)]; simp 
          go_wp2_with fail
          go_ret
          exact ⟨by first | rfl | (rw [hG]; rfl), HW.out⟩
  · have h1I : ¬ (1 : Int) ≤ (s.size : Int) := by omega
    have HG : Hid ((false && (s.data.toList.drop 0).all (fun c => nmE (c.toNat : Int))) = G) := by show _ = _; rw [← hG]; simp [nameB, show s.size = 0 by omega]
    clear hG h1
    go_enter Tryz.func16, Tryz.ntmps16
    go_wp2_with fail
    go_loopw [3, 4] (fun bv iv W => ∃ (j : Nat) (b : Bool), bv = .bool b ∧ iv = .int .i64 (j : Int) ∧ j ≤ s.size ∧ Hid ((b && (s.data.toList.drop j).all (fun c => nmE (c.toNat : Int))) = G) ∧ Hid (Below w.heap.size w W)) (fun _ iv _ => s.size - (intOf iv).toNat)
    case atStart => exact ⟨0, _, rfl, rfl, Nat.zero_le _, HG, Below.refl _ _⟩
    case round =>
      obtain ⟨j, b, rfl, rfl, hj, HE, HW⟩ := hrel
      have hj0 : (0 : Int) ≤ (j : Int) := by omega
      by_cases hjn : j < s.size
      · have hjI : (j : Int) < (s.size : Int) := by omega
        have hjw : IntKind.i64.wrap ((j : Int) + 1) = (j : Int) + 1 := by rw [IntKind.wrap_i64]; omega
        have hat := all_at (p := fun c => nmE (c.toNat : Int)) hjn
        obtain ⟨R, hR⟩ : ∃ R : Int, ((s[j]'hjn).toNat : Int) = R := ⟨_, rfl⟩
        have HE2 : Hid ((b && (nmE R && (s.data.toList.drop (j + 1)).all (fun c => nmE (c.toNat : Int)))) = G) := by
          have := HE.out
          skip
          rw [hat] at this
          rw [← hR]; exact this
        clear hat HE
        cases b with
        | false =>
          have HE3 : Hid ((false && (s.data.toList.drop (j + 1)).all (fun c => nmE (c.toNat : Int))) = G) := HE2.out
          clear HE2 hR
          go_wp2_with fail
          exact ⟨⟨j + 1, false, rfl, rfl, hjn, HE3, HW⟩, by simp only [intOf]; omega⟩
        | true =>
          go_wp2_with fail
          refine (qletter_any R _).mono ?_
          rintro e w2 ⟨rfl, hw2⟩
          subst hw2
          cases hl : isL R with
          | true =>
            have HE3 : Hid ((true && (s.data.toList.drop (j + 1)).all (fun c => nmE (c.toNat : Int))) = G) := by have := HE2.out; show _ = _; simpa [nmE, isP, hl] using this
            clear HE2
            go_wp2_with fail
            exact ⟨⟨j + 1, true, rfl, rfl, hjn, HE3, HW⟩, by simp only [intOf]; omega⟩
          | false =>
            go_wp2_with fail
            refine (qdigit_any R _).mono ?_
            rintro e w2 ⟨rfl, hw2⟩
            subst hw2
            cases hd : isD R with
            | true =>
              have HE3 : Hid ((true && (s.data.toList.drop (j + 1)).all (fun c => nmE (c.toNat : Int))) = G) := by have := HE2.out; show _ = _; simpa [nmE, isP, hl, hd] using this
              clear HE2
              go_wp2_with fail
              exact ⟨⟨j + 1, true, rfl, rfl, hjn, HE3, HW⟩, by simp only [intOf]; omega⟩
            | false =>
              by_cases p0 : R = 95
              · skip
                have HE3 : Hid ((true && (s.data.toList.drop (j + 1)).all (fun c => nmE (c.toNat : Int))) = G) := by have := HE2.out; show _ = _; simpa [nmE, isP, hl, hd, p0] using this
                clear HE2
                subst p0
                go_wp2_with fail
                exact ⟨⟨j + 1, true, rfl, rfl, hjn, HE3, HW⟩, by simp only [intOf]; omega⟩
              · have q0 : (R == 95) = false := by simpa using p0
                by_cases p1 : R = 45
                · skip
                  have HE3 : Hid ((true && (s.data.toList.drop (j + 1)).all (fun c => nmE (c.toNat : Int))) = G) := by have := HE2.out; show _ = _; simpa [nmE, isP, hl, hd, p0, p1] using this
                  clear HE2
                  subst p1
                  go_wp2_with fail
                  exact ⟨⟨j + 1, true, rfl, rfl, hjn, HE3, HW⟩, by simp only [intOf]; omega⟩
                · have q1 : (R == 45) = false := by simpa using p1
                  by_cases p2 : R = 43
                  · skip
                    have HE3 : Hid ((true && (s.data.toList.drop (j + 1)).all (fun c => nmE (c.toNat : Int))) = G) := by have := HE2.out; show _ = _; simpa [nmE, isP, hl, hd, p0, p1, p2] using this
                    clear HE2
                    subst p2
                    go_wp2_with fail
                    exact ⟨⟨j + 1, true, rfl, rfl, hjn, HE3, HW⟩, by simp only [intOf]; omega⟩
                  · have q2 : (R == 43) = false := by simpa using p2
                    by_cases p3 : R = 47
                    · skip
                      have HE3 : Hid ((true && (s.data.toList.drop (j + 1)).all (fun c => nmE (c.toNat : Int))) = G) := by have := HE2.out; show _ = _; simpa [nmE, isP, hl, hd, p0, p1, p2, p3] using this
                      clear HE2
                      subst p3
                      go_wp2_with fail
                      exact ⟨⟨j + 1, true, rfl, rfl, hjn, HE3, HW⟩, by simp only [intOf]; omega⟩
                    · have q3 : (R == 47) = false := by simpa using p3
                      have HE3 : Hid ((false && (s.data.toList.drop (j + 1)).all (fun c => nmE (c.toNat : Int))) = G) := by have := HE2.out; show _ = _; simpa [nmE, isP, hl, hd, p0, p1, p2, p3] using this
                      clear HE2
                      go_wp2_with fail
                      exact ⟨⟨j + 1, false, rfl, rfl, hjn, HE3, HW⟩, by simp only [intOf]; omega⟩
      · have hjI : ¬ (j : Int) < (s.size : Int) := by omega
        have hG : G = b := by rw [← HE.out, List.drop_eq_nil_of_le (by simp; omega)]; simp 
        go_wp2_with fail
        go_ret
        exact ⟨by first | rfl | (rw [hG]; rfl), HW.out⟩

end Go.Proofs.YtgnfkkcagbbhmaaGreatDoor
