/- Contracts: the reference's year, format (of a source): they are the program's. -/
import Derived.Test.YtgnfkkcagbbhmaaGreatDoorQrBq
import Derived.Test.YtgnfkkcagbbhmaaGreatDoorQrVq
namespace Go.Proofs.YtgnfkkcagbbhmaaGreatDoor
open Go.RowKit Lin Sr
set_option linter.unusedVariables false

set_option maxRecDepth 100000 in
set_option maxHeartbeats 4000000 in
theorem qyear_any (s : ByteArray) (hs9 : s.size ≤ maxLen) (w : World) : Calls Tryz.prog 86 #[.string s] w fun e w' => e = .returned (.int .i64 (if (yrF s).2 = true then (yrF s).1 else 0)) ∧ Below w.heap.size w w' := by
  have NU : Hid (∀ w : World, Calls Tryz.prog 116 #[.string s] w fun e w' => e = .returned (.tuple #[.int .i64 (Wrd.numV s), .int .i64 (Wrd.numE s)]) ∧ w' = w) := fun w => Wrd.rnumber_any s _ _ rfl rfl hs9 w
  obtain ⟨G, hG⟩ : ∃ G, (if (yrF s).2 = true then (yrF s).1 else 0) = G := ⟨_, rfl⟩
  rw [hG]
  unfold yrF yearB at hG
  simp only at hG
  generalize Wrd.numV s = V at *
  generalize Wrd.numE s = E at *
  have HG : Hid ((if (decide (E = 0) && decide (s.size = 4) && decide (1800 ≤ V) && decide (V ≤ 2100)) = true then V else 0) = G) := hG
  clear hG
  unfold maxLen at hs9
  by_cases a1 : E = 0
  · have b1 : (E != 0) = false := by simp [a1]
    by_cases a2 : s.size = 4
    · have b2 : ((s.size : Int) != 4) = false := by rw [a2]; rfl
      by_cases a3 : V < 1800
      · have hg : G = 0 := by rw [← HG.out, if_neg (by simp; omega)]
        clear HG
        go_enter Tryz.func86, Tryz.ntmps86
        go_wp2_with fail
        refine (NU.out _).mono ?_
        rintro e w1 ⟨rfl, hw⟩
        rw [hw]
        go_wp2
        go_ret
        exact ⟨by first | rfl | (rw [hg]; rfl), Below.refl _ _⟩
      · by_cases a4 : 2100 < V
        · have hg : G = 0 := by rw [← HG.out, if_neg (by simp; omega)]
          clear HG
          go_enter Tryz.func86, Tryz.ntmps86
          go_wp2_with fail
          refine (NU.out _).mono ?_
          rintro e w1 ⟨rfl, hw⟩
          rw [hw]
          go_wp2
          go_ret
          exact ⟨by first | rfl | (rw [hg]; rfl), Below.refl _ _⟩
        · have hg : G = V := by rw [← HG.out, if_pos (by simp; omega)]
          clear HG
          go_enter Tryz.func86, Tryz.ntmps86
          go_wp2_with fail
          refine (NU.out _).mono ?_
          rintro e w1 ⟨rfl, hw⟩
          rw [hw]
          go_wp2
          go_ret
          exact ⟨by first | rfl | (rw [hg]; rfl), Below.refl _ _⟩
    · have b2 : ((s.size : Int) != 4) = true := bne_iff_ne.2 (by omega)
      have hg : G = 0 := by rw [← HG.out, if_neg (by simp; omega)]
      clear HG
      go_enter Tryz.func86, Tryz.ntmps86
      go_wp2_with fail
      refine (NU.out _).mono ?_
      rintro e w1 ⟨rfl, hw⟩
      rw [hw]
      go_wp2
      go_ret
      exact ⟨by first | rfl | (rw [hg]; rfl), Below.refl _ _⟩
  · have b1 : (E != 0) = true := bne_iff_ne.2 a1
    have hg : G = 0 := by rw [← HG.out, if_neg (by simp; omega)]
    clear HG
    go_enter Tryz.func86, Tryz.ntmps86
    go_wp2_with fail
    refine (NU.out _).mono ?_
    rintro e w1 ⟨rfl, hw⟩
    rw [hw]
    go_wp2
    go_ret
    exact ⟨by first | rfl | (rw [hg]; rfl), Below.refl _ _⟩

/-- a format as the reference goes through it. -/
def rfF (n : Nat) : Nat → Nat → List UInt8 → Option Nat
  | _, m, [] => some m
  | i, m, c :: l =>
    if isL (c.toNat : Int) = true ∨ isD (c.toNat : Int) = true ∨ (c.toNat : Int) = 43 ∨ (c.toNat : Int) = 45 then rfF n (i + 1) m l
    else if (c.toNat : Int) = 47 then (if i = 0 ∨ i + 1 = n then none else rfF n (i + 1) (m + 1) l)
    else if (c.toNat : Int) = 37 then (if (l.head?.map (·.toNat) = some 115 ∨ l.head?.map (·.toNat) = some 122) then rfF n (i + 1) (m + 1) l else none)
    else none
def okR : Option Nat → Bool
  | none => false
  | some m => decide (m ≤ 1)
def okF : Option (Nat × Bool) → Bool
  | none => false
  | some (m, pc) => !pc && decide (m ≤ 1)
theorem fmF_none {n i m : Nat} {pc : Bool} {c : UInt8} {l : List UInt8} (h : fmS n i m pc (c.toNat : Int) = none) : fmF n i m pc (c :: l) = none := by rw [fmF, h]
theorem fmF_some {n i m m' : Nat} {pc p' : Bool} {c : UInt8} {l : List UInt8} (h : fmS n i m pc (c.toNat : Int) = some (m', p')) : fmF n i m pc (c :: l) = fmF n (i + 1) m' p' l := by rw [fmF, h]
theorem isL_let {R : Int} (h : R = 115 ∨ R = 122) : isL R = true := by rcases h with rfl | rfl <;> decide
theorem not_ld {R : Int} (h : R = 47 ∨ R = 37) : ¬ (isL R = true ∨ isD R = true ∨ R = 43 ∨ R = 45) := by rcases h with rfl | rfl <;> decide
theorem fm_same (n : Nat) : ∀ (k : Nat) (l : List UInt8) (i m : Nat), l.length ≤ k → i + l.length = n → okF (fmF n i m false l) = okR (rfF n i m l)
  | _, [], i, m, _, _ => by simp [fmF, rfF, okF, okR]
  | 0, c :: l, i, m, hk, _ => by simp at hk
  | k + 1, c :: l, i, m, hk, hn => by
    simp only [List.length_cons] at hk hn
    obtain ⟨R, hR⟩ : ∃ R : Int, (c.toNat : Int) = R := ⟨_, rfl⟩
    by_cases h1 : isL R = true ∨ isD R = true ∨ R = 43 ∨ R = 45
    · have h37 : R ≠ 37 := fun e => not_ld (.inr e) h1
      have h47 : R ≠ 47 := fun e => not_ld (.inl e) h1
      have hs : fmS n i m false R = some (m, false) := by unfold fmS; rw [if_neg (by decide), if_neg h37, if_neg (fun q => h47 q.1), if_pos h1]
      rw [fmF_some (hR ▸ hs), rfF, hR, if_pos h1]
      exact fm_same n k l (i + 1) m (by omega) (by omega)
    · by_cases h47 : R = 47
      · by_cases hi : i = 0 ∨ i + 1 = n
        · have hs : fmS n i m false R = none := by unfold fmS; rw [if_neg (by decide), if_neg (by omega), if_neg (by omega), if_neg h1]
          rw [fmF_none (hR ▸ hs), rfF, hR, if_neg h1, if_pos h47, if_pos hi]; rfl
        · have hs : fmS n i m false R = some (m + 1, false) := by unfold fmS; rw [if_neg (by decide), if_neg (by omega), if_pos (by omega)]
          rw [fmF_some (hR ▸ hs), rfF, hR, if_neg h1, if_pos h47, if_neg hi]
          exact fm_same n k l (i + 1) (m + 1) (by omega) (by omega)
      · by_cases h37 : R = 37
        · have hs : fmS n i m false R = some (m + 1, true) := by unfold fmS; rw [if_neg (by decide), if_pos h37]
          rw [fmF_some (hR ▸ hs), rfF, hR, if_neg h1, if_neg h47, if_pos h37]
          cases l with
          | nil => simp [fmF, okF, okR]
          | cons d l =>
            simp only [List.length_cons] at hk hn
            obtain ⟨R2, hR2⟩ : ∃ R : Int, (d.toNat : Int) = R := ⟨_, rfl⟩
            by_cases hd : R2 = 115 ∨ R2 = 122
            · have hs2 : fmS n (i + 1) (m + 1) true R2 = some (m + 1, false) := by unfold fmS; rw [if_pos rfl, if_pos hd]
              have hd2 : (d :: l).head?.map (·.toNat) = some 115 ∨ (d :: l).head?.map (·.toNat) = some 122 := by
                simp only [List.head?_cons, Option.map_some, Option.some.injEq]; omega
              rw [fmF_some (hR2 ▸ hs2), if_pos hd2, rfF, hR2, if_pos (.inl (isL_let hd))]
              exact fm_same n k l (i + 1 + 1) (m + 1) (by omega) (by omega)
            · have hs2 : fmS n (i + 1) (m + 1) true R2 = none := by unfold fmS; rw [if_pos rfl, if_neg hd]
              have hd2 : ¬ ((d :: l).head?.map (·.toNat) = some 115 ∨ (d :: l).head?.map (·.toNat) = some 122) := by
                simp only [List.head?_cons, Option.map_some, Option.some.injEq]; omega
              rw [fmF_none (hR2 ▸ hs2), if_neg hd2]; rfl
        · have hs : fmS n i m false R = none := by unfold fmS; rw [if_neg (by decide), if_neg h37, if_neg (fun q => h47 q.1), if_neg h1]
          rw [fmF_none (hR ▸ hs), rfF, hR, if_neg h1, if_neg h47, if_neg h37]; rfl
theorem fmtO_eq (s : ByteArray) : (fmtO s).2 = (decide (1 ≤ s.size) && decide (s.size ≤ 24) && okR (rfF s.size 0 0 s.data.toList)) := by
  rw [← fm_same s.size s.data.toList.length s.data.toList 0 0 (Nat.le_refl _) (by simp)]
  unfold fmtO fmE okF
  cases fmF s.size 0 0 false s.data.toList with
  | none => simp
  | some t =>
    obtain ⟨m, pc⟩ := t
    simp only
    have : decide (s.size ≠ 0) = decide (1 ≤ s.size) := by by_cases q : s.size = 0 <;> simp [q]; omega
    rw [this, Bool.and_assoc, Bool.and_assoc]
theorem rfF_at {s : ByteArray} {j m : Nat} (h : j < s.size) {R : Int} (hR : ((s[j]'h).toNat : Int) = R) : rfF s.size j m (s.data.toList.drop j) =
    if isL R = true ∨ isD R = true ∨ R = 43 ∨ R = 45 then rfF s.size (j + 1) m (s.data.toList.drop (j + 1))
    else if R = 47 then (if j = 0 ∨ j + 1 = s.size then none else rfF s.size (j + 1) (m + 1) (s.data.toList.drop (j + 1)))
    else if R = 37 then (if ((s.data.toList.drop (j + 1)).head?.map (·.toNat) = some 115 ∨ (s.data.toList.drop (j + 1)).head?.map (·.toNat) = some 122) then rfF s.size (j + 1) (m + 1) (s.data.toList.drop (j + 1)) else none)
    else none := by
  rw [drop_at s j h, rfF, hR]
theorem head_drop {s : ByteArray} {j : Nat} (h : j < s.size) : (s.data.toList.drop j).head?.map (·.toNat) = some (s[j]'h).toNat := by
  rw [drop_at s j h]; rfl

set_option maxRecDepth 100000 in
set_option maxHeartbeats 4000000 in
theorem qformat_any (s : ByteArray) (hs9 : s.size ≤ maxLen) (w : World) : Calls Tryz.prog 114 #[.string s] w fun e w' => e = .returned (.bool (fmtO s).2) ∧ Below w.heap.size w w' := by
  rw [fmtO_eq]
  unfold maxLen at hs9
  obtain ⟨G, hG⟩ : ∃ G, (decide (1 ≤ s.size) && decide (s.size ≤ 24) && okR (rfF s.size 0 0 s.data.toList)) = G := ⟨_, rfl⟩
  rw [hG]
  by_cases h1 : s.size < 1
  · have h1I : (s.size : Int) < 1 := by omega
    have hg : G = false := by rw [← hG, decide_eq_false (by omega)]; rfl
    clear hG
    go_enter Tryz.func114, Tryz.ntmps114
    go_wp2_with fail
    go_ret
    exact ⟨by first | rfl | (rw [hg]; rfl), Below.refl _ _⟩
  · have h1I : ¬ (s.size : Int) < 1 := by omega
    by_cases h2 : 24 < s.size
    · have h2I : (24 : Int) < (s.size : Int) := by omega
      have hg : G = false := by rw [← hG, decide_eq_false (show ¬ s.size ≤ 24 by omega), Bool.and_false]; rfl
      clear hG
      go_enter Tryz.func114, Tryz.ntmps114
      go_wp2_with fail
      go_ret
      exact ⟨by first | rfl | (rw [hg]; rfl), Below.refl _ _⟩
    · have h2I : ¬ (24 : Int) < (s.size : Int) := by omega
      have HG : Hid (okR (rfF s.size 0 0 (s.data.toList.drop 0)) = G) := by show _ = _; rw [← hG, List.drop_zero, decide_eq_true (by omega), decide_eq_true (by omega)]; rfl
      clear hG
      go_enter Tryz.func114, Tryz.ntmps114
      go_wp2_with fail
      go_loopw [3, 4] (fun mv iv W => ∃ (j m : Nat), mv = .int .i64 (m : Int) ∧ iv = .int .i64 (j : Int) ∧ j ≤ s.size ∧ m ≤ j ∧ Hid (okR (rfF s.size j m (s.data.toList.drop j)) = G) ∧ Hid (Below w.heap.size w W)) (fun _ iv _ => s.size - (intOf iv).toNat)
      case atStart => exact ⟨0, 0, rfl, rfl, Nat.zero_le _, Nat.le_refl _, HG, Below.refl _ _⟩
      case round =>
        obtain ⟨j, m, rfl, rfl, hj, hm, HE, HW⟩ := hrel
        have hj0 : (0 : Int) ≤ (j : Int) := by omega
        by_cases hjn : j < s.size
        · have hjI : (j : Int) < (s.size : Int) := by omega
          have hjw : IntKind.i64.wrap ((j : Int) + 1) = (j : Int) + 1 := by rw [IntKind.wrap_i64]; omega
          have hmw : IntKind.i64.wrap ((m : Int) + 1) = (m : Int) + 1 := by rw [IntKind.wrap_i64]; omega
          have hsw : IntKind.i64.wrap ((s.size : Int) - 1) = (s.size : Int) - 1 := by rw [IntKind.wrap_i64]; omega
          obtain ⟨R, hR⟩ : ∃ R : Int, ((s[j]'hjn).toNat : Int) = R := ⟨_, rfl⟩
          have HE2 : Hid (okR (if isL R = true ∨ isD R = true ∨ R = 43 ∨ R = 45 then rfF s.size (j + 1) m (s.data.toList.drop (j + 1))
            else if R = 47 then (if j = 0 ∨ j + 1 = s.size then none else rfF s.size (j + 1) (m + 1) (s.data.toList.drop (j + 1)))
            else if R = 37 then (if ((s.data.toList.drop (j + 1)).head?.map (·.toNat) = some 115 ∨ (s.data.toList.drop (j + 1)).head?.map (·.toNat) = some 122) then rfF s.size (j + 1) (m + 1) (s.data.toList.drop (j + 1)) else none)
            else none) = G) := by have := HE.out; rw [rfF_at hjn hR] at this; exact this
          clear HE
          go_wp2_with fail
          refine (qletter_any R _).mono ?_
          rintro e w2 ⟨rfl, hw2⟩
          have hw3 := hw2.symm
          clear hw2
          subst hw3
          cases hl : isL R with
          | true =>
            have HE3 : Hid (okR (rfF s.size (j + 1) m (s.data.toList.drop (j + 1))) = G) := by have := HE2.out; rw [if_pos (.inl hl)] at this; exact this
            clear HE2
            go_wp2_with fail
            exact ⟨⟨j + 1, m, rfl, rfl, hjn, by omega, HE3, HW⟩, by simp only [intOf]; omega⟩
          | false =>
            go_wp2_with fail
            refine (qdigit_any R _).mono ?_
            rintro e w2 ⟨rfl, hw2⟩
            have hw3 := hw2.symm
            clear hw2
            subst hw3
            cases hd : isD R with
            | true =>
              have HE3 : Hid (okR (rfF s.size (j + 1) m (s.data.toList.drop (j + 1))) = G) := by have := HE2.out; rw [if_pos (.inr (.inl hd))] at this; exact this
              clear HE2
              go_wp2_with fail
              exact ⟨⟨j + 1, m, rfl, rfl, hjn, by omega, HE3, HW⟩, by simp only [intOf]; omega⟩
            | false =>
              by_cases p0 : R = 43
              · have b0 : (R == 43) = true := by rw [p0]; rfl
                have HE3 : Hid (okR (rfF s.size (j + 1) m (s.data.toList.drop (j + 1))) = G) := by have := HE2.out; rw [if_pos (.inr (.inr (.inl p0)))] at this; exact this
                clear HE2
                go_wp2_with fail
                exact ⟨⟨j + 1, m, rfl, rfl, hjn, by omega, HE3, HW⟩, by simp only [intOf]; omega⟩
              · have b0 : (R == 43) = false := by simpa using p0
                by_cases p1 : R = 45
                · have b1 : (R == 45) = true := by rw [p1]; rfl
                  have HE3 : Hid (okR (rfF s.size (j + 1) m (s.data.toList.drop (j + 1))) = G) := by have := HE2.out; rw [if_pos (.inr (.inr (.inr p1)))] at this; exact this
                  clear HE2
                  go_wp2_with fail
                  exact ⟨⟨j + 1, m, rfl, rfl, hjn, by omega, HE3, HW⟩, by simp only [intOf]; omega⟩
                · have b1 : (R == 45) = false := by simpa using p1
                  have hno : ¬ (isL R = true ∨ isD R = true ∨ R = 43 ∨ R = 45) := by rw [hl, hd]; simp [p0, p1]
                  have HE4 := HE2.out
                  rw [if_neg hno] at HE4
                  clear HE2
                  by_cases p2 : R = 47
                  · have b2 : (R == 47) = true := by rw [p2]; rfl
                    rw [if_pos p2] at HE4
                    by_cases q1 : j = 0 ∨ j + 1 = s.size
                    · have hG : G = false := by rw [← HE4, if_pos q1]; rfl
                      clear HE4
                      have q1I : ((j : Int) = 0) ∨ ((j : Int) = (s.size : Int) - 1) := by omega
                      rcases q1I with q1I | q1I
                      · have q1b : ((j : Int) == 0) = true := by rw [q1I]; rfl
                        go_wp2_with fail
                        go_ret
                        exact ⟨by first | rfl | (rw [hG]; rfl), HW.out⟩
                      · have q1b : ((j : Int) == (s.size : Int) - 1) = true := by rw [q1I]; simp
                        by_cases q0 : j = 0
                        · have q0b : ((j : Int) == 0) = true := by rw [q0]; rfl
                          clear q1b q1I
                          go_wp2_with fail
                          go_ret
                          exact ⟨by first | rfl | (rw [hG]; rfl), HW.out⟩
                        · have q0b : ((j : Int) == 0) = false := beq_eq_false_iff_ne.2 (by omega)
                          clear q1I
                          go_wp2_with fail
                          go_ret
                          exact ⟨by first | rfl | (rw [hG]; rfl), HW.out⟩
                    · have HE3 : Hid (okR (rfF s.size (j + 1) (m + 1) (s.data.toList.drop (j + 1))) = G) := by rw [if_neg q1] at HE4; exact HE4
                      clear HE4
                      have q1b : ((j : Int) == (s.size : Int) - 1) = false := beq_eq_false_iff_ne.2 (by omega)
                      have q0b : ((j : Int) == 0) = false := beq_eq_false_iff_ne.2 (by omega)
                      go_wp2_with fail
                      exact ⟨⟨j + 1, m + 1, rfl, rfl, hjn, by omega, HE3, HW⟩, by simp only [intOf]; omega⟩
                  · have b2 : (R == 47) = false := by simpa using p2
                    rw [if_neg p2] at HE4
                    by_cases p3 : R = 37
                    · have b3 : (R == 37) = true := by rw [p3]; rfl
                      rw [if_pos p3] at HE4
                      by_cases hl2 : j + 1 < s.size
                      · have q1b : ((j : Int) == (s.size : Int) - 1) = false := beq_eq_false_iff_ne.2 (by omega)
                        have hl2I : (j : Int) + 1 < (s.size : Int) := by omega
                        have hl2J : (0 : Int) ≤ (j : Int) + 1 := by omega
                        rw [head_drop hl2] at HE4
                        obtain ⟨R2, hR2⟩ : ∃ R : Int, ((s[j + 1]'hl2).toNat : Int) = R := ⟨_, rfl⟩
                        by_cases c1 : R2 = 115
                        · have d1 : (R2 != 115) = false := by rw [c1]; rfl
                          have HE3 : Hid (okR (rfF s.size (j + 1) (m + 1) (s.data.toList.drop (j + 1))) = G) := by rw [if_pos (by simp only [Option.some.injEq]; omega)] at HE4; exact HE4
                          clear HE4
                          go_wp2_with fail
                          exact ⟨⟨j + 1, m + 1, rfl, rfl, hjn, by omega, HE3, HW⟩, by simp only [intOf]; omega⟩
                        · have d1 : (R2 != 115) = true := bne_iff_ne.2 c1
                          by_cases c2 : R2 = 122
                          · have d2 : (R2 != 122) = false := by rw [c2]; rfl
                            have HE3 : Hid (okR (rfF s.size (j + 1) (m + 1) (s.data.toList.drop (j + 1))) = G) := by rw [if_pos (by simp only [Option.some.injEq]; omega)] at HE4; exact HE4
                            clear HE4
                            go_wp2_with fail
                            exact ⟨⟨j + 1, m + 1, rfl, rfl, hjn, by omega, HE3, HW⟩, by simp only [intOf]; omega⟩
                          · have d2 : (R2 != 122) = true := bne_iff_ne.2 c2
                            have hG : G = false := by rw [← HE4, if_neg (by simp only [Option.some.injEq]; omega)]; rfl
                            clear HE4
                            go_wp2_with fail
                            go_ret
                            exact ⟨by first | rfl | (rw [hG]; rfl), HW.out⟩
                      · have q1b : ((j : Int) == (s.size : Int) - 1) = true := by rw [beq_iff_eq]; omega
                        have hG : G = false := by
                          rw [← HE4, List.drop_eq_nil_of_le (by simp; omega), if_neg (by simp)]; rfl
                        clear HE4
                        go_wp2_with fail
                        go_ret
                        exact ⟨by first | rfl | (rw [hG]; rfl), HW.out⟩
                    · have b3 : (R == 37) = false := by simpa using p3
                      have hG : G = false := by rw [← HE4, if_neg p3]; rfl
                      clear HE4
                      go_wp2_with fail
                      go_ret
                      exact ⟨by first | rfl | (rw [hG]; rfl), HW.out⟩
        · have hjI : ¬ (j : Int) < (s.size : Int) := by omega
          have hG : G = decide (m ≤ 1) := by rw [← HE.out, List.drop_eq_nil_of_le (by simp; omega)]; rfl
          go_wp2_with fail
          go_ret
          exact ⟨ret_bl (by first | (rw [hG]; by_cases q : m ≤ 1 <;> simp <;> omega) | (by_cases q : m ≤ 1 <;> simp <;> omega)), HW.out⟩

end Go.Proofs.YtgnfkkcagbbhmaaGreatDoor
