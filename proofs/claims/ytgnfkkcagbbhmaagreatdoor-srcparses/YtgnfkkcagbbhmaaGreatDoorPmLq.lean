/- Contract: take of src's parser: a line of any fields. -/
import Derived.Test.YtgnfkkcagbbhmaaGreatDoorPmKq
import Derived.Test.YtgnfkkcagbbhmaaGreatDoorWdRq
namespace Go.Proofs.YtgnfkkcagbbhmaaGreatDoor
open Go.RowKit
set_option linter.unusedVariables false

theorem known3 (f : ByteArray) : Wrd.knownB f [ruleT', zoneT', linkT'] = if Wrd.sameB f ruleT' = true then 0 else if Wrd.sameB f zoneT' = true then 1 else if Wrd.sameB f linkT' = true then 2 else -1 := by
  simp only [Wrd.knownB, Wrd.findF]
  rfl

set_option maxRecDepth 100000 in
set_option maxHeartbeats 4000000 in
theorem ptake_any (w : World) (g m B : Nat) (S : PSt) (vr vl ve vz : Value) (vs : List Value) (V : World) (h : PM w g m B S vr vl ve vz vs V) (N : Nat) (hO : OkS S N) (hN : N ≤ 1000)
    (n : Int) (fb fo c : Nat) (f : ByteArray) (R : List ByteArray) (hF : ∀ x ∈ R, Few x) (hg : fb < V.heap.size) (hc : R.length + 1 ≤ c) (H : FdAt V fb fo (f :: R)) (hf : Few f) :
    Calls Tryz.prog 18 #[.pointer (some ⟨g, 0, none⟩), .agg #[.int .i64 n, .slice (some ⟨fb, fo, none⟩) (R.length + 1) c]] V fun e W' => TkO w g m B V e W' (tkF S n (f :: R)) := by
  have B1 : Hid (Below V.heap.size V (V.alloc (.cells #[.int .i64 n, .slice (some ⟨fb, fo, none⟩) (R.length + 1) c] 54))) := (Below.refl _ _).alloc (Nat.le_refl _) _
  have L1 : Hid (Bx (V.alloc (.cells #[.int .i64 n, .slice (some ⟨fb, fo, none⟩) (R.length + 1) c] 54)) V.heap.size [.int .i64 n, .slice (some ⟨fb, fo, none⟩) (R.length + 1) c]) := Bx.new V [.int .i64 n, .slice (some ⟨fb, fo, none⟩) (R.length + 1) c] _
  have P1 := h.below B1.out
  have H1 := H.below hg B1.out
  have hg1 : fb < (V.alloc (.cells #[.int .i64 n, .slice (some ⟨fb, fo, none⟩) (R.length + 1) c] 54)).heap.size := Nat.lt_of_lt_of_le hg B1.out.size
  have c5 := P1.box.c 5 rfl
  have q5 := P1.lt
  by_cases hop : S.op = true
  · have e1 : tkF S n (f :: R) = tkOn S n (f :: R) := if_pos hop
    rw [e1]
    have HP : Hid (PM w g m B S vr vl ve vz vs (V.alloc (.cells #[.int .i64 n, .slice (some ⟨fb, fo, none⟩) (R.length + 1) c] 54))) := P1
    have HH : Hid (FdAt (V.alloc (.cells #[.int .i64 n, .slice (some ⟨fb, fo, none⟩) (R.length + 1) c] 54)) fb fo (f :: R)) := H1
    have HO : Hid (OkS S N) := hO
    have HFw : Hid (∀ x ∈ R, Few x) := hF
    have Hop : Hid (S.op = true) := hop
    rw [hop] at c5
    clear P1 H1 h H hO hF hop e1
    have l0 := L1.out.c 0 rfl
    have l1 := L1.out.c 1 rfl
    go_enter Tryz.func18, Tryz.ntmps18
    go_wp2_with fail
    refine (goOn_all w g m B S vr vl ve vz vs _ HP.out N HO.out hN n fb fo c f R HFw.out hg1 hc HH.out hf Hop.out).mono ?_
    intro e W' q
    obtain ⟨k, hk⟩ := q.val
    subst hk
    have HQ : Hid (TkO w g m B _ _ W' _) := q
    clear q
    go_wp2_with fail
    go_ret
    exact HQ.out.up B1.out
  · have e1 : tkF S n (f :: R) = if Wrd.sameB f ruleT' = true then tkRule S R else if Wrd.sameB f zoneT' = true then tkZone S n R else if Wrd.sameB f linkT' = true then tkLink S R else .inl 21 := if_neg hop
    obtain ⟨RR, hRR⟩ : ∃ RR, (if Wrd.sameB f ruleT' = true then tkRule S R else if Wrd.sameB f zoneT' = true then tkZone S n R else if Wrd.sameB f linkT' = true then tkLink S R else .inl 21) = RR := ⟨_, rfl⟩
    rw [e1, hRR]
    have hop2 : S.op = false := by simpa using hop
    rw [hop2] at c5
    have f0 := H1 0 f rfl
    rw [Nat.add_zero] at f0
    have fV := H 0 f rfl
    rw [Nat.add_zero] at fV
    have HP : Hid (PM w g m B S vr vl ve vz vs (V.alloc (.cells #[.int .i64 n, .slice (some ⟨fb, fo, none⟩) (R.length + 1) c] 54))) := P1
    have HH : Hid (FdAt (V.alloc (.cells #[.int .i64 n, .slice (some ⟨fb, fo, none⟩) (R.length + 1) c] 54)) fb fo (f :: R)) := H1
    have HO : Hid (OkS S N) := hO
    have HFw : Hid (∀ x ∈ R, Few x) := hF
    have hcI : (0 : Int) < (R.length : Int) + 1 := by omega
    have ER : Hid (_ = RR) := hRR
    clear P1 H1 h H hO hF e1 hop hRR
    go_enter Tryz.func18, Tryz.ntmps18
    go_upto_region 3 with fail
    clear c5
    go_wp2_with fail
    have hb2 : Below (V.alloc (.cells #[.int .i64 n, .slice (some ⟨fb, fo, none⟩) (R.length + 1) c] 54)).heap.size (V.alloc (.cells #[.int .i64 n, .slice (some ⟨fb, fo, none⟩) (R.length + 1) c] 54)) ((V.alloc (.cells #[.int .i64 n, .slice (some ⟨fb, fo, none⟩) (R.length + 1) c] 54)).alloc (.cells #[.string ruleT', .string zoneT', .string linkT'] 9)) := (Below.refl _ _).alloc (Nat.le_refl _) _
    refine (Wrd.knownA_any f [ruleT', zoneT', linkT'] ⟨V.heap.size + 1, 0, none⟩ 3 _ hf.max (fun j t hj => by match j, hj with | 0, hj => (cases hj; unfold maxLen; decide) | 1, hj => (cases hj; unfold maxLen; decide) | 2, hj => (cases hj; unfold maxLen; decide) | j + 3, hj => (simp at hj)) (Nat.le_refl _) (by unfold maxLen; omega) ⟨trivial, fun j t hj => ?_⟩).mono ?_
    · rw [show (⟨V.heap.size + 1, 0, none⟩ : Addr).add j = ⟨V.heap.size + 1, j, none⟩ from by rw [Addr.add_lit]; simp]
      have := (Bx.new (V.alloc (.cells #[.int .i64 n, .slice (some ⟨fb, fo, none⟩) (R.length + 1) c] 54)) [.string ruleT', .string zoneT', .string linkT'] 9).c j (v := .string t) (by match j, hj with | 0, hj => (cases hj; rfl) | 1, hj => (cases hj; rfl) | 2, hj => (cases hj; rfl) | j + 3, hj => (simp at hj))
      simpa [ruleT', zoneT', linkT'] using this
    rintro e W2 ⟨rfl, hb⟩
    rw [known3]
    have hb3 := hb2.trans (hb.mono hb2.size)
    have P2 : Hid (PM w g m B S vr vl ve vz vs W2) := HP.out.below hb3
    have L2 : Hid (Bx W2 V.heap.size [.int .i64 n, .slice (some ⟨fb, fo, none⟩) (R.length + 1) c]) := L1.out.below hb3
    have H2 : Hid (FdAt W2 fb fo (f :: R)) := HH.out.below hg1 hb3
    have hg2 : fb < W2.heap.size := Nat.lt_of_lt_of_le hg1 hb3.size
    have B2 : Hid (Below V.heap.size V W2) := B1.out.trans (hb3.mono B1.out.size)
    have l0 := L2.out.c 0 rfl
    have l1 := L2.out.c 1 rfl
    have l2 := L2.out.1
    clear hb2 hb hb3 HP L1 HH B1 hg1 f0 fV
    by_cases h1 : Wrd.sameB f ruleT' = true
    · have E9 : Hid (tkRule S R = RR) := by have := ER.out; rw [if_pos h1] at this; exact this
      rw [if_pos h1]
      clear h1
      go_wp2_with fail
      refine (takeRule_all w g m B S vr vl ve vz vs _ P2.out N HO.out hN n fb fo c f R HFw.out hg2 hc H2.out).mono ?_
      intro e W' q
      obtain ⟨k, hk⟩ := q.val
      subst hk
      have HQ : Hid (TkO w g m B _ _ W' _) := q
      clear q
      go_wp2_with fail
      go_ret
      rw [← E9.out]
      exact HQ.out.up B2.out
    · have E8 : Hid ((if Wrd.sameB f zoneT' = true then tkZone S n R else if Wrd.sameB f linkT' = true then tkLink S R else .inl 21) = RR) := by have := ER.out; rw [if_neg h1] at this; exact this
      rw [if_neg h1]
      by_cases h2 : Wrd.sameB f zoneT' = true
      · have E9 : Hid (tkZone S n R = RR) := by have := E8.out; rw [if_pos h2] at this; exact this
        rw [if_pos h2]
        clear h1 h2
        go_wp2_with fail
        refine (takeZone_all w g m B S vr vl ve vz vs _ P2.out N HO.out hN n fb fo c f R HFw.out hg2 hc H2.out).mono ?_
        intro e W' q
        obtain ⟨k, hk⟩ := q.val
        subst hk
        have HQ : Hid (TkO w g m B _ _ W' _) := q
        clear q
        go_wp2_with fail
        go_ret
        rw [← E9.out]
        exact HQ.out.up B2.out
      · have E7 : Hid ((if Wrd.sameB f linkT' = true then tkLink S R else .inl 21) = RR) := by have := E8.out; rw [if_neg h2] at this; exact this
        rw [if_neg h2]
        by_cases h3 : Wrd.sameB f linkT' = true
        · have E9 : Hid (tkLink S R = RR) := by have := E7.out; rw [if_pos h3] at this; exact this
          rw [if_pos h3]
          clear h1 h2 h3
          go_wp2_with fail
          refine (takeLink_all w g m B S vr vl ve vz vs _ P2.out N HO.out hN n fb fo c f R HFw.out hg2 hc H2.out).mono ?_
          intro e W' q
          obtain ⟨k, hk⟩ := q.val
          subst hk
          have HQ : Hid (TkO w g m B _ _ W' _) := q
          clear q
          go_wp2_with fail
          go_ret
          rw [← E9.out]
          exact HQ.out.up B2.out
        · have E9 : Hid (.inl 21 = RR) := by have := E7.out; rw [if_neg h3] at this; exact this
          rw [if_neg h3]
          clear h1 h2 h3
          go_wp2_with fail
          go_ret
          rw [← E9.out]
          exact ⟨rfl, B2.out⟩

end Go.Proofs.YtgnfkkcagbbhmaaGreatDoor
