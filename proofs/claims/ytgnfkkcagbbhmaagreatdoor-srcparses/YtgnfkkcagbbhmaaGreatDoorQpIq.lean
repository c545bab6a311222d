/- Contract: the reference's line: a line of any fields. -/
import Derived.Test.YtgnfkkcagbbhmaaGreatDoorQpHq
namespace Go.Proofs.YtgnfkkcagbbhmaaGreatDoor
open Go.RowKit
set_option linter.unusedVariables false

theorem TkN.val {w : World} {g B : Nat} {V : World} {e : Ending} {W' : World} {r : Sum Int PSt} (h : TkN w g B V e W' r) : ∃ k, e = .returned (.int .i64 k) := by
  cases r with
  | inl c => exact ⟨c, h.1⟩
  | inr S => exact ⟨0, h.1⟩
theorem TkN.up {w : World} {g B : Nat} {V V2 : World} {e : Ending} {W' : World} {r : Sum Int PSt} (h : TkN w g B V2 e W' r) (hb : Below V.heap.size V V2) : TkN w g B V e W' r := by
  cases r with
  | inl c => exact ⟨h.1, hb.trans (h.2.mono hb.size)⟩
  | inr S => exact h

set_option maxRecDepth 100000 in
set_option maxHeartbeats 4000000 in
theorem rline_any (U : World) (g B : Nat) (S : PSt) (xr xl xa xz : Value) (vs : List Value) (w : World) (h : PN U g B S xr xl xa xz vs w) (N : Nat) (hO : OkS S N) (hN : N ≤ 1000) (hR : RefS S) (hC : CapS S)
    (n : Int) (fb fo c : Nat) (f : ByteArray) (R : List ByteArray) (hF : ∀ x ∈ R, Few x) (hg : fb < U.heap.size) (hc : R.length + 1 ≤ c) (H : FdAt U fb fo (f :: R)) (hf : Few f) :
    Calls Tryz.prog 21 #[.pointer (some ⟨g, 0, none⟩), .agg #[.int .i64 n, .slice (some ⟨fb, fo, none⟩) (R.length + 1) c]] w fun e w' => TkN U g B w e w' (tkF S n (f :: R)) := by
  have B1 : Hid (Below w.heap.size w (w.alloc (.cells #[.int .i64 n, .slice (some ⟨fb, fo, none⟩) (R.length + 1) c] 65))) := (Below.refl _ _).alloc (Nat.le_refl _) _
  obtain ⟨W1, hW1⟩ : ∃ W1, W1 = (w.alloc (.cells #[.int .i64 n, .slice (some ⟨fb, fo, none⟩) (R.length + 1) c] 65)) := ⟨_, rfl⟩
  obtain ⟨lb, hlb⟩ : ∃ lb, lb = w.heap.size := ⟨_, rfl⟩
  have L1 : Hid (Bx W1 lb [.int .i64 n, .slice (some ⟨fb, fo, none⟩) (R.length + 1) c]) := by rw [hW1, hlb]; exact Bx.new w [.int .i64 n, .slice (some ⟨fb, fo, none⟩) (R.length + 1) c] _
  rw [← hW1] at B1
  have HP : Hid (PN U g B S xr xl xa xz vs W1) := h.below B1.out
  have HO : Hid (OkS S N) := hO
  have HR : Hid (RefS S) := hR
  have HC : Hid (CapS S) := hC
  have HFw : Hid (∀ x ∈ R, Few x) := hF
  have HH : Hid (FdAt U fb fo (f :: R)) := H
  have q5 := HP.out.box.c 4 rfl
  have q9 := HP.out.lt
  have l1 := L1.out.c 1 rfl
  have l0 := L1.out.c 0 rfl
  have l9 := L1.out.1
  have hcI : (0 : Int) < ((R.length + 1 : Nat) : Int) := by omega
  obtain ⟨RR, hRR⟩ : ∃ RR, tkF S n (f :: R) = RR := ⟨_, rfl⟩
  rw [hRR]
  have ERR : Hid (_ = RR) := hRR
  clear h hO hR hC hF H hRR
  go_enter Tryz.func21, Tryz.ntmps21
  go_upto_region 1 with fail
  rw [← hW1, ← hlb]
  clear hW1 hlb
  cases hop : S.op
  · have e1 : tkF S n (f :: R) = if Wrd.sameB f ruleT' = true then tkRule S R else if Wrd.sameB f zoneT' = true then tkZone S n R else if Wrd.sameB f linkT' = true then tkLink S R else .inl 21 := if_neg (by rw [hop]; decide)
    rw [hop] at q5
    have ER : Hid ((if Wrd.sameB f ruleT' = true then tkRule S R else if Wrd.sameB f zoneT' = true then tkZone S n R else if Wrd.sameB f linkT' = true then tkLink S R else .inl 21) = RR) := by rw [← e1]; exact ERR.out
    clear e1 hop ERR
    go_upto_region 4 with fail
    clear q5 q9
    have f0 : W1.cell? ⟨fb, fo, none⟩ = some (.string f) := (HP.out.low.cell (p := ⟨fb, fo, none⟩) hg).trans (by have := HH.out 0 f rfl; rwa [Nat.add_zero] at this)
    go_wp2_with fail
    refine (Wrd.rsame_any f ruleT' hf.big (by unfold ruleT'; decide) _).mono ?_
    rintro e V1 ⟨rfl, hb⟩
    replace HP : Hid (PN U g B S xr xl xa xz vs V1) := HP.out.below hb
    replace L1 : Hid (Bx V1 lb [.int .i64 n, .slice (some ⟨fb, fo, none⟩) (R.length + 1) c]) := L1.out.below hb
    replace B1 : Hid (Below w.heap.size w V1) := B1.out.trans (hb.mono B1.out.size)
    clear hb f0 l0 l1 l9
    have l0 := L1.out.c 0 rfl
    have l1 := L1.out.c 1 rfl
    have l9 := L1.out.1
    cases h1 : Wrd.sameB f ruleT'
    rotate_left
    · have E9 : Hid (tkRule S R = RR) := by
        have e := ER.out
        rw [h1, if_pos rfl] at e
        exact e
      clear ER
      go_wp2_with fail
      refine (rrule_all U g B S xr xl xa xz vs _ HP.out N HO.out hN HR.out HC.out fb fo c f R HFw.out hg hc HH.out).mono ?_
      intro e W' q
      rw [E9.out] at q
      obtain ⟨j, hj⟩ := q.val
      subst hj
      have HQ : Hid (TkN U g B _ _ W' RR) := q
      clear q
      go_wp2_with fail
      go_ret
      exact HQ.out.up B1.out
    have f0 : V1.cell? ⟨fb, fo, none⟩ = some (.string f) := (HP.out.low.cell (p := ⟨fb, fo, none⟩) hg).trans (by have := HH.out 0 f rfl; rwa [Nat.add_zero] at this)
    go_wp2_with fail
    refine (Wrd.rsame_any f zoneT' hf.big (by unfold zoneT'; decide) _).mono ?_
    rintro e V2 ⟨rfl, hb⟩
    replace HP : Hid (PN U g B S xr xl xa xz vs V2) := HP.out.below hb
    replace L1 : Hid (Bx V2 lb [.int .i64 n, .slice (some ⟨fb, fo, none⟩) (R.length + 1) c]) := L1.out.below hb
    replace B1 : Hid (Below w.heap.size w V2) := B1.out.trans (hb.mono B1.out.size)
    clear hb f0 l0 l1 l9
    have l0 := L1.out.c 0 rfl
    have l1 := L1.out.c 1 rfl
    have l9 := L1.out.1
    cases h2 : Wrd.sameB f zoneT'
    rotate_left
    · have E9 : Hid (tkZone S n R = RR) := by
        have e := ER.out
        rw [h1, if_neg Bool.false_ne_true, h2, if_pos rfl] at e
        exact e
      clear ER
      go_wp2_with fail
      refine (rzone_all U g B S xr xl xa xz vs _ HP.out N HO.out hN HR.out HC.out n fb fo c f R HFw.out hg hc HH.out).mono ?_
      intro e W' q
      rw [E9.out] at q
      obtain ⟨j, hj⟩ := q.val
      subst hj
      have HQ : Hid (TkN U g B _ _ W' RR) := q
      clear q
      go_wp2_with fail
      go_ret
      exact HQ.out.up B1.out
    have f0 : V2.cell? ⟨fb, fo, none⟩ = some (.string f) := (HP.out.low.cell (p := ⟨fb, fo, none⟩) hg).trans (by have := HH.out 0 f rfl; rwa [Nat.add_zero] at this)
    go_wp2_with fail
    refine (Wrd.rsame_any f linkT' hf.big (by unfold linkT'; decide) _).mono ?_
    rintro e V3 ⟨rfl, hb⟩
    replace HP : Hid (PN U g B S xr xl xa xz vs V3) := HP.out.below hb
    replace L1 : Hid (Bx V3 lb [.int .i64 n, .slice (some ⟨fb, fo, none⟩) (R.length + 1) c]) := L1.out.below hb
    replace B1 : Hid (Below w.heap.size w V3) := B1.out.trans (hb.mono B1.out.size)
    clear hb f0 l0 l1 l9
    have l0 := L1.out.c 0 rfl
    have l1 := L1.out.c 1 rfl
    have l9 := L1.out.1
    cases h3 : Wrd.sameB f linkT'
    rotate_left
    · have E9 : Hid (tkLink S R = RR) := by
        have e := ER.out
        rw [h1, if_neg Bool.false_ne_true, h2, if_neg Bool.false_ne_true, h3, if_pos rfl] at e
        exact e
      clear ER
      go_wp2_with fail
      refine (rlink_all U g B S xr xl xa xz vs _ HP.out N HO.out hN HR.out HC.out fb fo c f R HFw.out hg hc HH.out).mono ?_
      intro e W' q
      rw [E9.out] at q
      obtain ⟨j, hj⟩ := q.val
      subst hj
      have HQ : Hid (TkN U g B _ _ W' RR) := q
      clear q
      go_wp2_with fail
      go_ret
      exact HQ.out.up B1.out
    have E9 : Hid (.inl 21 = RR) := by
      have e := ER.out
      rw [h1, if_neg Bool.false_ne_true, h2, if_neg Bool.false_ne_true, h3, if_neg Bool.false_ne_true] at e
      exact e
    clear ER
    go_wp2_with fail
    go_ret
    exact TkN.no E9.out.symm rfl B1.out
  · have e1 : tkF S n (f :: R) = tkOn S n (f :: R) := if_pos hop
    have Hop : Hid (S.op = true) := hop
    have E9 : Hid (tkOn S n (f :: R) = RR) := by rw [← e1]; exact ERR.out
    rw [hop] at q5
    clear e1 hop ERR
    go_wp2_with fail
    refine (radd_all U g B S xr xl xa xz vs _ HP.out N HO.out hN HR.out HC.out n fb fo c f R HFw.out hg hc HH.out hf Hop.out).mono ?_
    intro e W' q
    rw [E9.out] at q
    obtain ⟨j, hj⟩ := q.val
    subst hj
    have HQ : Hid (TkN U g B _ _ W' RR) := q
    clear q
    go_wp2_with fail
    go_ret
    exact HQ.out.up B1.out

end Go.Proofs.YtgnfkkcagbbhmaaGreatDoor
