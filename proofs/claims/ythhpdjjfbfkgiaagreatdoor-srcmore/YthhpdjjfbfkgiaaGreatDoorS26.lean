import Derived.Test.YthhpdjjfbfkgiaaGreatDoorS25
import Derived.Test.YthhpdjjfbfkgiaaGreatDoorS15
/- Contract: take of src's parser: a line of any fields. -/
namespace Go.Proofs.YthhpdjjfbfkgiaaGreatDoor
open Go.RowKit
set_option linter.unusedVariables false

theorem known3 (f : ByteArray) : Wrd.knownB f [ruleT', zoneT', linkT'] = if Wrd.sameB f ruleT' = true then 0 else if Wrd.sameB f zoneT' = true then 1 else if Wrd.sameB f linkT' = true then 2 else -1 := by
  simp only [Wrd.knownB, Wrd.findF]
  rfl

set_option maxRecDepth 100000 in
set_option maxHeartbeats 4000000 in
theorem ptake_any (w : World) (g m B : Nat) (S : PSt) (vr vl ve vz : Value) (vs : List Value) (V : World) (h : PM w g m B S vr vl ve vz vs V) (N : Nat) (hO : OkS S N) (hN : N ≤ 1000)
    (n : Int) (fb fo c : Nat) (f : ByteArray) (R : List ByteArray) (hF : ∀ x ∈ R, Few x) (hg : fb < V.heap.size) (hc : R.length + 1 ≤ c) (H : FdAt V fb fo (f :: R)) (hf : Few f) :
    Calls Tryz.prog 9 #[.pointer (some ⟨g, 0, none⟩), .agg #[.int .i64 n, .slice (some ⟨fb, fo, none⟩) (R.length + 1) c]] V fun e W' => TkO w g m B V e W' (tkF S n (f :: R)) := by
  have B1 : Hid (Below V.heap.size V (V.alloc (.cells #[.int .i64 n, .slice (some ⟨fb, fo, none⟩) (R.length + 1) c] 54))) := (Below.refl _ _).alloc (Nat.le_refl _) _
  have L1 : Hid (Bx (V.alloc (.cells #[.int .i64 n, .slice (some ⟨fb, fo, none⟩) (R.length + 1) c] 54)) V.heap.size [.int .i64 n, .slice (some ⟨fb, fo, none⟩) (R.length + 1) c]) := Bx.new V [.int .i64 n, .slice (some ⟨fb, fo, none⟩) (R.length + 1) c] _
  have P1 := h.below B1.out
  have H1 := H.below hg B1.out
  have hg1 : fb < (V.alloc (.cells #[.int .i64 n, .slice (some ⟨fb, fo, none⟩) (R.length + 1) c] 54)).heap.size := Nat.lt_of_lt_of_le hg B1.out.size
  have c5 := P1.box.c 5 rfl
  have q5 := P1.lt
  by_cases hop : S.op = true
  · have e1 : tkF S n (f :: R) = tkOn S n (f :: R) := if_pos hop
    rw [e1]
    have HP : Hid (PM w g m B S vr vl ve vz vs (V.alloc (.cells #[.int .i64 n, .slice (some ⟨fb, fo, none⟩) (R.length + 1) c] 54))) := P1
    have HH : Hid (FdAt (V.alloc (.cells #[.int .i64 n, .slice (some ⟨fb, fo, none⟩) (R.length + 1) c] 54)) fb fo (f :: R)) := H1
    have HO : Hid (OkS S N) := hO
    have HFw : Hid (∀ x ∈ R, Few x) := hF
    have Hop : Hid (S.op = true) := hop
    rw [hop] at c5
    clear P1 H1 h H hO hF hop e1
    have l0 := L1.out.c 0 rfl
    have l1 := L1.out.c 1 rfl
    go_enter Tryz.func9, Tryz.ntmps9
    go_wp2_with fail
    refine (goOn_all w g m B S vr vl ve vz vs _ HP.out N HO.out hN n fb fo c f R HFw.out hg1 hc HH.out hf Hop.out).mono ?_
    intro e W' q
    obtain ⟨k, hk⟩ := q.val
    subst hk
    have HQ : Hid (TkO w g m B _ _ W' _) := q
    clear q
    go_wp2_with fail
    go_ret
    exact HQ.out.up B1.out
  · have e1 : tkF S n (f :: R) = if Wrd.sameB f ruleT' = true then tkRule S R else if Wrd.sameB f zoneT' = true then tkZone S n R else if Wrd.sameB f linkT' = true then tkLink S R else .inl 21 := if_neg hop
    obtain ⟨RR, hRR⟩ : ∃ RR, (if Wrd.sameB f ruleT' = true then tkRule S R else if Wrd.sameB f zoneT' = true then tkZone S n R else if Wrd.sameB f linkT' = true then tkLink S R else .inl 21) = RR := ⟨_, rfl⟩
    rw [e1, hRR]
    have hop2 : S.op = false := by simpa using hop
    rw [hop2] at c5
    have f0 := H1 0 f rfl
    rw [Nat.add_zero] at f0
    have fV := H 0 f rfl
    rw [Nat.add_zero] at fV
    have HP : Hid (PM w g m B S vr vl ve vz vs (V.alloc (.cells #[.int .i64 n, .slice (some ⟨fb, fo, none⟩) (R.length + 1) c] 54))) := P1
    have HH : Hid (FdAt (V.alloc (.cells #[.int .i64 n, .slice (some ⟨fb, fo, none⟩) (R.length + 1) c] 54)) fb fo (f :: R)) := H1
    have HO : Hid (OkS S N) := hO
    have HFw : Hid (∀ x ∈ R, Few x) := hF
    have hcI : (0 : Int) < (R.length : Int) + 1 := by omega
    have ER : Hid (_ = RR) := hRR
    clear P1 H1 h H hO hF e1 hop hRR
    go_enter Tryz.func9, Tryz.ntmps9
    go_upto_region 3 with fail
    clear c5
    go_wp2_with fail
    have hb2 : Below (V.alloc (.cells #[.int .i64 n, .slice (some ⟨fb, fo, none⟩) (R.length + 1) c] 54)).heap.size (V.alloc (.cells #[.int .i64 n, .slice (some ⟨fb, fo, none⟩) (R.length + 1) c] 54)) ((V.alloc (.cells #[.int .i64 n, .slice (some ⟨fb, fo, none⟩) (R.length + 1) c] 54)).alloc (.cells #[.string ruleT', .string zoneT', .string linkT'] 9)) := (Below.refl _ _).alloc (Nat.le_refl _) _
    refine (Wrd.knownA_any f [ruleT', zoneT', linkT'] ⟨V.heap.size + 1, 0, none⟩ 3 _ hf.max (fun j t hj => by match j, hj with | 0, hj => (cases hj; unfold maxLen; decide) | 1, hj => (cases hj; unfold maxLen; decide) | 2, hj => (cases hj; unfold maxLen; decide) | j + 3, hj => (simp at hj)) (Nat.le_refl _) (by unfold maxLen; omega) ⟨trivial, fun j t hj => ?_⟩).mono ?_
    · rw [show (⟨V.heap.size + 1, 0, none⟩ : Addr).add j = ⟨V.heap.size + 1, j, none⟩ from by rw [Addr.add_lit]; simp]
      have := (Bx.new (V.alloc (.cells #[.int .i64 n, .slice (some ⟨fb, fo, none⟩) (R.length + 1) c] 54)) [.string ruleT', .string zoneT', .string linkT'] 9).c j (v := .string t) (by match j, hj with | 0, hj => (cases hj; rfl) | 1, hj => (cases hj; rfl) | 2, hj => (cases hj; rfl) | j + 3, hj => (simp at hj))
      simpa [ruleT', zoneT', linkT'] using this
    rintro e W2 ⟨rfl, hb⟩
    rw [known3]
    have hb3 := hb2.trans (hb.mono hb2.size)
    have P2 : Hid (PM w g m B S vr vl ve vz vs W2) := HP.out.below hb3
    have L2 : Hid (Bx W2 V.heap.size [.int .i64 n, .slice (some ⟨fb, fo, none⟩) (R.length + 1) c]) := L1.out.below hb3
    have H2 : Hid (FdAt W2 fb fo (f :: R)) := HH.out.below hg1 hb3
    have hg2 : fb < W2.heap.size := Nat.lt_of_lt_of_le hg1 hb3.size
    have B2 : Hid (Below V.heap.size V W2) := B1.out.trans (hb3.mono B1.out.size)
    have l0 := L2.out.c 0 rfl
    have l1 := L2.out.c 1 rfl
    have l2 := L2.out.1
    clear hb2 hb hb3 HP L1 HH B1 hg1 f0 fV
    by_cases h1 : Wrd.sameB f ruleT' = true
    · have E9 : Hid (tkRule S R = RR) := by have := ER.out; rw [if_pos h1] at this; exact this
      rw [if_pos h1]
      clear h1
      go_wp2_with fail
      refine (takeRule_all w g m B S vr vl ve vz vs _ P2.out N HO.out hN n fb fo c f R HFw.out hg2 hc H2.out).mono ?_
      intro e W' q
      obtain ⟨k, hk⟩ := q.val
      subst hk
      have HQ : Hid (TkO w g m B _ _ W' _) := q
      clear q
      go_wp2_with fail
      go_ret
      rw [← E9.out]
      exact HQ.out.up B2.out
    · have E8 : Hid ((if Wrd.sameB f zoneT' = true then tkZone S n R else if Wrd.sameB f linkT' = true then tkLink S R else .inl 21) = RR) := by have := ER.out; rw [if_neg h1] at this; exact this
      rw [if_neg h1]
      by_cases h2 : Wrd.sameB f zoneT' = true
      · have E9 : Hid (tkZone S n R = RR) := by have := E8.out; rw [if_pos h2] at this; exact this
        rw [if_pos h2]
        clear h1 h2
        go_wp2_with fail
        refine (takeZone_all w g m B S vr vl ve vz vs _ P2.out N HO.out hN n fb fo c f R HFw.out hg2 hc H2.out).mono ?_
        intro e W' q
        obtain ⟨k, hk⟩ := q.val
        subst hk
        have HQ : Hid (TkO w g m B _ _ W' _) := q
        clear q
        go_wp2_with fail
        go_ret
        rw [← E9.out]
        exact HQ.out.up B2.out
      · have E7 : Hid ((if Wrd.sameB f linkT' = true then tkLink S R else .inl 21) = RR) := by have := E8.out; rw [if_neg h2] at this; exact this
        rw [if_neg h2]
        by_cases h3 : Wrd.sameB f linkT' = true
        · have E9 : Hid (tkLink S R = RR) := by have := E7.out; rw [if_pos h3] at this; exact this
          rw [if_pos h3]
          clear h1 h2 h3
          go_wp2_with fail
          refine (takeLink_all w g m B S vr vl ve vz vs _ P2.out N HO.out hN n fb fo c f R HFw.out hg2 hc H2.out).mono ?_
          intro e W' q
          obtain ⟨k, hk⟩ := q.val
          subst hk
          have HQ : Hid (TkO w g m B _ _ W' _) := q
          clear q
          go_wp2_with fail
          go_ret
          rw [← E9.out]
          exact HQ.out.up B2.out
        · have E9 : Hid (.inl 21 = RR) := by have := E7.out; rw [if_neg h3] at this; exact this
          rw [if_neg h3]
          clear h1 h2 h3
          go_wp2_with fail
          go_ret
          rw [← E9.out]
          exact ⟨rfl, B2.out⟩

end Go.Proofs.YthhpdjjfbfkgiaaGreatDoor
/- Contract: lost of src's parser: the line of the first era whose rules nobody has. -/
namespace Go.Proofs.YthhpdjjfbfkgiaaGreatDoor
open Go.RowKit
open Sr (gen_any gen_list)
set_option linter.unusedVariables false

theorem lineXs_at : ∀ (l : List (Int × ByteArray)) (i : Nat) (z : Int × ByteArray), l[i]? = some z → (lineXs l)[i * 2]? = some (.int .i64 z.1) ∧ (lineXs l)[i * 2 + 1]? = some (.string z.2)
  | [], i, z, h => by simp at h
  | y :: l, 0, z, h => by simp at h; subst h; exact ⟨rfl, rfl⟩
  | y :: l, i + 1, z, h => by
    obtain ⟨h1, h2⟩ := lineXs_at l i z (by simpa using h)
    constructor
    · rw [show (i + 1) * 2 = i * 2 + 1 + 1 by omega]; simpa [lineXs] using h1
    · rw [show (i + 1) * 2 + 1 = i * 2 + 1 + 1 + 1 by omega]; simpa [lineXs] using h2
def lostL (cnt : ByteArray → Int) : List (Int × ByteArray) → Int
  | [] => 0
  | e :: l => if e.2.toList = [] then lostL cnt l else if cnt e.2 = 0 then e.1 else lostL cnt l
theorem lostL_at {cnt : ByteArray → Int} {l : List (Int × ByteArray)} {j : Nat} {x : Int × ByteArray} (hx : l[j]? = some x) : lostL cnt (l.drop j) = if x.2.toList = [] then lostL cnt (l.drop (j + 1)) else if cnt x.2 = 0 then x.1 else lostL cnt (l.drop (j + 1)) := by
  have hj := (List.getElem?_eq_some_iff.1 hx).1
  rw [List.drop_eq_getElem_cons hj, (List.getElem?_eq_some_iff.1 hx).2, lostL]
theorem size_toList (s : ByteArray) : s.size = 0 ↔ s.toList = [] := by
  rw [Lib.toList_data]
  constructor
  · intro h; exact List.eq_nil_of_length_eq_zero (by simpa using h)
  · intro h; have := congrArg List.length h; simpa using this
theorem lost_eq (S : PSt) : lostF S = lostL S.cnt S.eras := by
  unfold lostF
  induction S.eras with
  | nil => rfl
  | cons e l ih =>
    rw [List.find?_cons, lostL]
    by_cases h0 : e.2.toList = []
    · rw [if_pos h0, show e.2.size = 0 from (size_toList _).2 h0]
      simpa using ih
    · have h1 : e.2.size ≠ 0 := fun q => h0 ((size_toList _).1 q)
      rw [if_neg h0]
      by_cases h2 : S.cnt e.2 = 0
      · rw [if_pos h2, show (e.2.size != 0 && S.cnt e.2 == 0) = true by rw [Bool.and_eq_true]; exact ⟨bne_iff_ne.2 h1, beq_iff_eq.2 h2⟩]
      · rw [if_neg h2, show (e.2.size != 0 && S.cnt e.2 == 0) = false by rw [Bool.and_eq_false_iff]; exact .inr (beq_eq_false_iff_ne.2 h2)]
        exact ih

set_option maxRecDepth 100000 in
set_option maxHeartbeats 1000000 in
theorem plost_any (w : World) (g m B : Nat) (S : PSt) (vr vl ve vz : Value) (vs : List Value) (V : World) (h : PM w g m B S vr vl ve vz vs V) :
    Calls Tryz.prog 10 #[.pointer (some ⟨g, 0, none⟩)] V fun e W' => e = .returned (.int .i64 (lostF S)) ∧ Below V.heap.size V W' := by
  obtain ⟨ae, ce, hve, he1, he2, he3⟩ := own_rowP (h.fam.get 2 rfl)
  simp only at hve he1 he3
  subst hve
  obtain ⟨X, hX⟩ : ∃ X, lostF S = X := ⟨_, rfl⟩
  rw [hX]
  have HX : Hid (lostL S.cnt S.eras = X) := by rw [lost_eq] at hX; exact hX
  clear hX
  have K0 : Hid (PM w g m B S vr vl (.slice ae S.eras.length ce) vz vs V ∧ Below V.heap.size V V) := ⟨h, Below.refl _ _⟩
  clear h
  have c4 := K0.out.1.box.c 4 rfl
  have hne : (S.eras.length : Int) ≤ 9223372036854775807 := by unfold maxLen at he2; omega
  unfold maxLen at he2
  go_enter Tryz.func10, Tryz.ntmps10
  go_wp2_with fail
  clear c4
  go_loopw [10] (fun iv W => ∃ j : Nat, iv = .int .i64 (j : Int) ∧ j ≤ S.eras.length ∧ Hid (PM w g m B S vr vl (.slice ae S.eras.length ce) vz vs W ∧ Below V.heap.size V W) ∧ Hid (lostL S.cnt (S.eras.drop j) = X)) (fun iv _ => S.eras.length - (intOf iv).toNat)
  case atStart => exact ⟨0, rfl, Nat.zero_le _, K0, HX⟩
  case round =>
    obtain ⟨j, rfl, hj, KV, HE⟩ := hrel
    clear K0 HX
    have hj0 : (0 : Int) ≤ (j : Int) := by omega
    by_cases hjn : j < S.eras.length
    · have hjI : (j : Int) < (S.eras.length : Int) := by omega
      have hjw : IntKind.i64.wrap ((j : Int) + 1) = (j : Int) + 1 := by rw [IntKind.wrap_i64]; omega
      obtain ⟨b, hb, hbB⟩ := he3 (by omega)
      subst hb
      obtain ⟨z, hz⟩ : ∃ z, S.eras[j]? = some z := ⟨_, List.getElem?_eq_getElem hjn⟩
      have HA := lostL_at (cnt := S.cnt) hz
      obtain ⟨y0, y1⟩ := lineXs_at _ j z hz
      have f0 := (KV.out.1.fam.cell 2 rfl rfl y0)
      have f1 := (KV.out.1.fam.cell 2 rfl rfl y1)
      have hbw := World.block_lt_of_cell? _ _ f0
      obtain ⟨N, s⟩ := z
      simp only at HA y0 y1 f0 f1
      have HE2 : Hid ((if s.toList = [] then lostL S.cnt (S.eras.drop (j + 1)) else if S.cnt s = 0 then N else lostL S.cnt (S.eras.drop (j + 1))) = X) := by have := HE.out; rw [HA] at this; exact this
      clear HA HE y0 y1 hz
      obtain ⟨lb, hlb⟩ : ∃ lb, lb = wr.heap.size := ⟨_, rfl⟩
      have E0 : Hid (PM w g m B S vr vl (.slice (some ⟨b, 0, none⟩) S.eras.length ce) vz vs (wr.alloc (.cells #[.int .i64 N, .string s] 87)) ∧ Below V.heap.size V (wr.alloc (.cells #[.int .i64 N, .string s] 87)) ∧ Bx (wr.alloc (.cells #[.int .i64 N, .string s] 87)) lb [.int .i64 N, .string s]) := ⟨KV.out.1.below ((Below.refl _ _).alloc (Nat.le_refl _) _), KV.out.2.alloc KV.out.2.size _, by rw [hlb]; exact Bx.new wr [.int .i64 N, .string s] _⟩
      go_upto_region 4 with fail
      refine gen_code (fun W => (PM w g m B S vr vl (.slice (some ⟨b, 0, none⟩) S.eras.length ce) vz vs W ∧ Below V.heap.size V W ∧ Bx W lb [.int .i64 N, .string s])) E0.out ?_
      clear E0 KV f0 f1 hbw
      intro w1 hE
      have KK : Hid (PM w g m B S vr vl (.slice (some ⟨b, 0, none⟩) S.eras.length ce) vz vs w1 ∧ Below V.heap.size V w1 ∧ Bx w1 lb [.int .i64 N, .string s]) := hE
      clear hE
      rw [← hlb]
      clear hlb
      by_cases hs0 : s.toList = []
      · have hs1 : (s.toList == []) = true := by simp [hs0]
        have hs2 : (s.toList != []) = false := by simp [hs0]
        have HE3 : Hid (lostL S.cnt (S.eras.drop (j + 1)) = X) := by have := HE2.out; rw [if_pos hs0] at this; exact this
        clear HE2 hs0
        go_wp2_with fail
        refine wp_region_held_drew (S := fun V' => (PM w g m B S vr vl (.slice (some ⟨b, 0, none⟩) S.eras.length ce) vz vs V' ∧ Below V.heap.size V V' ∧ Bx V' lb [.int .i64 N, .string s])) (by kernel_rfl) ⟨KK.out.1.drew, KK.out.2.1.drew, KK.out.2.2⟩ (fun hHeld => ?_)
        refine gen_any (fun V' => (PM w g m B S vr vl (.slice (some ⟨b, 0, none⟩) S.eras.length ce) vz vs V' ∧ Below V.heap.size V V' ∧ Bx V' lb [.int .i64 N, .string s])) hHeld ?_
        clear hHeld KK
        rintro w2 hHeld
        refine wpAnyH_take (i := 0) (v := ?_) (oi := { dst := some 14, op := _, type := _, pos := _, after := _, guard := none }) rfl (by kernel_rfl) (by kernel_rfl) (by kernel_rfl) (fun _ _ _ h => h) (Or.inl ⟨by kernel_rfl, ?_⟩) (by assumption) ?_
        case refine_2 => (intro w9 hSw; clear hSw; go_simp; try with_reducible rfl)
        simp only [Act.put, List.setIfInBounds_toArray, List.set_cons_zero, List.set_cons_succ]
        refine wpAnyH_take (i := 1) (v := ?_) (oi := { dst := some 15, op := _, type := _, pos := _, after := _, guard := none }) rfl (by kernel_rfl) (by kernel_rfl) (by kernel_rfl) (fun _ _ _ h => h) (Or.inl ⟨by kernel_rfl, ?_⟩) (by assumption) ?_
        case refine_2 => (intro w9 hSw; obtain ⟨zp, zb, zl⟩ := hSw; have q3 := zp.box.c 3 rfl; have l0 := zl.c 0 rfl; have l1 := zl.c 1 rfl; clear zp zb zl; go_simp; try with_reducible rfl)
        simp only [Act.put, List.setIfInBounds_toArray, List.set_cons_zero, List.set_cons_succ]
        refine wpAnyH_take (i := 2) (v := ?_) (oi := { dst := some 16, op := _, type := _, pos := _, after := _, guard := none }) rfl (by kernel_rfl) (by kernel_rfl) (by kernel_rfl) (fun _ _ _ h => h) (Or.inl ⟨by kernel_rfl, ?_⟩) (by assumption) ?_
        case refine_2 => (intro w9 hSw; clear hSw; go_simp; try with_reducible rfl)
        simp only [Act.put, List.setIfInBounds_toArray, List.set_cons_zero, List.set_cons_succ]
        refine wpAnyH_take (i := 3) (v := ?_) (oi := { dst := some 17, op := _, type := _, pos := _, after := _, guard := none }) rfl (by kernel_rfl) (by kernel_rfl) (by kernel_rfl) (fun _ _ _ h => h) (Or.inl ⟨by kernel_rfl, ?_⟩) (by assumption) ?_
        case refine_2 => (intro w9 hSw; clear hSw; go_simp; try with_reducible rfl)
        simp only [Act.put, List.setIfInBounds_toArray, List.set_cons_zero, List.set_cons_succ]
        refine wpAnyH_take (i := 4) (v := undef) (oi := { dst := some 18, op := _, type := _, pos := _, after := _, guard := some (3, true) }) rfl (by kernel_rfl) (by kernel_rfl) (by kernel_rfl) (fun _ _ _ h => h) (Or.inr ⟨by kernel_rfl, rfl⟩) (by assumption) ?_
        simp only [Act.put, List.setIfInBounds_toArray, List.set_cons_zero, List.set_cons_succ]
        refine wpAnyH_take (i := 5) (v := undef) (oi := { dst := some 19, op := _, type := _, pos := _, after := _, guard := some (3, true) }) rfl (by kernel_rfl) (by kernel_rfl) (by kernel_rfl) (fun _ _ _ h => h) (Or.inr ⟨by kernel_rfl, rfl⟩) (by assumption) ?_
        simp only [Act.put, List.setIfInBounds_toArray, List.set_cons_zero, List.set_cons_succ]
        refine wpAnyH_take (i := 6) (v := undef) (oi := { dst := some 20, op := _, type := _, pos := _, after := _, guard := some (3, true) }) rfl (by kernel_rfl) (by kernel_rfl) (by kernel_rfl) (fun _ _ _ h => h) (Or.inr ⟨by kernel_rfl, rfl⟩) (by assumption) ?_
        simp only [Act.put, List.setIfInBounds_toArray, List.set_cons_zero, List.set_cons_succ]
        refine wpAnyH_take (i := 7) (v := undef) (oi := { dst := some 21, op := _, type := _, pos := _, after := _, guard := some (3, true) }) rfl (by kernel_rfl) (by kernel_rfl) (by kernel_rfl) (fun _ _ _ h => h) (Or.inr ⟨by kernel_rfl, rfl⟩) (by assumption) ?_
        simp only [Act.put, List.setIfInBounds_toArray, List.set_cons_zero, List.set_cons_succ]
        refine wpAnyH_take (i := 8) (v := undef) (oi := { dst := some 22, op := _, type := _, pos := _, after := _, guard := some (3, true) }) rfl (by kernel_rfl) (by kernel_rfl) (by kernel_rfl) (fun _ _ _ h => h) (Or.inr ⟨by kernel_rfl, rfl⟩) (by assumption) ?_
        simp only [Act.put, List.setIfInBounds_toArray, List.set_cons_zero, List.set_cons_succ]
        refine wpAnyH_take (i := 9) (v := undef) (oi := { dst := some 23, op := _, type := _, pos := _, after := _, guard := some (3, true) }) rfl (by kernel_rfl) (by kernel_rfl) (by kernel_rfl) (fun _ _ _ h => h) (Or.inr ⟨by kernel_rfl, rfl⟩) (by assumption) ?_
        simp only [Act.put, List.setIfInBounds_toArray, List.set_cons_zero, List.set_cons_succ]
        refine wpAnyH_take (i := 10) (v := undef) (oi := { dst := some 24, op := _, type := _, pos := _, after := _, guard := some (3, true) }) rfl (by kernel_rfl) (by kernel_rfl) (by kernel_rfl) (fun _ _ _ h => h) (Or.inr ⟨by kernel_rfl, rfl⟩) (by assumption) ?_
        simp only [Act.put, List.setIfInBounds_toArray, List.set_cons_zero, List.set_cons_succ]
        refine wpAnyH_take (i := 11) (v := undef) (oi := { dst := some 25, op := _, type := _, pos := _, after := _, guard := some (3, true) }) rfl (by kernel_rfl) (by kernel_rfl) (by kernel_rfl) (fun _ _ _ h => h) (Or.inr ⟨by kernel_rfl, rfl⟩) (by assumption) ?_
        simp only [Act.put, List.setIfInBounds_toArray, List.set_cons_zero, List.set_cons_succ]
        refine wpAnyH_take (i := 12) (v := ?_) (oi := { dst := some 26, op := _, type := _, pos := _, after := _, guard := none }) rfl (by kernel_rfl) (by kernel_rfl) (by kernel_rfl) (fun _ _ _ h => h) (Or.inl ⟨by kernel_rfl, ?_⟩) (by assumption) ?_
        case refine_2 => (intro w9 hSw; clear hSw; go_simp; try with_reducible rfl)
        simp only [Act.put, List.setIfInBounds_toArray, List.set_cons_zero, List.set_cons_succ]
        refine wpAnyH_done (by kernel_rfl) ?_ _
        have KK : Hid _ := hHeld
        clear hHeld
        go_wp2_with fail
        exact ⟨⟨j + 1, rfl, hjn, ⟨KK.out.1, KK.out.2.1⟩, HE3⟩, by simp only [intOf]; omega⟩
      · have hs1 : (s.toList == []) = false := by simpa using hs0
        have hs2 : (s.toList != []) = true := by simpa using hs0
        have HE3 : Hid ((if S.cnt s = 0 then N else lostL S.cnt (S.eras.drop (j + 1))) = X) := by have := HE2.out; rw [if_neg hs0] at this; exact this
        clear HE2 hs0
        go_wp2_with fail
        refine wp_region_held_drew (S := fun V' => (PM w g m B S vr vl (.slice (some ⟨b, 0, none⟩) S.eras.length ce) vz vs V' ∧ Below V.heap.size V V' ∧ Bx V' lb [.int .i64 N, .string s])) (by kernel_rfl) ⟨KK.out.1.drew, KK.out.2.1.drew, KK.out.2.2⟩ (fun hHeld => ?_)
        refine gen_any (fun V' => (PM w g m B S vr vl (.slice (some ⟨b, 0, none⟩) S.eras.length ce) vz vs V' ∧ Below V.heap.size V V' ∧ Bx V' lb [.int .i64 N, .string s])) hHeld ?_
        clear hHeld KK
        rintro w2 hHeld
        refine wpAnyH_take (i := 0) (v := ?_) (oi := { dst := some 14, op := _, type := _, pos := _, after := _, guard := none }) rfl (by kernel_rfl) (by kernel_rfl) (by kernel_rfl) (fun _ _ _ h => h) (Or.inl ⟨by kernel_rfl, ?_⟩) (by assumption) ?_
        case refine_2 => (intro w9 hSw; clear hSw; go_simp; try with_reducible rfl)
        simp only [Act.put, List.setIfInBounds_toArray, List.set_cons_zero, List.set_cons_succ]
        refine wpAnyH_take (i := 1) (v := ?_) (oi := { dst := some 15, op := _, type := _, pos := _, after := _, guard := none }) rfl (by kernel_rfl) (by kernel_rfl) (by kernel_rfl) (fun _ _ _ h => h) (Or.inl ⟨by kernel_rfl, ?_⟩) (by assumption) ?_
        case refine_2 => (intro w9 hSw; obtain ⟨zp, zb, zl⟩ := hSw; have q3 := zp.box.c 3 rfl; have l0 := zl.c 0 rfl; have l1 := zl.c 1 rfl; clear zp zb zl; go_simp; try with_reducible rfl)
        simp only [Act.put, List.setIfInBounds_toArray, List.set_cons_zero, List.set_cons_succ]
        refine wpAnyH_take (i := 2) (v := ?_) (oi := { dst := some 16, op := _, type := _, pos := _, after := _, guard := none }) rfl (by kernel_rfl) (by kernel_rfl) (by kernel_rfl) (fun _ _ _ h => h) (Or.inl ⟨by kernel_rfl, ?_⟩) (by assumption) ?_
        case refine_2 => (intro w9 hSw; clear hSw; go_simp; try with_reducible rfl)
        simp only [Act.put, List.setIfInBounds_toArray, List.set_cons_zero, List.set_cons_succ]
        refine wpAnyH_take (i := 3) (v := ?_) (oi := { dst := some 17, op := _, type := _, pos := _, after := _, guard := none }) rfl (by kernel_rfl) (by kernel_rfl) (by kernel_rfl) (fun _ _ _ h => h) (Or.inl ⟨by kernel_rfl, ?_⟩) (by assumption) ?_
        case refine_2 => (intro w9 hSw; clear hSw; go_simp; try with_reducible rfl)
        simp only [Act.put, List.setIfInBounds_toArray, List.set_cons_zero, List.set_cons_succ]
        refine wpAnyH_take (i := 4) (v := ?_) (oi := { dst := some 18, op := _, type := _, pos := _, after := _, guard := some (3, true) }) rfl (by kernel_rfl) (by kernel_rfl) (by kernel_rfl) (fun _ _ _ h => h) (Or.inl ⟨by kernel_rfl, ?_⟩) (by assumption) ?_
        case refine_2 => (intro w9 hSw; clear hSw; go_simp; try with_reducible rfl)
        simp only [Act.put, List.setIfInBounds_toArray, List.set_cons_zero, List.set_cons_succ]
        refine wpAnyH_take (i := 5) (v := ?_) (oi := { dst := some 19, op := _, type := _, pos := _, after := _, guard := some (3, true) }) rfl (by kernel_rfl) (by kernel_rfl) (by kernel_rfl) (fun _ _ _ h => h) (Or.inl ⟨by kernel_rfl, ?_⟩) (by assumption) ?_
        case refine_2 => (intro w9 hSw; clear hSw; go_simp; try with_reducible rfl)
        simp only [Act.put, List.setIfInBounds_toArray, List.set_cons_zero, List.set_cons_succ]
        refine wpAnyH_take (i := 6) (v := ?_) (oi := { dst := some 20, op := _, type := _, pos := _, after := _, guard := some (3, true) }) rfl (by kernel_rfl) (by kernel_rfl) (by kernel_rfl) (fun _ _ _ h => h) (Or.inl ⟨by kernel_rfl, ?_⟩) (by assumption) ?_
        case refine_2 => (intro w9 hSw; clear hSw; go_simp; try with_reducible rfl)
        simp only [Act.put, List.setIfInBounds_toArray, List.set_cons_zero, List.set_cons_succ]
        refine wpAnyH_take (i := 7) (v := ?_) (oi := { dst := some 21, op := _, type := _, pos := _, after := _, guard := some (3, true) }) rfl (by kernel_rfl) (by kernel_rfl) (by kernel_rfl) (fun _ _ _ h => h) (Or.inl ⟨by kernel_rfl, ?_⟩) (by assumption) ?_
        case refine_2 => (intro w9 hSw; obtain ⟨zp, zb, zl⟩ := hSw; have q3 := zp.box.c 3 rfl; have l0 := zl.c 0 rfl; have l1 := zl.c 1 rfl; clear zp zb zl; go_simp; try with_reducible rfl)
        simp only [Act.put, List.setIfInBounds_toArray, List.set_cons_zero, List.set_cons_succ]
        refine wpAnyH_take (i := 8) (v := ?_) (oi := { dst := some 22, op := _, type := _, pos := _, after := _, guard := some (3, true) }) rfl (by kernel_rfl) (by kernel_rfl) (by kernel_rfl) (fun _ _ _ h => h) (Or.inl ⟨by kernel_rfl, ?_⟩) (by assumption) ?_
        case refine_2 => (intro w9 hSw; clear hSw; go_simp; try with_reducible rfl)
        simp only [Act.put, List.setIfInBounds_toArray, List.set_cons_zero, List.set_cons_succ]
        refine wpAnyH_take (i := 9) (v := ?_) (oi := { dst := some 23, op := _, type := _, pos := _, after := _, guard := some (3, true) }) rfl (by kernel_rfl) (by kernel_rfl) (by kernel_rfl) (fun _ _ _ h => h) (Or.inl ⟨by kernel_rfl, ?_⟩) (by assumption) ?_
        case refine_2 => (intro w9 hSw; obtain ⟨zp, zb, zl⟩ := hSw; have q3 := zp.box.c 3 rfl; have l0 := zl.c 0 rfl; have l1 := zl.c 1 rfl; clear zp zb zl; go_simp; try with_reducible rfl)
        simp only [Act.put, List.setIfInBounds_toArray, List.set_cons_zero, List.set_cons_succ]
        refine wpAnyH_ready (rs := [10]) (by kernel_rfl) (by simp) (AllReadyH.cons (o := { dst := some 24, op := _, type := _, pos := _, after := _, guard := some (3, true) }) rfl (fun K hK => ?_) AllReadyH.nil)
        have lk := lookup_S (P := Tryz.prog) (t := 48) Tryz.underlying48 Tryz.underlying9 (show (zeroValue 3).run Tryz.prog _ = .ok (.int .i64 0) _ from by kernel_rfl) hHeld.1.map s
        go_simp
        refine hK.out _ _ hHeld (fun hHeld => ?_)
        clear hK K lk
        refine wpAnyH_take (i := 11) (v := ?_) (oi := { dst := some 25, op := _, type := _, pos := _, after := _, guard := some (3, true) }) rfl (by kernel_rfl) (by kernel_rfl) (by kernel_rfl) (fun _ _ _ h => h) (Or.inl ⟨by kernel_rfl, ?_⟩) (by assumption) ?_
        case refine_2 => (intro w9 hSw; clear hSw; go_simp; try with_reducible rfl)
        simp only [Act.put, List.setIfInBounds_toArray, List.set_cons_zero, List.set_cons_succ]
        refine wpAnyH_take (i := 12) (v := ?_) (oi := { dst := some 26, op := _, type := _, pos := _, after := _, guard := none }) rfl (by kernel_rfl) (by kernel_rfl) (by kernel_rfl) (fun _ _ _ h => h) (Or.inl ⟨by kernel_rfl, ?_⟩) (by assumption) ?_
        case refine_2 => (intro w9 hSw; clear hSw; go_simp; try with_reducible rfl)
        simp only [Act.put, List.setIfInBounds_toArray, List.set_cons_zero, List.set_cons_succ]
        refine wpAnyH_done (by kernel_rfl) ?_ _
        have KK : Hid _ := hHeld
        clear hHeld
        by_cases hc : S.cnt s = 0
        · have hXN : X = N := by rw [← HE3.out, if_pos hc]
          have l0 := KK.out.2.2.c 0 rfl
          have l2 := KK.out.2.2.1
          go_wp2_with fail
          go_ret
          exact ⟨by rw [hXN]; rfl, KK.out.2.1⟩
        · have HE4 : Hid (lostL S.cnt (S.eras.drop (j + 1)) = X) := by have := HE3.out; rw [if_neg hc] at this; exact this
          go_wp2_with fail
          exact ⟨⟨j + 1, rfl, hjn, ⟨KK.out.1, KK.out.2.1⟩, HE4⟩, by simp only [intOf]; omega⟩
    · have hjI : ¬ (j : Int) < (S.eras.length : Int) := by omega
      have hX0 : X = 0 := by rw [← HE.out, List.drop_eq_nil_of_le (by omega)]; rfl
      go_wp2_with fail
      go_ret
      exact ⟨by first | rfl | (rw [hX0]; rfl), KV.out.2⟩

end Go.Proofs.YthhpdjjfbfkgiaaGreatDoor
/- Plain mathematics: what the fields of a source's lines may be. -/
namespace Go.Proofs.YthhpdjjfbfkgiaaGreatDoor.Lin
open Go.RowKit
set_option linter.unusedVariables false

/-- a byte that a field may have. -/
def gb (c : UInt8) : Prop := c.toNat ≠ 34 ∧ (c.toNat = 9 ∨ (32 ≤ c.toNat ∧ c.toNat ≤ 126))
def GoodF (k : Nat) (f : ByteArray) : Prop := (∀ c ∈ f.data.toList, gb c) ∧ f.size ≤ k
theorem kind_four {c : Nat} {q : Bool} (h : kindN c q = 4) : c ≠ 34 ∧ (c = 9 ∨ (32 ≤ c ∧ c ≤ 126)) := by
  unfold kindN at h
  split at h
  · omega
  · split at h
    · omega
    · split at h
      · rename_i h1 h2 h3
        refine ⟨h1, ?_⟩
        split at h
        · rename_i hq
          have : ¬ c = 13 := fun e => h2 ⟨e, hq⟩
          omega
        · omega
      · split at h
        · omega
        · split at h
          · omega
          · omega
def SInvG (k : Nat) (s : LSt) : Prop := (∀ f ∈ s.out, GoodF k f) ∧ (∀ c ∈ s.fld, gb c) ∧ s.fld.length ≤ k
theorem good_mono {k k' : Nat} {f : ByteArray} (h : GoodF k f) (hk : k ≤ k') : GoodF k' f := ⟨h.1, Nat.le_trans h.2 hk⟩
theorem fin_good {k : Nat} {s : LSt} (h : SInvG k s) : ∀ f ∈ fin s, GoodF k f := by
  intro f hf
  unfold fin at hf
  split at hf
  · rcases List.mem_append.1 hf with hf | hf
    · exact h.1 f hf
    · rw [List.mem_singleton.1 hf]
      exact ⟨by simpa using h.2.1, by show s.fld.toArray.size ≤ k; simpa using h.2.2⟩
  · exact h.1 f hf
theorem stp_good {k : Nat} {s s' : LSt} {c : UInt8} (h : SInvG k s) (e : stp s c = some s') : SInvG (k + 1) s' := by
  obtain ⟨h1, h2, h3⟩ := h
  have hm : ∀ f ∈ s.out, GoodF (k + 1) f := fun f hf => good_mono (h1 f hf) (by omega)
  unfold stp at e
  split at e
  · exact absurd e (by simp)
  · split at e
    · cases e; exact ⟨hm, h2, by omega⟩
    · split at e
      · rename_i h4
        cases e
        refine ⟨hm, fun x hx => ?_, by show (s.fld ++ [c]).length ≤ _; rw [List.length_append]; show _ + 1 ≤ _; omega⟩
        rcases List.mem_append.1 hx with hx | hx
        · exact h2 x hx
        · rw [List.mem_singleton.1 hx]; exact kind_four h4
      · split at e
        · cases e; exact ⟨hm, h2, by show s.fld.length ≤ _; omega⟩
        · split at e
          · cases e; exact ⟨hm, h2, by show s.fld.length ≤ _; omega⟩
          · cases e
            exact ⟨fun f hf => good_mono (fin_good ⟨h1, h2, h3⟩ f hf) (by omega), ⟨fun x (hx : x ∈ ([] : List UInt8)) => absurd hx (by simp), Nat.zero_le _⟩⟩
theorem run_good : ∀ (l : List UInt8) (k : Nat) (s s' : LSt), SInvG k s → runL l s = some s' → SInvG (k + l.length) s'
  | [], k, s, s', h, e => by
    have : s = s' := by simpa [runL] using e
    subst this; exact h
  | c :: l, k, s, s', h, e => by
    rw [runL_cons] at e
    cases hs : stp s c with
    | none => rw [hs] at e; exact absurd e (by simp)
    | some s1 =>
      rw [hs] at e
      have := run_good l (k + 1) s1 s' (stp_good h hs) e
      rw [List.length_cons, show k + (l.length + 1) = k + 1 + l.length by omega]
      exact this
theorem one_good {t : List UInt8} {F : List ByteArray} (h : oneL t = some F) : ∀ f ∈ F, GoodF t.length f := by
  unfold oneL oneR at h
  cases hr : runL t lst0 with
  | none => rw [hr] at h; exact absurd h (by simp)
  | some s =>
    rw [hr] at h
    have hg := run_good t 0 lst0 s ⟨fun f (hf : f ∈ ([] : List ByteArray)) => absurd hf (by simp), ⟨fun x (hx : x ∈ ([] : List UInt8)) => absurd hx (by simp), Nat.le_refl _⟩⟩ hr
    rw [Nat.zero_add] at hg
    have h' : ends s = some F := h
    unfold ends at h'
    split at h'
    · exact absurd h' (by simp)
    · have : fin s = F := by simpa using h'
      rw [← this]; exact fin_good hg
theorem pieces_len : ∀ (l cur : List UInt8) (p : List UInt8), p ∈ pieces cur l → p.length ≤ cur.length + l.length
  | [], cur, p, h => by
    have : p = cur := by simpa [pieces] using h
    subst this; simp
  | c :: l, cur, p, h => by
    rw [pieces] at h
    split at h
    · rcases List.mem_cons.1 h with h | h
      · subst h; simp
      · have := pieces_len l [] p h
        simp at this ⊢; omega
    · have := pieces_len l (cur ++ [c]) p h
      simp at this ⊢; omega
/-- lines that came of a source. -/
def GoodL (L : List Lne) : Prop := L.length ≤ 400 ∧ ∀ p ∈ L, 1 ≤ p.2.length ∧ p.2.length ≤ 16 ∧ ∀ f ∈ p.2, GoodF 8192 f
theorem lnsF_good : ∀ (ts : List (List UInt8)) (n : Nat) (acc L : List Lne), (∀ t ∈ ts, t.length ≤ 8192) → GoodL acc → lnsF ts n acc = .inr L → GoodL L
  | [], n, acc, L, _, h, e => by
    have : acc = L := by simpa [lnsF] using e
    rw [← this]; exact h
  | t :: ts, n, acc, L, ht, h, e => by
    cases ho : oneL t with
    | none => rw [lnsF_none ho] at e; exact absurd e (by simp)
    | some F =>
      rw [lnsF_some ho] at e
      have ht' : ∀ t ∈ ts, t.length ≤ 8192 := fun x hx => ht x (List.mem_cons_of_mem _ hx)
      by_cases h1 : F.length = 0
      · rw [if_pos h1] at e; exact lnsF_good ts _ _ _ ht' h e
      · rw [if_neg h1] at e
        by_cases h2 : 16 < F.length ∨ acc.length = 400
        · rw [if_pos h2] at e; exact absurd e (by simp)
        · rw [if_neg h2] at e
          refine lnsF_good ts _ _ _ ht' ⟨?_, fun p hp => ?_⟩ e
          · have := h.1
            rw [List.length_append]; show _ + 1 ≤ _; omega
          · rcases List.mem_append.1 hp with hp | hp
            · exact h.2 p hp
            · rw [List.mem_singleton.1 hp]
              exact ⟨by show 1 ≤ F.length; omega, by show F.length ≤ 16; omega, fun f hf => good_mono (one_good ho f hf) (ht t List.mem_cons_self)⟩
theorem lnsS_good {s : ByteArray} {L : List Lne} (h : lnsS s = .inr L) : GoodL L := by
  unfold lnsS at h
  split at h
  · exact absurd h (by simp)
  · rename_i hs
    refine lnsF_good _ _ _ _ (fun t ht => ?_) ⟨Nat.zero_le _, fun p hp => by cases hp⟩ h
    have := pieces_len _ _ t ht
    simp at this
    omega

end Go.Proofs.YthhpdjjfbfkgiaaGreatDoor.Lin
/- Plain mathematics: what holds of the parser's state line by line. -/
namespace Go.Proofs.YthhpdjjfbfkgiaaGreatDoor
open Go.RowKit Lin
set_option linter.unusedVariables false

theorem OkS.zero : OkS pst0 0 := ⟨Nat.le_refl _, Nat.le_refl _, Nat.le_refl _, Nat.le_refl _, fun k => ⟨Int.le_refl _, by show (0 : Int) ≤ 16; omega⟩, (fun z hz => by cases hz), (fun z hz => by cases hz), (fun z hz => by cases hz), (fun h => by cases h)⟩
theorem tkRule_ok {S S' : PSt} {N : Nat} {F : List ByteArray} (h : OkS S N) (e : tkRule S F = .inr S') : OkS S' (N + 1) := by
  unfold tkRule at e
  split at e
  · cases e
  · rename_i r hr
    split at e
    · cases e
    · rename_i hz
      cases e
      refine ⟨?_, Nat.le_succ_of_le h.zones, Nat.le_succ_of_le h.links, Nat.le_succ_of_le h.eras, fun k => ?_, h.zn, fun z hz => Nat.le_succ_of_le (h.ze z hz), h.ln, h.op⟩
      · have := h.rules; rw [List.length_append]; show _ + 1 ≤ _; omega
      · dsimp only
        have h1 := h.cnt r.nm
        have h2 := h.cnt k
        split <;> omega
theorem tkLink_ok {S S' : PSt} {N : Nat} {F : List ByteArray} (hF : ∀ x ∈ F, Few x) (h : OkS S N) (e : tkLink S F = .inr S') : OkS S' (N + 1) := by
  unfold tkLink at e
  split at e
  · cases e
  · rename_i r hr
    split at e
    · cases e
    · split at e
      · cases e
      · cases e
        refine ⟨Nat.le_succ_of_le h.rules, Nat.le_succ_of_le h.zones, ?_, Nat.le_succ_of_le h.eras, h.cnt, h.zn, fun z hz => Nat.le_succ_of_le (h.ze z hz), fun l hl => ?_, h.op⟩
        · have := h.links; rw [List.length_append]; show _ + 1 ≤ _; omega
        · rcases List.mem_append.1 hl with hl | hl
          · exact h.ln l hl
          · rw [List.mem_singleton.1 hl]; exact linkF_few hF hr
theorem tkZone_ok {S S' : PSt} {N : Nat} {n : Int} {F : List ByteArray} (hF : ∀ x ∈ F, Few x) (h : OkS S N) (e : tkZone S n F = .inr S') : OkS S' (N + 1) := by
  unfold tkZone at e
  split at e
  · cases e
  · rename_i nm r hr
    split at e
    · cases e
    · split at e
      · cases e
      · cases e
        have ez : (addF { S with zones := S.zones ++ [(nm, [])] } n r).zones = S.zones ++ [(nm, [r])] := by
          show addE (S.zones ++ [(nm, [])]) r = _
          rw [addE_snoc]; rfl
        refine ⟨Nat.le_succ_of_le h.rules, ?_, Nat.le_succ_of_le h.links, ?_, h.cnt, fun z hz => ?_, fun z hz => ?_, h.ln, fun _ => ⟨_, _, ez⟩⟩
        · rw [ez, List.length_append]; have := h.zones; show _ + 1 ≤ _; omega
        · show (S.eras ++ [_]).length ≤ _; rw [List.length_append]; have := h.eras; show _ + 1 ≤ _; omega
        · rw [ez] at hz
          rcases List.mem_append.1 hz with hz | hz
          · exact h.zn z hz
          · rw [List.mem_singleton.1 hz]; exact zoneF_few hF hr
        · rw [ez] at hz
          rcases List.mem_append.1 hz with hz | hz
          · exact Nat.le_succ_of_le (h.ze z hz)
          · rw [List.mem_singleton.1 hz]; show 1 ≤ _; omega
theorem tkOn_ok {S S' : PSt} {N : Nat} {n : Int} {F : List ByteArray} (hop : S.op = true) (h : OkS S N) (e : tkOn S n F = .inr S') : OkS S' (N + 1) := by
  obtain ⟨l, z, hS⟩ := h.op hop
  unfold tkOn at e
  split at e
  · cases e
  · rename_i r hr
    split at e
    · cases e
    · cases e
      have ez : (addF S n r).zones = l ++ [(z.1, z.2 ++ [r])] := by
        show addE S.zones r = _
        rw [hS, addE_snoc]
      refine ⟨Nat.le_succ_of_le h.rules, ?_, Nat.le_succ_of_le h.links, ?_, h.cnt, fun y hy => ?_, fun y hy => ?_, h.ln, fun _ => ⟨_, _, ez⟩⟩
      · have := h.zones; rw [hS] at this; rw [ez, List.length_append]; rw [List.length_append] at this; exact Nat.le_succ_of_le this
      · show (S.eras ++ [_]).length ≤ _; rw [List.length_append]; have := h.eras; show _ + 1 ≤ _; omega
      · rw [ez] at hy
        rcases List.mem_append.1 hy with hy | hy
        · exact h.zn y (by rw [hS]; exact List.mem_append_left _ hy)
        · rw [List.mem_singleton.1 hy]; exact h.zn z (by rw [hS]; simp)
      · rw [ez] at hy
        rcases List.mem_append.1 hy with hy | hy
        · exact Nat.le_succ_of_le (h.ze y (by rw [hS]; exact List.mem_append_left _ hy))
        · rw [List.mem_singleton.1 hy]
          have := h.ze z (by rw [hS]; simp)
          show (z.2 ++ [r]).length ≤ _
          rw [List.length_append]; show _ + 1 ≤ _; omega
theorem tkF_ok {S S' : PSt} {N : Nat} {n : Int} {f : ByteArray} {R : List ByteArray} (hF : ∀ x ∈ R, Few x) (h : OkS S N) (e : tkF S n (f :: R) = .inr S') : OkS S' (N + 1) := by
  unfold tkF at e
  split at e
  · rename_i hop; exact tkOn_ok hop h e
  · dsimp only at e
    split at e
    · exact tkRule_ok h e
    · split at e
      · exact tkZone_ok hF h e
      · split at e
        · exact tkLink_ok hF h e
        · cases e
/-- what comes of the parser's state and the lines that are left. -/
def endP (L : List Lne) : Sum (Int × Int) PSt → Sum (Int × Int) PSt
  | .inl a => .inl a
  | .inr S => if S.op = true then .inl ((L.getLast?.map (·.1)).getD 0, 21) else if 0 < lostF S then .inl (lostF S, 23) else .inr S
theorem parseP_lines {s : ByteArray} {L : List Lne} (h : lnsS s = .inr L) : parseP s = endP L (runP pst0 L) := by
  unfold parseP
  rw [h]
  dsimp only
  cases runP pst0 L <;> rfl
theorem parseP_none {s : ByteArray} {a : Int × Int} (h : lnsS s = .inl a) : parseP s = .inl a := by
  unfold parseP; rw [h]
theorem runP_at {S : PSt} {L : List Lne} {j : Nat} {x : Lne} (hx : L[j]? = some x) : runP S (L.drop j) = match tkF S x.1 x.2 with | .inl e => .inl (x.1, e) | .inr S' => runP S' (L.drop (j + 1)) := by
  have hj := (List.getElem?_eq_some_iff.1 hx).1
  rw [List.drop_eq_getElem_cons hj, (List.getElem?_eq_some_iff.1 hx).2, runP]
  cases tkF S x.1 x.2 <;> rfl
theorem good_few {L : List Lne} (h : GoodL L) {j : Nat} {x : Lne} (hx : L[j]? = some x) : ∃ f R, x.2 = f :: R ∧ Few f ∧ ∀ y ∈ R, Few y := by
  obtain ⟨h1, h2, h3⟩ := h.2 x (List.mem_of_getElem? hx)
  match hF : x.2, h1, h3 with
  | [], h1, _ => simp at h1
  | f :: R, _, h3 => exact ⟨f, R, rfl, (h3 f (by simp)).2, fun y hy => (h3 y (by simp [hy])).2⟩

end Go.Proofs.YthhpdjjfbfkgiaaGreatDoor
