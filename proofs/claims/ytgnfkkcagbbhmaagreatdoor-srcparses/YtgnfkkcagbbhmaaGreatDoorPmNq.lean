/- Contract: lost of src's parser: the line of the first era whose rules nobody has. -/
import Derived.Test.YtgnfkkcagbbhmaaGreatDoorPmLq
namespace Go.Proofs.YtgnfkkcagbbhmaaGreatDoor
open Go.RowKit
open Sr (gen_any gen_list)
set_option linter.unusedVariables false

theorem lineXs_at : ∀ (l : List (Int × ByteArray)) (i : Nat) (z : Int × ByteArray), l[i]? = some z → (lineXs l)[i * 2]? = some (.int .i64 z.1) ∧ (lineXs l)[i * 2 + 1]? = some (.string z.2)
  | [], i, z, h => by simp at h
  | y :: l, 0, z, h => by simp at h; subst h; exact ⟨rfl, rfl⟩
  | y :: l, i + 1, z, h => by
    obtain ⟨h1, h2⟩ := lineXs_at l i z (by simpa using h)
    constructor
    · rw [show (i + 1) * 2 = i * 2 + 1 + 1 by omega]; simpa [lineXs] using h1
    · rw [show (i + 1) * 2 + 1 = i * 2 + 1 + 1 + 1 by omega]; simpa [lineXs] using h2
def lostL (cnt : ByteArray → Int) : List (Int × ByteArray) → Int
  | [] => 0
  | e :: l => if e.2.toList = [] then lostL cnt l else if cnt e.2 = 0 then e.1 else lostL cnt l
theorem lostL_at {cnt : ByteArray → Int} {l : List (Int × ByteArray)} {j : Nat} {x : Int × ByteArray} (hx : l[j]? = some x) : lostL cnt (l.drop j) = if x.2.toList = [] then lostL cnt (l.drop (j + 1)) else if cnt x.2 = 0 then x.1 else lostL cnt (l.drop (j + 1)) := by
  have hj := (List.getElem?_eq_some_iff.1 hx).1
  rw [List.drop_eq_getElem_cons hj, (List.getElem?_eq_some_iff.1 hx).2, lostL]
theorem size_toList (s : ByteArray) : s.size = 0 ↔ s.toList = [] := by
  rw [Lib.toList_data]
  constructor
  · intro h; exact List.eq_nil_of_length_eq_zero (by simpa using h)
  · intro h; have := congrArg List.length h; simpa using this
theorem lost_eq (S : PSt) : lostF S = lostL S.cnt S.eras := by
  unfold lostF
  induction S.eras with
  | nil => rfl
  | cons e l ih =>
    rw [List.find?_cons, lostL]
    by_cases h0 : e.2.toList = []
    · rw [if_pos h0, show e.2.size = 0 from (size_toList _).2 h0]
      simpa using ih
    · have h1 : e.2.size ≠ 0 := fun q => h0 ((size_toList _).1 q)
      rw [if_neg h0]
      by_cases h2 : S.cnt e.2 = 0
      · rw [if_pos h2, show (e.2.size != 0 && S.cnt e.2 == 0) = true by rw [Bool.and_eq_true]; exact ⟨bne_iff_ne.2 h1, beq_iff_eq.2 h2⟩]
      · rw [if_neg h2, show (e.2.size != 0 && S.cnt e.2 == 0) = false by rw [Bool.and_eq_false_iff]; exact .inr (beq_eq_false_iff_ne.2 h2)]
        exact ih

set_option maxRecDepth 100000 in
set_option maxHeartbeats 1000000 in
theorem plost_any (w : World) (g m B : Nat) (S : PSt) (vr vl ve vz : Value) (vs : List Value) (V : World) (h : PM w g m B S vr vl ve vz vs V) :
    Calls Tryz.prog 19 #[.pointer (some ⟨g, 0, none⟩)] V fun e W' => e = .returned (.int .i64 (lostF S)) ∧ Below V.heap.size V W' := by
  obtain ⟨ae, ce, hve, he1, he2, he3⟩ := own_rowP (h.fam.get 2 rfl)
  simp only at hve he1 he3
  subst hve
  obtain ⟨X, hX⟩ : ∃ X, lostF S = X := ⟨_, rfl⟩
  rw [hX]
  have HX : Hid (lostL S.cnt S.eras = X) := by rw [lost_eq] at hX; exact hX
  clear hX
  have K0 : Hid (PM w g m B S vr vl (.slice ae S.eras.length ce) vz vs V ∧ Below V.heap.size V V) := ⟨h, Below.refl _ _⟩
  clear h
  have c4 := K0.out.1.box.c 4 rfl
  have hne : (S.eras.length : Int) ≤ 9223372036854775807 := by unfold maxLen at he2; omega
  unfold maxLen at he2
  go_enter Tryz.func19, Tryz.ntmps19
  go_wp2_with fail
  clear c4
  go_loopw [10] (fun iv W => ∃ j : Nat, iv = .int .i64 (j : Int) ∧ j ≤ S.eras.length ∧ Hid (PM w g m B S vr vl (.slice ae S.eras.length ce) vz vs W ∧ Below V.heap.size V W) ∧ Hid (lostL S.cnt (S.eras.drop j) = X)) (fun iv _ => S.eras.length - (intOf iv).toNat)
  case atStart => exact ⟨0, rfl, Nat.zero_le _, K0, HX⟩
  case round =>
    obtain ⟨j, rfl, hj, KV, HE⟩ := hrel
    clear K0 HX
    have hj0 : (0 : Int) ≤ (j : Int) := by omega
    by_cases hjn : j < S.eras.length
    · have hjI : (j : Int) < (S.eras.length : Int) := by omega
      have hjw : IntKind.i64.wrap ((j : Int) + 1) = (j : Int) + 1 := by rw [IntKind.wrap_i64]; omega
      obtain ⟨b, hb, hbB⟩ := he3 (by omega)
      subst hb
      obtain ⟨z, hz⟩ : ∃ z, S.eras[j]? = some z := ⟨_, List.getElem?_eq_getElem hjn⟩
      have HA := lostL_at (cnt := S.cnt) hz
      obtain ⟨y0, y1⟩ := lineXs_at _ j z hz
      have f0 := (KV.out.1.fam.cell 2 rfl rfl y0)
      have f1 := (KV.out.1.fam.cell 2 rfl rfl y1)
      have hbw := World.block_lt_of_cell? _ _ f0
      obtain ⟨N, s⟩ := z
      simp only at HA y0 y1 f0 f1
      have HE2 : Hid ((if s.toList = [] then lostL S.cnt (S.eras.drop (j + 1)) else if S.cnt s = 0 then N else lostL S.cnt (S.eras.drop (j + 1))) = X) := by have := HE.out; rw [HA] at this; exact this
      clear HA HE y0 y1 hz
      obtain ⟨lb, hlb⟩ : ∃ lb, lb = wr.heap.size := ⟨_, rfl⟩
      have E0 : Hid (PM w g m B S vr vl (.slice (some ⟨b, 0, none⟩) S.eras.length ce) vz vs (wr.alloc (.cells #[.int .i64 N, .string s] 118)) ∧ Below V.heap.size V (wr.alloc (.cells #[.int .i64 N, .string s] 118)) ∧ Bx (wr.alloc (.cells #[.int .i64 N, .string s] 118)) lb [.int .i64 N, .string s]) := ⟨KV.out.1.below ((Below.refl _ _).alloc (Nat.le_refl _) _), KV.out.2.alloc KV.out.2.size _, by rw [hlb]; exact Bx.new wr [.int .i64 N, .string s] _⟩
      go_upto_region 4 with fail
      refine gen_code (fun W => (PM w g m B S vr vl (.slice (some ⟨b, 0, none⟩) S.eras.length ce) vz vs W ∧ Below V.heap.size V W ∧ Bx W lb [.int .i64 N, .string s])) E0.out ?_
      clear E0 KV f0 f1 hbw
      intro w1 hE
      have KK : Hid (PM w g m B S vr vl (.slice (some ⟨b, 0, none⟩) S.eras.length ce) vz vs w1 ∧ Below V.heap.size V w1 ∧ Bx w1 lb [.int .i64 N, .string s]) := hE
      clear hE
      rw [← hlb]
      clear hlb
      by_cases hs0 : s.toList = []
      · have hs1 : (s.toList == []) = true := by simp [hs0]
        have hs2 : (s.toList != []) = false := by simp [hs0]
        have HE3 : Hid (lostL S.cnt (S.eras.drop (j + 1)) = X) := by have := HE2.out; rw [if_pos hs0] at this; exact this
        clear HE2 hs0
        go_wp2_with fail
        refine wp_region_held_drew (S := fun V' => (PM w g m B S vr vl (.slice (some ⟨b, 0, none⟩) S.eras.length ce) vz vs V' ∧ Below V.heap.size V V' ∧ Bx V' lb [.int .i64 N, .string s])) (by kernel_rfl) ⟨KK.out.1.drew, KK.out.2.1.drew, KK.out.2.2⟩ (fun hHeld => ?_)
        refine gen_any (fun V' => (PM w g m B S vr vl (.slice (some ⟨b, 0, none⟩) S.eras.length ce) vz vs V' ∧ Below V.heap.size V V' ∧ Bx V' lb [.int .i64 N, .string s])) hHeld ?_
        clear hHeld KK
        rintro w2 hHeld
        refine wpAnyH_take (i := 0) (v := ?_) (oi := { dst := some 14, op := _, type := _, pos := _, after := _, guard := none }) rfl (by kernel_rfl) (by kernel_rfl) (by kernel_rfl) (fun _ _ _ h => h) (Or.inl ⟨by kernel_rfl, ?_⟩) (by assumption) ?_
        case refine_2 => (intro w9 hSw; clear hSw; go_simp; try with_reducible rfl)
        simp only [Act.put, List.setIfInBounds_toArray, List.set_cons_zero, List.set_cons_succ]
        refine wpAnyH_take (i := 1) (v := ?_) (oi := { dst := some 15, op := _, type := _, pos := _, after := _, guard := none }) rfl (by kernel_rfl) (by kernel_rfl) (by kernel_rfl) (fun _ _ _ h => h) (Or.inl ⟨by kernel_rfl, ?_⟩) (by assumption) ?_
        case refine_2 => (intro w9 hSw; obtain ⟨zp, zb, zl⟩ := hSw; have q3 := zp.box.c 3 rfl; have l0 := zl.c 0 rfl; have l1 := zl.c 1 rfl; clear zp zb zl; go_simp; try with_reducible rfl)
        simp only [Act.put, List.setIfInBounds_toArray, List.set_cons_zero, List.set_cons_succ]
        refine wpAnyH_take (i := 2) (v := ?_) (oi := { dst := some 16, op := _, type := _, pos := _, after := _, guard := none }) rfl (by kernel_rfl) (by kernel_rfl) (by kernel_rfl) (fun _ _ _ h => h) (Or.inl ⟨by kernel_rfl, ?_⟩) (by assumption) ?_
        case refine_2 => (intro w9 hSw; clear hSw; go_simp; try with_reducible rfl)
        simp only [Act.put, List.setIfInBounds_toArray, List.set_cons_zero, List.set_cons_succ]
        refine wpAnyH_take (i := 3) (v := ?_) (oi := { dst := some 17, op := _, type := _, pos := _, after := _, guard := none }) rfl (by kernel_rfl) (by kernel_rfl) (by kernel_rfl) (fun _ _ _ h => h) (Or.inl ⟨by kernel_rfl, ?_⟩) (by assumption) ?_
        case refine_2 => (intro w9 hSw; clear hSw; go_simp; try with_reducible rfl)
        simp only [Act.put, List.setIfInBounds_toArray, List.set_cons_zero, List.set_cons_succ]
        refine wpAnyH_take (i := 4) (v := undef) (oi := { dst := some 18, op := _, type := _, pos := _, after := _, guard := some (3, true) }) rfl (by kernel_rfl) (by kernel_rfl) (by kernel_rfl) (fun _ _ _ h => h) (Or.inr ⟨by kernel_rfl, rfl⟩) (by assumption) ?_
        simp only [Act.put, List.setIfInBounds_toArray, List.set_cons_zero, List.set_cons_succ]
        refine wpAnyH_take (i := 5) (v := undef) (oi := { dst := some 19, op := _, type := _, pos := _, after := _, guard := some (3, true) }) rfl (by kernel_rfl) (by kernel_rfl) (by kernel_rfl) (fun _ _ _ h => h) (Or.inr ⟨by kernel_rfl, rfl⟩) (by assumption) ?_
        simp only [Act.put, List.setIfInBounds_toArray, List.set_cons_zero, List.set_cons_succ]
        refine wpAnyH_take (i := 6) (v := undef) (oi := { dst := some 20, op := _, type := _, pos := _, after := _, guard := some (3, true) }) rfl (by kernel_rfl) (by kernel_rfl) (by kernel_rfl) (fun _ _ _ h => h) (Or.inr ⟨by kernel_rfl, rfl⟩) (by assumption) ?_
        simp only [Act.put, List.setIfInBounds_toArray, List.set_cons_zero, List.set_cons_succ]
        refine wpAnyH_take (i := 7) (v := undef) (oi := { dst := some 21, op := _, type := _, pos := _, after := _, guard := some (3, true) }) rfl (by kernel_rfl) (by kernel_rfl) (by kernel_rfl) (fun _ _ _ h => h) (Or.inr ⟨by kernel_rfl, rfl⟩) (by assumption) ?_
        simp only [Act.put, List.setIfInBounds_toArray, List.set_cons_zero, List.set_cons_succ]
        refine wpAnyH_take (i := 8) (v := undef) (oi := { dst := some 22, op := _, type := _, pos := _, after := _, guard := some (3, true) }) rfl (by kernel_rfl) (by kernel_rfl) (by kernel_rfl) (fun _ _ _ h => h) (Or.inr ⟨by kernel_rfl, rfl⟩) (by assumption) ?_
        simp only [Act.put, List.setIfInBounds_toArray, List.set_cons_zero, List.set_cons_succ]
        refine wpAnyH_take (i := 9) (v := undef) (oi := { dst := some 23, op := _, type := _, pos := _, after := _, guard := some (3, true) }) rfl (by kernel_rfl) (by kernel_rfl) (by kernel_rfl) (fun _ _ _ h => h) (Or.inr ⟨by kernel_rfl, rfl⟩) (by assumption) ?_
        simp only [Act.put, List.setIfInBounds_toArray, List.set_cons_zero, List.set_cons_succ]
        refine wpAnyH_take (i := 10) (v := undef) (oi := { dst := some 24, op := _, type := _, pos := _, after := _, guard := some (3, true) }) rfl (by kernel_rfl) (by kernel_rfl) (by kernel_rfl) (fun _ _ _ h => h) (Or.inr ⟨by kernel_rfl, rfl⟩) (by assumption) ?_
        simp only [Act.put, List.setIfInBounds_toArray, List.set_cons_zero, List.set_cons_succ]
        refine wpAnyH_take (i := 11) (v := undef) (oi := { dst := some 25, op := _, type := _, pos := _, after := _, guard := some (3, true) }) rfl (by kernel_rfl) (by kernel_rfl) (by kernel_rfl) (fun _ _ _ h => h) (Or.inr ⟨by kernel_rfl, rfl⟩) (by assumption) ?_
        simp only [Act.put, List.setIfInBounds_toArray, List.set_cons_zero, List.set_cons_succ]
        refine wpAnyH_take (i := 12) (v := ?_) (oi := { dst := some 26, op := _, type := _, pos := _, after := _, guard := none }) rfl (by kernel_rfl) (by kernel_rfl) (by kernel_rfl) (fun _ _ _ h => h) (Or.inl ⟨by kernel_rfl, ?_⟩) (by assumption) ?_
        case refine_2 => (intro w9 hSw; clear hSw; go_simp; try with_reducible rfl)
        simp only [Act.put, List.setIfInBounds_toArray, List.set_cons_zero, List.set_cons_succ]
        refine wpAnyH_done (by kernel_rfl) ?_ _
        have KK : Hid _ := hHeld
        clear hHeld
        go_wp2_with fail
        exact ⟨⟨j + 1, rfl, hjn, ⟨KK.out.1, KK.out.2.1⟩, HE3⟩, by simp only [intOf]; omega⟩
      · have hs1 : (s.toList == []) = false := by simpa using hs0
        have hs2 : (s.toList != []) = true := by simpa using hs0
        have HE3 : Hid ((if S.cnt s = 0 then N else lostL S.cnt (S.eras.drop (j + 1))) = X) := by have := HE2.out; rw [if_neg hs0] at this; exact this
        clear HE2 hs0
        go_wp2_with fail
        refine wp_region_held_drew (S := fun V' => (PM w g m B S vr vl (.slice (some ⟨b, 0, none⟩) S.eras.length ce) vz vs V' ∧ Below V.heap.size V V' ∧ Bx V' lb [.int .i64 N, .string s])) (by kernel_rfl) ⟨KK.out.1.drew, KK.out.2.1.drew, KK.out.2.2⟩ (fun hHeld => ?_)
        refine gen_any (fun V' => (PM w g m B S vr vl (.slice (some ⟨b, 0, none⟩) S.eras.length ce) vz vs V' ∧ Below V.heap.size V V' ∧ Bx V' lb [.int .i64 N, .string s])) hHeld ?_
        clear hHeld KK
        rintro w2 hHeld
        refine wpAnyH_take (i := 0) (v := ?_) (oi := { dst := some 14, op := _, type := _, pos := _, after := _, guard := none }) rfl (by kernel_rfl) (by kernel_rfl) (by kernel_rfl) (fun _ _ _ h => h) (Or.inl ⟨by kernel_rfl, ?_⟩) (by assumption) ?_
        case refine_2 => (intro w9 hSw; clear hSw; go_simp; try with_reducible rfl)
        simp only [Act.put, List.setIfInBounds_toArray, List.set_cons_zero, List.set_cons_succ]
        refine wpAnyH_take (i := 1) (v := ?_) (oi := { dst := some 15, op := _, type := _, pos := _, after := _, guard := none }) rfl (by kernel_rfl) (by kernel_rfl) (by kernel_rfl) (fun _ _ _ h => h) (Or.inl ⟨by kernel_rfl, ?_⟩) (by assumption) ?_
        case refine_2 => (intro w9 hSw; obtain ⟨zp, zb, zl⟩ := hSw; have q3 := zp.box.c 3 rfl; have l0 := zl.c 0 rfl; have l1 := zl.c 1 rfl; clear zp zb zl; go_simp; try with_reducible rfl)
        simp only [Act.put, List.setIfInBounds_toArray, List.set_cons_zero, List.set_cons_succ]
        refine wpAnyH_take (i := 2) (v := ?_) (oi := { dst := some 16, op := _, type := _, pos := _, after := _, guard := none }) rfl (by kernel_rfl) (by kernel_rfl) (by kernel_rfl) (fun _ _ _ h => h) (Or.inl ⟨by kernel_rfl, ?_⟩) (by assumption) ?_
        case refine_2 => (intro w9 hSw; clear hSw; go_simp; try with_reducible rfl)
        simp only [Act.put, List.setIfInBounds_toArray, List.set_cons_zero, List.set_cons_succ]
        refine wpAnyH_take (i := 3) (v := ?_) (oi := { dst := some 17, op := _, type := _, pos := _, after := _, guard := none }) rfl (by kernel_rfl) (by kernel_rfl) (by kernel_rfl) (fun _ _ _ h => h) (Or.inl ⟨by kernel_rfl, ?_⟩) (by assumption) ?_
        case refine_2 => (intro w9 hSw; clear hSw; go_simp; try with_reducible rfl)
        simp only [Act.put, List.setIfInBounds_toArray, List.set_cons_zero, List.set_cons_succ]
        refine wpAnyH_take (i := 4) (v := ?_) (oi := { dst := some 18, op := _, type := _, pos := _, after := _, guard := some (3, true) }) rfl (by kernel_rfl) (by kernel_rfl) (by kernel_rfl) (fun _ _ _ h => h) (Or.inl ⟨by kernel_rfl, ?_⟩) (by assumption) ?_
        case refine_2 => (intro w9 hSw; clear hSw; go_simp; try with_reducible rfl)
        simp only [Act.put, List.setIfInBounds_toArray, List.set_cons_zero, List.set_cons_succ]
        refine wpAnyH_take (i := 5) (v := ?_) (oi := { dst := some 19, op := _, type := _, pos := _, after := _, guard := some (3, true) }) rfl (by kernel_rfl) (by kernel_rfl) (by kernel_rfl) (fun _ _ _ h => h) (Or.inl ⟨by kernel_rfl, ?_⟩) (by assumption) ?_
        case refine_2 => (intro w9 hSw; clear hSw; go_simp; try with_reducible rfl)
        simp only [Act.put, List.setIfInBounds_toArray, List.set_cons_zero, List.set_cons_succ]
        refine wpAnyH_take (i := 6) (v := ?_) (oi := { dst := some 20, op := _, type := _, pos := _, after := _, guard := some (3, true) }) rfl (by kernel_rfl) (by kernel_rfl) (by kernel_rfl) (fun _ _ _ h => h) (Or.inl ⟨by kernel_rfl, ?_⟩) (by assumption) ?_
        case refine_2 => (intro w9 hSw; clear hSw; go_simp; try with_reducible rfl)
        simp only [Act.put, List.setIfInBounds_toArray, List.set_cons_zero, List.set_cons_succ]
        refine wpAnyH_take (i := 7) (v := ?_) (oi := { dst := some 21, op := _, type := _, pos := _, after := _, guard := some (3, true) }) rfl (by kernel_rfl) (by kernel_rfl) (by kernel_rfl) (fun _ _ _ h => h) (Or.inl ⟨by kernel_rfl, ?_⟩) (by assumption) ?_
        case refine_2 => (intro w9 hSw; obtain ⟨zp, zb, zl⟩ := hSw; have q3 := zp.box.c 3 rfl; have l0 := zl.c 0 rfl; have l1 := zl.c 1 rfl; clear zp zb zl; go_simp; try with_reducible rfl)
        simp only [Act.put, List.setIfInBounds_toArray, List.set_cons_zero, List.set_cons_succ]
        refine wpAnyH_take (i := 8) (v := ?_) (oi := { dst := some 22, op := _, type := _, pos := _, after := _, guard := some (3, true) }) rfl (by kernel_rfl) (by kernel_rfl) (by kernel_rfl) (fun _ _ _ h => h) (Or.inl ⟨by kernel_rfl, ?_⟩) (by assumption) ?_
        case refine_2 => (intro w9 hSw; clear hSw; go_simp; try with_reducible rfl)
        simp only [Act.put, List.setIfInBounds_toArray, List.set_cons_zero, List.set_cons_succ]
        refine wpAnyH_take (i := 9) (v := ?_) (oi := { dst := some 23, op := _, type := _, pos := _, after := _, guard := some (3, true) }) rfl (by kernel_rfl) (by kernel_rfl) (by kernel_rfl) (fun _ _ _ h => h) (Or.inl ⟨by kernel_rfl, ?_⟩) (by assumption) ?_
        case refine_2 => (intro w9 hSw; obtain ⟨zp, zb, zl⟩ := hSw; have q3 := zp.box.c 3 rfl; have l0 := zl.c 0 rfl; have l1 := zl.c 1 rfl; clear zp zb zl; go_simp; try with_reducible rfl)
        simp only [Act.put, List.setIfInBounds_toArray, List.set_cons_zero, List.set_cons_succ]
        refine wpAnyH_ready (rs := [10]) (by kernel_rfl) (by simp) (AllReadyH.cons (o := { dst := some 24, op := _, type := _, pos := _, after := _, guard := some (3, true) }) rfl (fun K hK => ?_) AllReadyH.nil)
        have lk := lookup_S (P := Tryz.prog) (t := 48) Tryz.underlying48 Tryz.underlying9 (show (zeroValue 3).run Tryz.prog _ = .ok (.int .i64 0) _ from by kernel_rfl) hHeld.1.map s
        go_simp
        refine hK.out _ _ hHeld (fun hHeld => ?_)
        clear hK K lk
        refine wpAnyH_take (i := 11) (v := ?_) (oi := { dst := some 25, op := _, type := _, pos := _, after := _, guard := some (3, true) }) rfl (by kernel_rfl) (by kernel_rfl) (by kernel_rfl) (fun _ _ _ h => h) (Or.inl ⟨by kernel_rfl, ?_⟩) (by assumption) ?_
        case refine_2 => (intro w9 hSw; clear hSw; go_simp; try with_reducible rfl)
        simp only [Act.put, List.setIfInBounds_toArray, List.set_cons_zero, List.set_cons_succ]
        refine wpAnyH_take (i := 12) (v := ?_) (oi := { dst := some 26, op := _, type := _, pos := _, after := _, guard := none }) rfl (by kernel_rfl) (by kernel_rfl) (by kernel_rfl) (fun _ _ _ h => h) (Or.inl ⟨by kernel_rfl, ?_⟩) (by assumption) ?_
        case refine_2 => (intro w9 hSw; clear hSw; go_simp; try with_reducible rfl)
        simp only [Act.put, List.setIfInBounds_toArray, List.set_cons_zero, List.set_cons_succ]
        refine wpAnyH_done (by kernel_rfl) ?_ _
        have KK : Hid _ := hHeld
        clear hHeld
        by_cases hc : S.cnt s = 0
        · have hXN : X = N := by rw [← HE3.out, if_pos hc]
          have l0 := KK.out.2.2.c 0 rfl
          have l2 := KK.out.2.2.1
          go_wp2_with fail
          go_ret
          exact ⟨by rw [hXN]; rfl, KK.out.2.1⟩
        · have HE4 : Hid (lostL S.cnt (S.eras.drop (j + 1)) = X) := by have := HE3.out; rw [if_neg hc] at this; exact this
          go_wp2_with fail
          exact ⟨⟨j + 1, rfl, hjn, ⟨KK.out.1, KK.out.2.1⟩, HE4⟩, by simp only [intOf]; omega⟩
    · have hjI : ¬ (j : Int) < (S.eras.length : Int) := by omega
      have hX0 : X = 0 := by rw [← HE.out, List.drop_eq_nil_of_le (by omega)]; rfl
      go_wp2_with fail
      go_ret
      exact ⟨by first | rfl | (rw [hX0]; rfl), KV.out.2⟩

end Go.Proofs.YtgnfkkcagbbhmaaGreatDoor
