import Derived.Test.YtcmefhnfdcngfaaDoorP9
/- kind: the names of kinds, the table, slices.Equal of numbers. -/
namespace Go.Proofs.YtcmefhnfdcngfaaDoor
open Go.RowKit
set_option linter.unusedVariables false

/-- the names of kinds lie in memory. -/
def Kn (w : World) : Prop := ∀ i t, knm[i]? = some t → w.cell? ⟨0, i, none⟩ = some (.string t)
theorem Kn.lt {w : World} (h : Kn w) : 0 < w.heap.size := World.block_lt_of_cell? w _ (h 0 _ rfl)
theorem Kn.below {w W : World} (h : Kn w) (hb : Below w.heap.size w W) : Kn W := fun i t e => (hb.cell (p := ⟨0, i, none⟩) h.lt).trans (h i t e)
def knN (k : Int) : ByteArray := if 0 ≤ k ∧ k < 9 then knm.getD k.toNat ⟨#[]⟩ else ⟨#[]⟩

set_option maxRecDepth 100000 in
set_option maxHeartbeats 4000000 in
theorem name_any (k : Int) (w : World) (h : Kn w) :
    Calls Tryd.prog 8 #[.int .i64 k] w fun e w' => e = .returned (.string (knN k)) ∧ Below w.heap.size w w' := by
  have hl := h.lt
  by_cases h0 : k < 0
  · have e : knN k = ⟨#[]⟩ := if_neg (by omega)
    rw [e]; clear e h
    go_enter Tryd.func8, Tryd.ntmps8
    go_wp2
    go_ret
    exact ⟨rfl, Below.refl _ _⟩
  by_cases h9 : 9 ≤ k
  · have e : knN k = ⟨#[]⟩ := if_neg (by omega)
    rw [e]; clear e h
    go_enter Tryd.func8, Tryd.ntmps8
    go_wp2
    go_ret
    exact ⟨rfl, Below.refl _ _⟩
  · obtain ⟨j, rfl⟩ : ∃ j : Nat, k = (j : Int) := ⟨k.toNat, by omega⟩
    have hj : j < 9 := by omega
    have e : knN (j : Int) = knm.getD j ⟨#[]⟩ := by unfold knN; rw [if_pos (by omega)]; simp
    obtain ⟨N, hN⟩ : ∃ N, knm[j]? = some N := ⟨_, List.getElem?_eq_getElem (show j < knm.length from hj)⟩
    have c := h j N hN
    have e2 : knN (j : Int) = N := by rw [e, List.getD_eq_getElem?_getD, hN]; rfl
    rw [e2]
    clear e e2 hN h
    go_enter Tryd.func8, Tryd.ntmps8
    go_wp2
    go_ret
    exact ⟨rfl, Below.refl _ _⟩

def knA : Value := .agg #[.string ⟨#[]⟩, .string ⟨#[98, 111, 111, 108]⟩, .string ⟨#[105, 110, 116]⟩, .string ⟨#[110, 117, 109, 101, 114, 105, 99]⟩, .string ⟨#[116, 101, 120, 116]⟩, .string ⟨#[100, 97, 116, 101]⟩, .string ⟨#[116, 105, 109, 101, 115, 116, 97, 109, 112]⟩, .string ⟨#[116, 105, 109, 101, 115, 116, 97, 109, 112, 116, 122]⟩, .string ⟨#[105, 110, 116, 101, 114, 118, 97, 108]⟩]
theorem kn_ix (j : Nat) (hj : j < 9) (w0 : World) : (Instr.index 49 knA (.int .i64 (j : Int))).run Tryd.prog w0 = .ok (.string (knm.getD j ⟨#[]⟩)) w0 := by
  match j, hj with
  | 0, _ => (show _ = _; kernel_rfl)
  | 1, _ => (show _ = _; kernel_rfl)
  | 2, _ => (show _ = _; kernel_rfl)
  | 3, _ => (show _ = _; kernel_rfl)
  | 4, _ => (show _ = _; kernel_rfl)
  | 5, _ => (show _ = _; kernel_rfl)
  | 6, _ => (show _ = _; kernel_rfl)
  | 7, _ => (show _ = _; kernel_rfl)
  | 8, _ => (show _ = _; kernel_rfl)
theorem kd_at {t N : ByteArray} {j : Nat} (hN : knm[j]? = some N) : kdL t (knm.drop j) (j : Int) = if N = t then (j : Int) else kdL t (knm.drop (j + 1)) ((j + 1 : Nat) : Int) := by
  have hj := (List.getElem?_eq_some_iff.1 hN).1
  rw [List.drop_eq_getElem_cons hj, (List.getElem?_eq_some_iff.1 hN).2, kdL]
  rfl

set_option maxRecDepth 100000 in
set_option maxHeartbeats 4000000 in
theorem kind_any (t : ByteArray) (w : World) (h : Kn w) :
    Calls Tryd.prog 10 #[.string t] w fun e w' => e = .returned (.int .i64 (kdF t)) ∧ Below w.heap.size w w' := by
  have hl := h.lt
  have c0 := h 0 _ rfl
  have c1 := h 1 _ rfl
  have c2 := h 2 _ rfl
  have c3 := h 3 _ rfl
  have c4 := h 4 _ rfl
  have c5 := h 5 _ rfl
  have c6 := h 6 _ rfl
  have c7 := h 7 _ rfl
  have c8 := h 8 _ rfl
  clear h
  go_enter Tryd.func10, Tryd.ntmps10
  go_wp2_with fail
  go_loopw [6] (fun i W => ∃ (j : Nat), i = .int .i64 (j : Int) ∧ j ≤ 9 ∧ W = w ∧ Hid (kdF t = kdL t (knm.drop j) (j : Int))) (fun i _ => 9 - (intOf i).toNat)
  case atStart => exact ⟨0, rfl, by omega, rfl, rfl⟩
  case round =>
    obtain ⟨j, rfl, hj, rfl, HK⟩ := hrel
    clear c0 c1 c2 c3 c4 c5 c6 c7 c8
    by_cases hj9 : j < 9
    · have hjI : (j : Int) < 9 := by omega
      have hj0 : (0 : Int) ≤ (j : Int) := by omega
      have hjw : IntKind.i64.wrap ((j : Int) + 1) = (j : Int) + 1 := by rw [IntKind.wrap_i64]; omega
      obtain ⟨N, hN⟩ : ∃ N, knm[j]? = some N := ⟨_, List.getElem?_eq_getElem (show j < knm.length from hj9)⟩
      have hix := kn_ix j hj9
      rw [List.getD_eq_getElem?_getD, hN] at hix
      have hix2 : ∀ w0 : World, (Instr.index 49 knA (.int .i64 (j : Int))).run Tryd.prog w0 = .ok (.string N) w0 := hix
      unfold knA at hix2
      have hk := kd_at (t := t) hN
      clear hix hN
      by_cases hNt : N = t
      · subst hNt
        rw [if_pos rfl] at hk
        have HE : Hid (kdF N = (j : Int)) := HK.out.trans hk
        clear hk HK
        go_wp2
        go_ret
        exact ⟨by rw [HE.out]; rfl, Below.refl _ _⟩
      · rw [if_neg hNt] at hk
        have HE : Hid (kdF t = kdL t (knm.drop (j + 1)) ((j + 1 : Nat) : Int)) := HK.out.trans hk
        have hg : (N.toList == t.toList) = false := by rw [toList_eq]; exact decide_eq_false hNt
        clear hk HK
        go_wp2
        exact ⟨⟨j + 1, by simp, by omega, by first | rfl | trivial, HE⟩, by simp [intOf]; omega⟩
    · obtain rfl : j = 9 := by omega
      have HE : Hid (kdF t = 0) := HK.out.trans rfl
      clear HK
      go_wp2
      go_ret
      exact ⟨by rw [HE.out]; rfl, Below.refl _ _⟩

/-- the table's cells. -/
def tbC : List (ByteArray × ByteArray) → List Value
  | [] => []
  | x :: l => .string x.1 :: .string x.2 :: tbC l

set_option maxRecDepth 100000 in
set_option maxHeartbeats 4000000 in
theorem table_any (w : World) :
    Calls Tryd.prog 17 #[] w fun e w' => e = .returned (.slice (some ⟨w.heap.size, 0, none⟩) 32 32) ∧ w' = w.alloc (.cells (tbC tbl).toArray 43) := by
  go_enter Tryd.func17, Tryd.ntmps17
  go_wp2
  go_ret
  exact ⟨rfl, by kernel_rfl⟩

theorem letter_any (r : Int) (w : World) :
    Calls Tryd.prog 25 #[.int .i32 r] w fun e w' => e = .returned (.bool (decide (97 ≤ r ∧ r ≤ 122))) ∧ Below w.heap.size w w' := by
  by_cases h0 : 97 ≤ r
  · by_cases h1 : r ≤ 122
    · rw [decide_eq_true (show 97 ≤ r ∧ r ≤ 122 from ⟨h0, h1⟩)]
      go_enter Tryd.func25, Tryd.ntmps25
      go_wp2
      go_ret
      exact ⟨rfl, Below.refl _ _⟩
    · rw [decide_eq_false (show ¬ (97 ≤ r ∧ r ≤ 122) by omega)]
      go_enter Tryd.func25, Tryd.ntmps25
      go_wp2
      go_ret
      exact ⟨rfl, Below.refl _ _⟩
  · rw [decide_eq_false (show ¬ (97 ≤ r ∧ r ≤ 122) by omega)]
    go_enter Tryd.func25, Tryd.ntmps25
    go_wp2
    go_ret
    exact ⟨rfl, Below.refl _ _⟩

theorem bl_drewN {B : Nat} {w W : World} (h : Below B w W) (n : Nat) : Below B w (W.drewN n) := ⟨h.os, h.tape, h.output, h.size, h.block⟩
/-- this value is a row of these numbers. -/
def IR (w : World) (v : Value) (l : List Int) : Prop :=
  ∃ p cap, v = .slice p l.length cap ∧ l.length ≤ cap ∧ cap ≤ maxLen ∧ ∀ j x, l[j]? = some x → ∃ b o, p = some ⟨b, o, none⟩ ∧ b < w.heap.size ∧ w.cell? ⟨b, o + j, none⟩ = some (.int .i64 x)
theorem IR.below {w W : World} {v : Value} {l : List Int} (h : IR w v l) (hb : Below w.heap.size w W) : IR W v l := by
  obtain ⟨p, cap, e, h1, h2, h3⟩ := h
  exact ⟨p, cap, e, h1, h2, fun j x hx => by
    obtain ⟨b, o, e1, e2, e3⟩ := h3 j x hx
    exact ⟨b, o, e1, Nat.lt_of_lt_of_le e2 hb.size, (hb.cell (p := ⟨b, o + j, none⟩) e2).trans e3⟩⟩

set_option maxRecDepth 100000 in
set_option maxHeartbeats 4000000 in
theorem equal_any (l m : List Int) (v u : Value) (w : World) (hv : IR w v l) (hu : IR w u m) :
    Calls Tryd.prog 19 #[v, u] w fun e w' => e = .returned (.bool (decide (l = m))) ∧ Below w.heap.size w w' := by
  obtain ⟨p, cap, rfl, h1, h2, h3⟩ := hv
  obtain ⟨q, cbp, rfl, k1, k2, k3⟩ := hu
  unfold maxLen at h2 k2
  have HL : Hid _ := h3
  have HM : Hid _ := k3
  clear h3 k3
  have hlI : (l.length : Int) ≤ 9223372036854775807 := by omega
  have hmI : (m.length : Int) ≤ 9223372036854775807 := by omega
  by_cases hne : l.length = m.length
  · go_enter Tryd.func19, Tryd.ntmps19
    have hneI : (l.length : Int) = (m.length : Int) := by omega
    go_wp2_with fail
    go_loopw [13] (fun i W => ∃ (j : Nat), i = .int .i64 (j : Int) ∧ j ≤ l.length ∧ Hid (Below w.heap.size w W) ∧ Hid (l.take j = m.take j)) (fun i _ => l.length - (intOf i).toNat)
    case atStart => exact ⟨0, rfl, Nat.zero_le _, Below.refl _ _, rfl⟩
    case round =>
      obtain ⟨j, rfl, hj, KB, HE⟩ := hrel
      have hj0 : (0 : Int) ≤ (j : Int) := by omega
      by_cases hjl : j < l.length
      · have hjI : (j : Int) < (l.length : Int) := by omega
        have hjM : (j : Int) < (m.length : Int) := by omega
        have hjw : IntKind.i64.wrap ((j : Int) + 1) = (j : Int) + 1 := by rw [IntKind.wrap_i64]; omega
        obtain ⟨b, o, rfl, hb, y⟩ := HL.out j _ (List.getElem?_eq_getElem hjl)
        obtain ⟨c, r, rfl, hc, z⟩ := HM.out j _ (List.getElem?_eq_getElem (show j < m.length by omega))
        have v0 := (KB.out.cell (p := ⟨b, o + j, none⟩) hb).trans y
        have v1 := (KB.out.cell (p := ⟨c, r + j, none⟩) hc).trans z
        have hbw : b < wr.heap.size := by have := KB.out.size; omega
        have hcw : c < wr.heap.size := by have := KB.out.size; omega
        obtain ⟨X, hX⟩ : ∃ X, l[j] = X := ⟨_, rfl⟩
        obtain ⟨Y, hY⟩ : ∃ Y, m[j]'(by omega) = Y := ⟨_, rfl⟩
        rw [hX] at v0
        rw [hY] at v1
        clear y z
        have ht : l.take (j + 1) = l.take j ++ [X] := by rw [List.take_add_one, List.getElem?_eq_getElem hjl, hX]; rfl
        have hs : m.take (j + 1) = m.take j ++ [Y] := by rw [List.take_add_one, List.getElem?_eq_getElem (by omega), hY]; rfl
        by_cases hXY : X = Y
        · have HE2 : Hid (l.take (j + 1) = m.take (j + 1)) := by show _ = _; rw [ht, hs, HE.out, hXY]
          subst hXY
          clear HE hX hY ht hs HL HM
          go_wp2_with fail
          go_quiet (fail)
          go_wp2
          exact ⟨⟨j + 1, by simp, by omega, bl_drewN KB.out _, HE2⟩, by simp [intOf]; omega⟩
        · have HE2 : Hid (l ≠ m) := fun e => hXY (by subst e; rw [← hX, ← hY])
          have hg : (X != Y) = true := by simpa using hXY
          clear HE hX hY ht hs HL HM
          go_wp2_with fail
          go_quiet (fail)
          go_wp2
          go_ret
          exact ⟨by rw [decide_eq_false HE2.out]; rfl, bl_drewN KB.out _⟩
      · have hjI : ¬ (j : Int) < (l.length : Int) := by omega
        obtain rfl : j = l.length := by omega
        have HE2 : Hid (l = m) := by have := HE.out; rw [List.take_length, hne, List.take_length] at this; exact this
        clear HE HL HM
        go_wp2
        go_ret
        exact ⟨by rw [decide_eq_true HE2.out]; rfl, KB.out⟩
  · have hneI : ¬ (l.length : Int) = (m.length : Int) := by omega
    have HE2 : Hid (l ≠ m) := fun e => hne (by rw [e])
    have hg : ((l.length : Int) != (m.length : Int)) = true := by simpa using hneI
    clear hne HL HM
    go_enter Tryd.func19, Tryd.ntmps19
    go_wp2
    go_ret
    exact ⟨by rw [decide_eq_false HE2.out]; rfl, Below.refl _ _⟩

end Go.Proofs.YtcmefhnfdcngfaaDoor
/- The reference's table of kinds: its rows. -/
namespace Go.Proofs.YtcmefhnfdcngfaaDoor
open Go.RowKit
set_option linter.unusedVariables false

/-- its rows: an operation, kinds, what comes of them. -/
def rtb : List (ByteArray × List Int × Int) := [
  (⟨#[43]⟩, [2, 2], 2),
  (⟨#[43]⟩, [3, 3], 3),
  (⟨#[43]⟩, [2, 3], 3),
  (⟨#[43]⟩, [3, 2], 3),
  (⟨#[43]⟩, [5, 2], 5),
  (⟨#[43]⟩, [2, 5], 5),
  (⟨#[43]⟩, [5, 8], 6),
  (⟨#[43]⟩, [8, 5], 6),
  (⟨#[43]⟩, [6, 8], 6),
  (⟨#[43]⟩, [8, 6], 6),
  (⟨#[43]⟩, [7, 8], 7),
  (⟨#[43]⟩, [8, 7], 7),
  (⟨#[43]⟩, [8, 8], 8),
  (⟨#[45]⟩, [2, 2], 2),
  (⟨#[45]⟩, [3, 3], 3),
  (⟨#[45]⟩, [2, 3], 3),
  (⟨#[45]⟩, [3, 2], 3),
  (⟨#[45]⟩, [5, 2], 5),
  (⟨#[45]⟩, [5, 5], 2),
  (⟨#[45]⟩, [5, 8], 6),
  (⟨#[45]⟩, [6, 8], 6),
  (⟨#[45]⟩, [6, 6], 8),
  (⟨#[45]⟩, [7, 8], 7),
  (⟨#[45]⟩, [7, 7], 8),
  (⟨#[45]⟩, [8, 8], 8),
  (⟨#[42]⟩, [2, 2], 2),
  (⟨#[42]⟩, [3, 3], 3),
  (⟨#[42]⟩, [2, 3], 3),
  (⟨#[42]⟩, [3, 2], 3),
  (⟨#[42]⟩, [8, 2], 8),
  (⟨#[42]⟩, [2, 8], 8),
  (⟨#[47]⟩, [2, 2], 2),
  (⟨#[37]⟩, [2, 2], 2),
  (⟨#[97, 110, 100]⟩, [1, 1], 1),
  (⟨#[111, 114]⟩, [1, 1], 1),
  (⟨#[110, 111, 116]⟩, [1], 1),
  (⟨#[110, 101, 103]⟩, [2], 2),
  (⟨#[110, 101, 103]⟩, [3], 3),
  (⟨#[110, 101, 103]⟩, [8], 8),
  (⟨#[97, 116, 32, 116, 105, 109, 101, 32, 122, 111, 110, 101]⟩, [6, 4], 7),
  (⟨#[97, 116, 32, 116, 105, 109, 101, 32, 122, 111, 110, 101]⟩, [7, 4], 6),
  (⟨#[58, 58, 116, 101, 120, 116]⟩, [2], 4),
  (⟨#[58, 58, 116, 101, 120, 116]⟩, [3], 4),
  (⟨#[58, 58, 116, 101, 120, 116]⟩, [1], 4),
  (⟨#[58, 58, 116, 101, 120, 116]⟩, [4], 4),
  (⟨#[58, 58, 116, 101, 120, 116]⟩, [5], 4),
  (⟨#[58, 58, 116, 101, 120, 116]⟩, [6], 4),
  (⟨#[58, 58, 116, 101, 120, 116]⟩, [7], 4),
  (⟨#[58, 58, 116, 101, 120, 116]⟩, [8], 4),
  (⟨#[58, 58, 100, 97, 116, 101]⟩, [4], 5),
  (⟨#[58, 58, 100, 97, 116, 101]⟩, [5], 5),
  (⟨#[58, 58, 100, 97, 116, 101]⟩, [6], 5),
  (⟨#[58, 58, 100, 97, 116, 101]⟩, [7], 5),
  (⟨#[58, 58, 116, 105, 109, 101, 115, 116, 97, 109, 112]⟩, [4], 6),
  (⟨#[58, 58, 116, 105, 109, 101, 115, 116, 97, 109, 112]⟩, [5], 6),
  (⟨#[58, 58, 116, 105, 109, 101, 115, 116, 97, 109, 112]⟩, [6], 6),
  (⟨#[58, 58, 116, 105, 109, 101, 115, 116, 97, 109, 112]⟩, [7], 6),
  (⟨#[58, 58, 116, 105, 109, 101, 115, 116, 97, 109, 112, 116, 122]⟩, [4], 7),
  (⟨#[58, 58, 116, 105, 109, 101, 115, 116, 97, 109, 112, 116, 122]⟩, [5], 7),
  (⟨#[58, 58, 116, 105, 109, 101, 115, 116, 97, 109, 112, 116, 122]⟩, [6], 7),
  (⟨#[58, 58, 116, 105, 109, 101, 115, 116, 97, 109, 112, 116, 122]⟩, [7], 7),
  (⟨#[58, 58, 105, 110, 116, 101, 114, 118, 97, 108]⟩, [4], 8),
  (⟨#[58, 58, 105, 110, 116, 101, 114, 118, 97, 108]⟩, [8], 8),
  (⟨#[58, 58, 105, 110, 116]⟩, [4], 2),
  (⟨#[58, 58, 105, 110, 116]⟩, [2], 2),
  (⟨#[58, 58, 105, 110, 116]⟩, [3], 2),
  (⟨#[58, 58, 110, 117, 109, 101, 114, 105, 99]⟩, [4], 3),
  (⟨#[58, 58, 110, 117, 109, 101, 114, 105, 99]⟩, [2], 3),
  (⟨#[58, 58, 110, 117, 109, 101, 114, 105, 99]⟩, [3], 3),
  (⟨#[100, 97, 116, 101, 95, 116, 114, 117, 110, 99]⟩, [4, 6], 6),
  (⟨#[100, 97, 116, 101, 95, 116, 114, 117, 110, 99]⟩, [4, 7], 7),
  (⟨#[100, 97, 116, 101, 95, 116, 114, 117, 110, 99]⟩, [4, 7, 4], 7),
  (⟨#[100, 97, 116, 101, 95, 98, 105, 110]⟩, [8, 6, 6], 6),
  (⟨#[100, 97, 116, 101, 95, 98, 105, 110]⟩, [8, 7, 7], 7),
  (⟨#[101, 120, 116, 114, 97, 99, 116]⟩, [4, 5], 3),
  (⟨#[101, 120, 116, 114, 97, 99, 116]⟩, [4, 6], 3),
  (⟨#[101, 120, 116, 114, 97, 99, 116]⟩, [4, 7], 3),
  (⟨#[101, 120, 116, 114, 97, 99, 116]⟩, [4, 8], 3),
  (⟨#[97, 103, 101]⟩, [6, 6], 8),
  (⟨#[106, 117, 115, 116, 105, 102, 121]⟩, [8], 8),
  (⟨#[109, 97, 107, 101, 95, 100, 97, 116, 101]⟩, [2, 2, 2], 5),
  (⟨#[105, 115, 102, 105, 110, 105, 116, 101]⟩, [5], 1),
  (⟨#[105, 115, 102, 105, 110, 105, 116, 101]⟩, [6], 1),
  (⟨#[105, 115, 102, 105, 110, 105, 116, 101]⟩, [7], 1),
  (⟨#[105, 115, 102, 105, 110, 105, 116, 101]⟩, [8], 1),
  (⟨#[111, 118, 101, 114, 108, 97, 112, 115]⟩, [6, 6, 6, 6], 1),
  (⟨#[111, 118, 101, 114, 108, 97, 112, 115]⟩, [7, 7, 7, 7], 1),
  (⟨#[103, 101, 110, 101, 114, 97, 116, 101, 95, 115, 101, 114, 105, 101, 115]⟩, [2, 2, 2], 2),
  (⟨#[103, 101, 110, 101, 114, 97, 116, 101, 95, 115, 101, 114, 105, 101, 115]⟩, [6, 6, 8], 6),
  (⟨#[103, 101, 110, 101, 114, 97, 116, 101, 95, 115, 101, 114, 105, 101, 115]⟩, [7, 7, 8], 7)]
theorem rtb_len : rtb.length = 90 := by decide +kernel
def rtC (s : Nat) : List (ByteArray × List Int × Int) → Nat → List Value
  | [], _ => []
  | x :: l, i => .string x.1 :: .slice (some ⟨s + i, 0, none⟩) x.2.1.length x.2.1.length :: .int .i64 x.2.2 :: rtC s l (i + 1)
def rtW (w : World) : List (ByteArray × List Int × Int) → World
  | [] => w
  | x :: l => rtW (w.alloc (.cells (x.2.1.map (fun k => Value.int .i64 k)).toArray 3)) l

end Go.Proofs.YtcmefhnfdcngfaaDoor
