/- slices.Contains of tokens; the parser's is, take, leaf; isFree, isType. -/
import Derived.Test.YtaoocecipacnhaaDoorExCq
import Derived.BigQuiet
import Derived.Deep.QuietTactic
import Derived.Deep.LoopGhost
namespace Go.Proofs.YtaoocecipacnhaaDoor
open Go.RowKit
set_option linter.unusedVariables false

/-- kinds and texts as they lie in memory. -/
def fl2 : List (Int × ByteArray) → List Value
  | [] => []
  | x :: l => .int .i64 x.1 :: .string x.2 :: fl2 l
theorem fl2_at : ∀ (l : List (Int × ByteArray)) (i : Nat) (x : Int × ByteArray), l[i]? = some x → (fl2 l)[i * 2]? = some (.int .i64 x.1) ∧ (fl2 l)[i * 2 + 1]? = some (.string x.2)
  | [], i, x, h => by simp at h
  | y :: l, 0, x, h => by simp at h; subst h; exact ⟨rfl, rfl⟩
  | y :: l, i + 1, x, h => by
    have q := fl2_at l i x (by simpa using h)
    rw [show (i + 1) * 2 = i * 2 + 1 + 1 by omega]
    exact q
/-- is a kind and a text among these? -/
def isZ (k : Int) (t : ByteArray) (Z : List (Int × ByteArray)) : Bool := Z.any fun x => decide (k = x.1 ∧ t = x.2)
theorem isZ_isT (p : Tk) (Z : List (Int × ByteArray)) : isZ p.1 p.2.1 Z = isT p Z := rfl
theorem any_take {k : Int} {t : ByteArray} (Z : List (Int × ByteArray)) {j : Nat} {x : Int × ByteArray} (h : Z[j]? = some x) (h0 : isZ k t (Z.take j) = false) (h1 : ¬ (k = x.1 ∧ t = x.2)) : isZ k t (Z.take (j + 1)) = false := by
  unfold isZ at h0 ⊢
  rw [List.take_add_one, h, List.any_append, h0]; simpa using h1
theorem any_at {k : Int} {t : ByteArray} (Z : List (Int × ByteArray)) {j : Nat} (h : Z[j]? = some (k, t)) : isZ k t Z = true :=
  List.any_eq_true.2 ⟨(k, t), List.mem_of_getElem? h, by simp⟩
theorem BS.drewN {w W : World} {l : List (Nat × List Value)} (h : BS w l W) (n : Nat) : BS w l (W.drewN n) := ⟨⟨h.1.os, h.1.tape, h.1.output, h.1.size, h.1.block⟩, h.2⟩

set_option maxRecDepth 100000 in
set_option maxHeartbeats 4000000 in
theorem index_any (Z : List (Int × ByteArray)) (k : Int) (t : ByteArray) (bs cp : Nat) (w : World) (hz : Z.length ≤ 100) (hcp : cp ≤ 9223372036854775807) (hzc : Z.length ≤ cp) (hbs : bs < w.heap.size) (hc : Hid (∀ i v, (fl2 Z)[i]? = some v → w.cell? ⟨bs, i, none⟩ = some v)) :
    Calls Tryd.prog 76 #[.slice (some ⟨bs, 0, none⟩) Z.length cp, .agg #[.int .i64 k, .string t]] w fun e w' => (∃ i : Int, e = .returned (.int .i64 i) ∧ decide (0 ≤ i) = isZ k t Z) ∧ Below w.heap.size w w' := by
  go_enter Tryd.func76, Tryd.ntmps76
  go_wp2_with fail
  go_loopw [8] (fun i W => ∃ j : Nat, j ≤ Z.length ∧ i = .int .i64 (j : Int) ∧ Hid (BS w [(w.heap.size, [.int .i64 k, .string t])] W) ∧ Hid (isZ k t (Z.take j) = false)) (fun i _ => Z.length - (intOf i).toNat)
  case atStart => exact ⟨0, Nat.zero_le _, rfl, (BS.start w).new [.int .i64 k, .string t] _ rfl, rfl⟩
  case round =>
    obtain ⟨j, hj, rfl, HW, HN⟩ := hrel
    by_cases hlt : j < Z.length
    · have hlt' : (j : Int) < (Z.length : Int) := by omega
      obtain ⟨⟨x1, x2⟩, hx⟩ : ∃ x, Z[j]? = some x := ⟨Z[j]'hlt, List.getElem?_eq_getElem hlt⟩
      obtain ⟨q1, q2⟩ := fl2_at Z j _ hx
      have d1 := (HW.out.1.cell (p := ⟨bs, j * 2, none⟩) hbs).trans (hc.out _ _ q1)
      have d2 := (HW.out.1.cell (p := ⟨bs, j * 2 + 1, none⟩) hbs).trans (hc.out _ _ q2)
      have b1 := HW.out.first.c 0 rfl
      have b2 := HW.out.first.c 1 rfl
      have HX : Hid (Z[j]? = some (x1, x2)) := hx
      have k0 : (0 : Int) ≤ (j : Int) := by omega
      have k1 : (j : Int) ≤ 100 := by omega
      clear q1 q2 hx
      rcases Classical.em (k = x1) with rfl | hk
      · rcases Classical.em (t = x2) with rfl | ht
        · go_wp2_with fail
          go_quiet (fail)
          go_wp2
          go_ret
          exact ⟨⟨_, rfl, by rw [any_at Z HX.out]; simp⟩, (HW.out.drewN _).1⟩
        · have ht2 : (t.toList == x2.toList) = false := by rw [toList_eq]; exact decide_eq_false ht
          go_wp2_with fail
          go_quiet (fail)
          go_wp2
          exact ⟨⟨j + 1, by omega, by simp, HW.out.drewN _, any_take Z HX.out HN.out (fun q => ht q.2)⟩, by simp [intOf]; omega⟩
      · have hk2 : (k == x1) = false := by simpa using hk
        go_wp2_with fail
        go_quiet (fail)
        go_wp2
        exact ⟨⟨j + 1, by omega, by simp, HW.out.drewN _, any_take Z HX.out HN.out (fun q => hk q.1)⟩, by simp [intOf]; omega⟩
    · have hj' : ¬ (j : Int) < (Z.length : Int) := by omega
      obtain rfl : j = Z.length := by omega
      have HN' : Hid (isZ k t Z = false) := by have := HN.out; rwa [List.take_length] at this
      clear HN
      go_wp2
      go_ret
      exact ⟨⟨_, rfl, by rw [HN'.out]; simp⟩, HW.out.1⟩
set_option maxRecDepth 100000 in
set_option maxHeartbeats 4000000 in
theorem contains_any (Z : List (Int × ByteArray)) (k : Int) (t : ByteArray) (bs cp : Nat) (w : World) (hz : Z.length ≤ 100) (hcp : cp ≤ 9223372036854775807) (hzc : Z.length ≤ cp) (hbs : bs < w.heap.size) (hc : Hid (∀ i v, (fl2 Z)[i]? = some v → w.cell? ⟨bs, i, none⟩ = some v)) :
    Calls Tryd.prog 65 #[.slice (some ⟨bs, 0, none⟩) Z.length cp, .agg #[.int .i64 k, .string t]] w fun e w' => e = .returned (.bool (isZ k t Z)) ∧ Below w.heap.size w w' := by
  go_enter Tryd.func65, Tryd.ntmps65
  go_wp2_with fail
  refine (index_any Z k t bs cp _ hz hcp hzc (by simp; omega) (fun i v hv => (((Below.refl w.heap.size w).alloc (Nat.le_refl _) _).cell (p := ⟨bs, i, none⟩) hbs).trans (hc.out i v hv))).mono ?_
  rintro e W ⟨⟨i, rfl, hi⟩, hb⟩
  have HB : Hid (Below w.heap.size w W) := ((Below.refl w.heap.size w).alloc (Nat.le_refl _) _).trans (hb.mono (by simp))
  have HI : Hid _ := hi
  clear hb hi
  go_wp2
  go_ret
  exact ⟨by rw [← HI.out]; rfl, HB.out⟩

set_option maxRecDepth 100000 in
set_option maxHeartbeats 4000000 in
theorem is_any (g b cap : Nat) (T : List Tk) (p : Tk) (l : List Tk) (d : Nat) (Z : List (Int × ByteArray)) (bs cp : Nat) (w : World) (h : PS g b cap T w (p :: l) d) (hz : Z.length ≤ 100) (hcp : cp ≤ 9223372036854775807) (hzc : Z.length ≤ cp) (hbs : Bx w bs (fl2 Z)) :
    Calls Tryd.prog 52 #[.pointer (some ⟨g, 0, none⟩), .slice (some ⟨bs, 0, none⟩) Z.length cp] w fun e w' => e = .returned (.bool (isT p Z)) ∧ Below w.heap.size w w' := by
  obtain ⟨⟨pre, a0, e0, e, hb⟩, htr, hne, hle, hmost⟩ := h
  have HB : Hid (Bx w g _) := hb
  have HT : Hid (TR w b T) := htr
  have c0 := hb.c 0 rfl
  have c1 := hb.c 1 rfl
  have z0 := hb.f 0 rfl
  have z1 := hb.f 1 rfl
  have hg := hb.1
  have hbl := htr.1
  obtain ⟨t0, t1, t2⟩ := htr.at e
  have HM : Hid (cap ≤ maxLen) := hmost
  unfold maxLen at hmost
  have hlen : T.length = pre.length + l.length + 1 := by rw [e]; simp <;> omega
  clear hb htr
  have HS : Hid (Bx w bs (fl2 Z)) := hbs
  have hbs' := hbs.1
  clear hbs
  go_enter Tryd.func52, Tryd.ntmps52
  go_wp2_with fail
  refine (contains_any Z p.1 p.2.1 bs cp _ hz hcp hzc hbs' (fun i v hv => (HS.out.2 i v hv).1)).mono ?_
  rintro e W ⟨rfl, hb⟩
  have HW : Hid (Below w.heap.size w W) := hb
  clear hb
  rw [isZ_isT]
  go_wp2
  go_ret
  exact ⟨rfl, HW.out⟩

set_option maxRecDepth 100000 in
set_option maxHeartbeats 4000000 in
theorem take_yes (g b cap : Nat) (T : List Tk) (p : Tk) (l : List Tk) (d : Nat) (k : Int) (t : ByteArray) (w : World) (q : Tk) (h : PS g b cap T w (p :: q :: l) d) (hi : isT p [(k, t)] = true) :
    Calls Tryd.prog 28 #[.pointer (some ⟨g, 0, none⟩), .agg #[.int .i64 k, .string t]] w fun e w' => e = .returned (.bool true) ∧ Kp g w w' ∧ PS g b cap T w' (q :: l) d := by
  have HP : Hid _ := h
  have hg := h.lt
  clear h
  go_enter Tryd.func28, Tryd.ntmps28
  go_wp2_with fail
  have B1 : Hid (BS w [(w.heap.size + 1, [.int .i64 k, .string t]), (w.heap.size, [.int .i64 k, .string t])] _) := ((BS.start w).new [.int .i64 k, .string t] 79 rfl).new [.int .i64 k, .string t] 79 (by simp)
  refine (is_any g b cap T p _ d [(k, t)] (w.heap.size + 1) 1 _ (HP.out.below B1.out.1) (by simp) (by omega) (by simp) B1.out.first).mono ?_
  rintro e W ⟨rfl, hb⟩
  have HW : Hid (Below w.heap.size w W) := B1.out.1.trans (hb.mono B1.out.1.size)
  have HQ : Hid _ := HP.out.below HW.out
  clear hb B1 HP
  rw [hi]
  go_wp2_with fail
  refine (next_any g b cap T p q l d _ HQ.out).mono ?_
  rintro e V ⟨rfl, hk, hp⟩
  have HK : Hid (Kp g w V) := (Kp.of HW.out).trans hk
  have HV : Hid _ := hp
  clear hk hp
  go_wp2
  go_ret
  exact ⟨rfl, HK.out, HV.out⟩

set_option maxRecDepth 100000 in
set_option maxHeartbeats 4000000 in
theorem take_end (g b cap : Nat) (T : List Tk) (p : Tk) (l : List Tk) (d : Nat) (k : Int) (t : ByteArray) (w : World) (h : PS g b cap T w [p] d) (hi : isT p [(k, t)] = true) :
    Calls Tryd.prog 28 #[.pointer (some ⟨g, 0, none⟩), .agg #[.int .i64 k, .string t]] w fun e w' => e = .returned (.bool true) ∧ Kp g w w' := by
  have HP : Hid _ := h
  have hg := h.lt
  clear h
  go_enter Tryd.func28, Tryd.ntmps28
  go_wp2_with fail
  have B1 : Hid (BS w [(w.heap.size + 1, [.int .i64 k, .string t]), (w.heap.size, [.int .i64 k, .string t])] _) := ((BS.start w).new [.int .i64 k, .string t] 79 rfl).new [.int .i64 k, .string t] 79 (by simp)
  refine (is_any g b cap T p _ d [(k, t)] (w.heap.size + 1) 1 _ (HP.out.below B1.out.1) (by simp) (by omega) (by simp) B1.out.first).mono ?_
  rintro e W ⟨rfl, hb⟩
  have HW : Hid (Below w.heap.size w W) := B1.out.1.trans (hb.mono B1.out.1.size)
  have HQ : Hid _ := HP.out.below HW.out
  clear hb B1 HP
  rw [hi]
  go_wp2_with fail
  refine (next_end g b cap T p d _ HQ.out).mono ?_
  rintro e V ⟨rfl, hk⟩
  have HK : Hid (Kp g w V) := (Kp.of HW.out).trans hk
  clear hk
  go_wp2
  go_ret
  exact ⟨rfl, HK.out⟩

set_option maxRecDepth 100000 in
set_option maxHeartbeats 4000000 in
theorem take_no (g b cap : Nat) (T : List Tk) (p : Tk) (l : List Tk) (d : Nat) (k : Int) (t : ByteArray) (w : World) (h : PS g b cap T w (p :: l) d) (hi : isT p [(k, t)] = false) :
    Calls Tryd.prog 28 #[.pointer (some ⟨g, 0, none⟩), .agg #[.int .i64 k, .string t]] w fun e w' => e = .returned (.bool false) ∧ Kp g w w' ∧ PF g w' d p.2.2 30 := by
  have HP : Hid _ := h
  have hg := h.lt
  clear h
  go_enter Tryd.func28, Tryd.ntmps28
  go_wp2_with fail
  have B1 : Hid (BS w [(w.heap.size + 1, [.int .i64 k, .string t]), (w.heap.size, [.int .i64 k, .string t])] _) := ((BS.start w).new [.int .i64 k, .string t] 79 rfl).new [.int .i64 k, .string t] 79 (by simp)
  refine (is_any g b cap T p _ d [(k, t)] (w.heap.size + 1) 1 _ (HP.out.below B1.out.1) (by simp) (by omega) (by simp) B1.out.first).mono ?_
  rintro e W ⟨rfl, hb⟩
  have HW : Hid (Below w.heap.size w W) := B1.out.1.trans (hb.mono B1.out.1.size)
  have HQ : Hid _ := HP.out.below HW.out
  clear hb B1 HP
  rw [hi]
  go_wp2_with fail
  refine (wrong_any g b cap T p l d _ HQ.out).mono ?_
  rintro e V ⟨rfl, hk, hp⟩
  have HK : Hid (Kp g w V) := (Kp.of HW.out).trans hk
  have HV : Hid _ := hp
  clear hk hp
  go_wp2
  go_ret
  exact ⟨rfl, HK.out, HV.out⟩


end Go.Proofs.YtaoocecipacnhaaDoor
