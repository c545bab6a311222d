import Derived.Test.YtcmefhnfdcngfaaDoorP8
import Derived.WalkKit
import Derived.ProofKit
import Derived.Deep.Cut
import Derived.Deep.CutRange
import Derived.Deep.DeepCutAuto
import Derived.BigQuiet
import Derived.Deep.QuietTactic
import Derived.Deep.LoopGhost
/- The parser's small methods: fail, wrong, next, is, take, leaf. -/
namespace Go.Proofs.YtcmefhnfdcngfaaDoor
open Go.RowKit
set_option linter.unusedVariables false

set_option maxRecDepth 100000 in
set_option maxHeartbeats 4000000 in
theorem fail_any (g : Nat) (left : Value) (d : Nat) (a0 e0 a er : Int) (w : World) (hb : Bx w g [left, .int .i64 (d : Int), .int .i64 a0, .int .i64 e0]) :
    Calls Tryd.prog 55 #[.pointer (some ⟨g, 0, none⟩), .int .i64 a, .int .i64 er] w fun e w' => e = .returned (.tuple #[.agg #[.int .i64 0, .string ⟨#[]⟩, .slice none 0 0, .int .i64 0], .bool false]) ∧ Kp g w w' ∧ Bx w' g [left, .int .i64 (d : Int), .int .i64 a, .int .i64 er] := by
  have c2 := hb.c 2 rfl
  have c3 := hb.c 3 rfl
  have z2 := hb.f 2 rfl
  have z3 := hb.f 3 rfl
  have hg := hb.1
  have HB : Hid (Bx w g [left, .int .i64 (d : Int), .int .i64 a0, .int .i64 e0]) := hb
  clear hb
  go_enter Tryd.func55, Tryd.ntmps55
  go_wp2
  refine bodyPost_ret (v := .tuple #[.agg #[.int .i64 0, .string ⟨#[]⟩, .slice none 0 0, .int .i64 0], .bool false]) (by simp [results, Tryd.results55, go_sem]) rfl ⟨rfl, ?_, ?_⟩
  · exact (((Kp.refl g w).set (.inl rfl) _).set (.inl rfl) _).alloc _
  · exact (((HB.out.set1 2 _ (by simp)).set1 3 _ (by simp)).alloc _)

set_option maxRecDepth 100000 in
set_option maxHeartbeats 4000000 in
theorem wrong_any (g b cap : Nat) (T : List Tk) (p : Tk) (l : List Tk) (d : Nat) (w : World) (h : PS g b cap T w (p :: l) d) :
    Calls Tryd.prog 48 #[.pointer (some ⟨g, 0, none⟩)] w fun e w' => e = .returned (.tuple #[.agg #[.int .i64 0, .string ⟨#[]⟩, .slice none 0 0, .int .i64 0], .bool false]) ∧ Kp g w w' ∧ PF g w' d p.2.2 30 := by
  obtain ⟨⟨pre, a0, e0, e, hb⟩, htr, hne, hle, hmost⟩ := h
  have HB : Hid (Bx w g _) := hb
  have HT : Hid (TR w b T) := htr
  have c0 := hb.c 0 rfl
  have c1 := hb.c 1 rfl
  have z0 := hb.f 0 rfl
  have z1 := hb.f 1 rfl
  have hg := hb.1
  have hbl := htr.1
  obtain ⟨t0, t1, t2⟩ := htr.at e
  have HM : Hid (cap ≤ maxLen) := hmost
  unfold maxLen at hmost
  have hlen : T.length = pre.length + l.length + 1 := by rw [e]; simp <;> omega
  clear hb htr
  go_enter Tryd.func48, Tryd.ntmps48
  go_wp2_with fail
  refine (fail_any g _ d a0 e0 p.2.2 30 _ (HB.out.alloc _)).mono ?_
  rintro e W ⟨rfl, hk, hx⟩
  have HK : Hid (Kp g w W) := ((Kp.refl g w).alloc _).trans hk
  have HX : Hid (Bx W w.heap.size _) := hk.bx (Bx.new w [.int .i64 0, .string ⟨#[]⟩, .slice none 0 0, .int .i64 0] _) (by omega)
  have HP : Hid (Bx W g _) := hx
  clear hk hx
  obtain ⟨FK, FB, FO, FS⟩ := fin4 [] (.int .i64 0) (.string ⟨#[]⟩) (.slice none 0 0) (.int .i64 0) HK.out (by omega) (HX.out)
  have y0' := FB.c 0 rfl
  have y1' := FB.c 1 rfl
  have y2' := FB.c 2 rfl
  have y3' := FB.c 3 rfl
  simp only [List.foldl, World.setCells, Nat.zero_add, Nat.reduceAdd] at y0' y1' y2' y3'
  have HFK : Hid _ := FK
  have HFO : Hid _ := FO
  have HFS : Hid _ := FS
  clear FK FB FO FS
  have r0 := (HX.out).c 0 rfl
  have r1 := (HX.out).c 1 rfl
  have r2 := (HX.out).c 2 rfl
  have r3 := (HX.out).c 3 rfl
  have s0 := (HX.out).f 0 rfl
  have s1 := (HX.out).f 1 rfl
  have s2 := (HX.out).f 2 rfl
  have s3 := (HX.out).f 3 rfl
  have hrw' := (HX.out).1
  go_wp2
  refine bodyPost_ret (v := .tuple #[.agg #[.int .i64 0, .string ⟨#[]⟩, .slice none 0 0, .int .i64 0], .bool false]) (by simp [results, Tryd.results48, go_sem, y0', y1', y2', y3']) rfl ⟨rfl, HFK.out, PF.off ⟨_, HP.out, rfl⟩ HFO.out HFS.out (by omega)⟩

set_option maxRecDepth 100000 in
set_option maxHeartbeats 4000000 in
theorem next_any (g b cap : Nat) (T : List Tk) (p q : Tk) (l : List Tk) (d : Nat) (w : World) (h : PS g b cap T w (p :: q :: l) d) :
    Calls Tryd.prog 49 #[.pointer (some ⟨g, 0, none⟩)] w fun e w' => e = .returned (.agg #[.int .i64 p.1, .string p.2.1, .int .i64 p.2.2]) ∧ Kp g w w' ∧ PS g b cap T w' (q :: l) d := by
  obtain ⟨⟨pre, a0, e0, e, hb⟩, htr, hne, hle, hmost⟩ := h
  have HB : Hid (Bx w g _) := hb
  have HT : Hid (TR w b T) := htr
  have c0 := hb.c 0 rfl
  have c1 := hb.c 1 rfl
  have z0 := hb.f 0 rfl
  have z1 := hb.f 1 rfl
  have hg := hb.1
  have hbl := htr.1
  obtain ⟨t0, t1, t2⟩ := htr.at e
  have HM : Hid (cap ≤ maxLen) := hmost
  unfold maxLen at hmost
  have hlen : T.length = pre.length + l.length + 2 := by rw [e]; simp <;> omega
  clear hb htr
  go_enter Tryd.func49, Tryd.ntmps49
  go_wp2
  refine bodyPost_ret (v := .agg #[.int .i64 p.1, .string p.2.1, .int .i64 p.2.2]) (by simp [results, Tryd.results49, go_sem]) rfl ⟨rfl, ?_, ?_⟩
  · exact (((Kp.refl g w).set (.inl rfl) _).alloc _).alloc _
  · have q1 := ((HB.out.set1 0 (.slice (some ⟨b, pre.length * 3 + 3, none⟩) (l.length + 1) (cap - pre.length - 1)) (by simp)).alloc (.cells #[.int .i64 p.1, .string p.2.1, .int .i64 p.2.2] 80)).alloc (.cells #[.int .i64 p.1, .string p.2.1, .int .i64 p.2.2] 80)
    refine ⟨⟨pre ++ [p], a0, e0, by rw [e]; simp, ?_⟩, ?_, hne, hle, HM.out⟩
    · rw [show (pre ++ [p]).length * 3 = pre.length * 3 + 3 by simp; omega, show cap - (pre ++ [p]).length = cap - pre.length - 1 by simp; omega]; exact q1
    · exact HT.out.kp ((((Kp.refl g w).set (p := ⟨g, 0, none⟩) (.inl rfl) _).alloc _).alloc _) hne

set_option maxRecDepth 100000 in
set_option maxHeartbeats 4000000 in
theorem next_end (g b cap : Nat) (T : List Tk) (p : Tk) (d : Nat) (w : World) (h : PS g b cap T w [p] d) :
    Calls Tryd.prog 49 #[.pointer (some ⟨g, 0, none⟩)] w fun e w' => e = .returned (.agg #[.int .i64 p.1, .string p.2.1, .int .i64 p.2.2]) ∧ Kp g w w' := by
  have l : List Tk := []
  obtain ⟨⟨pre, a0, e0, e, hb⟩, htr, hne, hle, hmost⟩ := h
  have HB : Hid (Bx w g _) := hb
  have HT : Hid (TR w b T) := htr
  have c0 := hb.c 0 rfl
  have c1 := hb.c 1 rfl
  have z0 := hb.f 0 rfl
  have z1 := hb.f 1 rfl
  have hg := hb.1
  have hbl := htr.1
  obtain ⟨t0, t1, t2⟩ := htr.at e
  have HM : Hid (cap ≤ maxLen) := hmost
  unfold maxLen at hmost
  have hlen : T.length = pre.length + 1 := by rw [e]; simp <;> omega
  clear hb htr
  go_enter Tryd.func49, Tryd.ntmps49
  by_cases hc : cap - pre.length - 1 = 0
  all_goals
    go_wp2
    refine bodyPost_ret (v := .agg #[.int .i64 p.1, .string p.2.1, .int .i64 p.2.2]) (by simp [results, Tryd.results49, go_sem]) rfl ⟨rfl, ?_⟩
    exact (((Kp.refl g w).set (p := ⟨g, 0, none⟩) (.inl rfl) _).alloc _).alloc _


end Go.Proofs.YtcmefhnfdcngfaaDoor
/- slices.Contains of tokens; the parser's is, take, leaf; isFree, isType. -/
namespace Go.Proofs.YtcmefhnfdcngfaaDoor
open Go.RowKit
set_option linter.unusedVariables false

/-- kinds and texts as they lie in memory. -/
def fl2 : List (Int × ByteArray) → List Value
  | [] => []
  | x :: l => .int .i64 x.1 :: .string x.2 :: fl2 l
theorem fl2_at : ∀ (l : List (Int × ByteArray)) (i : Nat) (x : Int × ByteArray), l[i]? = some x → (fl2 l)[i * 2]? = some (.int .i64 x.1) ∧ (fl2 l)[i * 2 + 1]? = some (.string x.2)
  | [], i, x, h => by simp at h
  | y :: l, 0, x, h => by simp at h; subst h; exact ⟨rfl, rfl⟩
  | y :: l, i + 1, x, h => by
    have q := fl2_at l i x (by simpa using h)
    rw [show (i + 1) * 2 = i * 2 + 1 + 1 by omega]
    exact q
/-- is a kind and a text among these? -/
def isZ (k : Int) (t : ByteArray) (Z : List (Int × ByteArray)) : Bool := Z.any fun x => decide (k = x.1 ∧ t = x.2)
theorem isZ_isT (p : Tk) (Z : List (Int × ByteArray)) : isZ p.1 p.2.1 Z = isT p Z := rfl
theorem any_take {k : Int} {t : ByteArray} (Z : List (Int × ByteArray)) {j : Nat} {x : Int × ByteArray} (h : Z[j]? = some x) (h0 : isZ k t (Z.take j) = false) (h1 : ¬ (k = x.1 ∧ t = x.2)) : isZ k t (Z.take (j + 1)) = false := by
  unfold isZ at h0 ⊢
  rw [List.take_add_one, h, List.any_append, h0]; simpa using h1
theorem any_at {k : Int} {t : ByteArray} (Z : List (Int × ByteArray)) {j : Nat} (h : Z[j]? = some (k, t)) : isZ k t Z = true :=
  List.any_eq_true.2 ⟨(k, t), List.mem_of_getElem? h, by simp⟩
theorem BS.drewN {w W : World} {l : List (Nat × List Value)} (h : BS w l W) (n : Nat) : BS w l (W.drewN n) := ⟨⟨h.1.os, h.1.tape, h.1.output, h.1.size, h.1.block⟩, h.2⟩

set_option maxRecDepth 100000 in
set_option maxHeartbeats 4000000 in
theorem index_any (Z : List (Int × ByteArray)) (k : Int) (t : ByteArray) (bs cp : Nat) (w : World) (hz : Z.length ≤ 100) (hcp : cp ≤ 9223372036854775807) (hzc : Z.length ≤ cp) (hbs : bs < w.heap.size) (hc : Hid (∀ i v, (fl2 Z)[i]? = some v → w.cell? ⟨bs, i, none⟩ = some v)) :
    Calls Tryd.prog 64 #[.slice (some ⟨bs, 0, none⟩) Z.length cp, .agg #[.int .i64 k, .string t]] w fun e w' => (∃ i : Int, e = .returned (.int .i64 i) ∧ decide (0 ≤ i) = isZ k t Z) ∧ Below w.heap.size w w' := by
  go_enter Tryd.func64, Tryd.ntmps64
  go_wp2_with fail
  go_loopw [8] (fun i W => ∃ j : Nat, j ≤ Z.length ∧ i = .int .i64 (j : Int) ∧ Hid (BS w [(w.heap.size, [.int .i64 k, .string t])] W) ∧ Hid (isZ k t (Z.take j) = false)) (fun i _ => Z.length - (intOf i).toNat)
  case atStart => exact ⟨0, Nat.zero_le _, rfl, (BS.start w).new [.int .i64 k, .string t] _ rfl, rfl⟩
  case round =>
    obtain ⟨j, hj, rfl, HW, HN⟩ := hrel
    by_cases hlt : j < Z.length
    · have hlt' : (j : Int) < (Z.length : Int) := by omega
      obtain ⟨⟨x1, x2⟩, hx⟩ : ∃ x, Z[j]? = some x := ⟨Z[j]'hlt, List.getElem?_eq_getElem hlt⟩
      obtain ⟨q1, q2⟩ := fl2_at Z j _ hx
      have d1 := (HW.out.1.cell (p := ⟨bs, j * 2, none⟩) hbs).trans (hc.out _ _ q1)
      have d2 := (HW.out.1.cell (p := ⟨bs, j * 2 + 1, none⟩) hbs).trans (hc.out _ _ q2)
      have b1 := HW.out.first.c 0 rfl
      have b2 := HW.out.first.c 1 rfl
      have HX : Hid (Z[j]? = some (x1, x2)) := hx
      have k0 : (0 : Int) ≤ (j : Int) := by omega
      have k1 : (j : Int) ≤ 100 := by omega
      clear q1 q2 hx
      rcases Classical.em (k = x1) with rfl | hk
      · rcases Classical.em (t = x2) with rfl | ht
        · go_wp2_with fail
          go_quiet (fail)
          go_wp2
          go_ret
          exact ⟨⟨_, rfl, by rw [any_at Z HX.out]; simp⟩, (HW.out.drewN _).1⟩
        · have ht2 : (t.toList == x2.toList) = false := by rw [toList_eq]; exact decide_eq_false ht
          go_wp2_with fail
          go_quiet (fail)
          go_wp2
          exact ⟨⟨j + 1, by omega, by simp, HW.out.drewN _, any_take Z HX.out HN.out (fun q => ht q.2)⟩, by simp [intOf]; omega⟩
      · have hk2 : (k == x1) = false := by simpa using hk
        go_wp2_with fail
        go_quiet (fail)
        go_wp2
        exact ⟨⟨j + 1, by omega, by simp, HW.out.drewN _, any_take Z HX.out HN.out (fun q => hk q.1)⟩, by simp [intOf]; omega⟩
    · have hj' : ¬ (j : Int) < (Z.length : Int) := by omega
      obtain rfl : j = Z.length := by omega
      have HN' : Hid (isZ k t Z = false) := by have := HN.out; rwa [List.take_length] at this
      clear HN
      go_wp2
      go_ret
      exact ⟨⟨_, rfl, by rw [HN'.out]; simp⟩, HW.out.1⟩
set_option maxRecDepth 100000 in
set_option maxHeartbeats 4000000 in
theorem contains_any (Z : List (Int × ByteArray)) (k : Int) (t : ByteArray) (bs cp : Nat) (w : World) (hz : Z.length ≤ 100) (hcp : cp ≤ 9223372036854775807) (hzc : Z.length ≤ cp) (hbs : bs < w.heap.size) (hc : Hid (∀ i v, (fl2 Z)[i]? = some v → w.cell? ⟨bs, i, none⟩ = some v)) :
    Calls Tryd.prog 54 #[.slice (some ⟨bs, 0, none⟩) Z.length cp, .agg #[.int .i64 k, .string t]] w fun e w' => e = .returned (.bool (isZ k t Z)) ∧ Below w.heap.size w w' := by
  go_enter Tryd.func54, Tryd.ntmps54
  go_wp2_with fail
  refine (index_any Z k t bs cp _ hz hcp hzc (by simp; omega) (fun i v hv => (((Below.refl w.heap.size w).alloc (Nat.le_refl _) _).cell (p := ⟨bs, i, none⟩) hbs).trans (hc.out i v hv))).mono ?_
  rintro e W ⟨⟨i, rfl, hi⟩, hb⟩
  have HB : Hid (Below w.heap.size w W) := ((Below.refl w.heap.size w).alloc (Nat.le_refl _) _).trans (hb.mono (by simp))
  have HI : Hid _ := hi
  clear hb hi
  go_wp2
  go_ret
  exact ⟨by rw [← HI.out]; rfl, HB.out⟩

set_option maxRecDepth 100000 in
set_option maxHeartbeats 4000000 in
theorem is_any (g b cap : Nat) (T : List Tk) (p : Tk) (l : List Tk) (d : Nat) (Z : List (Int × ByteArray)) (bs cp : Nat) (w : World) (h : PS g b cap T w (p :: l) d) (hz : Z.length ≤ 100) (hcp : cp ≤ 9223372036854775807) (hzc : Z.length ≤ cp) (hbs : Bx w bs (fl2 Z)) :
    Calls Tryd.prog 47 #[.pointer (some ⟨g, 0, none⟩), .slice (some ⟨bs, 0, none⟩) Z.length cp] w fun e w' => e = .returned (.bool (isT p Z)) ∧ Below w.heap.size w w' := by
  obtain ⟨⟨pre, a0, e0, e, hb⟩, htr, hne, hle, hmost⟩ := h
  have HB : Hid (Bx w g _) := hb
  have HT : Hid (TR w b T) := htr
  have c0 := hb.c 0 rfl
  have c1 := hb.c 1 rfl
  have z0 := hb.f 0 rfl
  have z1 := hb.f 1 rfl
  have hg := hb.1
  have hbl := htr.1
  obtain ⟨t0, t1, t2⟩ := htr.at e
  have HM : Hid (cap ≤ maxLen) := hmost
  unfold maxLen at hmost
  have hlen : T.length = pre.length + l.length + 1 := by rw [e]; simp <;> omega
  clear hb htr
  have HS : Hid (Bx w bs (fl2 Z)) := hbs
  have hbs' := hbs.1
  clear hbs
  go_enter Tryd.func47, Tryd.ntmps47
  go_wp2_with fail
  refine (contains_any Z p.1 p.2.1 bs cp _ hz hcp hzc hbs' (fun i v hv => (HS.out.2 i v hv).1)).mono ?_
  rintro e W ⟨rfl, hb⟩
  have HW : Hid (Below w.heap.size w W) := hb
  clear hb
  rw [isZ_isT]
  go_wp2
  go_ret
  exact ⟨rfl, HW.out⟩

set_option maxRecDepth 100000 in
set_option maxHeartbeats 4000000 in
theorem take_yes (g b cap : Nat) (T : List Tk) (p : Tk) (l : List Tk) (d : Nat) (k : Int) (t : ByteArray) (w : World) (q : Tk) (h : PS g b cap T w (p :: q :: l) d) (hi : isT p [(k, t)] = true) :
    Calls Tryd.prog 34 #[.pointer (some ⟨g, 0, none⟩), .agg #[.int .i64 k, .string t]] w fun e w' => e = .returned (.bool true) ∧ Kp g w w' ∧ PS g b cap T w' (q :: l) d := by
  have HP : Hid _ := h
  have hg := h.lt
  clear h
  go_enter Tryd.func34, Tryd.ntmps34
  go_wp2_with fail
  have B1 : Hid (BS w [(w.heap.size + 1, [.int .i64 k, .string t]), (w.heap.size, [.int .i64 k, .string t])] _) := ((BS.start w).new [.int .i64 k, .string t] 78 rfl).new [.int .i64 k, .string t] 78 (by simp)
  refine (is_any g b cap T p _ d [(k, t)] (w.heap.size + 1) 1 _ (HP.out.below B1.out.1) (by simp) (by omega) (by simp) B1.out.first).mono ?_
  rintro e W ⟨rfl, hb⟩
  have HW : Hid (Below w.heap.size w W) := B1.out.1.trans (hb.mono B1.out.1.size)
  have HQ : Hid _ := HP.out.below HW.out
  clear hb B1 HP
  rw [hi]
  go_wp2_with fail
  refine (next_any g b cap T p q l d _ HQ.out).mono ?_
  rintro e V ⟨rfl, hk, hp⟩
  have HK : Hid (Kp g w V) := (Kp.of HW.out).trans hk
  have HV : Hid _ := hp
  clear hk hp
  go_wp2
  go_ret
  exact ⟨rfl, HK.out, HV.out⟩

set_option maxRecDepth 100000 in
set_option maxHeartbeats 4000000 in
theorem take_end (g b cap : Nat) (T : List Tk) (p : Tk) (l : List Tk) (d : Nat) (k : Int) (t : ByteArray) (w : World) (h : PS g b cap T w [p] d) (hi : isT p [(k, t)] = true) :
    Calls Tryd.prog 34 #[.pointer (some ⟨g, 0, none⟩), .agg #[.int .i64 k, .string t]] w fun e w' => e = .returned (.bool true) ∧ Kp g w w' := by
  have HP : Hid _ := h
  have hg := h.lt
  clear h
  go_enter Tryd.func34, Tryd.ntmps34
  go_wp2_with fail
  have B1 : Hid (BS w [(w.heap.size + 1, [.int .i64 k, .string t]), (w.heap.size, [.int .i64 k, .string t])] _) := ((BS.start w).new [.int .i64 k, .string t] 78 rfl).new [.int .i64 k, .string t] 78 (by simp)
  refine (is_any g b cap T p _ d [(k, t)] (w.heap.size + 1) 1 _ (HP.out.below B1.out.1) (by simp) (by omega) (by simp) B1.out.first).mono ?_
  rintro e W ⟨rfl, hb⟩
  have HW : Hid (Below w.heap.size w W) := B1.out.1.trans (hb.mono B1.out.1.size)
  have HQ : Hid _ := HP.out.below HW.out
  clear hb B1 HP
  rw [hi]
  go_wp2_with fail
  refine (next_end g b cap T p d _ HQ.out).mono ?_
  rintro e V ⟨rfl, hk⟩
  have HK : Hid (Kp g w V) := (Kp.of HW.out).trans hk
  clear hk
  go_wp2
  go_ret
  exact ⟨rfl, HK.out⟩

set_option maxRecDepth 100000 in
set_option maxHeartbeats 4000000 in
theorem take_no (g b cap : Nat) (T : List Tk) (p : Tk) (l : List Tk) (d : Nat) (k : Int) (t : ByteArray) (w : World) (h : PS g b cap T w (p :: l) d) (hi : isT p [(k, t)] = false) :
    Calls Tryd.prog 34 #[.pointer (some ⟨g, 0, none⟩), .agg #[.int .i64 k, .string t]] w fun e w' => e = .returned (.bool false) ∧ Kp g w w' ∧ PF g w' d p.2.2 30 := by
  have HP : Hid _ := h
  have hg := h.lt
  clear h
  go_enter Tryd.func34, Tryd.ntmps34
  go_wp2_with fail
  have B1 : Hid (BS w [(w.heap.size + 1, [.int .i64 k, .string t]), (w.heap.size, [.int .i64 k, .string t])] _) := ((BS.start w).new [.int .i64 k, .string t] 78 rfl).new [.int .i64 k, .string t] 78 (by simp)
  refine (is_any g b cap T p _ d [(k, t)] (w.heap.size + 1) 1 _ (HP.out.below B1.out.1) (by simp) (by omega) (by simp) B1.out.first).mono ?_
  rintro e W ⟨rfl, hb⟩
  have HW : Hid (Below w.heap.size w W) := B1.out.1.trans (hb.mono B1.out.1.size)
  have HQ : Hid _ := HP.out.below HW.out
  clear hb B1 HP
  rw [hi]
  go_wp2_with fail
  refine (wrong_any g b cap T p l d _ HQ.out).mono ?_
  rintro e V ⟨rfl, hk, hp⟩
  have HK : Hid (Kp g w V) := (Kp.of HW.out).trans hk
  have HV : Hid _ := hp
  clear hk hp
  go_wp2
  go_ret
  exact ⟨rfl, HK.out, HV.out⟩


end Go.Proofs.YtcmefhnfdcngfaaDoor
