import Derived.Test.YtcmefhnfdcngfaaDoorO10
import Derived.Test.YtcmefhnfdcngfaaDoorO0
import Derived.Test.YtcmefhnfdcngfaaDoorO8
import Derived.WalkKit
import Derived.ProofKit
import Derived.Deep.Cut
import Derived.Deep.CutRange
import Derived.Deep.DeepCutAuto
/- The reference's table of kinds in memory; its rows are the program's: mathematics of KindOne. -/
namespace Go.Proofs.YtcmefhnfdcngfaaDoor
open Go.RowKit
set_option linter.unusedVariables false

theorem rtb_nodup : (rtb.map (fun x => (x.1, x.2.1))).Nodup := by decide +kernel
theorem rtb_find : rtb.all (fun x => decide (finF x.1 x.2.1 = some x.2.2)) = true := by decide +kernel
theorem rtb_small : rtb.all (fun x => decide (x.2.1.length ≤ 4 ∧ 1 ≤ x.2.1.length)) = true := by decide +kernel
theorem rtb_apart {i j : Nat} {x y : ByteArray × List Int × Int} (hx : rtb[i]? = some x) (hy : rtb[j]? = some y) (hij : i ≠ j) : x.1 = y.1 → x.2.1 ≠ y.2.1 := by
  intro h1 h2
  have hi := (List.getElem?_eq_some_iff.1 hx)
  have hj := (List.getElem?_eq_some_iff.1 hy)
  obtain ⟨hi1, hi2⟩ := hi
  obtain ⟨hj1, hj2⟩ := hj
  apply hij
  have hn := rtb_nodup
  refine (List.getElem_inj (xs := rtb.map (fun x => (x.1, x.2.1))) (h₀ := by simpa using hi1) (h₁ := by simpa using hj1) hn).1 ?_
  simp only [List.getElem_map, hi2, hj2, h1, h2]
theorem rtb_got {i : Nat} {x : ByteArray × List Int × Int} (hx : rtb[i]? = some x) : finF x.1 x.2.1 = some x.2.2 ∧ x.2.1.length ≤ 4 ∧ 1 ≤ x.2.1.length := by
  have h1 := List.all_eq_true.1 rtb_find x (List.mem_of_getElem? hx)
  have h2 := List.all_eq_true.1 rtb_small x (List.mem_of_getElem? hx)
  exact ⟨of_decide_eq_true h1, of_decide_eq_true h2⟩
theorem rtC_at (s : Nat) : ∀ (l : List (ByteArray × List Int × Int)) (j i : Nat) (x : ByteArray × List Int × Int), l[i]? = some x → (rtC s l j)[i * 3]? = some (.string x.1) ∧ (rtC s l j)[i * 3 + 1]? = some (.slice (some ⟨s + (j + i), 0, none⟩) x.2.1.length x.2.1.length) ∧ (rtC s l j)[i * 3 + 2]? = some (.int .i64 x.2.2)
  | [], j, i, x, h => by simp at h
  | y :: l, j, 0, x, h => by simp at h; subst h; exact ⟨rfl, rfl, rfl⟩
  | y :: l, j, i + 1, x, h => by
    have q := rtC_at s l (j + 1) i x (by simpa using h)
    rw [show (i + 1) * 3 = i * 3 + 1 + 1 + 1 by omega]
    simp only [rtC, List.getElem?_cons_succ]
    rw [show j + (i + 1) = j + 1 + i by omega]
    exact q
theorem rtW_low : ∀ (l : List (ByteArray × List Int × Int)) (w : World), Below w.heap.size w (rtW w l) ∧ (rtW w l).heap.size = w.heap.size + l.length
  | [], w => ⟨Below.refl _ _, rfl⟩
  | x :: l, w => by
    have q := rtW_low l (w.alloc (.cells (x.2.1.map (fun k => Value.int .i64 k)).toArray 3))
    have b : Below w.heap.size w (w.alloc (.cells (x.2.1.map (fun k => Value.int .i64 k)).toArray 3)) := (Below.refl _ w).alloc (Nat.le_refl _) _
    refine ⟨b.trans (q.1.mono b.size), ?_⟩
    rw [show rtW w (x :: l) = rtW (w.alloc (.cells (x.2.1.map (fun k => Value.int .i64 k)).toArray 3)) l from rfl, q.2]
    simp; omega
theorem rtW_cell : ∀ (l : List (ByteArray × List Int × Int)) (w : World) (i m : Nat) (x : ByteArray × List Int × Int) (k : Int), l[i]? = some x → x.2.1[m]? = some k → (rtW w l).cell? ⟨w.heap.size + i, m, none⟩ = some (.int .i64 k)
  | [], w, i, m, x, k, h, hk => by simp at h
  | y :: l, w, 0, m, x, k, h, hk => by
    simp at h; subst h
    have q := (rtW_low l (w.alloc (.cells (y.2.1.map (fun k => Value.int .i64 k)).toArray 3))).1
    have b := Bx.new w (y.2.1.map (fun k => Value.int .i64 k)) 3
    show (rtW (w.alloc (.cells (y.2.1.map (fun k => Value.int .i64 k)).toArray 3)) l).cell? ⟨w.heap.size + 0, m, none⟩ = _
    rw [Nat.add_zero, q.cell (p := ⟨w.heap.size, m, none⟩) b.1]
    exact b.c m (by rw [List.getElem?_map, hk]; rfl)
  | y :: l, w, i + 1, m, x, k, h, hk => by
    have q := rtW_cell l (w.alloc (.cells (y.2.1.map (fun k => Value.int .i64 k)).toArray 3)) i m x k (by simpa using h) hk
    rw [show (w.alloc (.cells (y.2.1.map (fun k => Value.int .i64 k)).toArray 3)).heap.size + i = w.heap.size + (i + 1) by simp; omega] at q
    exact q
/-- the reference's table lies in memory. -/
structure TB (w W : World) : Prop where
  low : Below w.heap.size w W
  hi : w.heap.size + 90 < W.heap.size
  tab : ∀ i x, rtb[i]? = some x → W.cell? ⟨w.heap.size + 90, i * 3, none⟩ = some (.string x.1) ∧ W.cell? ⟨w.heap.size + 90, i * 3 + 1, none⟩ = some (.slice (some ⟨w.heap.size + i, 0, none⟩) x.2.1.length x.2.1.length) ∧ W.cell? ⟨w.heap.size + 90, i * 3 + 2, none⟩ = some (.int .i64 x.2.2) ∧ ∀ m k, x.2.1[m]? = some k → W.cell? ⟨w.heap.size + i, m, none⟩ = some (.int .i64 k)
theorem TB.below {w W V : World} (h : TB w W) (hb : Below W.heap.size W V) : TB w V :=
  ⟨h.low.trans (hb.mono h.low.size), Nat.lt_of_lt_of_le h.hi hb.size, fun i x hx => by
    obtain ⟨q1, q2, q3, q4⟩ := h.tab i x hx
    have hi := (List.getElem?_eq_some_iff.1 hx).1
    rw [rtb_len] at hi
    have hz := h.hi
    exact ⟨(hb.cell (p := ⟨w.heap.size + 90, i * 3, none⟩) hz).trans q1, (hb.cell (p := ⟨w.heap.size + 90, i * 3 + 1, none⟩) hz).trans q2, (hb.cell (p := ⟨w.heap.size + 90, i * 3 + 2, none⟩) hz).trans q3, fun m k hk => (hb.cell (p := ⟨w.heap.size + i, m, none⟩) (by show w.heap.size + i < _; omega)).trans (q4 m k hk)⟩⟩
theorem TB.new (w : World) (t : TypeId) : TB w ((rtW w rtb).alloc (.cells (rtC w.heap.size rtb 0).toArray t)) := by
  obtain ⟨q1, q2⟩ := rtW_low rtb w
  rw [rtb_len] at q2
  have b := Bx.new (rtW w rtb) (rtC w.heap.size rtb 0) t
  rw [q2] at b
  have hal : Below (rtW w rtb).heap.size (rtW w rtb) ((rtW w rtb).alloc (.cells (rtC w.heap.size rtb 0).toArray t)) := (Below.refl _ _).alloc (Nat.le_refl _) _
  refine ⟨q1.trans (hal.mono q1.size), b.1, fun i x hx => ?_⟩
  obtain ⟨r1, r2, r3⟩ := rtC_at w.heap.size rtb 0 i x hx
  rw [Nat.zero_add] at r2
  have hi := (List.getElem?_eq_some_iff.1 hx).1
  rw [rtb_len] at hi
  exact ⟨b.c _ r1, b.c _ r2, b.c _ r3, fun m k hk => (hal.cell (p := ⟨w.heap.size + i, m, none⟩) (by rw [q2]; show w.heap.size + i < _; omega)).trans (rtW_cell rtb w i m x k hx hk)⟩

end Go.Proofs.YtcmefhnfdcngfaaDoor
/- The parser's small methods: fail, wrong, next, is, take, leaf. -/
namespace Go.Proofs.YtcmefhnfdcngfaaDoor
open Go.RowKit
set_option linter.unusedVariables false

set_option maxRecDepth 100000 in
set_option maxHeartbeats 4000000 in
theorem fail_any (g : Nat) (left : Value) (d : Nat) (a0 e0 a er : Int) (w : World) (hb : Bx w g [left, .int .i64 (d : Int), .int .i64 a0, .int .i64 e0]) :
    Calls Tryd.prog 55 #[.pointer (some ⟨g, 0, none⟩), .int .i64 a, .int .i64 er] w fun e w' => e = .returned (.tuple #[.agg #[.int .i64 0, .string ⟨#[]⟩, .slice none 0 0, .int .i64 0], .bool false]) ∧ Kp g w w' ∧ Bx w' g [left, .int .i64 (d : Int), .int .i64 a, .int .i64 er] := by
  have c2 := hb.c 2 rfl
  have c3 := hb.c 3 rfl
  have z2 := hb.f 2 rfl
  have z3 := hb.f 3 rfl
  have hg := hb.1
  have HB : Hid (Bx w g [left, .int .i64 (d : Int), .int .i64 a0, .int .i64 e0]) := hb
  clear hb
  go_enter Tryd.func55, Tryd.ntmps55
  go_wp2
  refine bodyPost_ret (v := .tuple #[.agg #[.int .i64 0, .string ⟨#[]⟩, .slice none 0 0, .int .i64 0], .bool false]) (by simp [results, Tryd.results55, go_sem]) rfl ⟨rfl, ?_, ?_⟩
  · exact (((Kp.refl g w).set (.inl rfl) _).set (.inl rfl) _).alloc _
  · exact (((HB.out.set1 2 _ (by simp)).set1 3 _ (by simp)).alloc _)

set_option maxRecDepth 100000 in
set_option maxHeartbeats 4000000 in
theorem wrong_any (g b cap : Nat) (T : List Tk) (p : Tk) (l : List Tk) (d : Nat) (w : World) (h : PS g b cap T w (p :: l) d) :
    Calls Tryd.prog 48 #[.pointer (some ⟨g, 0, none⟩)] w fun e w' => e = .returned (.tuple #[.agg #[.int .i64 0, .string ⟨#[]⟩, .slice none 0 0, .int .i64 0], .bool false]) ∧ Kp g w w' ∧ PF g w' d p.2.2 30 := by
  obtain ⟨⟨pre, a0, e0, e, hb⟩, htr, hne, hle, hmost⟩ := h
  have HB : Hid (Bx w g _) := hb
  have HT : Hid (TR w b T) := htr
  have c0 := hb.c 0 rfl
  have c1 := hb.c 1 rfl
  have z0 := hb.f 0 rfl
  have z1 := hb.f 1 rfl
  have hg := hb.1
  have hbl := htr.1
  obtain ⟨t0, t1, t2⟩ := htr.at e
  have HM : Hid (cap ≤ maxLen) := hmost
  unfold maxLen at hmost
  have hlen : T.length = pre.length + l.length + 1 := by rw [e]; simp <;> omega
  clear hb htr
  go_enter Tryd.func48, Tryd.ntmps48
  go_wp2_with fail
  refine (fail_any g _ d a0 e0 p.2.2 30 _ (HB.out.alloc _)).mono ?_
  rintro e W ⟨rfl, hk, hx⟩
  have HK : Hid (Kp g w W) := ((Kp.refl g w).alloc _).trans hk
  have HX : Hid (Bx W w.heap.size _) := hk.bx (Bx.new w [.int .i64 0, .string ⟨#[]⟩, .slice none 0 0, .int .i64 0] _) (by omega)
  have HP : Hid (Bx W g _) := hx
  clear hk hx
  obtain ⟨FK, FB, FO, FS⟩ := fin4 [] (.int .i64 0) (.string ⟨#[]⟩) (.slice none 0 0) (.int .i64 0) HK.out (by omega) (HX.out)
  have y0' := FB.c 0 rfl
  have y1' := FB.c 1 rfl
  have y2' := FB.c 2 rfl
  have y3' := FB.c 3 rfl
  simp only [List.foldl, World.setCells, Nat.zero_add, Nat.reduceAdd] at y0' y1' y2' y3'
  have HFK : Hid _ := FK
  have HFO : Hid _ := FO
  have HFS : Hid _ := FS
  clear FK FB FO FS
  have r0 := (HX.out).c 0 rfl
  have r1 := (HX.out).c 1 rfl
  have r2 := (HX.out).c 2 rfl
  have r3 := (HX.out).c 3 rfl
  have s0 := (HX.out).f 0 rfl
  have s1 := (HX.out).f 1 rfl
  have s2 := (HX.out).f 2 rfl
  have s3 := (HX.out).f 3 rfl
  have hrw' := (HX.out).1
  go_wp2
  refine bodyPost_ret (v := .tuple #[.agg #[.int .i64 0, .string ⟨#[]⟩, .slice none 0 0, .int .i64 0], .bool false]) (by simp [results, Tryd.results48, go_sem, y0', y1', y2', y3']) rfl ⟨rfl, HFK.out, PF.off ⟨_, HP.out, rfl⟩ HFO.out HFS.out (by omega)⟩

set_option maxRecDepth 100000 in
set_option maxHeartbeats 4000000 in
theorem next_any (g b cap : Nat) (T : List Tk) (p q : Tk) (l : List Tk) (d : Nat) (w : World) (h : PS g b cap T w (p :: q :: l) d) :
    Calls Tryd.prog 49 #[.pointer (some ⟨g, 0, none⟩)] w fun e w' => e = .returned (.agg #[.int .i64 p.1, .string p.2.1, .int .i64 p.2.2]) ∧ Kp g w w' ∧ PS g b cap T w' (q :: l) d := by
  obtain ⟨⟨pre, a0, e0, e, hb⟩, htr, hne, hle, hmost⟩ := h
  have HB : Hid (Bx w g _) := hb
  have HT : Hid (TR w b T) := htr
  have c0 := hb.c 0 rfl
  have c1 := hb.c 1 rfl
  have z0 := hb.f 0 rfl
  have z1 := hb.f 1 rfl
  have hg := hb.1
  have hbl := htr.1
  obtain ⟨t0, t1, t2⟩ := htr.at e
  have HM : Hid (cap ≤ maxLen) := hmost
  unfold maxLen at hmost
  have hlen : T.length = pre.length + l.length + 2 := by rw [e]; simp <;> omega
  clear hb htr
  go_enter Tryd.func49, Tryd.ntmps49
  go_wp2
  refine bodyPost_ret (v := .agg #[.int .i64 p.1, .string p.2.1, .int .i64 p.2.2]) (by simp [results, Tryd.results49, go_sem]) rfl ⟨rfl, ?_, ?_⟩
  · exact (((Kp.refl g w).set (.inl rfl) _).alloc _).alloc _
  · have q1 := ((HB.out.set1 0 (.slice (some ⟨b, pre.length * 3 + 3, none⟩) (l.length + 1) (cap - pre.length - 1)) (by simp)).alloc (.cells #[.int .i64 p.1, .string p.2.1, .int .i64 p.2.2] 80)).alloc (.cells #[.int .i64 p.1, .string p.2.1, .int .i64 p.2.2] 80)
    refine ⟨⟨pre ++ [p], a0, e0, by rw [e]; simp, ?_⟩, ?_, hne, hle, HM.out⟩
    · rw [show (pre ++ [p]).length * 3 = pre.length * 3 + 3 by simp; omega, show cap - (pre ++ [p]).length = cap - pre.length - 1 by simp; omega]; exact q1
    · exact HT.out.kp ((((Kp.refl g w).set (p := ⟨g, 0, none⟩) (.inl rfl) _).alloc _).alloc _) hne

set_option maxRecDepth 100000 in
set_option maxHeartbeats 4000000 in
theorem next_end (g b cap : Nat) (T : List Tk) (p : Tk) (d : Nat) (w : World) (h : PS g b cap T w [p] d) :
    Calls Tryd.prog 49 #[.pointer (some ⟨g, 0, none⟩)] w fun e w' => e = .returned (.agg #[.int .i64 p.1, .string p.2.1, .int .i64 p.2.2]) ∧ Kp g w w' := by
  have l : List Tk := []
  obtain ⟨⟨pre, a0, e0, e, hb⟩, htr, hne, hle, hmost⟩ := h
  have HB : Hid (Bx w g _) := hb
  have HT : Hid (TR w b T) := htr
  have c0 := hb.c 0 rfl
  have c1 := hb.c 1 rfl
  have z0 := hb.f 0 rfl
  have z1 := hb.f 1 rfl
  have hg := hb.1
  have hbl := htr.1
  obtain ⟨t0, t1, t2⟩ := htr.at e
  have HM : Hid (cap ≤ maxLen) := hmost
  unfold maxLen at hmost
  have hlen : T.length = pre.length + 1 := by rw [e]; simp <;> omega
  clear hb htr
  go_enter Tryd.func49, Tryd.ntmps49
  by_cases hc : cap - pre.length - 1 = 0
  all_goals
    go_wp2
    refine bodyPost_ret (v := .agg #[.int .i64 p.1, .string p.2.1, .int .i64 p.2.2]) (by simp [results, Tryd.results49, go_sem]) rfl ⟨rfl, ?_⟩
    exact (((Kp.refl g w).set (p := ⟨g, 0, none⟩) (.inl rfl) _).alloc _).alloc _


end Go.Proofs.YtcmefhnfdcngfaaDoor
