/- isFree, isType; the parser's leaf, op, deeper, ahead, over any steps. -/
import Derived.Test.YtaoocecipacnhaaDoorExIq
namespace Go.Proofs.YtaoocecipacnhaaDoor
open Go.RowKit
set_option linter.unusedVariables false

set_option maxRecDepth 100000 in
set_option maxHeartbeats 4000000 in
theorem isType_any (t : ByteArray) (w : World) :
    Calls Tryd.prog 100 #[.string t] w fun e w' => e = .returned (.bool (typB t)) ∧ w' = w := by
  have e1 : (t.toList == [100, 97, 116, 101]) = decide (t = dateB) := by rw [← toList_eq t dateB, Lib.toList_data dateB]; rfl
  have e2 : (t.toList == [116, 105, 109, 101, 115, 116, 97, 109, 112]) = decide (t = stampB) := by rw [← toList_eq t stampB, Lib.toList_data stampB]; rfl
  have e3 : (t.toList == [116, 105, 109, 101, 115, 116, 97, 109, 112, 116, 122]) = decide (t = tzB) := by rw [← toList_eq t tzB, Lib.toList_data tzB]; rfl
  have e4 : (t.toList == [105, 110, 116, 101, 114, 118, 97, 108]) = decide (t = ivB) := by rw [← toList_eq t ivB, Lib.toList_data ivB]; rfl
  unfold typB
  generalize hb1 : decide (t = dateB) = b1 at *
  generalize hb2 : decide (t = stampB) = b2 at *
  generalize hb3 : decide (t = tzB) = b3 at *
  generalize hb4 : decide (t = ivB) = b4 at *
  clear hb1 hb2 hb3 hb4
  cases b1 <;> cases b2 <;> cases b3 <;> cases b4
  all_goals
    go_enter Tryd.func100, Tryd.ntmps100
    go_wp2
    go_ret
    exact ⟨rfl, rfl⟩

set_option maxRecDepth 100000 in
set_option maxHeartbeats 4000000 in
theorem isFree_any (k : Int) (t : ByteArray) (a : Int) (w : World) :
    Calls Tryd.prog 96 #[.agg #[.int .i64 k, .string t]] w fun e w' => e = .returned (.bool (free (k, t, a))) ∧ Below w.heap.size w w' := by
  have e0 : (t.toList == [116, 114, 117, 101]) = decide (t = trueB) := by rw [← toList_eq t trueB, Lib.toList_data trueB]; rfl
  have e1 : (t.toList == [102, 97, 108, 115, 101]) = decide (t = falseB) := by rw [← toList_eq t falseB, Lib.toList_data falseB]; rfl
  have e2 : (t.toList == [110, 111, 116]) = decide (t = notB) := by rw [← toList_eq t notB, Lib.toList_data notB]; rfl
  have e3 : (t.toList == [97, 110, 100]) = decide (t = andB) := by rw [← toList_eq t andB, Lib.toList_data andB]; rfl
  have e4 : (t.toList == [111, 114]) = decide (t = orB) := by rw [← toList_eq t orB, Lib.toList_data orB]; rfl
  have e5 : (t.toList == [97, 116]) = decide (t = atB) := by rw [← toList_eq t atB, Lib.toList_data atB]; rfl
  have e6 : (t.toList == [116, 105, 109, 101]) = decide (t = timeB) := by rw [← toList_eq t timeB, Lib.toList_data timeB]; rfl
  have e7 : (t.toList == [122, 111, 110, 101]) = decide (t = zoneB) := by rw [← toList_eq t zoneB, Lib.toList_data zoneB]; rfl
  have HB : Hid (Below w.heap.size w (w.alloc (.cells #[.int .i64 k, .string t] 79))) := (Below.refl _ _).alloc (Nat.le_refl _) _
  have hk : (k == 4) = decide (k = 4) := rfl
  unfold free rsvd
  dsimp only
  generalize hbk : decide (k = 4) = bk at *
  clear hbk
  generalize hb0 : decide (t = trueB) = b0 at *
  clear hb0
  generalize hb1 : decide (t = falseB) = b1 at *
  clear hb1
  generalize hb2 : decide (t = notB) = b2 at *
  clear hb2
  generalize hb3 : decide (t = andB) = b3 at *
  clear hb3
  generalize hb4 : decide (t = orB) = b4 at *
  clear hb4
  generalize hb5 : decide (t = atB) = b5 at *
  clear hb5
  generalize hb6 : decide (t = timeB) = b6 at *
  clear hb6
  generalize hb7 : decide (t = zoneB) = b7 at *
  clear hb7
  cases bk
  all_goals
    cases b0
    rotate_left
    · go_enter Tryd.func96, Tryd.ntmps96
      go_wp2
      go_ret
      exact ⟨rfl, HB.out⟩
    cases b1
    rotate_left
    · go_enter Tryd.func96, Tryd.ntmps96
      go_wp2
      go_ret
      exact ⟨rfl, HB.out⟩
    cases b2
    rotate_left
    · go_enter Tryd.func96, Tryd.ntmps96
      go_wp2
      go_ret
      exact ⟨rfl, HB.out⟩
    cases b3
    rotate_left
    · go_enter Tryd.func96, Tryd.ntmps96
      go_wp2
      go_ret
      exact ⟨rfl, HB.out⟩
    cases b4
    rotate_left
    · go_enter Tryd.func96, Tryd.ntmps96
      go_wp2
      go_ret
      exact ⟨rfl, HB.out⟩
    cases b5
    rotate_left
    · go_enter Tryd.func96, Tryd.ntmps96
      go_wp2
      go_ret
      exact ⟨rfl, HB.out⟩
    cases b6
    rotate_left
    · go_enter Tryd.func96, Tryd.ntmps96
      go_wp2
      go_ret
      exact ⟨rfl, HB.out⟩
    cases b7
    rotate_left
    · go_enter Tryd.func96, Tryd.ntmps96
      go_wp2
      go_ret
      exact ⟨rfl, HB.out⟩
    go_enter Tryd.func96, Tryd.ntmps96
    go_wp2
    go_ret
    exact ⟨rfl, HB.out⟩

set_option maxRecDepth 100000 in
set_option maxHeartbeats 4000000 in
theorem leaf_any (g b cap : Nat) (T : List Tk) (p q : Tk) (l : List Tk) (d : Nat) (k : Int) (w : World) (h : PS g b cap T w (p :: q :: l) d) :
    Calls Tryd.prog 97 #[.pointer (some ⟨g, 0, none⟩), .int .i64 k] w fun e w' => e = .returned (.tuple #[.agg #[.int .i64 k, .string p.2.1, .slice none 0 0, .int .i64 p.2.2], .bool true]) ∧ Kp g w w' ∧ PS g b cap T w' (q :: l) d := by
  have HP : Hid _ := h
  have hg := h.lt
  have hbl := h.tr.1
  clear h
  go_enter Tryd.func97, Tryd.ntmps97
  go_wp2_with fail
  have B1 : Hid (BS w [(w.heap.size, [.int .i64 0, .string ⟨#[]⟩, .slice none 0 0, .int .i64 0])] _) := ((BS.start w).new [.int .i64 0, .string ⟨#[]⟩, .slice none 0 0, .int .i64 0] 24 rfl)
  refine (next_any g b cap T p q l d _ (HP.out.below B1.out.1)).mono ?_
  rintro e W ⟨rfl, hk, hp⟩
  have HK : Hid (Kp g w W) := (Kp.of B1.out.1).trans hk
  have HR : Hid (Bx W w.heap.size _) := hk.bx B1.out.first (by omega)
  have HQ : Hid _ := hp
  clear hk hp HP B1
  have hrw := HR.out.1
  obtain ⟨FK, FB, FO, FS⟩ := fin4 [.cells #[.int .i64 p.1, .string p.2.1, .int .i64 p.2.2] 81] (.int .i64 k) (.string p.2.1) (.slice none 0 0) (.int .i64 p.2.2) HK.out (by omega) (HR.out)
  have y0' := FB.c 0 rfl
  have y1' := FB.c 1 rfl
  have y2' := FB.c 2 rfl
  have y3' := FB.c 3 rfl
  simp only [List.foldl, World.setCells, Nat.zero_add, Nat.reduceAdd] at y0' y1' y2' y3'
  have HFK : Hid _ := FK
  have HFO : Hid _ := FO
  have HFS : Hid _ := FS
  clear FK FB FO FS
  have r0 := (HR.out).c 0 rfl
  have r1 := (HR.out).c 1 rfl
  have r2 := (HR.out).c 2 rfl
  have r3 := (HR.out).c 3 rfl
  have s0 := (HR.out).f 0 rfl
  have s1 := (HR.out).f 1 rfl
  have s2 := (HR.out).f 2 rfl
  have s3 := (HR.out).f 3 rfl
  have hrw' := (HR.out).1
  go_wp2
  refine bodyPost_ret (v := .tuple #[.agg #[.int .i64 k, .string p.2.1, .slice none 0 0, .int .i64 p.2.2], .bool true]) (by simp [results, Tryd.results97, go_sem, y0', y1', y2', y3']) rfl ⟨rfl, HFK.out, HQ.out.off HFO.out HFS.out (by omega) (by omega)⟩


end Go.Proofs.YtaoocecipacnhaaDoor
