/- ExprPlaces: every place that Parse names is within the text, or at its end. -/
import Derived.Test.YtmlgfjkndnjocaaDoorExKnq
namespace Go.Proofs.YtmlgfjkndnjocaaDoor
open Go.RowKit
set_option linter.unusedVariables false

set_option maxRecDepth 100000 in
set_option maxHeartbeats 8000000 in
theorem places_bad (s : ByteArray) (hs : s.size ≤ 140737488351232) (A E : Int) (h0 : 0 ≤ A) (h1 : A ≤ (s.size : Int)) (h2 : E = 21 → A < (s.size : Int)) (h3 : E ≠ 0) (w : World) (hGl : Gl w)
    (hC : Calls Tryd.prog 8 #[.string s] w fun e w' => Below w.heap.size w w' ∧ e = .returned (.tuple #[.agg #[.int .i64 0, .string ⟨#[]⟩, .slice none 0 0, .int .i64 0], .int .i64 A, .int .i64 E])) :
    Calls Tryd.prog 6 #[.string s] w fun e w' => e = .returned (.bool true) ∧ Below w.heap.size w w' := by
  have HG : Hid (Gl w) := hGl
  have HC : Hid (Calls Tryd.prog 8 #[.string s] w fun e w' => Below w.heap.size w w' ∧ e = .returned (.tuple #[.agg #[.int .i64 0, .string ⟨#[]⟩, .slice none 0 0, .int .i64 0], .int .i64 A, .int .i64 E])) := hC
  have hsI : (s.size : Int) ≤ 140737488351232 := by omega
  have g3 : (E == 0) = false := by simpa using h3
  clear hGl hC
  rcases Classical.em (E = 21) with rfl | h21
  · have hlt := h2 rfl
    clear h2
    go_enter Tryd.func6, Tryd.ntmps6
    go_wp2_with fail
    refine HC.out.mono ?_
    rintro e V ⟨hb, rfl⟩
    have HB : Hid (Below w.heap.size w (V.alloc (.cells [.int .i64 0, .string ⟨#[]⟩, .slice none 0 0, .int .i64 0].toArray 24))) := hb.alloc hb.size _
    clear hb HC
    go_wp2_with fail
    refine (known22_any _ (HG.out.below HB.out)).mono ?_
    rintro e U ⟨rfl, hk⟩
    have HF : Hid (Below w.heap.size w U) := HB.out.trans (hk.mono HB.out.size)
    clear hk HB
    go_wp2
    go_ret
    exact ⟨rfl, HF.out⟩
  · have g21 : (E == 21) = false := by simpa using h21
    clear h2
    go_enter Tryd.func6, Tryd.ntmps6
    go_wp2_with fail
    refine HC.out.mono ?_
    rintro e V ⟨hb, rfl⟩
    have HB : Hid (Below w.heap.size w (V.alloc (.cells [.int .i64 0, .string ⟨#[]⟩, .slice none 0 0, .int .i64 0].toArray 24))) := hb.alloc hb.size _
    clear hb HC
    go_wp2_with fail
    refine (known22_any _ (HG.out.below HB.out)).mono ?_
    rintro e U ⟨rfl, hk⟩
    have HF : Hid (Below w.heap.size w U) := HB.out.trans (hk.mono HB.out.size)
    clear hk HB
    go_wp2
    go_ret
    exact ⟨rfl, HF.out⟩

set_option maxRecDepth 100000 in
set_option maxHeartbeats 8000000 in
theorem places_good (s : ByteArray) (hs : s.size ≤ 2048) (n : Nd) (hp : parseB s = .inr n) (hn : PlN (Wi s) n) (w : World) (hGl : Gl w) :
    Calls Tryd.prog 6 #[.string s] w fun e w' => e = .returned (.bool true) ∧ Below w.heap.size w w' := by
  have HG : Hid (Gl w) := hGl
  have HP : Hid _ := hp
  have HN : Hid _ := hn
  have hsI : (s.size : Int) ≤ 2048 := by omega
  clear hGl hp hn
  go_enter Tryd.func6, Tryd.ntmps6
  go_wp2_with fail
  refine (parse_node HP.out w HG.out hs).mono ?_
  rintro e V ⟨hb, k, t, sq, sn, sc, a, rfl, hnd⟩
  have HB : Hid (Below w.heap.size w V) := hb
  have HA : Hid (Below V.heap.size V (V.alloc (.cells [.int .i64 k, .string t, .slice sq sn sc, .int .i64 a].toArray 24))) := (Below.refl _ V).alloc (Nat.le_refl _) _
  have HD : Hid _ := hnd
  clear hb hnd
  go_wp2_with fail
  refine (inside_any (s.size : Int) n HN.out (fun c => w.heap.size < c) _ _ _ _ _ (HD.out.below HA.out)).mono ?_
  rintro e U ⟨rfl, hk⟩
  have HU : Hid (Below w.heap.size w U) := (HB.out.trans (HA.out.mono HB.out.size)).trans (hk.mono (Nat.le_trans HB.out.size HA.out.size))
  clear hk HA HD HB
  go_wp2_with fail
  refine (known22_any _ (HG.out.below HU.out)).mono ?_
  rintro e U2 ⟨rfl, hk⟩
  have HF : Hid (Below w.heap.size w U2) := HU.out.trans (hk.mono HU.out.size)
  clear hk HU
  go_wp2
  go_ret
  exact ⟨rfl, HF.out⟩

theorem places_any (s : ByteArray) (hs : s.size ≤ 140737488351232) (w : World) (hGl : Gl w) :
    Calls Tryd.prog 6 #[.string s] w fun e w' => e = .returned (.bool true) ∧ Below w.heap.size w w' := by
  by_cases h : s.size ≤ 2048
  · have q := parse_pl s h
    cases hp : parseB s with
    | inl x =>
      rw [hp] at q
      obtain ⟨q1, q2, q3⟩ := q
      refine places_bad s hs x.1 x.2 q1.1 q1.2 (fun h => (q2 h).2) q3 w hGl ?_
      have := parse_gl s w hGl h
      rw [hp] at this
      exact this
    | inr n =>
      rw [hp] at q
      exact places_good s h n hp q w hGl
  · exact places_bad s hs 0 3 (by omega) (by omega) (by omega) (by omega) w hGl (parse_long s w (by unfold maxLen; omega) h)

end Go.Proofs.YtmlgfjkndnjocaaDoor
