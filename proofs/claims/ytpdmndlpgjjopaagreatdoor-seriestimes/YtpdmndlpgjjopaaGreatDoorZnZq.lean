/- zone.Instant. -/
import Derived.Test.YtpdmndlpgjjopaaGreatDoorZnYq
namespace Go.Proofs.YtpdmndlpgjjopaaGreatDoor
open Go.RowKit Sr
set_option linter.unusedVariables false

/-- what the groups say: the instant, and how often. -/
def inV (g : Zm.Gr × Zm.Gr) : Int := if g.2.n = 0 then g.1.l else g.2.f
def inH (g : Zm.Gr × Zm.Gr) : Int := if g.2.n = 0 then 2 else if g.2.n = 1 then 0 else 1

set_option maxRecDepth 100000 in
set_option maxHeartbeats 8000000 in
theorem zin_yes (T : List Value) (hT : T.length = 25) (x : Int) (y1 : -1000000000000000 ≤ x) (y2 : x ≤ 1000000000000000) (g : Zm.Gr × Zm.Gr) (w : World) (RT : Hid (∀ W : World, Below w.heap.size w W → Calls Tryz.prog 16 #[.agg T.toArray] W fun r w' => r = .returned (.bool true) ∧ Below W.heap.size W w'))
    (A1 : Hid (∀ W : World, Below w.heap.size w W → Calls Tryz.prog 96 #[.int .i64 x] W fun r w' => r = .returned (.bool true) ∧ w' = W))
    (A2 : Hid (∀ W : World, Below w.heap.size w W → Calls Tryz.prog 96 #[.int .i64 (x - 57600)] W fun r w' => r = .returned (.bool true) ∧ w' = W))
    (A3 : Hid (∀ W : World, Below w.heap.size w W → Calls Tryz.prog 96 #[.int .i64 (x + 57600)] W fun r w' => r = .returned (.bool true) ∧ w' = W))
    (HE : Hid (∀ W : World, Below w.heap.size w W → Calls Tryz.prog 102 #[.agg T.toArray, .int .i64 x] W fun r w' => ∃ mb gm, r = .returned (.map (some mb)) ∧ MapZ w' mb gz (mpF g.1 g.2 gm) ∧ Below W.heap.size W w')) :
    Calls Tryz.prog 80 #[.agg T.toArray, .int .i64 x] w fun r w' => r = .returned (.tuple #[.int .i64 (inV g), .int .i64 (inH g), .int .i64 0]) ∧ Below w.heap.size w w' := by
  have X1 : Hid (Bx (w.alloc (.cells T.toArray 46)) w.heap.size T) := Bx.new w T _
  have B1 : Hid (Below w.heap.size w (w.alloc (.cells T.toArray 46))) := (Below.refl _ _).alloc (Nat.le_refl _) _
  go_enter Tryz.func80, Tryz.ntmps80
  generalize hUA : T.toArray = UA at *
  go_upto_region 1 with fail
  refine gen_code (fun V => Bx V w.heap.size T ∧ Below w.heap.size w V) ⟨X1.out, B1.out⟩ ?_
  clear X1 B1
  rintro V ⟨XV, BV⟩
  have HX : Hid (Bx V w.heap.size T) := XV
  have HB : Hid (Below w.heap.size w V) := BV
  clear XV BV
  go_wp2_with (first | (refine wpList_load_mid rfl 46 _ rfl w.heap.size 0 rfl T _ HX.out.all Tryz.underlying46 rfl (by rw [hT]; kernel_rfl) ?_; rw [hUA]) | fail)
  refine (RT.out _ HB.out).mono ?_
  rintro e v1 ⟨rfl, hb1⟩
  have HX1 : Hid (Bx v1 w.heap.size T) := HX.out.below hb1
  have HB1 : Hid (Below w.heap.size w v1) := HB.out.trans (hb1.mono HB.out.size)
  clear hb1 HX HB
  go_wp2_with fail
  refine (A1.out _ HB1.out).mono ?_
  rintro e v2 ⟨rfl, hv⟩
  rw [hv]; clear hv v2
  go_wp2_with fail
  refine (A2.out _ HB1.out).mono ?_
  rintro e v2 ⟨rfl, hv⟩
  rw [hv]; clear hv v2
  go_wp2_with fail
  refine (A3.out _ HB1.out).mono ?_
  rintro e v2 ⟨rfl, hv⟩
  rw [hv]; clear hv v2
  go_wp2_with (first | (refine wpList_load_mid rfl 46 _ rfl w.heap.size 0 rfl T _ HX1.out.all Tryz.underlying46 rfl (by rw [hT]; kernel_rfl) ?_; rw [hUA]) | fail)
  refine (HE.out _ HB1.out).mono ?_
  rintro e v3 ⟨mb, gm, rfl, hMZ, hb3⟩
  have HB3 : Hid (Below w.heap.size w v3) := HB1.out.trans (hb3.mono HB1.out.size)
  clear hb3 HX1 HB1 HE RT A1 A2 A3
  obtain ⟨⟨n0, f0, l0⟩, ⟨n1, f1, l1⟩⟩ := g
  have hl1 := lookup_Z (P := Tryz.prog) (t := 149) Tryz.underlying149 Tryz.underlying153 (show (zeroValue 152).run Tryz.prog _ = .ok gz _ from by kernel_rfl) hMZ 1
  rw [mpF_1] at hl1
  unfold grV at hl1
  simp only [] at hl1
  have hb4 : Below v3.heap.size v3 (v3.alloc (.cells #[.int .i64 n1, .int .i64 f1, .int .i64 l1] 152)) := (Below.refl _ _).alloc (Nat.le_refl _) _
  have hl0 := lookup_Z (P := Tryz.prog) (t := 149) Tryz.underlying149 Tryz.underlying153 (show (zeroValue 152).run Tryz.prog _ = .ok gz _ from by kernel_rfl) (hMZ.same (hb4.block mb hMZ.lt)) 0
  rw [mpF_0] at hl0
  unfold grV at hl0
  simp only [] at hl0
  have HB4 : Hid (Below w.heap.size w (v3.alloc (.cells #[.int .i64 n1, .int .i64 f1, .int .i64 l1] 152))) := HB3.out.trans (hb4.mono HB3.out.size)
  clear hb4 hMZ HB3
  have hfd : ∀ W : World, (Instr.field 152 (.agg #[.int .i64 n0, .int .i64 f0, .int .i64 l0]) 2).run Tryz.prog W = .ok (.int .i64 l0) W := fun W => by kernel_rfl
  by_cases k0 : n1 = 0
  · subst k0
    have hV : inV (⟨n0, f0, l0⟩, ⟨0, f1, l1⟩) = l0 := if_pos rfl
    have hH : inH (⟨n0, f0, l0⟩, ⟨0, f1, l1⟩) = 2 := if_pos rfl
    go_wp2_with fail
    exact bodyPost_ret (v := .tuple #[.int .i64 l0, .int .i64 2, .int .i64 0]) (by simp [results, Tryz.results80, go_sem]) rfl ⟨by rw [hV, hH], HB4.out⟩
  · have k0' : (n1 == 0) = false := by simpa using k0
    have hV : inV (⟨n0, f0, l0⟩, ⟨n1, f1, l1⟩) = f1 := if_neg k0
    by_cases k1 : n1 = 1
    · subst k1
      have hH : inH (⟨n0, f0, l0⟩, ⟨1, f1, l1⟩) = 0 := rfl
      go_wp2_with fail
      exact bodyPost_ret (v := .tuple #[.int .i64 f1, .int .i64 0, .int .i64 0]) (by simp [results, Tryz.results80, go_sem]) rfl ⟨by rw [hV, hH], HB4.out⟩
    · have k1' : (n1 == 1) = false := by simpa using k1
      have hH : inH (⟨n0, f0, l0⟩, ⟨n1, f1, l1⟩) = 1 := (if_neg k0).trans (if_neg k1)
      go_wp2_with fail
      exact bodyPost_ret (v := .tuple #[.int .i64 f1, .int .i64 1, .int .i64 0]) (by simp [results, Tryz.results80, go_sem]) rfl ⟨by rw [hV, hH], HB4.out⟩

end Go.Proofs.YtpdmndlpgjjopaaGreatDoor
