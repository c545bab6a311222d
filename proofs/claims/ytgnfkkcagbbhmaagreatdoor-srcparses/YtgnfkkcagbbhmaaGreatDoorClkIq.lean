/- Contract of clock.Read, way by way. -/
import Derived.Test.YtgnfkkcagbbhmaaGreatDoorClkHq
import Derived.Deep.QuietTactic
import Derived.BigQuiet
namespace Go.Proofs.YtgnfkkcagbbhmaaGreatDoor.Clk
open Go.RowKit
set_option linter.unusedVariables false

set_option maxRecDepth 1000000 in
set_option maxHeartbeats 2000000 in
theorem read3 (s : ByteArray) (m0 m1 m2 : Int) (d0 d1 d2 : Nat) (n0 n1 n2 : Int) (hG : Hid (runsF s s.size 0 [] (0, 0, 0) = some [(m0, d0, n0), (m1, d1, n1), (m2, d2, n2)])) (hd2 : 0 < d2) (hf : Hid (faceOk [(m0, d0, n0), (m1, d1, n1), (m2, d2, n2)] = true)) (w : World) :
    Calls Tryz.prog 198 #[.string s] w fun e w' => e = .returned (.tuple #[.int .i64 (mkV n0 n1 n2 0), .int .i64 (mkE n0 n1 n2 0)]) ∧ Below w.heap.size w w' := by
  have HM : Hid (∀ w : World, Calls Tryz.prog 202 #[.int .i64 n0, .int .i64 n1, .int .i64 n2, .int .i64 0] w fun e w' => e = .returned (.tuple #[.int .i64 (mkV n0 n1 n2 0), .int .i64 (mkE n0 n1 n2 0)]) ∧ w' = w) := make_any n0 n1 n2 0
  generalize mkV n0 n1 n2 0 = V at *
  generalize mkE n0 n1 n2 0 = E at *
  go_enter Tryz.func198, Tryz.ntmps198
  go_wp2_with fail
  refine (runs_any s _).mono ?_
  rintro e w1 ⟨hb, hr⟩
  rw [hG.out] at hr
  obtain ⟨v, d, rfl, ho, hdl⟩ := hr
  obtain rfl : d2 = d := by simpa using hdl
  have hdec : decide (0 < d2) = true := decide_eq_true hd2
  rcases ho.2 with ⟨_, h0⟩ | ⟨g, cap, cur, rfl, hg, hblk, hcap, hcap2, hsz, htk⟩
  · simp at h0
  have hglt : g < w1.heap.size := (Array.getElem?_eq_some_iff.1 hblk).1
  have hc : Hid (∀ j u, (flat [(m0, d0, n0), (m1, d1, n1), (m2, d2, n2)])[j]? = some u → w1.cell? ⟨g, j, none⟩ = some u) := fun j u hj => by
    have hlt : j < 9 := by
      have := (List.getElem?_eq_some_iff.1 hj).1
      rw [flat_length] at this
      simpa using this
    exact (ho.cellAt j (by simpa using hlt)).trans hj
  have c48 : Tryz.prog.cellsOf 280 = 3 := by kernel_rfl
  have k0 : w1.cell? ⟨g, 2, none⟩ = some (.int .i64 n0) := hc.out 2 _ rfl
  have k1 : w1.cell? ⟨g, 5, none⟩ = some (.int .i64 n1) := hc.out 5 _ rfl
  have k2 : w1.cell? ⟨g, 8, none⟩ = some (.int .i64 n2) := hc.out 8 _ rfl
  have hcap' : 3 ≤ cap := by simpa using hcap
  have HB : Hid (Below w.heap.size w w1) := hb
  clear hb ho hblk hsz htk hdl
  simp only [List.length_cons, List.length_nil]
  have HF : Hid (Calls Tryz.prog 200 #[.slice (some ⟨g, 0, none⟩) 3 cap] w1 fun e w' => e = .returned (.bool true) ∧ Below w1.heap.size w1 w') := by
    have q := isFace_any [(m0, d0, n0), (m1, d1, n1), (m2, d2, n2)] g cap w1 hglt (by simp) hcap hcap2 hc
    rw [hf.out] at q
    exact q
  clear hcap
  go_wp2_with fail
  refine HF.out.mono ?_
  rintro e w2 ⟨rfl, hb2⟩
  have j0 : w2.cell? ⟨g, 2, none⟩ = some (.int .i64 n0) := (hb2.cell (p := ⟨g, 2, none⟩) hglt).trans k0
  have j1 : w2.cell? ⟨g, 5, none⟩ = some (.int .i64 n1) := (hb2.cell (p := ⟨g, 5, none⟩) hglt).trans k1
  have j2 : w2.cell? ⟨g, 8, none⟩ = some (.int .i64 n2) := (hb2.cell (p := ⟨g, 8, none⟩) hglt).trans k2
  have HB2 : Hid (Below w.heap.size w w2) := HB.out.trans (hb2.mono HB.out.size)
  clear hb2 k0 k1 k2
  go_wp2_with fail
  go_quiet (first | (go_at_call 202; refine Calls.quiet_of_same (HM.out _)))
  go_wp2
  go_ret2
  exact ⟨rfl, below_drewN HB2.out nq⟩

end Go.Proofs.YtgnfkkcagbbhmaaGreatDoor.Clk
