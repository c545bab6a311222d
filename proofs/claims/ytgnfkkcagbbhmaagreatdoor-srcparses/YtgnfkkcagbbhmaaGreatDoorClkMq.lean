/- Contract of clock.Read whole. -/
import Derived.Test.YtgnfkkcagbbhmaaGreatDoorClkRq
namespace Go.Proofs.YtgnfkkcagbbhmaaGreatDoor.Clk
open Go.RowKit
set_option linter.unusedVariables false

set_option maxRecDepth 1000000 in
set_option maxHeartbeats 2000000 in
theorem read_none (s : ByteArray) (hG : Hid (runsF s s.size 0 [] (0, 0, 0) = none)) (w : World) :
    Calls Tryz.prog 198 #[.string s] w fun e w' => e = .returned (.tuple #[.int .i64 0, .int .i64 13]) ∧ Below w.heap.size w w' := by
  go_enter Tryz.func198, Tryz.ntmps198
  go_wp2_with fail
  refine (runs_any s _).mono ?_
  rintro e w1 ⟨hb, hr⟩
  rw [hG.out] at hr
  obtain ⟨v, rfl⟩ := hr
  have HB : Hid (Below w.heap.size w w1) := hb
  clear hb
  go_wp2
  go_ret2
  exact ⟨rfl, HB.out⟩

set_option maxRecDepth 1000000 in
set_option maxHeartbeats 2000000 in
theorem read_zero (s : ByteArray) (L : List Run) (hG : Hid (runsF s s.size 0 [] (0, 0, 0) = some L)) (hL : L.getLast?.map (·.2.1) = some 0) (w : World) :
    Calls Tryz.prog 198 #[.string s] w fun e w' => e = .returned (.tuple #[.int .i64 0, .int .i64 13]) ∧ Below w.heap.size w w' := by
  go_enter Tryz.func198, Tryz.ntmps198
  go_wp2_with fail
  refine (runs_any s _).mono ?_
  rintro e w1 ⟨hb, hr⟩
  rw [hG.out] at hr
  obtain ⟨v, d, rfl, ho, hdl⟩ := hr
  obtain rfl : d = 0 := by rw [hL] at hdl; exact (Option.some.inj hdl).symm
  have hdec : decide (0 < 0) = false := rfl
  have HB : Hid (Below w.heap.size w w1) := hb
  clear hb ho hdl hL
  go_wp2
  go_ret2
  exact ⟨rfl, HB.out⟩

set_option maxRecDepth 1000000 in
set_option maxHeartbeats 2000000 in
theorem read_one (s : ByteArray) (m0 : Int) (d0 : Nat) (n0 : Int) (hG : Hid (runsF s s.size 0 [] (0, 0, 0) = some [(m0, d0, n0)])) (hd : 0 < d0) (w : World) :
    Calls Tryz.prog 198 #[.string s] w fun e w' => e = .returned (.tuple #[.int .i64 0, .int .i64 13]) ∧ Below w.heap.size w w' := by
  go_enter Tryz.func198, Tryz.ntmps198
  go_wp2_with fail
  refine (runs_any s _).mono ?_
  rintro e w1 ⟨hb, hr⟩
  rw [hG.out] at hr
  obtain ⟨v, d, rfl, ho, hdl⟩ := hr
  obtain rfl : d0 = d := by simpa using hdl
  have hdec : decide (0 < d0) = true := decide_eq_true hd
  rcases ho.2 with ⟨_, h0⟩ | ⟨g, cap, cur, rfl, hg, hblk, hcap, hcap2, hsz, htk⟩
  · simp at h0
  have hcap' : 1 ≤ cap := by simpa using hcap
  have HB : Hid (Below w.heap.size w w1) := hb
  clear hb ho hblk hsz htk hdl hcap
  simp only [List.length_cons, List.length_nil]
  go_wp2
  go_ret2
  exact ⟨rfl, HB.out⟩

set_option maxRecDepth 1000000 in
set_option maxHeartbeats 2000000 in
theorem read2n (s : ByteArray) (m0 m1 : Int) (d0 d1 : Nat) (n0 n1 : Int) (hG : Hid (runsF s s.size 0 [] (0, 0, 0) = some [(m0, d0, n0), (m1, d1, n1)])) (hd : 0 < d1) (hf : Hid (faceOk [(m0, d0, n0), (m1, d1, n1)] = false)) (w : World) :
    Calls Tryz.prog 198 #[.string s] w fun e w' => e = .returned (.tuple #[.int .i64 0, .int .i64 13]) ∧ Below w.heap.size w w' := by
  go_enter Tryz.func198, Tryz.ntmps198
  go_wp2_with fail
  refine (runs_any s _).mono ?_
  rintro e w1 ⟨hb, hr⟩
  rw [hG.out] at hr
  obtain ⟨v, d, rfl, ho, hdl⟩ := hr
  obtain rfl : d1 = d := by simpa using hdl
  have hdec : decide (0 < d1) = true := decide_eq_true hd
  rcases ho.2 with ⟨_, h0⟩ | ⟨g, cap, cur, rfl, hg, hblk, hcap, hcap2, hsz, htk⟩
  · simp at h0
  have hglt : g < w1.heap.size := (Array.getElem?_eq_some_iff.1 hblk).1
  have hc : Hid (∀ j u, (flat [(m0, d0, n0), (m1, d1, n1)])[j]? = some u → w1.cell? ⟨g, j, none⟩ = some u) := fun j u hj => by
    have hlt : j < 6 := by
      have := (List.getElem?_eq_some_iff.1 hj).1
      rw [flat_length] at this
      simpa using this
    exact (ho.cellAt j (by simpa using hlt)).trans hj
  have c48 : Tryz.prog.cellsOf 280 = 3 := by kernel_rfl
  have k0 : w1.cell? ⟨g, 2, none⟩ = some (.int .i64 n0) := hc.out 2 _ rfl
  have k1 : w1.cell? ⟨g, 5, none⟩ = some (.int .i64 n1) := hc.out 5 _ rfl
  have hcap' : 2 ≤ cap := by simpa using hcap
  have HB : Hid (Below w.heap.size w w1) := hb
  clear hb ho hblk hsz htk hdl
  simp only [List.length_cons, List.length_nil]
  have HF : Hid (Calls Tryz.prog 200 #[.slice (some ⟨g, 0, none⟩) 2 cap] w1 fun e w' => e = .returned (.bool false) ∧ Below w1.heap.size w1 w') := by
    have q := isFace_any [(m0, d0, n0), (m1, d1, n1)] g cap w1 hglt (by simp) (by simp; omega) hcap2 hc
    rw [hf.out] at q
    exact q
  clear hcap
  go_wp2_with fail
  refine HF.out.mono ?_
  rintro e w2 ⟨rfl, hb2⟩
  have j0 : w2.cell? ⟨g, 2, none⟩ = some (.int .i64 n0) := (hb2.cell (p := ⟨g, 2, none⟩) hglt).trans k0
  have j1 : w2.cell? ⟨g, 5, none⟩ = some (.int .i64 n1) := (hb2.cell (p := ⟨g, 5, none⟩) hglt).trans k1
  have HB2 : Hid (Below w.heap.size w w2) := HB.out.trans (hb2.mono HB.out.size)
  clear hb2 k0 k1
  go_wp2
  go_ret2
  exact ⟨rfl, HB2.out⟩

set_option maxRecDepth 1000000 in
set_option maxHeartbeats 2000000 in
theorem read2y (s : ByteArray) (m0 m1 : Int) (d0 d1 : Nat) (n0 n1 : Int) (hG : Hid (runsF s s.size 0 [] (0, 0, 0) = some [(m0, d0, n0), (m1, d1, n1)])) (hd : 0 < d1) (hf : Hid (faceOk [(m0, d0, n0), (m1, d1, n1)] = true)) (w : World) :
    Calls Tryz.prog 198 #[.string s] w fun e w' => e = .returned (.tuple #[.int .i64 (mkV n0 n1 0 0), .int .i64 (mkE n0 n1 0 0)]) ∧ Below w.heap.size w w' := by
  have HM : Hid (∀ w : World, Calls Tryz.prog 202 #[.int .i64 n0, .int .i64 n1, .int .i64 0, .int .i64 0] w fun e w' => e = .returned (.tuple #[.int .i64 (mkV n0 n1 0 0), .int .i64 (mkE n0 n1 0 0)]) ∧ w' = w) := make_any n0 n1 0 0
  generalize mkV n0 n1 0 0 = V at *
  generalize mkE n0 n1 0 0 = E at *
  go_enter Tryz.func198, Tryz.ntmps198
  go_wp2_with fail
  refine (runs_any s _).mono ?_
  rintro e w1 ⟨hb, hr⟩
  rw [hG.out] at hr
  obtain ⟨v, d, rfl, ho, hdl⟩ := hr
  obtain rfl : d1 = d := by simpa using hdl
  have hdec : decide (0 < d1) = true := decide_eq_true hd
  rcases ho.2 with ⟨_, h0⟩ | ⟨g, cap, cur, rfl, hg, hblk, hcap, hcap2, hsz, htk⟩
  · simp at h0
  have hglt : g < w1.heap.size := (Array.getElem?_eq_some_iff.1 hblk).1
  have hc : Hid (∀ j u, (flat [(m0, d0, n0), (m1, d1, n1)])[j]? = some u → w1.cell? ⟨g, j, none⟩ = some u) := fun j u hj => by
    have hlt : j < 6 := by
      have := (List.getElem?_eq_some_iff.1 hj).1
      rw [flat_length] at this
      simpa using this
    exact (ho.cellAt j (by simpa using hlt)).trans hj
  have c48 : Tryz.prog.cellsOf 280 = 3 := by kernel_rfl
  have k0 : w1.cell? ⟨g, 2, none⟩ = some (.int .i64 n0) := hc.out 2 _ rfl
  have k1 : w1.cell? ⟨g, 5, none⟩ = some (.int .i64 n1) := hc.out 5 _ rfl
  have hcap' : 2 ≤ cap := by simpa using hcap
  have HB : Hid (Below w.heap.size w w1) := hb
  clear hb ho hblk hsz htk hdl
  simp only [List.length_cons, List.length_nil]
  have HF : Hid (Calls Tryz.prog 200 #[.slice (some ⟨g, 0, none⟩) 2 cap] w1 fun e w' => e = .returned (.bool true) ∧ Below w1.heap.size w1 w') := by
    have q := isFace_any [(m0, d0, n0), (m1, d1, n1)] g cap w1 hglt (by simp) (by simp; omega) hcap2 hc
    rw [hf.out] at q
    exact q
  clear hcap
  go_wp2_with fail
  refine HF.out.mono ?_
  rintro e w2 ⟨rfl, hb2⟩
  have j0 : w2.cell? ⟨g, 2, none⟩ = some (.int .i64 n0) := (hb2.cell (p := ⟨g, 2, none⟩) hglt).trans k0
  have j1 : w2.cell? ⟨g, 5, none⟩ = some (.int .i64 n1) := (hb2.cell (p := ⟨g, 5, none⟩) hglt).trans k1
  have HB2 : Hid (Below w.heap.size w w2) := HB.out.trans (hb2.mono HB.out.size)
  clear hb2 k0 k1
  go_wp2_with fail
  go_quiet (first | (go_at_call 202; refine Calls.quiet_of_same (HM.out _)))
  go_wp2
  go_ret2
  exact ⟨rfl, below_drewN HB2.out nq⟩

set_option maxRecDepth 1000000 in
set_option maxHeartbeats 2000000 in
theorem read3n (s : ByteArray) (m0 m1 m2 : Int) (d0 d1 d2 : Nat) (n0 n1 n2 : Int) (hG : Hid (runsF s s.size 0 [] (0, 0, 0) = some [(m0, d0, n0), (m1, d1, n1), (m2, d2, n2)])) (hd : 0 < d2) (hf : Hid (faceOk [(m0, d0, n0), (m1, d1, n1), (m2, d2, n2)] = false)) (w : World) :
    Calls Tryz.prog 198 #[.string s] w fun e w' => e = .returned (.tuple #[.int .i64 0, .int .i64 13]) ∧ Below w.heap.size w w' := by
  go_enter Tryz.func198, Tryz.ntmps198
  go_wp2_with fail
  refine (runs_any s _).mono ?_
  rintro e w1 ⟨hb, hr⟩
  rw [hG.out] at hr
  obtain ⟨v, d, rfl, ho, hdl⟩ := hr
  obtain rfl : d2 = d := by simpa using hdl
  have hdec : decide (0 < d2) = true := decide_eq_true hd
  rcases ho.2 with ⟨_, h0⟩ | ⟨g, cap, cur, rfl, hg, hblk, hcap, hcap2, hsz, htk⟩
  · simp at h0
  have hglt : g < w1.heap.size := (Array.getElem?_eq_some_iff.1 hblk).1
  have hc : Hid (∀ j u, (flat [(m0, d0, n0), (m1, d1, n1), (m2, d2, n2)])[j]? = some u → w1.cell? ⟨g, j, none⟩ = some u) := fun j u hj => by
    have hlt : j < 9 := by
      have := (List.getElem?_eq_some_iff.1 hj).1
      rw [flat_length] at this
      simpa using this
    exact (ho.cellAt j (by simpa using hlt)).trans hj
  have c48 : Tryz.prog.cellsOf 280 = 3 := by kernel_rfl
  have k0 : w1.cell? ⟨g, 2, none⟩ = some (.int .i64 n0) := hc.out 2 _ rfl
  have k1 : w1.cell? ⟨g, 5, none⟩ = some (.int .i64 n1) := hc.out 5 _ rfl
  have hcap' : 3 ≤ cap := by simpa using hcap
  have HB : Hid (Below w.heap.size w w1) := hb
  clear hb ho hblk hsz htk hdl
  simp only [List.length_cons, List.length_nil]
  have HF : Hid (Calls Tryz.prog 200 #[.slice (some ⟨g, 0, none⟩) 3 cap] w1 fun e w' => e = .returned (.bool false) ∧ Below w1.heap.size w1 w') := by
    have q := isFace_any [(m0, d0, n0), (m1, d1, n1), (m2, d2, n2)] g cap w1 hglt (by simp) (by simp; omega) hcap2 hc
    rw [hf.out] at q
    exact q
  clear hcap
  go_wp2_with fail
  refine HF.out.mono ?_
  rintro e w2 ⟨rfl, hb2⟩
  have j0 : w2.cell? ⟨g, 2, none⟩ = some (.int .i64 n0) := (hb2.cell (p := ⟨g, 2, none⟩) hglt).trans k0
  have j1 : w2.cell? ⟨g, 5, none⟩ = some (.int .i64 n1) := (hb2.cell (p := ⟨g, 5, none⟩) hglt).trans k1
  have HB2 : Hid (Below w.heap.size w w2) := HB.out.trans (hb2.mono HB.out.size)
  clear hb2 k0 k1
  go_wp2
  go_ret2
  exact ⟨rfl, HB2.out⟩

set_option maxRecDepth 1000000 in
set_option maxHeartbeats 2000000 in
theorem read4n (s : ByteArray) (m0 m1 m2 m3 : Int) (d0 d1 d2 d3 : Nat) (n0 n1 n2 n3 : Int) (hG : Hid (runsF s s.size 0 [] (0, 0, 0) = some [(m0, d0, n0), (m1, d1, n1), (m2, d2, n2), (m3, d3, n3)])) (hd : 0 < d3) (hf : Hid (faceOk [(m0, d0, n0), (m1, d1, n1), (m2, d2, n2)] = false)) (w : World) :
    Calls Tryz.prog 198 #[.string s] w fun e w' => e = .returned (.tuple #[.int .i64 0, .int .i64 13]) ∧ Below w.heap.size w w' := by
  go_enter Tryz.func198, Tryz.ntmps198
  go_wp2_with fail
  refine (runs_any s _).mono ?_
  rintro e w1 ⟨hb, hr⟩
  rw [hG.out] at hr
  obtain ⟨v, d, rfl, ho, hdl⟩ := hr
  obtain rfl : d3 = d := by simpa using hdl
  have hdec : decide (0 < d3) = true := decide_eq_true hd
  rcases ho.2 with ⟨_, h0⟩ | ⟨g, cap, cur, rfl, hg, hblk, hcap, hcap2, hsz, htk⟩
  · simp at h0
  have hglt : g < w1.heap.size := (Array.getElem?_eq_some_iff.1 hblk).1
  have hc : Hid (∀ j u, (flat [(m0, d0, n0), (m1, d1, n1), (m2, d2, n2), (m3, d3, n3)])[j]? = some u → w1.cell? ⟨g, j, none⟩ = some u) := fun j u hj => by
    have hlt : j < 12 := by
      have := (List.getElem?_eq_some_iff.1 hj).1
      rw [flat_length] at this
      simpa using this
    exact (ho.cellAt j (by simpa using hlt)).trans hj
  have c48 : Tryz.prog.cellsOf 280 = 3 := by kernel_rfl
  have k0 : w1.cell? ⟨g, 2, none⟩ = some (.int .i64 n0) := hc.out 2 _ rfl
  have k1 : w1.cell? ⟨g, 5, none⟩ = some (.int .i64 n1) := hc.out 5 _ rfl
  have hcap' : 4 ≤ cap := by simpa using hcap
  have hc3 : Hid (∀ j u, (flat [(m0, d0, n0), (m1, d1, n1), (m2, d2, n2)])[j]? = some u → w1.cell? ⟨g, j, none⟩ = some u) := fun j u hj => hc.out j u (by
    have e : flat [(m0, d0, n0), (m1, d1, n1), (m2, d2, n2), (m3, d3, n3)] = flat [(m0, d0, n0), (m1, d1, n1), (m2, d2, n2)] ++ flat [(m3, d3, n3)] := rfl
    rw [e, List.getElem?_append_left (List.getElem?_eq_some_iff.1 hj).1]
    exact hj)
  have HB : Hid (Below w.heap.size w w1) := hb
  clear hb ho hblk hsz htk hdl
  simp only [List.length_cons, List.length_nil]
  have HF : Hid (Calls Tryz.prog 200 #[.slice (some ⟨g, 0, none⟩) 3 cap] w1 fun e w' => e = .returned (.bool false) ∧ Below w1.heap.size w1 w') := by
    have q := isFace_any [(m0, d0, n0), (m1, d1, n1), (m2, d2, n2)] g cap w1 hglt (by simp) (by simp; omega) hcap2 hc3
    rw [hf.out] at q
    exact q
  clear hcap
  go_wp2_with fail
  refine HF.out.mono ?_
  rintro e w2 ⟨rfl, hb2⟩
  have j0 : w2.cell? ⟨g, 2, none⟩ = some (.int .i64 n0) := (hb2.cell (p := ⟨g, 2, none⟩) hglt).trans k0
  have j1 : w2.cell? ⟨g, 5, none⟩ = some (.int .i64 n1) := (hb2.cell (p := ⟨g, 5, none⟩) hglt).trans k1
  have HB2 : Hid (Below w.heap.size w w2) := HB.out.trans (hb2.mono HB.out.size)
  clear hb2 k0 k1
  go_wp2
  go_ret2
  exact ⟨rfl, HB2.out⟩

set_option maxRecDepth 1000000 in
set_option maxHeartbeats 2000000 in
theorem read4m (s : ByteArray) (m0 m1 m2 m3 : Int) (d0 d1 d2 d3 : Nat) (n0 n1 n2 n3 : Int) (hG : Hid (runsF s s.size 0 [] (0, 0, 0) = some [(m0, d0, n0), (m1, d1, n1), (m2, d2, n2), (m3, d3, n3)])) (hd : 0 < d3) (hf : Hid (faceOk [(m0, d0, n0), (m1, d1, n1), (m2, d2, n2)] = true)) (hm : (m3 != 46) = true) (w : World) :
    Calls Tryz.prog 198 #[.string s] w fun e w' => e = .returned (.tuple #[.int .i64 0, .int .i64 13]) ∧ Below w.heap.size w w' := by
  go_enter Tryz.func198, Tryz.ntmps198
  go_wp2_with fail
  refine (runs_any s _).mono ?_
  rintro e w1 ⟨hb, hr⟩
  rw [hG.out] at hr
  obtain ⟨v, d, rfl, ho, hdl⟩ := hr
  obtain rfl : d3 = d := by simpa using hdl
  have hdec : decide (0 < d3) = true := decide_eq_true hd
  rcases ho.2 with ⟨_, h0⟩ | ⟨g, cap, cur, rfl, hg, hblk, hcap, hcap2, hsz, htk⟩
  · simp at h0
  have hglt : g < w1.heap.size := (Array.getElem?_eq_some_iff.1 hblk).1
  have hc : Hid (∀ j u, (flat [(m0, d0, n0), (m1, d1, n1), (m2, d2, n2), (m3, d3, n3)])[j]? = some u → w1.cell? ⟨g, j, none⟩ = some u) := fun j u hj => by
    have hlt : j < 12 := by
      have := (List.getElem?_eq_some_iff.1 hj).1
      rw [flat_length] at this
      simpa using this
    exact (ho.cellAt j (by simpa using hlt)).trans hj
  have c48 : Tryz.prog.cellsOf 280 = 3 := by kernel_rfl
  have k0 : w1.cell? ⟨g, 2, none⟩ = some (.int .i64 n0) := hc.out 2 _ rfl
  have k1 : w1.cell? ⟨g, 5, none⟩ = some (.int .i64 n1) := hc.out 5 _ rfl
  have k2 : w1.cell? ⟨g, 8, none⟩ = some (.int .i64 n2) := hc.out 8 _ rfl
  have k3 : w1.cell? ⟨g, 9, none⟩ = some (.int .i32 m3) := hc.out 9 _ rfl
  have hcap' : 4 ≤ cap := by simpa using hcap
  have hc3 : Hid (∀ j u, (flat [(m0, d0, n0), (m1, d1, n1), (m2, d2, n2)])[j]? = some u → w1.cell? ⟨g, j, none⟩ = some u) := fun j u hj => hc.out j u (by
    have e : flat [(m0, d0, n0), (m1, d1, n1), (m2, d2, n2), (m3, d3, n3)] = flat [(m0, d0, n0), (m1, d1, n1), (m2, d2, n2)] ++ flat [(m3, d3, n3)] := rfl
    rw [e, List.getElem?_append_left (List.getElem?_eq_some_iff.1 hj).1]
    exact hj)
  have HB : Hid (Below w.heap.size w w1) := hb
  clear hb ho hblk hsz htk hdl
  simp only [List.length_cons, List.length_nil]
  have HF : Hid (Calls Tryz.prog 200 #[.slice (some ⟨g, 0, none⟩) 3 cap] w1 fun e w' => e = .returned (.bool true) ∧ Below w1.heap.size w1 w') := by
    have q := isFace_any [(m0, d0, n0), (m1, d1, n1), (m2, d2, n2)] g cap w1 hglt (by simp) (by simp; omega) hcap2 hc3
    rw [hf.out] at q
    exact q
  clear hcap
  go_wp2_with fail
  refine HF.out.mono ?_
  rintro e w2 ⟨rfl, hb2⟩
  have j0 : w2.cell? ⟨g, 2, none⟩ = some (.int .i64 n0) := (hb2.cell (p := ⟨g, 2, none⟩) hglt).trans k0
  have j1 : w2.cell? ⟨g, 5, none⟩ = some (.int .i64 n1) := (hb2.cell (p := ⟨g, 5, none⟩) hglt).trans k1
  have j2 : w2.cell? ⟨g, 8, none⟩ = some (.int .i64 n2) := (hb2.cell (p := ⟨g, 8, none⟩) hglt).trans k2
  have j3 : w2.cell? ⟨g, 9, none⟩ = some (.int .i32 m3) := (hb2.cell (p := ⟨g, 9, none⟩) hglt).trans k3
  have HB2 : Hid (Below w.heap.size w w2) := HB.out.trans (hb2.mono HB.out.size)
  clear hb2 k0 k1
  go_wp2
  go_ret2
  exact ⟨rfl, HB2.out⟩

/-- what holds of the runs that are found. -/
theorem runsL_ok : ∀ (l : List UInt8) (acc : List Run) (m : Int) (d : Nat) (n : Int) (L : List Run), acc.length ≤ 3 → d ≤ 6 → 0 ≤ n → n < 10 ^ d → runsL l acc (m, d, n) = some L →
    1 ≤ L.length ∧ L.length ≤ 4 ∧ ∃ m' d' n', L.getLast? = some (m', d', n') ∧ d' ≤ 6 ∧ 0 ≤ n' ∧ n' < 10 ^ d'
  | [], acc, m, d, n, L, h1, h2, h3, h4, h => by
    obtain rfl := (Option.some.inj h).symm
    exact ⟨by simp, by simp; omega, m, d, n, by simp, h2, h3, h4⟩
  | c :: q, acc, m, d, n, L, h1, h2, h3, h4, h => by
    unfold runsL at h
    by_cases k1 : isDg c = true ∧ d < 6
    · rw [if_pos k1] at h
      have := (isDg_iff c).1 k1.1
      exact runsL_ok q acc m (d + 1) _ L h1 (by omega) (by show 0 ≤ n * 10 + ((c.toNat : Int) - 48); omega) (by rw [Int.pow_succ]; show n * 10 + ((c.toNat : Int) - 48) < _; omega) h
    · rw [if_neg k1] at h
      by_cases k2 : (c = 58 ∨ c = 46) ∧ 0 < d ∧ acc.length < 3
      · rw [if_pos k2] at h
        exact runsL_ok q (acc ++ [(m, d, n)]) _ 0 0 L (by simp; omega) (by omega) (by omega) (by simp) h
      · rw [if_neg k2] at h; cases h

theorem runs_list (s : ByteArray) (l : List UInt8) (hs : s = ⟨l.toArray⟩) : runsF s s.size 0 [] (0, 0, 0) = runsL l [] (0, 0, 0) := by
  have e : s.data.toList = l := by rw [hs]
  have z : s.size = l.length := by rw [← e]; simp
  exact runsF_L s l [] s.size [] (0, 0, 0) (by rw [e]; rfl) (by omega)

theorem read_any (l : List UInt8) (w : World) :
    Calls Tryz.prog 198 #[.string ⟨l.toArray⟩] w fun e w' => e = .returned (.tuple #[.int .i64 (ansV (cForm l)), .int .i64 (ansE (cForm l))]) ∧ Below w.heap.size w w' := by
  have HR := runs_list ⟨l.toArray⟩ l rfl
  unfold cForm
  cases hL : runsL l [] (0, 0, 0) with
  | none => exact read_none _ (HR.trans hL) w
  | some L =>
    have HG : Hid (runsF ⟨l.toArray⟩ (⟨l.toArray⟩ : ByteArray).size 0 [] (0, 0, 0) = some L) := HR.trans hL
    obtain ⟨z1, z2, m', d', n', hg, b1, b2, b3⟩ := runsL_ok l [] 0 0 0 L (by simp) (by decide) (by decide) (by decide) hL
    rw [Option.bind_some]
    by_cases hd : d' = 0
    · have R := read_zero _ L HG (by rw [hg, hd]; rfl) w
      have e : cgood L = none := by
        match L, z1, z2, hg with
        | [r0], _, _, hg => rfl
        | [r0, r1], _, _, hg =>
          obtain rfl : r1 = (m', d', n') := by simpa using hg
          exact if_neg (fun k => by have := k.1; simp only at this; omega)
        | [r0, r1, r2], _, _, hg =>
          obtain rfl : r2 = (m', d', n') := by simpa using hg
          exact if_neg (fun k => by have := k.1; simp only at this; omega)
        | [r0, r1, r2, r3], _, _, hg =>
          obtain rfl : r3 = (m', d', n') := by simpa using hg
          exact if_neg (fun k => by have := k.1; simp only at this; omega)
        | _ :: _ :: _ :: _ :: _ :: _, _, z2, _ => simp at z2
      rw [e]
      exact R
    · have hd' : 0 < d' := by omega
      match L, z1, z2, hg with
      | [r0], _, _, hg =>
        obtain rfl : r0 = (m', d', n') := by simpa using hg
        exact read_one _ _ _ _ HG hd' w
      | [(m0, d0, n0), r1], _, _, hg =>
        obtain rfl : r1 = (m', d', n') := by simpa using hg
        cases hf : faceOk [(m0, d0, n0), (m', d', n')] with
        | true =>
          have e : cgood [(m0, d0, n0), (m', d', n')] = some (n0, n', 0, 0) := if_pos ⟨hd', hf⟩
          rw [e]
          exact read2y _ _ _ _ _ _ _ HG hd' hf w
        | false =>
          have e : cgood [(m0, d0, n0), (m', d', n')] = none := if_neg (fun k => by rw [hf] at k; exact absurd k.2 (by decide))
          rw [e]
          exact read2n _ _ _ _ _ _ _ HG hd' hf w
      | [(m0, d0, n0), (m1, d1, n1), r2], _, _, hg =>
        obtain rfl : r2 = (m', d', n') := by simpa using hg
        cases hf : faceOk [(m0, d0, n0), (m1, d1, n1), (m', d', n')] with
        | true =>
          have e : cgood [(m0, d0, n0), (m1, d1, n1), (m', d', n')] = some (n0, n1, n', 0) := if_pos ⟨hd', hf⟩
          rw [e]
          exact read3 _ _ _ _ _ _ _ _ _ _ HG hd' hf w
        | false =>
          have e : cgood [(m0, d0, n0), (m1, d1, n1), (m', d', n')] = none := if_neg (fun k => by rw [hf] at k; exact absurd k.2 (by decide))
          rw [e]
          exact read3n _ _ _ _ _ _ _ _ _ _ HG hd' hf w
      | [(m0, d0, n0), (m1, d1, n1), (m2, d2, n2), r3], _, _, hg =>
        obtain rfl : r3 = (m', d', n') := by simpa using hg
        cases hf : faceOk [(m0, d0, n0), (m1, d1, n1), (m2, d2, n2)] with
        | true =>
          by_cases hm : m' = 46
          · subst hm
            have e : cgood [(m0, d0, n0), (m1, d1, n1), (m2, d2, n2), (46, d', n')] = some (n0, n1, n2, n' * 10 ^ (6 - d')) := if_pos ⟨hd', hf, rfl⟩
            rw [e]
            exact read4 _ _ _ _ _ _ _ _ _ _ _ _ _ HG hd' (micros_any 46 d' n' b1 b2 b3) hf w
          · have e : cgood [(m0, d0, n0), (m1, d1, n1), (m2, d2, n2), (m', d', n')] = none := if_neg (fun k => hm k.2.2)
            rw [e]
            exact read4m _ _ _ _ _ _ _ _ _ _ _ _ _ HG hd' hf (bne_iff_ne.2 hm) w
        | false =>
          have e : cgood [(m0, d0, n0), (m1, d1, n1), (m2, d2, n2), (m', d', n')] = none := if_neg (fun k => by rw [hf] at k; exact absurd k.2.1 (by decide))
          rw [e]
          exact read4n _ _ _ _ _ _ _ _ _ _ _ _ _ HG hd' hf w
      | _ :: _ :: _ :: _ :: _ :: _, _, z2, _ => simp at z2

end Go.Proofs.YtgnfkkcagbbhmaaGreatDoor.Clk
