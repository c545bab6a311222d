import Derived.Test.YthhpdjjfbfkgiaaGreatDoorS13
import Derived.Test.YthhpdjjfbfkgiaaGreatDoorS11
/- Contract of clock.Read whole. -/
namespace Go.Proofs.YthhpdjjfbfkgiaaGreatDoor.Clk
open Go.RowKit
set_option linter.unusedVariables false

set_option maxRecDepth 1000000 in
set_option maxHeartbeats 2000000 in
theorem read_none (s : ByteArray) (hG : Hid (runsF s s.size 0 [] (0, 0, 0) = none)) (w : World) :
    Calls Tryz.prog 133 #[.string s] w fun e w' => e = .returned (.tuple #[.int .i64 0, .int .i64 13]) ∧ Below w.heap.size w w' := by
  go_enter Tryz.func133, Tryz.ntmps133
  go_wp2_with fail
  refine (runs_any s _).mono ?_
  rintro e w1 ⟨hb, hr⟩
  rw [hG.out] at hr
  obtain ⟨v, rfl⟩ := hr
  have HB : Hid (Below w.heap.size w w1) := hb
  clear hb
  go_wp2
  go_ret2
  exact ⟨rfl, HB.out⟩

set_option maxRecDepth 1000000 in
set_option maxHeartbeats 2000000 in
theorem read_zero (s : ByteArray) (L : List Run) (hG : Hid (runsF s s.size 0 [] (0, 0, 0) = some L)) (hL : L.getLast?.map (·.2.1) = some 0) (w : World) :
    Calls Tryz.prog 133 #[.string s] w fun e w' => e = .returned (.tuple #[.int .i64 0, .int .i64 13]) ∧ Below w.heap.size w w' := by
  go_enter Tryz.func133, Tryz.ntmps133
  go_wp2_with fail
  refine (runs_any s _).mono ?_
  rintro e w1 ⟨hb, hr⟩
  rw [hG.out] at hr
  obtain ⟨v, d, rfl, ho, hdl⟩ := hr
  obtain rfl : d = 0 := by rw [hL] at hdl; exact (Option.some.inj hdl).symm
  have hdec : decide (0 < 0) = false := rfl
  have HB : Hid (Below w.heap.size w w1) := hb
  clear hb ho hdl hL
  go_wp2
  go_ret2
  exact ⟨rfl, HB.out⟩

set_option maxRecDepth 1000000 in
set_option maxHeartbeats 2000000 in
theorem read_one (s : ByteArray) (m0 : Int) (d0 : Nat) (n0 : Int) (hG : Hid (runsF s s.size 0 [] (0, 0, 0) = some [(m0, d0, n0)])) (hd : 0 < d0) (w : World) :
    Calls Tryz.prog 133 #[.string s] w fun e w' => e = .returned (.tuple #[.int .i64 0, .int .i64 13]) ∧ Below w.heap.size w w' := by
  go_enter Tryz.func133, Tryz.ntmps133
  go_wp2_with fail
  refine (runs_any s _).mono ?_
  rintro e w1 ⟨hb, hr⟩
  rw [hG.out] at hr
  obtain ⟨v, d, rfl, ho, hdl⟩ := hr
  obtain rfl : d0 = d := by simpa using hdl
  have hdec : decide (0 < d0) = true := decide_eq_true hd
  rcases ho.2 with ⟨_, h0⟩ | ⟨g, cap, cur, rfl, hg, hblk, hcap, hcap2, hsz, htk⟩
  · simp at h0
  have hcap' : 1 ≤ cap := by simpa using hcap
  have HB : Hid (Below w.heap.size w w1) := hb
  clear hb ho hblk hsz htk hdl hcap
  simp only [List.length_cons, List.length_nil]
  go_wp2
  go_ret2
  exact ⟨rfl, HB.out⟩

set_option maxRecDepth 1000000 in
set_option maxHeartbeats 2000000 in
theorem read2n (s : ByteArray) (m0 m1 : Int) (d0 d1 : Nat) (n0 n1 : Int) (hG : Hid (runsF s s.size 0 [] (0, 0, 0) = some [(m0, d0, n0), (m1, d1, n1)])) (hd : 0 < d1) (hf : Hid (faceOk [(m0, d0, n0), (m1, d1, n1)] = false)) (w : World) :
    Calls Tryz.prog 133 #[.string s] w fun e w' => e = .returned (.tuple #[.int .i64 0, .int .i64 13]) ∧ Below w.heap.size w w' := by
  go_enter Tryz.func133, Tryz.ntmps133
  go_wp2_with fail
  refine (runs_any s _).mono ?_
  rintro e w1 ⟨hb, hr⟩
  rw [hG.out] at hr
  obtain ⟨v, d, rfl, ho, hdl⟩ := hr
  obtain rfl : d1 = d := by simpa using hdl
  have hdec : decide (0 < d1) = true := decide_eq_true hd
  rcases ho.2 with ⟨_, h0⟩ | ⟨g, cap, cur, rfl, hg, hblk, hcap, hcap2, hsz, htk⟩
  · simp at h0
  have hglt : g < w1.heap.size := (Array.getElem?_eq_some_iff.1 hblk).1
  have hc : Hid (∀ j u, (flat [(m0, d0, n0), (m1, d1, n1)])[j]? = some u → w1.cell? ⟨g, j, none⟩ = some u) := fun j u hj => by
    have hlt : j < 6 := by
      have := (List.getElem?_eq_some_iff.1 hj).1
      rw [flat_length] at this
      simpa using this
    exact (ho.cellAt j (by simpa using hlt)).trans hj
  have c48 : Tryz.prog.cellsOf 231 = 3 := by kernel_rfl
  have k0 : w1.cell? ⟨g, 2, none⟩ = some (.int .i64 n0) := hc.out 2 _ rfl
  have k1 : w1.cell? ⟨g, 5, none⟩ = some (.int .i64 n1) := hc.out 5 _ rfl
  have hcap' : 2 ≤ cap := by simpa using hcap
  have HB : Hid (Below w.heap.size w w1) := hb
  clear hb ho hblk hsz htk hdl
  simp only [List.length_cons, List.length_nil]
  have HF : Hid (Calls Tryz.prog 135 #[.slice (some ⟨g, 0, none⟩) 2 cap] w1 fun e w' => e = .returned (.bool false) ∧ Below w1.heap.size w1 w') := by
    have q := isFace_any [(m0, d0, n0), (m1, d1, n1)] g cap w1 hglt (by simp) (by simp; omega) hcap2 hc
    rw [hf.out] at q
    exact q
  clear hcap
  go_wp2_with fail
  refine HF.out.mono ?_
  rintro e w2 ⟨rfl, hb2⟩
  have j0 : w2.cell? ⟨g, 2, none⟩ = some (.int .i64 n0) := (hb2.cell (p := ⟨g, 2, none⟩) hglt).trans k0
  have j1 : w2.cell? ⟨g, 5, none⟩ = some (.int .i64 n1) := (hb2.cell (p := ⟨g, 5, none⟩) hglt).trans k1
  have HB2 : Hid (Below w.heap.size w w2) := HB.out.trans (hb2.mono HB.out.size)
  clear hb2 k0 k1
  go_wp2
  go_ret2
  exact ⟨rfl, HB2.out⟩

set_option maxRecDepth 1000000 in
set_option maxHeartbeats 2000000 in
theorem read2y (s : ByteArray) (m0 m1 : Int) (d0 d1 : Nat) (n0 n1 : Int) (hG : Hid (runsF s s.size 0 [] (0, 0, 0) = some [(m0, d0, n0), (m1, d1, n1)])) (hd : 0 < d1) (hf : Hid (faceOk [(m0, d0, n0), (m1, d1, n1)] = true)) (w : World) :
    Calls Tryz.prog 133 #[.string s] w fun e w' => e = .returned (.tuple #[.int .i64 (mkV n0 n1 0 0), .int .i64 (mkE n0 n1 0 0)]) ∧ Below w.heap.size w w' := by
  have HM : Hid (∀ w : World, Calls Tryz.prog 137 #[.int .i64 n0, .int .i64 n1, .int .i64 0, .int .i64 0] w fun e w' => e = .returned (.tuple #[.int .i64 (mkV n0 n1 0 0), .int .i64 (mkE n0 n1 0 0)]) ∧ w' = w) := make_any n0 n1 0 0
  generalize mkV n0 n1 0 0 = V at *
  generalize mkE n0 n1 0 0 = E at *
  go_enter Tryz.func133, Tryz.ntmps133
  go_wp2_with fail
  refine (runs_any s _).mono ?_
  rintro e w1 ⟨hb, hr⟩
  rw [hG.out] at hr
  obtain ⟨v, d, rfl, ho, hdl⟩ := hr
  obtain rfl : d1 = d := by simpa using hdl
  have hdec : decide (0 < d1) = true := decide_eq_true hd
  rcases ho.2 with ⟨_, h0⟩ | ⟨g, cap, cur, rfl, hg, hblk, hcap, hcap2, hsz, htk⟩
  · simp at h0
  have hglt : g < w1.heap.size := (Array.getElem?_eq_some_iff.1 hblk).1
  have hc : Hid (∀ j u, (flat [(m0, d0, n0), (m1, d1, n1)])[j]? = some u → w1.cell? ⟨g, j, none⟩ = some u) := fun j u hj => by
    have hlt : j < 6 := by
      have := (List.getElem?_eq_some_iff.1 hj).1
      rw [flat_length] at this
      simpa using this
    exact (ho.cellAt j (by simpa using hlt)).trans hj
  have c48 : Tryz.prog.cellsOf 231 = 3 := by kernel_rfl
  have k0 : w1.cell? ⟨g, 2, none⟩ = some (.int .i64 n0) := hc.out 2 _ rfl
  have k1 : w1.cell? ⟨g, 5, none⟩ = some (.int .i64 n1) := hc.out 5 _ rfl
  have hcap' : 2 ≤ cap := by simpa using hcap
  have HB : Hid (Below w.heap.size w w1) := hb
  clear hb ho hblk hsz htk hdl
  simp only [List.length_cons, List.length_nil]
  have HF : Hid (Calls Tryz.prog 135 #[.slice (some ⟨g, 0, none⟩) 2 cap] w1 fun e w' => e = .returned (.bool true) ∧ Below w1.heap.size w1 w') := by
    have q := isFace_any [(m0, d0, n0), (m1, d1, n1)] g cap w1 hglt (by simp) (by simp; omega) hcap2 hc
    rw [hf.out] at q
    exact q
  clear hcap
  go_wp2_with fail
  refine HF.out.mono ?_
  rintro e w2 ⟨rfl, hb2⟩
  have j0 : w2.cell? ⟨g, 2, none⟩ = some (.int .i64 n0) := (hb2.cell (p := ⟨g, 2, none⟩) hglt).trans k0
  have j1 : w2.cell? ⟨g, 5, none⟩ = some (.int .i64 n1) := (hb2.cell (p := ⟨g, 5, none⟩) hglt).trans k1
  have HB2 : Hid (Below w.heap.size w w2) := HB.out.trans (hb2.mono HB.out.size)
  clear hb2 k0 k1
  go_wp2_with fail
  go_quiet (first | (go_at_call 137; refine Calls.quiet_of_same (HM.out _)))
  go_wp2
  go_ret2
  exact ⟨rfl, below_drewN HB2.out nq⟩

set_option maxRecDepth 1000000 in
set_option maxHeartbeats 2000000 in
theorem read3n (s : ByteArray) (m0 m1 m2 : Int) (d0 d1 d2 : Nat) (n0 n1 n2 : Int) (hG : Hid (runsF s s.size 0 [] (0, 0, 0) = some [(m0, d0, n0), (m1, d1, n1), (m2, d2, n2)])) (hd : 0 < d2) (hf : Hid (faceOk [(m0, d0, n0), (m1, d1, n1), (m2, d2, n2)] = false)) (w : World) :
    Calls Tryz.prog 133 #[.string s] w fun e w' => e = .returned (.tuple #[.int .i64 0, .int .i64 13]) ∧ Below w.heap.size w w' := by
  go_enter Tryz.func133, Tryz.ntmps133
  go_wp2_with fail
  refine (runs_any s _).mono ?_
  rintro e w1 ⟨hb, hr⟩
  rw [hG.out] at hr
  obtain ⟨v, d, rfl, ho, hdl⟩ := hr
  obtain rfl : d2 = d := by simpa using hdl
  have hdec : decide (0 < d2) = true := decide_eq_true hd
  rcases ho.2 with ⟨_, h0⟩ | ⟨g, cap, cur, rfl, hg, hblk, hcap, hcap2, hsz, htk⟩
  · simp at h0
  have hglt : g < w1.heap.size := (Array.getElem?_eq_some_iff.1 hblk).1
  have hc : Hid (∀ j u, (flat [(m0, d0, n0), (m1, d1, n1), (m2, d2, n2)])[j]? = some u → w1.cell? ⟨g, j, none⟩ = some u) := fun j u hj => by
    have hlt : j < 9 := by
      have := (List.getElem?_eq_some_iff.1 hj).1
      rw [flat_length] at this
      simpa using this
    exact (ho.cellAt j (by simpa using hlt)).trans hj
  have c48 : Tryz.prog.cellsOf 231 = 3 := by kernel_rfl
  have k0 : w1.cell? ⟨g, 2, none⟩ = some (.int .i64 n0) := hc.out 2 _ rfl
  have k1 : w1.cell? ⟨g, 5, none⟩ = some (.int .i64 n1) := hc.out 5 _ rfl
  have hcap' : 3 ≤ cap := by simpa using hcap
  have HB : Hid (Below w.heap.size w w1) := hb
  clear hb ho hblk hsz htk hdl
  simp only [List.length_cons, List.length_nil]
  have HF : Hid (Calls Tryz.prog 135 #[.slice (some ⟨g, 0, none⟩) 3 cap] w1 fun e w' => e = .returned (.bool false) ∧ Below w1.heap.size w1 w') := by
    have q := isFace_any [(m0, d0, n0), (m1, d1, n1), (m2, d2, n2)] g cap w1 hglt (by simp) (by simp; omega) hcap2 hc
    rw [hf.out] at q
    exact q
  clear hcap
  go_wp2_with fail
  refine HF.out.mono ?_
  rintro e w2 ⟨rfl, hb2⟩
  have j0 : w2.cell? ⟨g, 2, none⟩ = some (.int .i64 n0) := (hb2.cell (p := ⟨g, 2, none⟩) hglt).trans k0
  have j1 : w2.cell? ⟨g, 5, none⟩ = some (.int .i64 n1) := (hb2.cell (p := ⟨g, 5, none⟩) hglt).trans k1
  have HB2 : Hid (Below w.heap.size w w2) := HB.out.trans (hb2.mono HB.out.size)
  clear hb2 k0 k1
  go_wp2
  go_ret2
  exact ⟨rfl, HB2.out⟩

set_option maxRecDepth 1000000 in
set_option maxHeartbeats 2000000 in
theorem read4n (s : ByteArray) (m0 m1 m2 m3 : Int) (d0 d1 d2 d3 : Nat) (n0 n1 n2 n3 : Int) (hG : Hid (runsF s s.size 0 [] (0, 0, 0) = some [(m0, d0, n0), (m1, d1, n1), (m2, d2, n2), (m3, d3, n3)])) (hd : 0 < d3) (hf : Hid (faceOk [(m0, d0, n0), (m1, d1, n1), (m2, d2, n2)] = false)) (w : World) :
    Calls Tryz.prog 133 #[.string s] w fun e w' => e = .returned (.tuple #[.int .i64 0, .int .i64 13]) ∧ Below w.heap.size w w' := by
  go_enter Tryz.func133, Tryz.ntmps133
  go_wp2_with fail
  refine (runs_any s _).mono ?_
  rintro e w1 ⟨hb, hr⟩
  rw [hG.out] at hr
  obtain ⟨v, d, rfl, ho, hdl⟩ := hr
  obtain rfl : d3 = d := by simpa using hdl
  have hdec : decide (0 < d3) = true := decide_eq_true hd
  rcases ho.2 with ⟨_, h0⟩ | ⟨g, cap, cur, rfl, hg, hblk, hcap, hcap2, hsz, htk⟩
  · simp at h0
  have hglt : g < w1.heap.size := (Array.getElem?_eq_some_iff.1 hblk).1
  have hc : Hid (∀ j u, (flat [(m0, d0, n0), (m1, d1, n1), (m2, d2, n2), (m3, d3, n3)])[j]? = some u → w1.cell? ⟨g, j, none⟩ = some u) := fun j u hj => by
    have hlt : j < 12 := by
      have := (List.getElem?_eq_some_iff.1 hj).1
      rw [flat_length] at this
      simpa using this
    exact (ho.cellAt j (by simpa using hlt)).trans hj
  have c48 : Tryz.prog.cellsOf 231 = 3 := by kernel_rfl
  have k0 : w1.cell? ⟨g, 2, none⟩ = some (.int .i64 n0) := hc.out 2 _ rfl
  have k1 : w1.cell? ⟨g, 5, none⟩ = some (.int .i64 n1) := hc.out 5 _ rfl
  have hcap' : 4 ≤ cap := by simpa using hcap
  have hc3 : Hid (∀ j u, (flat [(m0, d0, n0), (m1, d1, n1), (m2, d2, n2)])[j]? = some u → w1.cell? ⟨g, j, none⟩ = some u) := fun j u hj => hc.out j u (by
    have e : flat [(m0, d0, n0), (m1, d1, n1), (m2, d2, n2), (m3, d3, n3)] = flat [(m0, d0, n0), (m1, d1, n1), (m2, d2, n2)] ++ flat [(m3, d3, n3)] := rfl
    rw [e, List.getElem?_append_left (List.getElem?_eq_some_iff.1 hj).1]
    exact hj)
  have HB : Hid (Below w.heap.size w w1) := hb
  clear hb ho hblk hsz htk hdl
  simp only [List.length_cons, List.length_nil]
  have HF : Hid (Calls Tryz.prog 135 #[.slice (some ⟨g, 0, none⟩) 3 cap] w1 fun e w' => e = .returned (.bool false) ∧ Below w1.heap.size w1 w') := by
    have q := isFace_any [(m0, d0, n0), (m1, d1, n1), (m2, d2, n2)] g cap w1 hglt (by simp) (by simp; omega) hcap2 hc3
    rw [hf.out] at q
    exact q
  clear hcap
  go_wp2_with fail
  refine HF.out.mono ?_
  rintro e w2 ⟨rfl, hb2⟩
  have j0 : w2.cell? ⟨g, 2, none⟩ = some (.int .i64 n0) := (hb2.cell (p := ⟨g, 2, none⟩) hglt).trans k0
  have j1 : w2.cell? ⟨g, 5, none⟩ = some (.int .i64 n1) := (hb2.cell (p := ⟨g, 5, none⟩) hglt).trans k1
  have HB2 : Hid (Below w.heap.size w w2) := HB.out.trans (hb2.mono HB.out.size)
  clear hb2 k0 k1
  go_wp2
  go_ret2
  exact ⟨rfl, HB2.out⟩

set_option maxRecDepth 1000000 in
set_option maxHeartbeats 2000000 in
theorem read4m (s : ByteArray) (m0 m1 m2 m3 : Int) (d0 d1 d2 d3 : Nat) (n0 n1 n2 n3 : Int) (hG : Hid (runsF s s.size 0 [] (0, 0, 0) = some [(m0, d0, n0), (m1, d1, n1), (m2, d2, n2), (m3, d3, n3)])) (hd : 0 < d3) (hf : Hid (faceOk [(m0, d0, n0), (m1, d1, n1), (m2, d2, n2)] = true)) (hm : (m3 != 46) = true) (w : World) :
    Calls Tryz.prog 133 #[.string s] w fun e w' => e = .returned (.tuple #[.int .i64 0, .int .i64 13]) ∧ Below w.heap.size w w' := by
  go_enter Tryz.func133, Tryz.ntmps133
  go_wp2_with fail
  refine (runs_any s _).mono ?_
  rintro e w1 ⟨hb, hr⟩
  rw [hG.out] at hr
  obtain ⟨v, d, rfl, ho, hdl⟩ := hr
  obtain rfl : d3 = d := by simpa using hdl
  have hdec : decide (0 < d3) = true := decide_eq_true hd
  rcases ho.2 with ⟨_, h0⟩ | ⟨g, cap, cur, rfl, hg, hblk, hcap, hcap2, hsz, htk⟩
  · simp at h0
  have hglt : g < w1.heap.size := (Array.getElem?_eq_some_iff.1 hblk).1
  have hc : Hid (∀ j u, (flat [(m0, d0, n0), (m1, d1, n1), (m2, d2, n2), (m3, d3, n3)])[j]? = some u → w1.cell? ⟨g, j, none⟩ = some u) := fun j u hj => by
    have hlt : j < 12 := by
      have := (List.getElem?_eq_some_iff.1 hj).1
      rw [flat_length] at this
      simpa using this
    exact (ho.cellAt j (by simpa using hlt)).trans hj
  have c48 : Tryz.prog.cellsOf 231 = 3 := by kernel_rfl
  have k0 : w1.cell? ⟨g, 2, none⟩ = some (.int .i64 n0) := hc.out 2 _ rfl
  have k1 : w1.cell? ⟨g, 5, none⟩ = some (.int .i64 n1) := hc.out 5 _ rfl
  have k2 : w1.cell? ⟨g, 8, none⟩ = some (.int .i64 n2) := hc.out 8 _ rfl
  have k3 : w1.cell? ⟨g, 9, none⟩ = some (.int .i32 m3) := hc.out 9 _ rfl
  have hcap' : 4 ≤ cap := by simpa using hcap
  have hc3 : Hid (∀ j u, (flat [(m0, d0, n0), (m1, d1, n1), (m2, d2, n2)])[j]? = some u → w1.cell? ⟨g, j, none⟩ = some u) := fun j u hj => hc.out j u (by
    have e : flat [(m0, d0, n0), (m1, d1, n1), (m2, d2, n2), (m3, d3, n3)] = flat [(m0, d0, n0), (m1, d1, n1), (m2, d2, n2)] ++ flat [(m3, d3, n3)] := rfl
    rw [e, List.getElem?_append_left (List.getElem?_eq_some_iff.1 hj).1]
    exact hj)
  have HB : Hid (Below w.heap.size w w1) := hb
  clear hb ho hblk hsz htk hdl
  simp only [List.length_cons, List.length_nil]
  have HF : Hid (Calls Tryz.prog 135 #[.slice (some ⟨g, 0, none⟩) 3 cap] w1 fun e w' => e = .returned (.bool true) ∧ Below w1.heap.size w1 w') := by
    have q := isFace_any [(m0, d0, n0), (m1, d1, n1), (m2, d2, n2)] g cap w1 hglt (by simp) (by simp; omega) hcap2 hc3
    rw [hf.out] at q
    exact q
  clear hcap
  go_wp2_with fail
  refine HF.out.mono ?_
  rintro e w2 ⟨rfl, hb2⟩
  have j0 : w2.cell? ⟨g, 2, none⟩ = some (.int .i64 n0) := (hb2.cell (p := ⟨g, 2, none⟩) hglt).trans k0
  have j1 : w2.cell? ⟨g, 5, none⟩ = some (.int .i64 n1) := (hb2.cell (p := ⟨g, 5, none⟩) hglt).trans k1
  have j2 : w2.cell? ⟨g, 8, none⟩ = some (.int .i64 n2) := (hb2.cell (p := ⟨g, 8, none⟩) hglt).trans k2
  have j3 : w2.cell? ⟨g, 9, none⟩ = some (.int .i32 m3) := (hb2.cell (p := ⟨g, 9, none⟩) hglt).trans k3
  have HB2 : Hid (Below w.heap.size w w2) := HB.out.trans (hb2.mono HB.out.size)
  clear hb2 k0 k1
  go_wp2
  go_ret2
  exact ⟨rfl, HB2.out⟩

/-- what holds of the runs that are found. -/
theorem runsL_ok : ∀ (l : List UInt8) (acc : List Run) (m : Int) (d : Nat) (n : Int) (L : List Run), acc.length ≤ 3 → d ≤ 6 → 0 ≤ n → n < 10 ^ d → runsL l acc (m, d, n) = some L →
    1 ≤ L.length ∧ L.length ≤ 4 ∧ ∃ m' d' n', L.getLast? = some (m', d', n') ∧ d' ≤ 6 ∧ 0 ≤ n' ∧ n' < 10 ^ d'
  | [], acc, m, d, n, L, h1, h2, h3, h4, h => by
    obtain rfl := (Option.some.inj h).symm
    exact ⟨by simp, by simp; omega, m, d, n, by simp, h2, h3, h4⟩
  | c :: q, acc, m, d, n, L, h1, h2, h3, h4, h => by
    unfold runsL at h
    by_cases k1 : isDg c = true ∧ d < 6
    · rw [if_pos k1] at h
      have := (isDg_iff c).1 k1.1
      exact runsL_ok q acc m (d + 1) _ L h1 (by omega) (by show 0 ≤ n * 10 + ((c.toNat : Int) - 48); omega) (by rw [Int.pow_succ]; show n * 10 + ((c.toNat : Int) - 48) < _; omega) h
    · rw [if_neg k1] at h
      by_cases k2 : (c = 58 ∨ c = 46) ∧ 0 < d ∧ acc.length < 3
      · rw [if_pos k2] at h
        exact runsL_ok q (acc ++ [(m, d, n)]) _ 0 0 L (by simp; omega) (by omega) (by omega) (by simp) h
      · rw [if_neg k2] at h; cases h

theorem runs_list (s : ByteArray) (l : List UInt8) (hs : s = ⟨l.toArray⟩) : runsF s s.size 0 [] (0, 0, 0) = runsL l [] (0, 0, 0) := by
  have e : s.data.toList = l := by rw [hs]
  have z : s.size = l.length := by rw [← e]; simp
  exact runsF_L s l [] s.size [] (0, 0, 0) (by rw [e]; rfl) (by omega)

theorem read_any (l : List UInt8) (w : World) :
    Calls Tryz.prog 133 #[.string ⟨l.toArray⟩] w fun e w' => e = .returned (.tuple #[.int .i64 (ansV (cForm l)), .int .i64 (ansE (cForm l))]) ∧ Below w.heap.size w w' := by
  have HR := runs_list ⟨l.toArray⟩ l rfl
  unfold cForm
  cases hL : runsL l [] (0, 0, 0) with
  | none => exact read_none _ (HR.trans hL) w
  | some L =>
    have HG : Hid (runsF ⟨l.toArray⟩ (⟨l.toArray⟩ : ByteArray).size 0 [] (0, 0, 0) = some L) := HR.trans hL
    obtain ⟨z1, z2, m', d', n', hg, b1, b2, b3⟩ := runsL_ok l [] 0 0 0 L (by simp) (by decide) (by decide) (by decide) hL
    rw [Option.bind_some]
    by_cases hd : d' = 0
    · have R := read_zero _ L HG (by rw [hg, hd]; rfl) w
      have e : cgood L = none := by
        match L, z1, z2, hg with
        | [r0], _, _, hg => rfl
        | [r0, r1], _, _, hg =>
          obtain rfl : r1 = (m', d', n') := by simpa using hg
          exact if_neg (fun k => by have := k.1; simp only at this; omega)
        | [r0, r1, r2], _, _, hg =>
          obtain rfl : r2 = (m', d', n') := by simpa using hg
          exact if_neg (fun k => by have := k.1; simp only at this; omega)
        | [r0, r1, r2, r3], _, _, hg =>
          obtain rfl : r3 = (m', d', n') := by simpa using hg
          exact if_neg (fun k => by have := k.1; simp only at this; omega)
        | _ :: _ :: _ :: _ :: _ :: _, _, z2, _ => simp at z2
      rw [e]
      exact R
    · have hd' : 0 < d' := by omega
      match L, z1, z2, hg with
      | [r0], _, _, hg =>
        obtain rfl : r0 = (m', d', n') := by simpa using hg
        exact read_one _ _ _ _ HG hd' w
      | [(m0, d0, n0), r1], _, _, hg =>
        obtain rfl : r1 = (m', d', n') := by simpa using hg
        cases hf : faceOk [(m0, d0, n0), (m', d', n')] with
        | true =>
          have e : cgood [(m0, d0, n0), (m', d', n')] = some (n0, n', 0, 0) := if_pos ⟨hd', hf⟩
          rw [e]
          exact read2y _ _ _ _ _ _ _ HG hd' hf w
        | false =>
          have e : cgood [(m0, d0, n0), (m', d', n')] = none := if_neg (fun k => by rw [hf] at k; exact absurd k.2 (by decide))
          rw [e]
          exact read2n _ _ _ _ _ _ _ HG hd' hf w
      | [(m0, d0, n0), (m1, d1, n1), r2], _, _, hg =>
        obtain rfl : r2 = (m', d', n') := by simpa using hg
        cases hf : faceOk [(m0, d0, n0), (m1, d1, n1), (m', d', n')] with
        | true =>
          have e : cgood [(m0, d0, n0), (m1, d1, n1), (m', d', n')] = some (n0, n1, n', 0) := if_pos ⟨hd', hf⟩
          rw [e]
          exact read3 _ _ _ _ _ _ _ _ _ _ HG hd' hf w
        | false =>
          have e : cgood [(m0, d0, n0), (m1, d1, n1), (m', d', n')] = none := if_neg (fun k => by rw [hf] at k; exact absurd k.2 (by decide))
          rw [e]
          exact read3n _ _ _ _ _ _ _ _ _ _ HG hd' hf w
      | [(m0, d0, n0), (m1, d1, n1), (m2, d2, n2), r3], _, _, hg =>
        obtain rfl : r3 = (m', d', n') := by simpa using hg
        cases hf : faceOk [(m0, d0, n0), (m1, d1, n1), (m2, d2, n2)] with
        | true =>
          by_cases hm : m' = 46
          · subst hm
            have e : cgood [(m0, d0, n0), (m1, d1, n1), (m2, d2, n2), (46, d', n')] = some (n0, n1, n2, n' * 10 ^ (6 - d')) := if_pos ⟨hd', hf, rfl⟩
            rw [e]
            exact read4 _ _ _ _ _ _ _ _ _ _ _ _ _ HG hd' (micros_any 46 d' n' b1 b2 b3) hf w
          · have e : cgood [(m0, d0, n0), (m1, d1, n1), (m2, d2, n2), (m', d', n')] = none := if_neg (fun k => hm k.2.2)
            rw [e]
            exact read4m _ _ _ _ _ _ _ _ _ _ _ _ _ HG hd' hf (bne_iff_ne.2 hm) w
        | false =>
          have e : cgood [(m0, d0, n0), (m1, d1, n1), (m2, d2, n2), (m', d', n')] = none := if_neg (fun k => by rw [hf] at k; exact absurd k.2.1 (by decide))
          rw [e]
          exact read4n _ _ _ _ _ _ _ _ _ _ _ _ _ HG hd' hf w
      | _ :: _ :: _ :: _ :: _ :: _, _, z2, _ => simp at z2

end Go.Proofs.YthhpdjjfbfkgiaaGreatDoor.Clk
/- Contracts: when.seconds, when.clockOf, when.ReadAt, when.ReadSave. -/
namespace Go.Proofs.YthhpdjjfbfkgiaaGreatDoor
open Go.RowKit
set_option linter.unusedVariables false

/-- the clock that a letter names. -/
def clkV (L : List UInt8) : Int := if L = [] ∨ L = [119] then 119 else if L = [115] then 115 else if L = [117] ∨ L = [103] ∨ L = [122] then 117 else 0
theorem ret_u8 {a b : Int} (h : a = b) : Ending.returned (.int .u8 a) = .returned (.int .u8 b) := by rw [h]

set_option maxRecDepth 100000 in
set_option maxHeartbeats 4000000 in
theorem clockOf_any (RS : ByteArray) (w : World) :
    Calls Tryz.prog 131 #[.string RS] w fun e w' => e = .returned (.int .u8 (clkV RS.toList)) ∧ Below w.heap.size w w' := by
  obtain ⟨V, hV⟩ : ∃ V, V = clkV RS.toList := ⟨_, rfl⟩
  rw [← hV]
  have HV : Hid (V = clkV RS.toList) := hV
  clear hV
  by_cases h0 : RS.size = 0
  · obtain rfl := Wrd.empty_of h0
    obtain rfl : V = 119 := by rw [HV.out, Lib.toList_data]; decide
    clear h0
    go_enter Tryz.func131, Tryz.ntmps131
    go_wp2
    go_ret
    exact ⟨rfl, Below.refl _ _⟩
  · obtain ⟨r1, r2⟩ := Wrd.toList_ne h0
    have HN : Hid (RS.toList ≠ []) := fun e => by rw [e] at r2; simp at r2
    go_enter Tryz.func131, Tryz.ntmps131
    go_wp2
    all_goals (go_ret; refine ⟨ret_u8 ?_, Below.refl _ _⟩; rw [HV.out]; have hn := HN.out; unfold clkV; simp_all)

theorem ret_three3 {a c : Int} {b d : ByteArray} {x y : Bool} (h1 : a = c) (h2 : b = d) (h3 : x = y) : Ending.returned (.tuple #[.int .i64 a, .string b, .bool x]) = .returned (.tuple #[.int .i64 c, .string d, .bool y]) := by rw [h1, h2, h3]

set_option maxRecDepth 100000 in
set_option maxHeartbeats 4000000 in
theorem seconds_core (s FC RS F2 : ByteArray) (V E U : Int) (b : Bool) (hz : FC.size ≤ 140737488351232) (hF : F2 = if b = true then FC else FC ++ ⟨#[58, 48, 48]⟩) (hU : V.tdiv 1000000 = U) (v1 : 0 ≤ V) (v2 : V ≤ 9000000000000000000)
    (CU : Hid (∀ w : World, Calls Tryz.prog 123 #[.string s, .func (.func 132) #[] #[]] w fun e w' => e = .returned (.tuple #[.string FC, .string RS]) ∧ Below w.heap.size w w'))
    (CO : Hid (∀ w : World, Calls Tryz.prog 22 #[.string FC, .string ⟨#[58]⟩] w fun e w' => e = .returned (.bool b) ∧ w' = w))
    (RD : Hid (∀ w : World, Calls Tryz.prog 133 #[.string F2] w fun e w' => e = .returned (.tuple #[.int .i64 V, .int .i64 E]) ∧ Below w.heap.size w w')) (w : World) :
    Calls Tryz.prog 130 #[.string s] w fun e w' => e = .returned (.tuple #[.int .i64 U, .string RS, .bool (E == 0)]) ∧ Below w.heap.size w w' := by
  have hU' : V / 1000000 = U := by rw [← hU, Int.tdiv_eq_ediv_of_nonneg v1]
  have u0 : 0 ≤ U := by omega
  have u1 : U ≤ 9000000000000000000 := by omega
  clear hU'
  cases b
  · rw [if_neg (by decide)] at hF
    subst hF
    go_enter Tryz.func130, Tryz.ntmps130
    go_wp2_with fail
    refine (CU.out _).mono ?_
    rintro e w1 ⟨rfl, hb⟩
    have B1 : Hid (BelS w w1) := hb
    clear hb
    go_wp2_with fail
    refine (CO.out _).mono ?_
    rintro e w2 ⟨rfl, rfl⟩
    go_wp2_with fail
    refine (RD.out _).mono ?_
    rintro e w3 ⟨rfl, hb⟩
    have B3 : Hid (BelS w w3) := B1.out.below hb
    clear hb
    go_wp2
    refine bodyPost_ret (results_tmp3 rfl _ _ _) rfl ?_
    exact ⟨ret_three3 rfl rfl rfl, B3.out⟩
  · rw [if_pos rfl] at hF
    subst hF
    go_enter Tryz.func130, Tryz.ntmps130
    go_wp2_with fail
    refine (CU.out _).mono ?_
    rintro e w1 ⟨rfl, hb⟩
    have B1 : Hid (BelS w w1) := hb
    clear hb
    go_wp2_with fail
    refine (CO.out _).mono ?_
    rintro e w2 ⟨rfl, rfl⟩
    go_wp2_with fail
    refine (RD.out _).mono ?_
    rintro e w3 ⟨rfl, hb⟩
    have B3 : Hid (BelS w w3) := B1.out.below hb
    clear hb
    go_wp2
    refine bodyPost_ret (results_tmp3 rfl _ _ _) rfl ?_
    exact ⟨ret_three3 rfl rfl rfl, B3.out⟩

/-- the face at a text's beginning, with minutes. -/
def fc (l : List UInt8) : List UInt8 := if 0 ≤ Lib.indexByte (l.takeWhile faceC) 58 then l.takeWhile faceC else l.takeWhile faceC ++ [58, 48, 48]
def sV (l : List UInt8) : Int := (Clk.ansV (Clk.cForm (fc l))).tdiv 1000000
def sOk (l : List UInt8) : Bool := Clk.ansE (Clk.cForm (fc l)) == 0
theorem ansV_bd (o : Option (Int × Int × Int × Int)) : 0 ≤ Clk.ansV o ∧ Clk.ansV o ≤ 9000000000000000000 := by
  cases o with
  | none => show _ ≤ (0 : Int) ∧ (0 : Int) ≤ _; omega
  | some t =>
    obtain ⟨h, m, s, u⟩ := t
    show _ ≤ Clk.mkV h m s u ∧ Clk.mkV h m s u ≤ _
    unfold Clk.mkV
    split
    · rename_i k; unfold Clk.mkOk at k; omega
    · omega

theorem seconds_any (l : List UInt8) (hl : l.length ≤ 140737488351232) (w : World) :
    Calls Tryz.prog 130 #[.string ⟨l.toArray⟩] w fun e w' => e = .returned (.tuple #[.int .i64 (sV l), .string ⟨(l.dropWhile faceC).toArray⟩, .bool (sOk l)]) ∧ Below w.heap.size w w' := by
  have hle : (l.takeWhile faceC).length ≤ l.length := (List.takeWhile_sublist _).length_le
  have bd := ansV_bd (Clk.cForm (fc l))
  refine seconds_core ⟨l.toArray⟩ ⟨(l.takeWhile faceC).toArray⟩ ⟨(l.dropWhile faceC).toArray⟩ ⟨(fc l).toArray⟩ (Clk.ansV (Clk.cForm (fc l))) (Clk.ansE (Clk.cForm (fc l))) _ (decide (0 ≤ Lib.indexByte (l.takeWhile faceC) 58)) (by show (l.takeWhile faceC).toArray.size ≤ _; simp; omega) ?_ rfl bd.1 bd.2 (fun w => cut_face l w (by unfold maxLen; omega)) (fun w => Tryz.strings_Contains_one _ 58 w) (fun w => Clk.read_any (fc l) w) w
  unfold fc
  by_cases h : 0 ≤ Lib.indexByte (l.takeWhile faceC) 58
  · rw [if_pos h, decide_eq_true h, if_pos rfl]
  · rw [if_neg h, decide_eq_false h, if_neg (by decide)]
    apply ByteArray.ext
    simp

/-- the block of a result of a time. -/
def ResA (w : World) (b : Nat) (W : World) : Prop :=
  b < W.heap.size ∧ W.cell? ⟨b, 0, none⟩ = some (.int .i64 0) ∧ W.cell? ⟨b, 1, none⟩ = some (.int .u8 0) ∧ W.frozen? ⟨b, 0, none⟩ = false ∧ W.frozen? ⟨b, 1, none⟩ = false ∧ Below w.heap.size w W
theorem ResA.below {w W W1 : World} {b : Nat} (h : ResA w b W) (hb : Below W.heap.size W W1) : ResA w b W1 :=
  ⟨Nat.lt_of_lt_of_le h.1 hb.size, (hb.cell (p := ⟨b, 0, none⟩) h.1).trans h.2.1, (hb.cell (p := ⟨b, 1, none⟩) h.1).trans h.2.2.1, (hb.frozen (p := ⟨b, 0, none⟩) h.1).trans h.2.2.2.1, (hb.frozen (p := ⟨b, 1, none⟩) h.1).trans h.2.2.2.2.1, h.2.2.2.2.2.trans (hb.mono h.2.2.2.2.2.size)⟩
theorem ResA.new (w : World) (t : TypeId) : ResA w w.heap.size (w.alloc (.cells #[.int .i64 0, .int .u8 0] t)) :=
  ⟨by simp, by rw [World.cell?_alloc_at _ _ _ _ rfl]; rfl, by rw [World.cell?_alloc_at _ _ _ _ rfl]; rfl, by rw [World.frozen?_alloc_at _ _ _ _ rfl], by rw [World.frozen?_alloc_at _ _ _ _ rfl], (Below.refl _ _).alloc (Nat.le_refl _) _⟩
theorem two_set {W : World} {b : Nat} {a c x y : Value} (h0 : W.cell? ⟨b, 0, none⟩ = some a) (h1 : W.cell? ⟨b, 1, none⟩ = some c) :
    ((W.setCell ⟨b, 0, none⟩ x).setCell ⟨b, 1, none⟩ y).cell? ⟨b, 0, none⟩ = some x ∧ ((W.setCell ⟨b, 0, none⟩ x).setCell ⟨b, 1, none⟩ y).cell? ⟨b, 1, none⟩ = some y :=
  ⟨(World.cell?_setCell_other _ _ _ _ (adr_ne (by decide))).trans (World.cell?_setCell_same _ _ _ h0), World.cell?_setCell_same _ _ _ ((World.cell?_setCell_other _ _ _ _ (adr_ne (by decide))).trans h1)⟩

end Go.Proofs.YthhpdjjfbfkgiaaGreatDoor
/- Contracts: when.ReadAt, when.ReadSave, whole. -/
namespace Go.Proofs.YthhpdjjfbfkgiaaGreatDoor
open Go.RowKit
set_option linter.unusedVariables false

set_option maxRecDepth 100000 in
set_option maxHeartbeats 4000000 in
theorem rat_dash (s : ByteArray) (h : s = ⟨#[45]⟩)
    (w : World) :
    Calls Tryz.prog 129 #[.string s] w fun e w' => e = .returned (.tuple #[.agg #[.int .i64 0, .int .u8 119], .int .i64 0]) ∧ Below w.heap.size w w' := by
  subst h
  have S0 : Hid (ResA w w.heap.size (w.alloc (.cells #[.int .i64 0, .int .u8 0] 61))) := ResA.new w _
  go_enter Tryz.func129, Tryz.ntmps129
  have HB : Hid (Below w.heap.size w (w.alloc (.cells #[.int .i64 0, .int .u8 0] 61))) := S0.out.2.2.2.2.2
  go_wp2
  refine bodyPost_ret (v := .tuple #[.agg #[.int .i64 0, .int .u8 119], .int .i64 0]) (by simp [results, Tryz.results129, go_sem]) rfl ⟨rfl, ?_⟩
  exact (Below.refl _ _).alloc (Nat.le_refl _) _

set_option maxRecDepth 100000 in
set_option maxHeartbeats 4000000 in
theorem rat_yes (s RS : ByteArray) (U k : Int) (hs : s.toList ≠ [45]) (hk : k ≠ 0)
    (SE : Hid (∀ w : World, Calls Tryz.prog 130 #[.string s] w fun e w' => e = .returned (.tuple #[.int .i64 U, .string RS, .bool true]) ∧ Below w.heap.size w w'))
    (CK : Hid (∀ w : World, Calls Tryz.prog 131 #[.string RS] w fun e w' => e = .returned (.int .u8 k) ∧ Below w.heap.size w w'))
    (w : World) :
    Calls Tryz.prog 129 #[.string s] w fun e w' => e = .returned (.tuple #[.agg #[.int .i64 U, .int .u8 k], .int .i64 0]) ∧ Below w.heap.size w w' := by
  have n1 : (s.toList == [45]) = false := beq_eq_false_iff_ne.2 (fun e => hs e)
  have k1 : (k == 0) = false := beq_eq_false_iff_ne.2 hk
  have S0 : Hid (ResA w w.heap.size (w.alloc (.cells #[.int .i64 0, .int .u8 0] 61))) := ResA.new w _
  go_enter Tryz.func129, Tryz.ntmps129
  go_wp2_with fail
  refine (SE.out _).mono ?_
  rintro e w1 ⟨rfl, hb⟩
  have S1 : Hid (ResA w w.heap.size w1) := S0.out.below hb
  clear hb S0
  go_wp2_with fail
  refine (CK.out _).mono ?_
  rintro e w2 ⟨rfl, hb⟩
  have S2 : Hid (ResA w w.heap.size w2) := S1.out.below hb
  clear hb S1
  obtain ⟨q1, q2, q3, q5, q6, q8⟩ := S2.out
  obtain ⟨y1, y2⟩ := two_set (x := .int .i64 U) (y := .int .u8 k) q2 q3
  have HB : Hid (Below w.heap.size w w2) := q8
  clear q8
  go_wp2
  refine bodyPost_ret (v := .tuple #[.agg #[.int .i64 U, .int .u8 k], .int .i64 0]) (by simp [results, Tryz.results129, go_sem, y1, y2]) rfl ⟨rfl, ?_⟩
  exact (HB.out.setCell (Nat.le_refl _) _).setCell (Nat.le_refl _) _

set_option maxRecDepth 100000 in
set_option maxHeartbeats 4000000 in
theorem rat_no1 (s RS : ByteArray) (U k : Int) (hs : s.toList ≠ [45])
    (SE : Hid (∀ w : World, Calls Tryz.prog 130 #[.string s] w fun e w' => e = .returned (.tuple #[.int .i64 U, .string RS, .bool false]) ∧ Below w.heap.size w w'))
    (CK : Hid (∀ w : World, Calls Tryz.prog 131 #[.string RS] w fun e w' => e = .returned (.int .u8 k) ∧ Below w.heap.size w w'))
    (w : World) :
    Calls Tryz.prog 129 #[.string s] w fun e w' => e = .returned (.tuple #[.agg #[.int .i64 0, .int .u8 0], .int .i64 21]) ∧ Below w.heap.size w w' := by
  have n1 : (s.toList == [45]) = false := beq_eq_false_iff_ne.2 (fun e => hs e)
  have S0 : Hid (ResA w w.heap.size (w.alloc (.cells #[.int .i64 0, .int .u8 0] 61))) := ResA.new w _
  go_enter Tryz.func129, Tryz.ntmps129
  go_wp2_with fail
  refine (SE.out _).mono ?_
  rintro e w1 ⟨rfl, hb⟩
  have S1 : Hid (ResA w w.heap.size w1) := S0.out.below hb
  clear hb S0
  go_wp2_with fail
  refine (CK.out _).mono ?_
  rintro e w2 ⟨rfl, hb⟩
  have S2 : Hid (ResA w w.heap.size w2) := S1.out.below hb
  clear hb S1
  obtain ⟨q1, q2, q3, q5, q6, q8⟩ := S2.out
  obtain ⟨y1, y2⟩ := two_set (x := .int .i64 0) (y := .int .u8 0) q2 q3
  have HB : Hid (Below w.heap.size w w2) := q8
  clear q8
  go_wp2
  refine bodyPost_ret (v := .tuple #[.agg #[.int .i64 0, .int .u8 0], .int .i64 21]) (by simp [results, Tryz.results129, go_sem, y1, y2]) rfl ⟨rfl, ?_⟩
  exact (HB.out.setCell (Nat.le_refl _) _).setCell (Nat.le_refl _) _

set_option maxRecDepth 100000 in
set_option maxHeartbeats 4000000 in
theorem rat_no2 (s RS : ByteArray) (U : Int) (hs : s.toList ≠ [45])
    (SE : Hid (∀ w : World, Calls Tryz.prog 130 #[.string s] w fun e w' => e = .returned (.tuple #[.int .i64 U, .string RS, .bool true]) ∧ Below w.heap.size w w'))
    (CK : Hid (∀ w : World, Calls Tryz.prog 131 #[.string RS] w fun e w' => e = .returned (.int .u8 0) ∧ Below w.heap.size w w'))
    (w : World) :
    Calls Tryz.prog 129 #[.string s] w fun e w' => e = .returned (.tuple #[.agg #[.int .i64 0, .int .u8 0], .int .i64 21]) ∧ Below w.heap.size w w' := by
  have n1 : (s.toList == [45]) = false := beq_eq_false_iff_ne.2 (fun e => hs e)
  have S0 : Hid (ResA w w.heap.size (w.alloc (.cells #[.int .i64 0, .int .u8 0] 61))) := ResA.new w _
  go_enter Tryz.func129, Tryz.ntmps129
  go_wp2_with fail
  refine (SE.out _).mono ?_
  rintro e w1 ⟨rfl, hb⟩
  have S1 : Hid (ResA w w.heap.size w1) := S0.out.below hb
  clear hb S0
  go_wp2_with fail
  refine (CK.out _).mono ?_
  rintro e w2 ⟨rfl, hb⟩
  have S2 : Hid (ResA w w.heap.size w2) := S1.out.below hb
  clear hb S1
  obtain ⟨q1, q2, q3, q5, q6, q8⟩ := S2.out
  obtain ⟨y1, y2⟩ := two_set (x := .int .i64 0) (y := .int .u8 0) q2 q3
  have HB : Hid (Below w.heap.size w w2) := q8
  clear q8
  go_wp2
  refine bodyPost_ret (v := .tuple #[.agg #[.int .i64 0, .int .u8 0], .int .i64 21]) (by simp [results, Tryz.results129, go_sem, y1, y2]) rfl ⟨rfl, ?_⟩
  exact (HB.out.setCell (Nat.le_refl _) _).setCell (Nat.le_refl _) _

set_option maxRecDepth 100000 in
set_option maxHeartbeats 4000000 in
theorem rsv_dash (s : ByteArray) (h : s = ⟨#[45]⟩)
    (w : World) :
    Calls Tryz.prog 141 #[.string s] w fun e w' => e = .returned (.tuple #[.int .i64 0, .int .i64 0]) ∧ Below w.heap.size w w' := by
  subst h
  go_enter Tryz.func141, Tryz.ntmps141
  go_wp2
  go_ret2
  exact ⟨rfl, Below.refl _ _⟩

set_option maxRecDepth 100000 in
set_option maxHeartbeats 4000000 in
theorem rsv_pos (s DG RS : ByteArray) (U : Int) (hs : s.toList ≠ [45]) (hr : RS = ⟨#[]⟩) (u0 : 0 ≤ U) (u1 : U ≤ 9000000000000000000)
    (CP : Hid (∀ w : World, Calls Tryz.prog 54 #[.string s, .string ⟨#[45]⟩] w fun e w' => e = .returned (.tuple #[.string DG, .bool false]) ∧ w' = w))
    (SE : Hid (∀ w : World, Calls Tryz.prog 130 #[.string DG] w fun e w' => e = .returned (.tuple #[.int .i64 U, .string RS, .bool true]) ∧ Below w.heap.size w w'))
    (w : World) :
    Calls Tryz.prog 141 #[.string s] w fun e w' => e = .returned (.tuple #[.int .i64 U, .int .i64 0]) ∧ Below w.heap.size w w' := by
  have n1 : (s.toList == [45]) = false := beq_eq_false_iff_ne.2 (fun e => hs e)
  subst hr
  go_enter Tryz.func141, Tryz.ntmps141
  go_wp2_with fail
  refine (CP.out _).mono ?_
  rintro e w1 ⟨rfl, rfl⟩
  go_wp2_with fail
  refine (SE.out _).mono ?_
  rintro e w2 ⟨rfl, hb⟩
  have HB : Hid (Below _ _ w2) := hb
  clear hb
  go_wp2
  go_ret2
  exact ⟨rfl, HB.out⟩

set_option maxRecDepth 100000 in
set_option maxHeartbeats 4000000 in
theorem rsv_neg (s DG RS : ByteArray) (U : Int) (hs : s.toList ≠ [45]) (hr : RS = ⟨#[]⟩) (u0 : 0 ≤ U) (u1 : U ≤ 9000000000000000000)
    (CP : Hid (∀ w : World, Calls Tryz.prog 54 #[.string s, .string ⟨#[45]⟩] w fun e w' => e = .returned (.tuple #[.string DG, .bool true]) ∧ w' = w))
    (SE : Hid (∀ w : World, Calls Tryz.prog 130 #[.string DG] w fun e w' => e = .returned (.tuple #[.int .i64 U, .string RS, .bool true]) ∧ Below w.heap.size w w'))
    (w : World) :
    Calls Tryz.prog 141 #[.string s] w fun e w' => e = .returned (.tuple #[.int .i64 (-U), .int .i64 0]) ∧ Below w.heap.size w w' := by
  have n1 : (s.toList == [45]) = false := beq_eq_false_iff_ne.2 (fun e => hs e)
  subst hr
  go_enter Tryz.func141, Tryz.ntmps141
  go_wp2_with fail
  refine (CP.out _).mono ?_
  rintro e w1 ⟨rfl, rfl⟩
  go_wp2_with fail
  refine (SE.out _).mono ?_
  rintro e w2 ⟨rfl, hb⟩
  have HB : Hid (Below _ _ w2) := hb
  clear hb
  go_wp2
  go_ret2
  exact ⟨rfl, HB.out⟩

set_option maxRecDepth 100000 in
set_option maxHeartbeats 4000000 in
theorem rsv_no1_true (s DG RS : ByteArray) (U : Int) (hs : s.toList ≠ [45])
    (CP : Hid (∀ w : World, Calls Tryz.prog 54 #[.string s, .string ⟨#[45]⟩] w fun e w' => e = .returned (.tuple #[.string DG, .bool true]) ∧ w' = w))
    (SE : Hid (∀ w : World, Calls Tryz.prog 130 #[.string DG] w fun e w' => e = .returned (.tuple #[.int .i64 U, .string RS, .bool false]) ∧ Below w.heap.size w w'))
    (w : World) :
    Calls Tryz.prog 141 #[.string s] w fun e w' => e = .returned (.tuple #[.int .i64 0, .int .i64 21]) ∧ Below w.heap.size w w' := by
  have n1 : (s.toList == [45]) = false := beq_eq_false_iff_ne.2 (fun e => hs e)
  go_enter Tryz.func141, Tryz.ntmps141
  go_wp2_with fail
  refine (CP.out _).mono ?_
  rintro e w1 ⟨rfl, rfl⟩
  go_wp2_with fail
  refine (SE.out _).mono ?_
  rintro e w2 ⟨rfl, hb⟩
  have HB : Hid (Below _ _ w2) := hb
  clear hb
  go_wp2
  go_ret2
  exact ⟨rfl, HB.out⟩

set_option maxRecDepth 100000 in
set_option maxHeartbeats 4000000 in
theorem rsv_no2_true (s DG RS : ByteArray) (U : Int) (hs : s.toList ≠ [45]) (hr : RS.size ≠ 0)
    (CP : Hid (∀ w : World, Calls Tryz.prog 54 #[.string s, .string ⟨#[45]⟩] w fun e w' => e = .returned (.tuple #[.string DG, .bool true]) ∧ w' = w))
    (SE : Hid (∀ w : World, Calls Tryz.prog 130 #[.string DG] w fun e w' => e = .returned (.tuple #[.int .i64 U, .string RS, .bool true]) ∧ Below w.heap.size w w'))
    (w : World) :
    Calls Tryz.prog 141 #[.string s] w fun e w' => e = .returned (.tuple #[.int .i64 0, .int .i64 21]) ∧ Below w.heap.size w w' := by
  have n1 : (s.toList == [45]) = false := beq_eq_false_iff_ne.2 (fun e => hs e)
  obtain ⟨r1, r2⟩ := Wrd.toList_ne hr
  have r3 : (RS.toList != []) = true := by simp [bne, r2]
  go_enter Tryz.func141, Tryz.ntmps141
  go_wp2_with fail
  refine (CP.out _).mono ?_
  rintro e w1 ⟨rfl, rfl⟩
  go_wp2_with fail
  refine (SE.out _).mono ?_
  rintro e w2 ⟨rfl, hb⟩
  have HB : Hid (Below _ _ w2) := hb
  clear hb
  go_wp2
  go_ret2
  exact ⟨rfl, HB.out⟩

set_option maxRecDepth 100000 in
set_option maxHeartbeats 4000000 in
theorem rsv_no1_false (s DG RS : ByteArray) (U : Int) (hs : s.toList ≠ [45])
    (CP : Hid (∀ w : World, Calls Tryz.prog 54 #[.string s, .string ⟨#[45]⟩] w fun e w' => e = .returned (.tuple #[.string DG, .bool false]) ∧ w' = w))
    (SE : Hid (∀ w : World, Calls Tryz.prog 130 #[.string DG] w fun e w' => e = .returned (.tuple #[.int .i64 U, .string RS, .bool false]) ∧ Below w.heap.size w w'))
    (w : World) :
    Calls Tryz.prog 141 #[.string s] w fun e w' => e = .returned (.tuple #[.int .i64 0, .int .i64 21]) ∧ Below w.heap.size w w' := by
  have n1 : (s.toList == [45]) = false := beq_eq_false_iff_ne.2 (fun e => hs e)
  go_enter Tryz.func141, Tryz.ntmps141
  go_wp2_with fail
  refine (CP.out _).mono ?_
  rintro e w1 ⟨rfl, rfl⟩
  go_wp2_with fail
  refine (SE.out _).mono ?_
  rintro e w2 ⟨rfl, hb⟩
  have HB : Hid (Below _ _ w2) := hb
  clear hb
  go_wp2
  go_ret2
  exact ⟨rfl, HB.out⟩

set_option maxRecDepth 100000 in
set_option maxHeartbeats 4000000 in
theorem rsv_no2_false (s DG RS : ByteArray) (U : Int) (hs : s.toList ≠ [45]) (hr : RS.size ≠ 0)
    (CP : Hid (∀ w : World, Calls Tryz.prog 54 #[.string s, .string ⟨#[45]⟩] w fun e w' => e = .returned (.tuple #[.string DG, .bool false]) ∧ w' = w))
    (SE : Hid (∀ w : World, Calls Tryz.prog 130 #[.string DG] w fun e w' => e = .returned (.tuple #[.int .i64 U, .string RS, .bool true]) ∧ Below w.heap.size w w'))
    (w : World) :
    Calls Tryz.prog 141 #[.string s] w fun e w' => e = .returned (.tuple #[.int .i64 0, .int .i64 21]) ∧ Below w.heap.size w w' := by
  have n1 : (s.toList == [45]) = false := beq_eq_false_iff_ne.2 (fun e => hs e)
  obtain ⟨r1, r2⟩ := Wrd.toList_ne hr
  have r3 : (RS.toList != []) = true := by simp [bne, r2]
  go_enter Tryz.func141, Tryz.ntmps141
  go_wp2_with fail
  refine (CP.out _).mono ?_
  rintro e w1 ⟨rfl, rfl⟩
  go_wp2_with fail
  refine (SE.out _).mono ?_
  rintro e w2 ⟨rfl, hb⟩
  have HB : Hid (Below _ _ w2) := hb
  clear hb
  go_wp2
  go_ret2
  exact ⟨rfl, HB.out⟩

end Go.Proofs.YthhpdjjfbfkgiaaGreatDoor
