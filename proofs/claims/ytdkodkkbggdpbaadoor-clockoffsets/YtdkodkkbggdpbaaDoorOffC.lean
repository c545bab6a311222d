/- Contract of clock.seconds and clock.ReadOffset. -/
import Derived.Test.YtdkodkkbggdpbaaDoorOffR
namespace Go.Proofs.YtdkodkkbggdpbaaDoor
open Go.RowKit
set_option linter.unusedVariables false

/-- how many seconds runs are, from a place on. -/
def secF : Nat → Int → Int → List Run → Int × Int
  | _, s, _, [] => if 57599 < s then (0, 10) else (s, 0)
  | i, s, u, r :: l => if 0 < i ∧ ¬ (0 ≤ r.2.2 ∧ r.2.2 < 60) then (0, 10) else secF (i + 1) (s + r.2.2 * u) (u / 60) l
theorem secF_step {l : List Run} {i : Nat} {s u : Int} {r : Run} (h : l[i]? = some r) : secF i s u (l.drop i) = (if 0 < i ∧ ¬ (0 ≤ r.2.2 ∧ r.2.2 < 60) then (0, 10) else secF (i + 1) (s + r.2.2 * u) (u / 60) (l.drop (i + 1))) := by
  obtain ⟨hl, he⟩ := List.getElem?_eq_some_iff.1 h
  rw [List.drop_eq_getElem_cons hl, he]
  rfl

set_option maxRecDepth 1000000 in
set_option maxHeartbeats 4000000 in
theorem seconds_any (l : List Run) (g cap : Nat) (w : World) (hg : g < w.heap.size) (hl : l.length ≤ 3) (hcap : l.length ≤ cap) (hcap2 : cap ≤ maxLen) (hc : Hid (∀ j u, (flat l)[j]? = some u → w.cell? ⟨g, j, none⟩ = some u)) (hn : Hid (∀ r ∈ l, 0 ≤ r.2.2 ∧ r.2.2 ≤ 999999)) (V E : Int) (hV : Hid (secF 0 0 3600 l = (V, E))) :
    Calls Tryd.prog 46 #[.slice (some ⟨g, 0, none⟩) l.length cap] w fun e w' => e = .returned (.tuple #[.int .i64 V, .int .i64 E]) ∧ Below w.heap.size w w' := by
  go_enter Tryd.func46, Tryd.ntmps46
  go_wp2_with fail
  go_loopw [4, 5, 10] (fun sv uv k wr => ∃ (i : Nat) (s u : Int), i ≤ l.length ∧ sv = .int .i64 s ∧ uv = .int .i64 u ∧ k = .int .i64 (i : Int) ∧ Below w.heap.size w wr ∧ Hid (secF i s u (l.drop i) = (V, E)) ∧ 0 ≤ u ∧ u ≤ 3600 ∧ 0 ≤ s ∧ s ≤ (i : Int) * 3600000000) (fun _ _ k _ => l.length - (intOf k).toNat)
  case atStart => exact ⟨0, 0, 3600, by omega, rfl, rfl, rfl, Below.refl _ _, hV, by omega, by omega, by omega, by omega⟩
  case round =>
    obtain ⟨i, s, u, hi, rfl, rfl, rfl, hB, HS, u0, u1, s0, s1⟩ := hrel
    have HB : Hid (Below w.heap.size w wr) := hB
    by_cases hlt : i < l.length
    · have hlt' : (i : Int) < (l.length : Int) := by omega
      obtain ⟨r, hr⟩ : ∃ r, l[i]? = some r := ⟨l[i]'hlt, List.getElem?_eq_getElem hlt⟩
      obtain ⟨q1, q2, q3⟩ := flat_at l i r hr
      have k1 : wr.cell? ⟨g, i * 3, none⟩ = some (.int .i32 r.1) := (hB.cell (p := ⟨g, i * 3, none⟩) hg).trans (hc.out _ _ q1)
      have k2 : wr.cell? ⟨g, i * 3 + 1, none⟩ = some (.int .i64 (r.2.1 : Int)) := (hB.cell (p := ⟨g, i * 3 + 1, none⟩) hg).trans (hc.out _ _ q2)
      have k3 : wr.cell? ⟨g, i * 3 + 2, none⟩ = some (.int .i64 r.2.2) := (hB.cell (p := ⟨g, i * 3 + 2, none⟩) hg).trans (hc.out _ _ q3)
      have c48 : Tryd.prog.cellsOf 60 = 3 := by kernel_rfl
      have HE := HS.out
      rw [secF_step hr] at HE
      obtain ⟨n0, n1⟩ := hn.out r (List.mem_of_getElem? hr)
      obtain ⟨m, d, n⟩ := r
      simp only at k1 k2 k3 HE n0 n1
      have i0 : (0 : Int) ≤ (i : Int) := by omega
      have i3 : (i : Int) ≤ 3 := by omega
      have p0 : 0 ≤ n * u := Int.mul_nonneg n0 u0
      have p1 : n * u ≤ 999999 * 3600 := Int.mul_le_mul n1 u1 u0 (by decide)
      have eu : u.tdiv 60 = u / 60 := Int.tdiv_eq_ediv_of_nonneg u0
      clear q1 q2 q3 hB hr
      by_cases hbad : 0 < i ∧ ¬ (0 ≤ n ∧ n < 60)
      · rw [if_pos hbad] at HE
        obtain ⟨rfl, rfl⟩ : (0 : Int) = V ∧ (10 : Int) = E := by simpa using HE
        have iz : (0 : Int) < (i : Int) := by omega
        have nn : ¬ n < 60 := by omega
        clear hbad HE p0 p1
        go_wp2
        go_ret2
        exact ⟨rfl, HB.out.alloc HB.out.size _⟩
      · rw [if_neg hbad] at HE
        have HN : Hid (secF (i + 1) (s + n * u) (u / 60) (l.drop (i + 1)) = (V, E)) := HE
        clear HE
        by_cases iz : i = 0
        · subst iz
          clear hbad
          go_wp2
          go_roundw
          case rel => exact ⟨1, s + n * u, u / 60, by omega, by go_num, by go_num, rfl, HB.out.alloc HB.out.size _, HN, by omega, by omega, by omega, by omega⟩
          case measure => simp [intOf]; omega
        · have iz1 : (0 : Int) < (i : Int) := by omega
          have nn : n < 60 := by omega
          clear hbad
          go_wp2
          go_roundw
          case rel => exact ⟨i + 1, s + n * u, u / 60, by omega, by go_num, by go_num, by go_num, HB.out.alloc HB.out.size _, HN, by omega, by omega, by omega, by omega⟩
          case measure => simp [intOf]; omega
    · have hlt' : ¬ (i : Int) < (l.length : Int) := by omega
      have HE := HS.out
      rw [List.drop_of_length_le (by omega)] at HE
      unfold secF at HE
      by_cases hb : 57599 < s
      · rw [if_pos hb] at HE
        obtain ⟨rfl, rfl⟩ : (0 : Int) = V ∧ (10 : Int) = E := by simpa using HE
        clear HE
        go_wp2
        go_ret2
        exact ⟨rfl, HB.out⟩
      · rw [if_neg hb] at HE
        obtain ⟨rfl, rfl⟩ : s = V ∧ (0 : Int) = E := by simpa using HE
        clear HE
        go_wp2
        go_ret2
        exact ⟨rfl, HB.out⟩

theorem pre_yes (c : UInt8) (q : List UInt8) : Lib.hasPrefix (c :: q) [c] = true := by simp [Lib.hasPrefix]
theorem tail_of (c : UInt8) (q : List UInt8) (s : ByteArray) (k : Nat) (hs : s = ⟨(c :: q).toArray⟩) (hk : k = q.length) : s.size = k + 1 ∧ s.extract 1 (k + 1) = ⟨q.toArray⟩ := by
  subst hs hk
  refine ⟨by show (c :: q).toArray.size = _; simp, ?_⟩
  apply ByteArray.ext
  simp

set_option maxRecDepth 100000 in
set_option maxHeartbeats 4000000 in
theorem roff_no (s : ByteArray)
    (P1 : Hid (∀ w : World, Calls Tryd.prog 45 #[.string s, .string ⟨#[45]⟩] w fun e w' => e = .returned (.bool false) ∧ w' = w))
    (P2 : Hid (∀ w : World, Calls Tryd.prog 45 #[.string s, .string ⟨#[43]⟩] w fun e w' => e = .returned (.bool false) ∧ w' = w)) (w : World) :
    Calls Tryd.prog 15 #[.string s] w fun e w' => e = .returned (.tuple #[.int .i64 0, .int .i64 13]) ∧ Below w.heap.size w w' := by
  go_enter Tryd.func15, Tryd.ntmps15
  go_wp2_with fail
  refine (P1.out _).mono ?_
  rintro e w1 ⟨rfl, rfl⟩
  go_wp2_with fail
  refine (P2.out _).mono ?_
  rintro e w2 ⟨rfl, rfl⟩
  go_wp2
  go_ret2
  exact ⟨rfl, Below.refl _ _⟩

set_option maxRecDepth 1000000 in
set_option maxHeartbeats 4000000 in
theorem roff_n_none (s : ByteArray) (k : Nat) (hk : k ≤ 140737488351232) (hsz : s.size = k + 1) 
    (P1 : Hid (∀ w : World, Calls Tryd.prog 45 #[.string s, .string ⟨#[45]⟩] w fun e w' => e = .returned (.bool true) ∧ w' = w))
    (RN : Hid (∀ w : World, Calls Tryd.prog 33 #[.string (s.extract 1 (k + 1))] w fun e w' => Below w.heap.size w w' ∧ RunsOf w e w' (none))) (w : World) :
    Calls Tryd.prog 15 #[.string s] w fun e w' => e = .returned (.tuple #[.int .i64 0, .int .i64 13]) ∧ Below w.heap.size w w' := by
  go_enter Tryd.func15, Tryd.ntmps15
  go_wp2_with fail
  refine (P1.out _).mono ?_
  rintro e v1 ⟨rfl, rfl⟩
  go_wp2_with fail
  refine (RN.out _).mono ?_
  rintro e w1 ⟨hb, hr⟩
  obtain ⟨v, rfl⟩ := hr
  have HB : Hid (Below _ _ w1) := hb
  clear hb
  go_wp2
  go_ret2
  exact ⟨rfl, HB.out⟩

set_option maxRecDepth 1000000 in
set_option maxHeartbeats 4000000 in
theorem roff_n_zero (s : ByteArray) (k : Nat) (hk : k ≤ 140737488351232) (hsz : s.size = k + 1) (L : List Run) (hL : L.getLast?.map (·.2.1) = some 0) 
    (P1 : Hid (∀ w : World, Calls Tryd.prog 45 #[.string s, .string ⟨#[45]⟩] w fun e w' => e = .returned (.bool true) ∧ w' = w))
    (RN : Hid (∀ w : World, Calls Tryd.prog 33 #[.string (s.extract 1 (k + 1))] w fun e w' => Below w.heap.size w w' ∧ RunsOf w e w' (some L))) (w : World) :
    Calls Tryd.prog 15 #[.string s] w fun e w' => e = .returned (.tuple #[.int .i64 0, .int .i64 13]) ∧ Below w.heap.size w w' := by
  go_enter Tryd.func15, Tryd.ntmps15
  go_wp2_with fail
  refine (P1.out _).mono ?_
  rintro e v1 ⟨rfl, rfl⟩
  go_wp2_with fail
  refine (RN.out _).mono ?_
  rintro e w1 ⟨hb, hr⟩
  obtain ⟨v, d, rfl, ho, hdl⟩ := hr
  obtain rfl : d = 0 := by rw [hL] at hdl; exact (Option.some.inj hdl).symm
  have hdec : decide (0 < 0) = false := rfl
  have HB : Hid (Below _ _ w1) := hb
  clear hb ho hdl hL
  go_wp2
  go_ret2
  exact ⟨rfl, HB.out⟩

set_option maxRecDepth 1000000 in
set_option maxHeartbeats 4000000 in
theorem roff_n_onen (s : ByteArray) (k : Nat) (hk : k ≤ 140737488351232) (hsz : s.size = k + 1) (m0 n0 : Int) (d0 : Nat) (hd : 0 < d0) (h4 : d0 ≠ 4) (hf : Hid (faceOk [(m0, d0, n0)] = false)) 
    (P1 : Hid (∀ w : World, Calls Tryd.prog 45 #[.string s, .string ⟨#[45]⟩] w fun e w' => e = .returned (.bool true) ∧ w' = w))
    (RN : Hid (∀ w : World, Calls Tryd.prog 33 #[.string (s.extract 1 (k + 1))] w fun e w' => Below w.heap.size w w' ∧ RunsOf w e w' (some [(m0, d0, n0)]))) (w : World) :
    Calls Tryd.prog 15 #[.string s] w fun e w' => e = .returned (.tuple #[.int .i64 0, .int .i64 13]) ∧ Below w.heap.size w w' := by
  go_enter Tryd.func15, Tryd.ntmps15
  go_wp2_with fail
  refine (P1.out _).mono ?_
  rintro e v1 ⟨rfl, rfl⟩
  go_wp2_with fail
  refine (RN.out _).mono ?_
  rintro e w1 ⟨hb, hr⟩
  obtain ⟨v, d, rfl, ho, hdl⟩ := hr
  obtain rfl : d0 = d := by simpa using hdl
  have hdec : decide (0 < d0) = true := decide_eq_true hd
  have h4' : ((d0 : Int) == 4) = false := beq_eq_false_iff_ne.2 (by omega)
  rcases ho.2 with ⟨_, h0⟩ | ⟨g, cap, cur, rfl, hg, hblk, hcap, hcap2, hsz1, htk⟩
  · exact absurd h0 (by simp)
  have hglt : g < w1.heap.size := (Array.getElem?_eq_some_iff.1 hblk).1
  have hc : Hid (∀ j u, (flat [(m0, d0, n0)])[j]? = some u → w1.cell? ⟨g, j, none⟩ = some u) := fun j u hj => by
    have hlt : j < (flat [(m0, d0, n0)]).length := (List.getElem?_eq_some_iff.1 hj).1
    exact (ho.cellAt j (by rw [flat_length] at hlt; exact hlt)).trans hj
  have c48 : Tryd.prog.cellsOf 60 = 3 := by kernel_rfl
  have HB : Hid (Below _ _ w1) := hb
  have k0 : w1.cell? ⟨g, 1, none⟩ = some (.int .i64 (d0 : Int)) := hc.out 1 _ rfl
  have hcap' : 1 ≤ cap := by simpa using hcap
  clear hb ho hblk hsz1 htk hdl
  simp only [List.length_cons, List.length_nil]
  have HF : Hid (Calls Tryd.prog 34 #[.slice (some ⟨g, 0, none⟩) 1 cap] w1 fun e w' => e = .returned (.bool false) ∧ Below w1.heap.size w1 w') := by
    have q := isFace_any [(m0, d0, n0)] g cap w1 hglt (by simp) (by simp; omega) hcap2 hc
    rw [hf.out] at q
    exact q
  clear hcap
  go_wp2_with fail
  refine HF.out.mono ?_
  rintro e w2 ⟨rfl, hb2⟩
  have HB2 : Hid (Below _ _ w2) := HB.out.trans (hb2.mono HB.out.size)
  clear hb2
  go_wp2
  go_ret2
  exact ⟨rfl, HB2.out⟩

set_option maxRecDepth 1000000 in
set_option maxHeartbeats 4000000 in
theorem roff_n_oney (s : ByteArray) (k : Nat) (hk : k ≤ 140737488351232) (hsz : s.size = k + 1) (m0 n0 V E : Int) (d0 : Nat) (hd : 0 < d0) (h4 : d0 ≠ 4) (hf : Hid (faceOk [(m0, d0, n0)] = true)) (hn : Hid (∀ r ∈ [(m0, d0, n0)], 0 ≤ r.2.2 ∧ r.2.2 ≤ 999999)) (hV : Hid (secF 0 0 3600 [(m0, d0, n0)] = (V, E))) (V1 : -9000000000 ≤ V) (V2 : V ≤ 9000000000) 
    (P1 : Hid (∀ w : World, Calls Tryd.prog 45 #[.string s, .string ⟨#[45]⟩] w fun e w' => e = .returned (.bool true) ∧ w' = w))
    (RN : Hid (∀ w : World, Calls Tryd.prog 33 #[.string (s.extract 1 (k + 1))] w fun e w' => Below w.heap.size w w' ∧ RunsOf w e w' (some [(m0, d0, n0)]))) (w : World) :
    Calls Tryd.prog 15 #[.string s] w fun e w' => e = .returned (.tuple #[.int .i64 (-V), .int .i64 E]) ∧ Below w.heap.size w w' := by
  go_enter Tryd.func15, Tryd.ntmps15
  go_wp2_with fail
  refine (P1.out _).mono ?_
  rintro e v1 ⟨rfl, rfl⟩
  go_wp2_with fail
  refine (RN.out _).mono ?_
  rintro e w1 ⟨hb, hr⟩
  obtain ⟨v, d, rfl, ho, hdl⟩ := hr
  obtain rfl : d0 = d := by simpa using hdl
  have hdec : decide (0 < d0) = true := decide_eq_true hd
  have h4' : ((d0 : Int) == 4) = false := beq_eq_false_iff_ne.2 (by omega)
  rcases ho.2 with ⟨_, h0⟩ | ⟨g, cap, cur, rfl, hg, hblk, hcap, hcap2, hsz1, htk⟩
  · exact absurd h0 (by simp)
  have hglt : g < w1.heap.size := (Array.getElem?_eq_some_iff.1 hblk).1
  have hc : Hid (∀ j u, (flat [(m0, d0, n0)])[j]? = some u → w1.cell? ⟨g, j, none⟩ = some u) := fun j u hj => by
    have hlt : j < (flat [(m0, d0, n0)]).length := (List.getElem?_eq_some_iff.1 hj).1
    exact (ho.cellAt j (by rw [flat_length] at hlt; exact hlt)).trans hj
  have c48 : Tryd.prog.cellsOf 60 = 3 := by kernel_rfl
  have HB : Hid (Below _ _ w1) := hb
  have k0 : w1.cell? ⟨g, 1, none⟩ = some (.int .i64 (d0 : Int)) := hc.out 1 _ rfl
  have hcap' : 1 ≤ cap := by simpa using hcap
  clear hb ho hblk hsz1 htk hdl
  simp only [List.length_cons, List.length_nil]
  have HF : Hid (Calls Tryd.prog 34 #[.slice (some ⟨g, 0, none⟩) 1 cap] w1 fun e w' => e = .returned (.bool true) ∧ Below w1.heap.size w1 w') := by
    have q := isFace_any [(m0, d0, n0)] g cap w1 hglt (by simp) (by simp; omega) hcap2 hc
    rw [hf.out] at q
    exact q
  clear hcap
  go_wp2_with fail
  refine HF.out.mono ?_
  rintro e w2 ⟨rfl, hb2⟩
  have HB2 : Hid (Below _ _ w2) := HB.out.trans (hb2.mono HB.out.size)
  have hg2 : g < w2.heap.size := Nat.lt_of_lt_of_le hglt hb2.size
  have hc2 : Hid (∀ j u, (flat [(m0, d0, n0)])[j]? = some u → w2.cell? ⟨g, j, none⟩ = some u) := fun j u hj => (hb2.cell (p := ⟨g, j, none⟩) hglt).trans (hc.out j u hj)
  have HS : Hid (Calls Tryd.prog 46 #[.slice (some ⟨g, 0, none⟩) 1 cap] w2 fun e w' => e = .returned (.tuple #[.int .i64 V, .int .i64 E]) ∧ Below w2.heap.size w2 w') := seconds_any [(m0, d0, n0)] g cap w2 hg2 (by simp) (by simp; omega) hcap2 hc2 hn V E hV
  clear hb2
  go_wp2_with fail
  refine HS.out.mono ?_
  rintro e w3 ⟨rfl, hb3⟩
  have HB3 : Hid (Below _ _ w3) := HB2.out.trans (hb3.mono HB2.out.size)
  clear hb3
  go_wp2
  go_ret2
  exact ⟨rfl, HB3.out⟩

set_option maxRecDepth 1000000 in
set_option maxHeartbeats 4000000 in
theorem roff_n_moren (s : ByteArray) (k : Nat) (hk : k ≤ 140737488351232) (hsz : s.size = k + 1) (L : List Run) (hL1 : 2 ≤ L.length) (hL2 : L.length ≤ 4) (dl : Nat) (hL : L.getLast?.map (·.2.1) = some dl) (hd : 0 < dl) (hf : Hid (faceOk L = false)) 
    (P1 : Hid (∀ w : World, Calls Tryd.prog 45 #[.string s, .string ⟨#[45]⟩] w fun e w' => e = .returned (.bool true) ∧ w' = w))
    (RN : Hid (∀ w : World, Calls Tryd.prog 33 #[.string (s.extract 1 (k + 1))] w fun e w' => Below w.heap.size w w' ∧ RunsOf w e w' (some L))) (w : World) :
    Calls Tryd.prog 15 #[.string s] w fun e w' => e = .returned (.tuple #[.int .i64 0, .int .i64 13]) ∧ Below w.heap.size w w' := by
  go_enter Tryd.func15, Tryd.ntmps15
  go_wp2_with fail
  refine (P1.out _).mono ?_
  rintro e v1 ⟨rfl, rfl⟩
  go_wp2_with fail
  refine (RN.out _).mono ?_
  rintro e w1 ⟨hb, hr⟩
  obtain ⟨v, d, rfl, ho, hdl⟩ := hr
  obtain rfl : dl = d := by rw [hL] at hdl; exact Option.some.inj hdl
  have hdec : decide (0 < dl) = true := decide_eq_true hd
  have hL1' : ((L.length : Int) == 1) = false := beq_eq_false_iff_ne.2 (by omega)
  rcases ho.2 with ⟨_, h0⟩ | ⟨g, cap, cur, rfl, hg, hblk, hcap, hcap2, hsz1, htk⟩
  · exact absurd h0 (by omega)
  have hglt : g < w1.heap.size := (Array.getElem?_eq_some_iff.1 hblk).1
  have hc : Hid (∀ j u, (flat L)[j]? = some u → w1.cell? ⟨g, j, none⟩ = some u) := fun j u hj => by
    have hlt : j < (flat L).length := (List.getElem?_eq_some_iff.1 hj).1
    exact (ho.cellAt j (by rw [flat_length] at hlt; exact hlt)).trans hj
  have c48 : Tryd.prog.cellsOf 60 = 3 := by kernel_rfl
  have HB : Hid (Below _ _ w1) := hb
  clear hb ho hblk hsz1 htk hdl
  have HF : Hid (Calls Tryd.prog 34 #[.slice (some ⟨g, 0, none⟩) L.length cap] w1 fun e w' => e = .returned (.bool false) ∧ Below w1.heap.size w1 w') := by
    have q := isFace_any L g cap w1 hglt (by omega) hcap hcap2 hc
    rw [hf.out] at q
    exact q
  go_wp2_with fail
  refine HF.out.mono ?_
  rintro e w2 ⟨rfl, hb2⟩
  have HB2 : Hid (Below _ _ w2) := HB.out.trans (hb2.mono HB.out.size)
  clear hb2
  go_wp2
  go_ret2
  exact ⟨rfl, HB2.out⟩

set_option maxRecDepth 1000000 in
set_option maxHeartbeats 4000000 in
theorem roff_n_morey (s : ByteArray) (k : Nat) (hk : k ≤ 140737488351232) (hsz : s.size = k + 1) (L : List Run) (V E : Int) (hL1 : 2 ≤ L.length) (hL2 : L.length ≤ 3) (dl : Nat) (hL : L.getLast?.map (·.2.1) = some dl) (hd : 0 < dl) (hf : Hid (faceOk L = true)) (hn : Hid (∀ r ∈ L, 0 ≤ r.2.2 ∧ r.2.2 ≤ 999999)) (hV : Hid (secF 0 0 3600 L = (V, E))) (V1 : -9000000000 ≤ V) (V2 : V ≤ 9000000000) 
    (P1 : Hid (∀ w : World, Calls Tryd.prog 45 #[.string s, .string ⟨#[45]⟩] w fun e w' => e = .returned (.bool true) ∧ w' = w))
    (RN : Hid (∀ w : World, Calls Tryd.prog 33 #[.string (s.extract 1 (k + 1))] w fun e w' => Below w.heap.size w w' ∧ RunsOf w e w' (some L))) (w : World) :
    Calls Tryd.prog 15 #[.string s] w fun e w' => e = .returned (.tuple #[.int .i64 (-V), .int .i64 E]) ∧ Below w.heap.size w w' := by
  go_enter Tryd.func15, Tryd.ntmps15
  go_wp2_with fail
  refine (P1.out _).mono ?_
  rintro e v1 ⟨rfl, rfl⟩
  go_wp2_with fail
  refine (RN.out _).mono ?_
  rintro e w1 ⟨hb, hr⟩
  obtain ⟨v, d, rfl, ho, hdl⟩ := hr
  obtain rfl : dl = d := by rw [hL] at hdl; exact Option.some.inj hdl
  have hdec : decide (0 < dl) = true := decide_eq_true hd
  have hL1' : ((L.length : Int) == 1) = false := beq_eq_false_iff_ne.2 (by omega)
  rcases ho.2 with ⟨_, h0⟩ | ⟨g, cap, cur, rfl, hg, hblk, hcap, hcap2, hsz1, htk⟩
  · exact absurd h0 (by omega)
  have hglt : g < w1.heap.size := (Array.getElem?_eq_some_iff.1 hblk).1
  have hc : Hid (∀ j u, (flat L)[j]? = some u → w1.cell? ⟨g, j, none⟩ = some u) := fun j u hj => by
    have hlt : j < (flat L).length := (List.getElem?_eq_some_iff.1 hj).1
    exact (ho.cellAt j (by rw [flat_length] at hlt; exact hlt)).trans hj
  have c48 : Tryd.prog.cellsOf 60 = 3 := by kernel_rfl
  have HB : Hid (Below _ _ w1) := hb
  clear hb ho hblk hsz1 htk hdl
  have HF : Hid (Calls Tryd.prog 34 #[.slice (some ⟨g, 0, none⟩) L.length cap] w1 fun e w' => e = .returned (.bool true) ∧ Below w1.heap.size w1 w') := by
    have q := isFace_any L g cap w1 hglt (by omega) hcap hcap2 hc
    rw [hf.out] at q
    exact q
  go_wp2_with fail
  refine HF.out.mono ?_
  rintro e w2 ⟨rfl, hb2⟩
  have HB2 : Hid (Below _ _ w2) := HB.out.trans (hb2.mono HB.out.size)
  have hg2 : g < w2.heap.size := Nat.lt_of_lt_of_le hglt hb2.size
  have hc2 : Hid (∀ j u, (flat L)[j]? = some u → w2.cell? ⟨g, j, none⟩ = some u) := fun j u hj => (hb2.cell (p := ⟨g, j, none⟩) hglt).trans (hc.out j u hj)
  have HS : Hid (Calls Tryd.prog 46 #[.slice (some ⟨g, 0, none⟩) L.length cap] w2 fun e w' => e = .returned (.tuple #[.int .i64 V, .int .i64 E]) ∧ Below w2.heap.size w2 w') := seconds_any L g cap w2 hg2 (by omega) (by omega) hcap2 hc2 hn V E hV
  clear hb2
  go_wp2_with fail
  refine HS.out.mono ?_
  rintro e w3 ⟨rfl, hb3⟩
  have HB3 : Hid (Below _ _ w3) := HB2.out.trans (hb3.mono HB2.out.size)
  clear hb3
  go_wp2
  go_ret2
  exact ⟨rfl, HB3.out⟩

set_option maxRecDepth 1000000 in
set_option maxHeartbeats 4000000 in
theorem roff_n_four (s : ByteArray) (k : Nat) (hk : k ≤ 140737488351232) (hsz : s.size = k + 1) (m0 n0 V E : Int) (a0 : 0 ≤ n0) (a1 : n0 ≤ 999999) (hn : Hid (∀ r ∈ ([(0, 2, n0 / 100), (58, 2, n0 % 100)] : List Run), 0 ≤ r.2.2 ∧ r.2.2 ≤ 999999)) (hV : Hid (secF 0 0 3600 ([(0, 2, n0 / 100), (58, 2, n0 % 100)] : List Run) = (V, E))) (V1 : -9000000000 ≤ V) (V2 : V ≤ 9000000000) 
    (P1 : Hid (∀ w : World, Calls Tryd.prog 45 #[.string s, .string ⟨#[45]⟩] w fun e w' => e = .returned (.bool true) ∧ w' = w))
    (RN : Hid (∀ w : World, Calls Tryd.prog 33 #[.string (s.extract 1 (k + 1))] w fun e w' => Below w.heap.size w w' ∧ RunsOf w e w' (some [(m0, 4, n0)]))) (w : World) :
    Calls Tryd.prog 15 #[.string s] w fun e w' => e = .returned (.tuple #[.int .i64 (-V), .int .i64 E]) ∧ Below w.heap.size w w' := by
  go_enter Tryd.func15, Tryd.ntmps15
  go_wp2_with fail
  refine (P1.out _).mono ?_
  rintro e v1 ⟨rfl, rfl⟩
  go_wp2_with fail
  refine (RN.out _).mono ?_
  rintro e w1 ⟨hb, hr⟩
  obtain ⟨v, d, rfl, ho, hdl⟩ := hr
  obtain rfl : 4 = d := by simpa using hdl
  have hdec : decide (0 < 4) = true := rfl
  rcases ho.2 with ⟨_, h0⟩ | ⟨g, cap, cur, rfl, hg, hblk, hcap, hcap2, hsz1, htk⟩
  · exact absurd h0 (by simp)
  have hglt : g < w1.heap.size := (Array.getElem?_eq_some_iff.1 hblk).1
  have hc : Hid (∀ j u, (flat [(m0, 4, n0)])[j]? = some u → w1.cell? ⟨g, j, none⟩ = some u) := fun j u hj => by
    have hlt : j < (flat [(m0, 4, n0)]).length := (List.getElem?_eq_some_iff.1 hj).1
    exact (ho.cellAt j (by rw [flat_length] at hlt; exact hlt)).trans hj
  have c48 : Tryd.prog.cellsOf 60 = 3 := by kernel_rfl
  have HB : Hid (Below _ _ w1) := hb
  have k0 : w1.cell? ⟨g, 1, none⟩ = some (.int .i64 4) := hc.out 1 _ rfl
  have k1 : w1.cell? ⟨g, 2, none⟩ = some (.int .i64 n0) := hc.out 2 _ rfl
  have hcap' : 1 ≤ cap := by simpa using hcap
  have q1 : n0.tdiv 100 = n0 / 100 := Int.tdiv_eq_ediv_of_nonneg a0
  have q2 : n0.tmod 100 = n0 % 100 := Int.tmod_eq_emod_of_nonneg a0
  clear hb ho hblk hsz1 htk hdl hcap
  simp only [List.length_cons, List.length_nil]
  go_wp2_with fail
  refine wp_region_held_drew (S := fun W => W.cell? ⟨g, 2, none⟩ = some (.int .i64 n0)) (by kernel_rfl) k1 (fun hHeld => ?_)
  refine wpAnyH_take (i := 0) (v := ?_) (oi := { dst := some 36, op := _, type := _, pos := _, after := _, guard := none }) rfl (by kernel_rfl) (by kernel_rfl) (by kernel_rfl) (fun _ _ _ h => h) (Or.inl ⟨by kernel_rfl, ?_⟩) (by assumption) ?_
  case refine_2 => (intro w9 hSw; clear hSw; go_simp; try with_reducible rfl)
  simp only [Act.put, List.setIfInBounds_toArray, List.set_cons_zero, List.set_cons_succ]
  refine wpAnyH_take (i := 1) (v := ?_) (oi := { dst := some 37, op := _, type := _, pos := _, after := _, guard := none }) rfl (by kernel_rfl) (by kernel_rfl) (by kernel_rfl) (fun _ _ _ h => h) (Or.inl ⟨by kernel_rfl, ?_⟩) (by assumption) ?_
  case refine_2 => (intro w9 hSw; clear hSw; go_simp; try with_reducible rfl)
  simp only [Act.put, List.setIfInBounds_toArray, List.set_cons_zero, List.set_cons_succ]
  refine wpAnyH_take (i := 2) (v := ?_) (oi := { dst := some 38, op := _, type := _, pos := _, after := _, guard := none }) rfl (by kernel_rfl) (by kernel_rfl) (by kernel_rfl) (fun _ _ _ h => h) (Or.inl ⟨by kernel_rfl, ?_⟩) (by assumption) ?_
  case refine_2 => (intro w9 hSw; clear hSw; go_simp; try with_reducible rfl)
  simp only [Act.put, List.setIfInBounds_toArray, List.set_cons_zero, List.set_cons_succ]
  refine wpAnyH_take (i := 3) (v := ?_) (oi := { dst := some 39, op := _, type := _, pos := _, after := _, guard := none }) rfl (by kernel_rfl) (by kernel_rfl) (by kernel_rfl) (fun _ _ _ h => h) (Or.inl ⟨by kernel_rfl, ?_⟩) (by assumption) ?_
  case refine_2 => (intro w9 hSw; go_simp; try with_reducible rfl)
  simp only [Act.put, List.setIfInBounds_toArray, List.set_cons_zero, List.set_cons_succ]
  refine wpAnyH_take (i := 4) (v := ?_) (oi := { dst := some 40, op := _, type := _, pos := _, after := _, guard := none }) rfl (by kernel_rfl) (by kernel_rfl) (by kernel_rfl) (fun _ _ _ h => h) (Or.inl ⟨by kernel_rfl, ?_⟩) (by assumption) ?_
  case refine_2 => (intro w9 hSw; clear hSw; go_simp; try with_reducible rfl)
  simp only [Act.put, List.setIfInBounds_toArray, List.set_cons_zero, List.set_cons_succ]
  refine wpAnyH_take (i := 5) (v := ?_) (oi := { dst := some 41, op := _, type := _, pos := _, after := _, guard := none }) rfl (by kernel_rfl) (by kernel_rfl) (by kernel_rfl) (fun _ _ _ h => h) (Or.inl ⟨by kernel_rfl, ?_⟩) (by assumption) ?_
  case refine_2 => (intro w9 hSw; clear hSw; go_simp; try with_reducible rfl)
  simp only [Act.put, List.setIfInBounds_toArray, List.set_cons_zero, List.set_cons_succ]
  refine wpAnyH_take (i := 6) (v := ?_) (oi := { dst := some 42, op := _, type := _, pos := _, after := _, guard := none }) rfl (by kernel_rfl) (by kernel_rfl) (by kernel_rfl) (fun _ _ _ h => h) (Or.inl ⟨by kernel_rfl, ?_⟩) (by assumption) ?_
  case refine_2 => (intro w9 hSw; clear hSw; go_simp; try with_reducible rfl)
  simp only [Act.put, List.setIfInBounds_toArray, List.set_cons_zero, List.set_cons_succ]
  refine wpAnyH_take (i := 7) (v := ?_) (oi := { dst := some 43, op := _, type := _, pos := _, after := _, guard := none }) rfl (by kernel_rfl) (by kernel_rfl) (by kernel_rfl) (fun _ _ _ h => h) (Or.inl ⟨by kernel_rfl, ?_⟩) (by assumption) ?_
  case refine_2 => (intro w9 hSw; clear hSw; go_simp; try with_reducible rfl)
  simp only [Act.put, List.setIfInBounds_toArray, List.set_cons_zero, List.set_cons_succ]
  refine wpAnyH_take (i := 8) (v := ?_) (oi := { dst := some 44, op := _, type := _, pos := _, after := _, guard := none }) rfl (by kernel_rfl) (by kernel_rfl) (by kernel_rfl) (fun _ _ _ h => h) (Or.inl ⟨by kernel_rfl, ?_⟩) (by assumption) ?_
  case refine_2 => (intro w9 hSw; clear hSw; go_simp; try with_reducible rfl)
  simp only [Act.put, List.setIfInBounds_toArray, List.set_cons_zero, List.set_cons_succ]
  refine wpAnyH_take (i := 9) (v := ?_) (oi := { dst := some 45, op := _, type := _, pos := _, after := _, guard := none }) rfl (by kernel_rfl) (by kernel_rfl) (by kernel_rfl) (fun _ _ _ h => h) (Or.inl ⟨by kernel_rfl, ?_⟩) (by assumption) ?_
  case refine_2 => (intro w9 hSw; go_simp; try with_reducible rfl)
  simp only [Act.put, List.setIfInBounds_toArray, List.set_cons_zero, List.set_cons_succ]
  refine wpAnyH_take (i := 10) (v := ?_) (oi := { dst := some 46, op := _, type := _, pos := _, after := _, guard := none }) rfl (by kernel_rfl) (by kernel_rfl) (by kernel_rfl) (fun _ _ _ h => h) (Or.inl ⟨by kernel_rfl, ?_⟩) (by assumption) ?_
  case refine_2 => (intro w9 hSw; clear hSw; go_simp; try with_reducible rfl)
  simp only [Act.put, List.setIfInBounds_toArray, List.set_cons_zero, List.set_cons_succ]
  refine wpAnyH_take (i := 11) (v := ?_) (oi := { dst := some 47, op := _, type := _, pos := _, after := _, guard := none }) rfl (by kernel_rfl) (by kernel_rfl) (by kernel_rfl) (fun _ _ _ h => h) (Or.inl ⟨by kernel_rfl, ?_⟩) (by assumption) ?_
  case refine_2 => (intro w9 hSw; clear hSw; go_simp; try with_reducible rfl)
  simp only [Act.put, List.setIfInBounds_toArray, List.set_cons_zero, List.set_cons_succ]
  refine wpAnyH_ready (rs := [12]) (by kernel_rfl) (by simp) (AllReadyH.cons (o := { dst := some 48, op := _, type := _, pos := _, after := _, guard := none }) rfl (fun K hK => ?_) AllReadyH.nil)
  go_simp
  have hw : IntKind.i64.wrap (n0 / 100) = n0 / 100 := by rw [IntKind.wrap_i64]; omega
  have C2 : (w1.alloc (.cells #[.int .i32 0, .int .i64 2, .int .i64 (n0 / 100), .int .i32 58, .int .i64 2, .int .i64 (n0 % 100)] 60)).drew.cell? ⟨g, 2, none⟩ = some (.int .i64 n0) := ((((Below.refl w1.heap.size w1).alloc (Nat.le_refl _) _).drew).cell (p := ⟨g, 2, none⟩) hglt).trans k1
  have hc2 : Hid (∀ j u, (flat ([(0, 2, n0 / 100), (58, 2, n0 % 100)] : List Run))[j]? = some u → (w1.alloc (.cells #[.int .i32 0, .int .i64 2, .int .i64 (n0 / 100), .int .i32 58, .int .i64 2, .int .i64 (n0 % 100)] 60)).drew.cell? ⟨w1.heap.size, j, none⟩ = some u) := fun j u hj => by
    show (w1.alloc (.cells #[.int .i32 0, .int .i64 2, .int .i64 (n0 / 100), .int .i32 58, .int .i64 2, .int .i64 (n0 % 100)] 60)).cell? ⟨w1.heap.size, j, none⟩ = some u
    rw [World.cell?_alloc_at _ _ _ _ rfl]
    simpa [flat] using hj
  have HB2 : Hid (Below _ _ (w1.alloc (.cells #[.int .i32 0, .int .i64 2, .int .i64 (n0 / 100), .int .i32 58, .int .i64 2, .int .i64 (n0 % 100)] 60)).drew) := (HB.out.alloc HB.out.size _).drew
  have hg2 : w1.heap.size < (w1.alloc (.cells #[.int .i32 0, .int .i64 2, .int .i64 (n0 / 100), .int .i32 58, .int .i64 2, .int .i64 (n0 % 100)] 60)).drew.heap.size := by show _ < (w1.alloc _).heap.size; simp
  rw [hw]
  obtain ⟨W2, hW2⟩ : ∃ W2, W2 = (w1.alloc (.cells #[.int .i32 0, .int .i64 2, .int .i64 (n0 / 100), .int .i32 58, .int .i64 2, .int .i64 (n0 % 100)] 60)).drew := ⟨_, rfl⟩
  rw [← hW2] at C2 hc2 HB2 hg2 ⊢
  refine hK.out _ _ C2 (fun hHeld => ?_)
  clear hK K hW2
  refine wpAnyH_take (i := 13) (v := ?_) (oi := { dst := some 5, op := _, type := _, pos := _, after := _, guard := none }) rfl (by kernel_rfl) (by kernel_rfl) (by kernel_rfl) (fun _ _ _ h => h) (Or.inl ⟨by kernel_rfl, ?_⟩) (by assumption) ?_
  case refine_2 => (intro w9 hSw; clear hSw; go_simp; try with_reducible rfl)
  simp only [Act.put, List.setIfInBounds_toArray, List.set_cons_zero, List.set_cons_succ]
  refine wpAnyH_done (by kernel_rfl) ?_ _
  obtain ⟨G2, hG2⟩ : ∃ G2, G2 = w1.heap.size := ⟨_, rfl⟩
  rw [← hG2] at hc2 hg2 ⊢
  have HF : Hid (Calls Tryd.prog 34 #[.slice (some ⟨G2, 0, none⟩) 2 2] W2 fun e w' => e = .returned (.bool true) ∧ Below W2.heap.size W2 w') := isFace_any ([(0, 2, n0 / 100), (58, 2, n0 % 100)] : List Run) G2 2 W2 hg2 (by simp) (by simp) (by unfold maxLen; omega) hc2
  clear hG2 C2
  go_wp2_with fail
  refine HF.out.mono ?_
  rintro e w2 ⟨rfl, hb2⟩
  have HB3 : Hid (Below _ _ w2) := HB2.out.trans (hb2.mono HB2.out.size)
  have hc3 : Hid (∀ j u, (flat ([(0, 2, n0 / 100), (58, 2, n0 % 100)] : List Run))[j]? = some u → w2.cell? ⟨G2, j, none⟩ = some u) := fun j u hj => (hb2.cell (p := ⟨G2, j, none⟩) hg2).trans (hc2.out j u hj)
  have HS : Hid (Calls Tryd.prog 46 #[.slice (some ⟨G2, 0, none⟩) 2 2] w2 fun e w' => e = .returned (.tuple #[.int .i64 V, .int .i64 E]) ∧ Below w2.heap.size w2 w') := seconds_any ([(0, 2, n0 / 100), (58, 2, n0 % 100)] : List Run) G2 2 w2 (Nat.lt_of_lt_of_le hg2 hb2.size) (by simp) (by simp) (by unfold maxLen; omega) hc3 hn V E hV
  clear hb2
  go_wp2_with fail
  refine HS.out.mono ?_
  rintro e w3 ⟨rfl, hb3⟩
  have HB4 : Hid (Below _ _ w3) := HB3.out.trans (hb3.mono HB3.out.size)
  clear hb3
  go_wp2
  go_ret2
  exact ⟨rfl, HB4.out⟩

set_option maxRecDepth 1000000 in
set_option maxHeartbeats 4000000 in
theorem roff_p_none (s : ByteArray) (k : Nat) (hk : k ≤ 140737488351232) (hsz : s.size = k + 1) 
    (P1 : Hid (∀ w : World, Calls Tryd.prog 45 #[.string s, .string ⟨#[45]⟩] w fun e w' => e = .returned (.bool false) ∧ w' = w))
    (P2 : Hid (∀ w : World, Calls Tryd.prog 45 #[.string s, .string ⟨#[43]⟩] w fun e w' => e = .returned (.bool true) ∧ w' = w))
    (RN : Hid (∀ w : World, Calls Tryd.prog 33 #[.string (s.extract 1 (k + 1))] w fun e w' => Below w.heap.size w w' ∧ RunsOf w e w' (none))) (w : World) :
    Calls Tryd.prog 15 #[.string s] w fun e w' => e = .returned (.tuple #[.int .i64 0, .int .i64 13]) ∧ Below w.heap.size w w' := by
  go_enter Tryd.func15, Tryd.ntmps15
  go_wp2_with fail
  refine (P1.out _).mono ?_
  rintro e v1 ⟨rfl, rfl⟩
  go_wp2_with fail
  refine (P2.out _).mono ?_
  rintro e v2 ⟨rfl, rfl⟩
  go_wp2_with fail
  refine (RN.out _).mono ?_
  rintro e w1 ⟨hb, hr⟩
  obtain ⟨v, rfl⟩ := hr
  have HB : Hid (Below _ _ w1) := hb
  clear hb
  go_wp2
  go_ret2
  exact ⟨rfl, HB.out⟩

set_option maxRecDepth 1000000 in
set_option maxHeartbeats 4000000 in
theorem roff_p_zero (s : ByteArray) (k : Nat) (hk : k ≤ 140737488351232) (hsz : s.size = k + 1) (L : List Run) (hL : L.getLast?.map (·.2.1) = some 0) 
    (P1 : Hid (∀ w : World, Calls Tryd.prog 45 #[.string s, .string ⟨#[45]⟩] w fun e w' => e = .returned (.bool false) ∧ w' = w))
    (P2 : Hid (∀ w : World, Calls Tryd.prog 45 #[.string s, .string ⟨#[43]⟩] w fun e w' => e = .returned (.bool true) ∧ w' = w))
    (RN : Hid (∀ w : World, Calls Tryd.prog 33 #[.string (s.extract 1 (k + 1))] w fun e w' => Below w.heap.size w w' ∧ RunsOf w e w' (some L))) (w : World) :
    Calls Tryd.prog 15 #[.string s] w fun e w' => e = .returned (.tuple #[.int .i64 0, .int .i64 13]) ∧ Below w.heap.size w w' := by
  go_enter Tryd.func15, Tryd.ntmps15
  go_wp2_with fail
  refine (P1.out _).mono ?_
  rintro e v1 ⟨rfl, rfl⟩
  go_wp2_with fail
  refine (P2.out _).mono ?_
  rintro e v2 ⟨rfl, rfl⟩
  go_wp2_with fail
  refine (RN.out _).mono ?_
  rintro e w1 ⟨hb, hr⟩
  obtain ⟨v, d, rfl, ho, hdl⟩ := hr
  obtain rfl : d = 0 := by rw [hL] at hdl; exact (Option.some.inj hdl).symm
  have hdec : decide (0 < 0) = false := rfl
  have HB : Hid (Below _ _ w1) := hb
  clear hb ho hdl hL
  go_wp2
  go_ret2
  exact ⟨rfl, HB.out⟩

set_option maxRecDepth 1000000 in
set_option maxHeartbeats 4000000 in
theorem roff_p_onen (s : ByteArray) (k : Nat) (hk : k ≤ 140737488351232) (hsz : s.size = k + 1) (m0 n0 : Int) (d0 : Nat) (hd : 0 < d0) (h4 : d0 ≠ 4) (hf : Hid (faceOk [(m0, d0, n0)] = false)) 
    (P1 : Hid (∀ w : World, Calls Tryd.prog 45 #[.string s, .string ⟨#[45]⟩] w fun e w' => e = .returned (.bool false) ∧ w' = w))
    (P2 : Hid (∀ w : World, Calls Tryd.prog 45 #[.string s, .string ⟨#[43]⟩] w fun e w' => e = .returned (.bool true) ∧ w' = w))
    (RN : Hid (∀ w : World, Calls Tryd.prog 33 #[.string (s.extract 1 (k + 1))] w fun e w' => Below w.heap.size w w' ∧ RunsOf w e w' (some [(m0, d0, n0)]))) (w : World) :
    Calls Tryd.prog 15 #[.string s] w fun e w' => e = .returned (.tuple #[.int .i64 0, .int .i64 13]) ∧ Below w.heap.size w w' := by
  go_enter Tryd.func15, Tryd.ntmps15
  go_wp2_with fail
  refine (P1.out _).mono ?_
  rintro e v1 ⟨rfl, rfl⟩
  go_wp2_with fail
  refine (P2.out _).mono ?_
  rintro e v2 ⟨rfl, rfl⟩
  go_wp2_with fail
  refine (RN.out _).mono ?_
  rintro e w1 ⟨hb, hr⟩
  obtain ⟨v, d, rfl, ho, hdl⟩ := hr
  obtain rfl : d0 = d := by simpa using hdl
  have hdec : decide (0 < d0) = true := decide_eq_true hd
  have h4' : ((d0 : Int) == 4) = false := beq_eq_false_iff_ne.2 (by omega)
  rcases ho.2 with ⟨_, h0⟩ | ⟨g, cap, cur, rfl, hg, hblk, hcap, hcap2, hsz1, htk⟩
  · exact absurd h0 (by simp)
  have hglt : g < w1.heap.size := (Array.getElem?_eq_some_iff.1 hblk).1
  have hc : Hid (∀ j u, (flat [(m0, d0, n0)])[j]? = some u → w1.cell? ⟨g, j, none⟩ = some u) := fun j u hj => by
    have hlt : j < (flat [(m0, d0, n0)]).length := (List.getElem?_eq_some_iff.1 hj).1
    exact (ho.cellAt j (by rw [flat_length] at hlt; exact hlt)).trans hj
  have c48 : Tryd.prog.cellsOf 60 = 3 := by kernel_rfl
  have HB : Hid (Below _ _ w1) := hb
  have k0 : w1.cell? ⟨g, 1, none⟩ = some (.int .i64 (d0 : Int)) := hc.out 1 _ rfl
  have hcap' : 1 ≤ cap := by simpa using hcap
  clear hb ho hblk hsz1 htk hdl
  simp only [List.length_cons, List.length_nil]
  have HF : Hid (Calls Tryd.prog 34 #[.slice (some ⟨g, 0, none⟩) 1 cap] w1 fun e w' => e = .returned (.bool false) ∧ Below w1.heap.size w1 w') := by
    have q := isFace_any [(m0, d0, n0)] g cap w1 hglt (by simp) (by simp; omega) hcap2 hc
    rw [hf.out] at q
    exact q
  clear hcap
  go_wp2_with fail
  refine HF.out.mono ?_
  rintro e w2 ⟨rfl, hb2⟩
  have HB2 : Hid (Below _ _ w2) := HB.out.trans (hb2.mono HB.out.size)
  clear hb2
  go_wp2
  go_ret2
  exact ⟨rfl, HB2.out⟩

set_option maxRecDepth 1000000 in
set_option maxHeartbeats 4000000 in
theorem roff_p_oney (s : ByteArray) (k : Nat) (hk : k ≤ 140737488351232) (hsz : s.size = k + 1) (m0 n0 V E : Int) (d0 : Nat) (hd : 0 < d0) (h4 : d0 ≠ 4) (hf : Hid (faceOk [(m0, d0, n0)] = true)) (hn : Hid (∀ r ∈ [(m0, d0, n0)], 0 ≤ r.2.2 ∧ r.2.2 ≤ 999999)) (hV : Hid (secF 0 0 3600 [(m0, d0, n0)] = (V, E))) (V1 : -9000000000 ≤ V) (V2 : V ≤ 9000000000) 
    (P1 : Hid (∀ w : World, Calls Tryd.prog 45 #[.string s, .string ⟨#[45]⟩] w fun e w' => e = .returned (.bool false) ∧ w' = w))
    (P2 : Hid (∀ w : World, Calls Tryd.prog 45 #[.string s, .string ⟨#[43]⟩] w fun e w' => e = .returned (.bool true) ∧ w' = w))
    (RN : Hid (∀ w : World, Calls Tryd.prog 33 #[.string (s.extract 1 (k + 1))] w fun e w' => Below w.heap.size w w' ∧ RunsOf w e w' (some [(m0, d0, n0)]))) (w : World) :
    Calls Tryd.prog 15 #[.string s] w fun e w' => e = .returned (.tuple #[.int .i64 V, .int .i64 E]) ∧ Below w.heap.size w w' := by
  go_enter Tryd.func15, Tryd.ntmps15
  go_wp2_with fail
  refine (P1.out _).mono ?_
  rintro e v1 ⟨rfl, rfl⟩
  go_wp2_with fail
  refine (P2.out _).mono ?_
  rintro e v2 ⟨rfl, rfl⟩
  go_wp2_with fail
  refine (RN.out _).mono ?_
  rintro e w1 ⟨hb, hr⟩
  obtain ⟨v, d, rfl, ho, hdl⟩ := hr
  obtain rfl : d0 = d := by simpa using hdl
  have hdec : decide (0 < d0) = true := decide_eq_true hd
  have h4' : ((d0 : Int) == 4) = false := beq_eq_false_iff_ne.2 (by omega)
  rcases ho.2 with ⟨_, h0⟩ | ⟨g, cap, cur, rfl, hg, hblk, hcap, hcap2, hsz1, htk⟩
  · exact absurd h0 (by simp)
  have hglt : g < w1.heap.size := (Array.getElem?_eq_some_iff.1 hblk).1
  have hc : Hid (∀ j u, (flat [(m0, d0, n0)])[j]? = some u → w1.cell? ⟨g, j, none⟩ = some u) := fun j u hj => by
    have hlt : j < (flat [(m0, d0, n0)]).length := (List.getElem?_eq_some_iff.1 hj).1
    exact (ho.cellAt j (by rw [flat_length] at hlt; exact hlt)).trans hj
  have c48 : Tryd.prog.cellsOf 60 = 3 := by kernel_rfl
  have HB : Hid (Below _ _ w1) := hb
  have k0 : w1.cell? ⟨g, 1, none⟩ = some (.int .i64 (d0 : Int)) := hc.out 1 _ rfl
  have hcap' : 1 ≤ cap := by simpa using hcap
  clear hb ho hblk hsz1 htk hdl
  simp only [List.length_cons, List.length_nil]
  have HF : Hid (Calls Tryd.prog 34 #[.slice (some ⟨g, 0, none⟩) 1 cap] w1 fun e w' => e = .returned (.bool true) ∧ Below w1.heap.size w1 w') := by
    have q := isFace_any [(m0, d0, n0)] g cap w1 hglt (by simp) (by simp; omega) hcap2 hc
    rw [hf.out] at q
    exact q
  clear hcap
  go_wp2_with fail
  refine HF.out.mono ?_
  rintro e w2 ⟨rfl, hb2⟩
  have HB2 : Hid (Below _ _ w2) := HB.out.trans (hb2.mono HB.out.size)
  have hg2 : g < w2.heap.size := Nat.lt_of_lt_of_le hglt hb2.size
  have hc2 : Hid (∀ j u, (flat [(m0, d0, n0)])[j]? = some u → w2.cell? ⟨g, j, none⟩ = some u) := fun j u hj => (hb2.cell (p := ⟨g, j, none⟩) hglt).trans (hc.out j u hj)
  have HS : Hid (Calls Tryd.prog 46 #[.slice (some ⟨g, 0, none⟩) 1 cap] w2 fun e w' => e = .returned (.tuple #[.int .i64 V, .int .i64 E]) ∧ Below w2.heap.size w2 w') := seconds_any [(m0, d0, n0)] g cap w2 hg2 (by simp) (by simp; omega) hcap2 hc2 hn V E hV
  clear hb2
  go_wp2_with fail
  refine HS.out.mono ?_
  rintro e w3 ⟨rfl, hb3⟩
  have HB3 : Hid (Below _ _ w3) := HB2.out.trans (hb3.mono HB2.out.size)
  clear hb3
  go_wp2
  go_ret2
  exact ⟨rfl, HB3.out⟩

set_option maxRecDepth 1000000 in
set_option maxHeartbeats 4000000 in
theorem roff_p_moren (s : ByteArray) (k : Nat) (hk : k ≤ 140737488351232) (hsz : s.size = k + 1) (L : List Run) (hL1 : 2 ≤ L.length) (hL2 : L.length ≤ 4) (dl : Nat) (hL : L.getLast?.map (·.2.1) = some dl) (hd : 0 < dl) (hf : Hid (faceOk L = false)) 
    (P1 : Hid (∀ w : World, Calls Tryd.prog 45 #[.string s, .string ⟨#[45]⟩] w fun e w' => e = .returned (.bool false) ∧ w' = w))
    (P2 : Hid (∀ w : World, Calls Tryd.prog 45 #[.string s, .string ⟨#[43]⟩] w fun e w' => e = .returned (.bool true) ∧ w' = w))
    (RN : Hid (∀ w : World, Calls Tryd.prog 33 #[.string (s.extract 1 (k + 1))] w fun e w' => Below w.heap.size w w' ∧ RunsOf w e w' (some L))) (w : World) :
    Calls Tryd.prog 15 #[.string s] w fun e w' => e = .returned (.tuple #[.int .i64 0, .int .i64 13]) ∧ Below w.heap.size w w' := by
  go_enter Tryd.func15, Tryd.ntmps15
  go_wp2_with fail
  refine (P1.out _).mono ?_
  rintro e v1 ⟨rfl, rfl⟩
  go_wp2_with fail
  refine (P2.out _).mono ?_
  rintro e v2 ⟨rfl, rfl⟩
  go_wp2_with fail
  refine (RN.out _).mono ?_
  rintro e w1 ⟨hb, hr⟩
  obtain ⟨v, d, rfl, ho, hdl⟩ := hr
  obtain rfl : dl = d := by rw [hL] at hdl; exact Option.some.inj hdl
  have hdec : decide (0 < dl) = true := decide_eq_true hd
  have hL1' : ((L.length : Int) == 1) = false := beq_eq_false_iff_ne.2 (by omega)
  rcases ho.2 with ⟨_, h0⟩ | ⟨g, cap, cur, rfl, hg, hblk, hcap, hcap2, hsz1, htk⟩
  · exact absurd h0 (by omega)
  have hglt : g < w1.heap.size := (Array.getElem?_eq_some_iff.1 hblk).1
  have hc : Hid (∀ j u, (flat L)[j]? = some u → w1.cell? ⟨g, j, none⟩ = some u) := fun j u hj => by
    have hlt : j < (flat L).length := (List.getElem?_eq_some_iff.1 hj).1
    exact (ho.cellAt j (by rw [flat_length] at hlt; exact hlt)).trans hj
  have c48 : Tryd.prog.cellsOf 60 = 3 := by kernel_rfl
  have HB : Hid (Below _ _ w1) := hb
  clear hb ho hblk hsz1 htk hdl
  have HF : Hid (Calls Tryd.prog 34 #[.slice (some ⟨g, 0, none⟩) L.length cap] w1 fun e w' => e = .returned (.bool false) ∧ Below w1.heap.size w1 w') := by
    have q := isFace_any L g cap w1 hglt (by omega) hcap hcap2 hc
    rw [hf.out] at q
    exact q
  go_wp2_with fail
  refine HF.out.mono ?_
  rintro e w2 ⟨rfl, hb2⟩
  have HB2 : Hid (Below _ _ w2) := HB.out.trans (hb2.mono HB.out.size)
  clear hb2
  go_wp2
  go_ret2
  exact ⟨rfl, HB2.out⟩

set_option maxRecDepth 1000000 in
set_option maxHeartbeats 4000000 in
theorem roff_p_morey (s : ByteArray) (k : Nat) (hk : k ≤ 140737488351232) (hsz : s.size = k + 1) (L : List Run) (V E : Int) (hL1 : 2 ≤ L.length) (hL2 : L.length ≤ 3) (dl : Nat) (hL : L.getLast?.map (·.2.1) = some dl) (hd : 0 < dl) (hf : Hid (faceOk L = true)) (hn : Hid (∀ r ∈ L, 0 ≤ r.2.2 ∧ r.2.2 ≤ 999999)) (hV : Hid (secF 0 0 3600 L = (V, E))) (V1 : -9000000000 ≤ V) (V2 : V ≤ 9000000000) 
    (P1 : Hid (∀ w : World, Calls Tryd.prog 45 #[.string s, .string ⟨#[45]⟩] w fun e w' => e = .returned (.bool false) ∧ w' = w))
    (P2 : Hid (∀ w : World, Calls Tryd.prog 45 #[.string s, .string ⟨#[43]⟩] w fun e w' => e = .returned (.bool true) ∧ w' = w))
    (RN : Hid (∀ w : World, Calls Tryd.prog 33 #[.string (s.extract 1 (k + 1))] w fun e w' => Below w.heap.size w w' ∧ RunsOf w e w' (some L))) (w : World) :
    Calls Tryd.prog 15 #[.string s] w fun e w' => e = .returned (.tuple #[.int .i64 V, .int .i64 E]) ∧ Below w.heap.size w w' := by
  go_enter Tryd.func15, Tryd.ntmps15
  go_wp2_with fail
  refine (P1.out _).mono ?_
  rintro e v1 ⟨rfl, rfl⟩
  go_wp2_with fail
  refine (P2.out _).mono ?_
  rintro e v2 ⟨rfl, rfl⟩
  go_wp2_with fail
  refine (RN.out _).mono ?_
  rintro e w1 ⟨hb, hr⟩
  obtain ⟨v, d, rfl, ho, hdl⟩ := hr
  obtain rfl : dl = d := by rw [hL] at hdl; exact Option.some.inj hdl
  have hdec : decide (0 < dl) = true := decide_eq_true hd
  have hL1' : ((L.length : Int) == 1) = false := beq_eq_false_iff_ne.2 (by omega)
  rcases ho.2 with ⟨_, h0⟩ | ⟨g, cap, cur, rfl, hg, hblk, hcap, hcap2, hsz1, htk⟩
  · exact absurd h0 (by omega)
  have hglt : g < w1.heap.size := (Array.getElem?_eq_some_iff.1 hblk).1
  have hc : Hid (∀ j u, (flat L)[j]? = some u → w1.cell? ⟨g, j, none⟩ = some u) := fun j u hj => by
    have hlt : j < (flat L).length := (List.getElem?_eq_some_iff.1 hj).1
    exact (ho.cellAt j (by rw [flat_length] at hlt; exact hlt)).trans hj
  have c48 : Tryd.prog.cellsOf 60 = 3 := by kernel_rfl
  have HB : Hid (Below _ _ w1) := hb
  clear hb ho hblk hsz1 htk hdl
  have HF : Hid (Calls Tryd.prog 34 #[.slice (some ⟨g, 0, none⟩) L.length cap] w1 fun e w' => e = .returned (.bool true) ∧ Below w1.heap.size w1 w') := by
    have q := isFace_any L g cap w1 hglt (by omega) hcap hcap2 hc
    rw [hf.out] at q
    exact q
  go_wp2_with fail
  refine HF.out.mono ?_
  rintro e w2 ⟨rfl, hb2⟩
  have HB2 : Hid (Below _ _ w2) := HB.out.trans (hb2.mono HB.out.size)
  have hg2 : g < w2.heap.size := Nat.lt_of_lt_of_le hglt hb2.size
  have hc2 : Hid (∀ j u, (flat L)[j]? = some u → w2.cell? ⟨g, j, none⟩ = some u) := fun j u hj => (hb2.cell (p := ⟨g, j, none⟩) hglt).trans (hc.out j u hj)
  have HS : Hid (Calls Tryd.prog 46 #[.slice (some ⟨g, 0, none⟩) L.length cap] w2 fun e w' => e = .returned (.tuple #[.int .i64 V, .int .i64 E]) ∧ Below w2.heap.size w2 w') := seconds_any L g cap w2 hg2 (by omega) (by omega) hcap2 hc2 hn V E hV
  clear hb2
  go_wp2_with fail
  refine HS.out.mono ?_
  rintro e w3 ⟨rfl, hb3⟩
  have HB3 : Hid (Below _ _ w3) := HB2.out.trans (hb3.mono HB2.out.size)
  clear hb3
  go_wp2
  go_ret2
  exact ⟨rfl, HB3.out⟩

set_option maxRecDepth 1000000 in
set_option maxHeartbeats 4000000 in
theorem roff_p_four (s : ByteArray) (k : Nat) (hk : k ≤ 140737488351232) (hsz : s.size = k + 1) (m0 n0 V E : Int) (a0 : 0 ≤ n0) (a1 : n0 ≤ 999999) (hn : Hid (∀ r ∈ ([(0, 2, n0 / 100), (58, 2, n0 % 100)] : List Run), 0 ≤ r.2.2 ∧ r.2.2 ≤ 999999)) (hV : Hid (secF 0 0 3600 ([(0, 2, n0 / 100), (58, 2, n0 % 100)] : List Run) = (V, E))) (V1 : -9000000000 ≤ V) (V2 : V ≤ 9000000000) 
    (P1 : Hid (∀ w : World, Calls Tryd.prog 45 #[.string s, .string ⟨#[45]⟩] w fun e w' => e = .returned (.bool false) ∧ w' = w))
    (P2 : Hid (∀ w : World, Calls Tryd.prog 45 #[.string s, .string ⟨#[43]⟩] w fun e w' => e = .returned (.bool true) ∧ w' = w))
    (RN : Hid (∀ w : World, Calls Tryd.prog 33 #[.string (s.extract 1 (k + 1))] w fun e w' => Below w.heap.size w w' ∧ RunsOf w e w' (some [(m0, 4, n0)]))) (w : World) :
    Calls Tryd.prog 15 #[.string s] w fun e w' => e = .returned (.tuple #[.int .i64 V, .int .i64 E]) ∧ Below w.heap.size w w' := by
  go_enter Tryd.func15, Tryd.ntmps15
  go_wp2_with fail
  refine (P1.out _).mono ?_
  rintro e v1 ⟨rfl, rfl⟩
  go_wp2_with fail
  refine (P2.out _).mono ?_
  rintro e v2 ⟨rfl, rfl⟩
  go_wp2_with fail
  refine (RN.out _).mono ?_
  rintro e w1 ⟨hb, hr⟩
  obtain ⟨v, d, rfl, ho, hdl⟩ := hr
  obtain rfl : 4 = d := by simpa using hdl
  have hdec : decide (0 < 4) = true := rfl
  rcases ho.2 with ⟨_, h0⟩ | ⟨g, cap, cur, rfl, hg, hblk, hcap, hcap2, hsz1, htk⟩
  · exact absurd h0 (by simp)
  have hglt : g < w1.heap.size := (Array.getElem?_eq_some_iff.1 hblk).1
  have hc : Hid (∀ j u, (flat [(m0, 4, n0)])[j]? = some u → w1.cell? ⟨g, j, none⟩ = some u) := fun j u hj => by
    have hlt : j < (flat [(m0, 4, n0)]).length := (List.getElem?_eq_some_iff.1 hj).1
    exact (ho.cellAt j (by rw [flat_length] at hlt; exact hlt)).trans hj
  have c48 : Tryd.prog.cellsOf 60 = 3 := by kernel_rfl
  have HB : Hid (Below _ _ w1) := hb
  have k0 : w1.cell? ⟨g, 1, none⟩ = some (.int .i64 4) := hc.out 1 _ rfl
  have k1 : w1.cell? ⟨g, 2, none⟩ = some (.int .i64 n0) := hc.out 2 _ rfl
  have hcap' : 1 ≤ cap := by simpa using hcap
  have q1 : n0.tdiv 100 = n0 / 100 := Int.tdiv_eq_ediv_of_nonneg a0
  have q2 : n0.tmod 100 = n0 % 100 := Int.tmod_eq_emod_of_nonneg a0
  clear hb ho hblk hsz1 htk hdl hcap
  simp only [List.length_cons, List.length_nil]
  go_wp2_with fail
  refine wp_region_held_drew (S := fun W => W.cell? ⟨g, 2, none⟩ = some (.int .i64 n0)) (by kernel_rfl) k1 (fun hHeld => ?_)
  refine wpAnyH_take (i := 0) (v := ?_) (oi := { dst := some 36, op := _, type := _, pos := _, after := _, guard := none }) rfl (by kernel_rfl) (by kernel_rfl) (by kernel_rfl) (fun _ _ _ h => h) (Or.inl ⟨by kernel_rfl, ?_⟩) (by assumption) ?_
  case refine_2 => (intro w9 hSw; clear hSw; go_simp; try with_reducible rfl)
  simp only [Act.put, List.setIfInBounds_toArray, List.set_cons_zero, List.set_cons_succ]
  refine wpAnyH_take (i := 1) (v := ?_) (oi := { dst := some 37, op := _, type := _, pos := _, after := _, guard := none }) rfl (by kernel_rfl) (by kernel_rfl) (by kernel_rfl) (fun _ _ _ h => h) (Or.inl ⟨by kernel_rfl, ?_⟩) (by assumption) ?_
  case refine_2 => (intro w9 hSw; clear hSw; go_simp; try with_reducible rfl)
  simp only [Act.put, List.setIfInBounds_toArray, List.set_cons_zero, List.set_cons_succ]
  refine wpAnyH_take (i := 2) (v := ?_) (oi := { dst := some 38, op := _, type := _, pos := _, after := _, guard := none }) rfl (by kernel_rfl) (by kernel_rfl) (by kernel_rfl) (fun _ _ _ h => h) (Or.inl ⟨by kernel_rfl, ?_⟩) (by assumption) ?_
  case refine_2 => (intro w9 hSw; clear hSw; go_simp; try with_reducible rfl)
  simp only [Act.put, List.setIfInBounds_toArray, List.set_cons_zero, List.set_cons_succ]
  refine wpAnyH_take (i := 3) (v := ?_) (oi := { dst := some 39, op := _, type := _, pos := _, after := _, guard := none }) rfl (by kernel_rfl) (by kernel_rfl) (by kernel_rfl) (fun _ _ _ h => h) (Or.inl ⟨by kernel_rfl, ?_⟩) (by assumption) ?_
  case refine_2 => (intro w9 hSw; go_simp; try with_reducible rfl)
  simp only [Act.put, List.setIfInBounds_toArray, List.set_cons_zero, List.set_cons_succ]
  refine wpAnyH_take (i := 4) (v := ?_) (oi := { dst := some 40, op := _, type := _, pos := _, after := _, guard := none }) rfl (by kernel_rfl) (by kernel_rfl) (by kernel_rfl) (fun _ _ _ h => h) (Or.inl ⟨by kernel_rfl, ?_⟩) (by assumption) ?_
  case refine_2 => (intro w9 hSw; clear hSw; go_simp; try with_reducible rfl)
  simp only [Act.put, List.setIfInBounds_toArray, List.set_cons_zero, List.set_cons_succ]
  refine wpAnyH_take (i := 5) (v := ?_) (oi := { dst := some 41, op := _, type := _, pos := _, after := _, guard := none }) rfl (by kernel_rfl) (by kernel_rfl) (by kernel_rfl) (fun _ _ _ h => h) (Or.inl ⟨by kernel_rfl, ?_⟩) (by assumption) ?_
  case refine_2 => (intro w9 hSw; clear hSw; go_simp; try with_reducible rfl)
  simp only [Act.put, List.setIfInBounds_toArray, List.set_cons_zero, List.set_cons_succ]
  refine wpAnyH_take (i := 6) (v := ?_) (oi := { dst := some 42, op := _, type := _, pos := _, after := _, guard := none }) rfl (by kernel_rfl) (by kernel_rfl) (by kernel_rfl) (fun _ _ _ h => h) (Or.inl ⟨by kernel_rfl, ?_⟩) (by assumption) ?_
  case refine_2 => (intro w9 hSw; clear hSw; go_simp; try with_reducible rfl)
  simp only [Act.put, List.setIfInBounds_toArray, List.set_cons_zero, List.set_cons_succ]
  refine wpAnyH_take (i := 7) (v := ?_) (oi := { dst := some 43, op := _, type := _, pos := _, after := _, guard := none }) rfl (by kernel_rfl) (by kernel_rfl) (by kernel_rfl) (fun _ _ _ h => h) (Or.inl ⟨by kernel_rfl, ?_⟩) (by assumption) ?_
  case refine_2 => (intro w9 hSw; clear hSw; go_simp; try with_reducible rfl)
  simp only [Act.put, List.setIfInBounds_toArray, List.set_cons_zero, List.set_cons_succ]
  refine wpAnyH_take (i := 8) (v := ?_) (oi := { dst := some 44, op := _, type := _, pos := _, after := _, guard := none }) rfl (by kernel_rfl) (by kernel_rfl) (by kernel_rfl) (fun _ _ _ h => h) (Or.inl ⟨by kernel_rfl, ?_⟩) (by assumption) ?_
  case refine_2 => (intro w9 hSw; clear hSw; go_simp; try with_reducible rfl)
  simp only [Act.put, List.setIfInBounds_toArray, List.set_cons_zero, List.set_cons_succ]
  refine wpAnyH_take (i := 9) (v := ?_) (oi := { dst := some 45, op := _, type := _, pos := _, after := _, guard := none }) rfl (by kernel_rfl) (by kernel_rfl) (by kernel_rfl) (fun _ _ _ h => h) (Or.inl ⟨by kernel_rfl, ?_⟩) (by assumption) ?_
  case refine_2 => (intro w9 hSw; go_simp; try with_reducible rfl)
  simp only [Act.put, List.setIfInBounds_toArray, List.set_cons_zero, List.set_cons_succ]
  refine wpAnyH_take (i := 10) (v := ?_) (oi := { dst := some 46, op := _, type := _, pos := _, after := _, guard := none }) rfl (by kernel_rfl) (by kernel_rfl) (by kernel_rfl) (fun _ _ _ h => h) (Or.inl ⟨by kernel_rfl, ?_⟩) (by assumption) ?_
  case refine_2 => (intro w9 hSw; clear hSw; go_simp; try with_reducible rfl)
  simp only [Act.put, List.setIfInBounds_toArray, List.set_cons_zero, List.set_cons_succ]
  refine wpAnyH_take (i := 11) (v := ?_) (oi := { dst := some 47, op := _, type := _, pos := _, after := _, guard := none }) rfl (by kernel_rfl) (by kernel_rfl) (by kernel_rfl) (fun _ _ _ h => h) (Or.inl ⟨by kernel_rfl, ?_⟩) (by assumption) ?_
  case refine_2 => (intro w9 hSw; clear hSw; go_simp; try with_reducible rfl)
  simp only [Act.put, List.setIfInBounds_toArray, List.set_cons_zero, List.set_cons_succ]
  refine wpAnyH_ready (rs := [12]) (by kernel_rfl) (by simp) (AllReadyH.cons (o := { dst := some 48, op := _, type := _, pos := _, after := _, guard := none }) rfl (fun K hK => ?_) AllReadyH.nil)
  go_simp
  have hw : IntKind.i64.wrap (n0 / 100) = n0 / 100 := by rw [IntKind.wrap_i64]; omega
  have C2 : (w1.alloc (.cells #[.int .i32 0, .int .i64 2, .int .i64 (n0 / 100), .int .i32 58, .int .i64 2, .int .i64 (n0 % 100)] 60)).drew.cell? ⟨g, 2, none⟩ = some (.int .i64 n0) := ((((Below.refl w1.heap.size w1).alloc (Nat.le_refl _) _).drew).cell (p := ⟨g, 2, none⟩) hglt).trans k1
  have hc2 : Hid (∀ j u, (flat ([(0, 2, n0 / 100), (58, 2, n0 % 100)] : List Run))[j]? = some u → (w1.alloc (.cells #[.int .i32 0, .int .i64 2, .int .i64 (n0 / 100), .int .i32 58, .int .i64 2, .int .i64 (n0 % 100)] 60)).drew.cell? ⟨w1.heap.size, j, none⟩ = some u) := fun j u hj => by
    show (w1.alloc (.cells #[.int .i32 0, .int .i64 2, .int .i64 (n0 / 100), .int .i32 58, .int .i64 2, .int .i64 (n0 % 100)] 60)).cell? ⟨w1.heap.size, j, none⟩ = some u
    rw [World.cell?_alloc_at _ _ _ _ rfl]
    simpa [flat] using hj
  have HB2 : Hid (Below _ _ (w1.alloc (.cells #[.int .i32 0, .int .i64 2, .int .i64 (n0 / 100), .int .i32 58, .int .i64 2, .int .i64 (n0 % 100)] 60)).drew) := (HB.out.alloc HB.out.size _).drew
  have hg2 : w1.heap.size < (w1.alloc (.cells #[.int .i32 0, .int .i64 2, .int .i64 (n0 / 100), .int .i32 58, .int .i64 2, .int .i64 (n0 % 100)] 60)).drew.heap.size := by show _ < (w1.alloc _).heap.size; simp
  rw [hw]
  obtain ⟨W2, hW2⟩ : ∃ W2, W2 = (w1.alloc (.cells #[.int .i32 0, .int .i64 2, .int .i64 (n0 / 100), .int .i32 58, .int .i64 2, .int .i64 (n0 % 100)] 60)).drew := ⟨_, rfl⟩
  rw [← hW2] at C2 hc2 HB2 hg2 ⊢
  refine hK.out _ _ C2 (fun hHeld => ?_)
  clear hK K hW2
  refine wpAnyH_take (i := 13) (v := ?_) (oi := { dst := some 5, op := _, type := _, pos := _, after := _, guard := none }) rfl (by kernel_rfl) (by kernel_rfl) (by kernel_rfl) (fun _ _ _ h => h) (Or.inl ⟨by kernel_rfl, ?_⟩) (by assumption) ?_
  case refine_2 => (intro w9 hSw; clear hSw; go_simp; try with_reducible rfl)
  simp only [Act.put, List.setIfInBounds_toArray, List.set_cons_zero, List.set_cons_succ]
  refine wpAnyH_done (by kernel_rfl) ?_ _
  obtain ⟨G2, hG2⟩ : ∃ G2, G2 = w1.heap.size := ⟨_, rfl⟩
  rw [← hG2] at hc2 hg2 ⊢
  have HF : Hid (Calls Tryd.prog 34 #[.slice (some ⟨G2, 0, none⟩) 2 2] W2 fun e w' => e = .returned (.bool true) ∧ Below W2.heap.size W2 w') := isFace_any ([(0, 2, n0 / 100), (58, 2, n0 % 100)] : List Run) G2 2 W2 hg2 (by simp) (by simp) (by unfold maxLen; omega) hc2
  clear hG2 C2
  go_wp2_with fail
  refine HF.out.mono ?_
  rintro e w2 ⟨rfl, hb2⟩
  have HB3 : Hid (Below _ _ w2) := HB2.out.trans (hb2.mono HB2.out.size)
  have hc3 : Hid (∀ j u, (flat ([(0, 2, n0 / 100), (58, 2, n0 % 100)] : List Run))[j]? = some u → w2.cell? ⟨G2, j, none⟩ = some u) := fun j u hj => (hb2.cell (p := ⟨G2, j, none⟩) hg2).trans (hc2.out j u hj)
  have HS : Hid (Calls Tryd.prog 46 #[.slice (some ⟨G2, 0, none⟩) 2 2] w2 fun e w' => e = .returned (.tuple #[.int .i64 V, .int .i64 E]) ∧ Below w2.heap.size w2 w') := seconds_any ([(0, 2, n0 / 100), (58, 2, n0 % 100)] : List Run) G2 2 w2 (Nat.lt_of_lt_of_le hg2 hb2.size) (by simp) (by simp) (by unfold maxLen; omega) hc3 hn V E hV
  clear hb2
  go_wp2_with fail
  refine HS.out.mono ?_
  rintro e w3 ⟨rfl, hb3⟩
  have HB4 : Hid (Below _ _ w3) := HB3.out.trans (hb3.mono HB3.out.size)
  clear hb3
  go_wp2
  go_ret2
  exact ⟨rfl, HB4.out⟩

end Go.Proofs.YtdkodkkbggdpbaaDoor
