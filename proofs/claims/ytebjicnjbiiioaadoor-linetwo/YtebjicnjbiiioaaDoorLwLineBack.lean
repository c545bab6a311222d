/- The walk of LineBack. -/
import Derived.Test.YtebjicnjbiiioaaDoorLnP
namespace Go.Proofs.YtebjicnjbiiioaaDoor
open Go.RowKit
set_option linter.unusedVariables false

theorem lnsF_err : ∀ (ts : List (List UInt8)) (n : Nat) (acc : List Lne) (r : Int × Int), lnsF ts n acc = .inl r → r.2 ≠ 0
  | [], n, acc, r, e => by simp [lnsF] at e
  | t :: ts, n, acc, r, e => by
    cases ho : oneL t with
    | none =>
      rw [lnsF_none ho] at e
      have : ((n : Int) + 1, (21 : Int)) = r := by simpa using e
      rw [← this]; show (21 : Int) ≠ 0; decide
    | some F =>
      rw [lnsF_some ho] at e
      by_cases h1 : F.length = 0
      · rw [if_pos h1] at e; exact lnsF_err ts _ _ _ e
      · rw [if_neg h1] at e
        by_cases h2 : 16 < F.length ∨ acc.length = 400
        · rw [if_pos h2] at e
          have : ((n : Int) + 1, (3 : Int)) = r := by simpa using e
          rw [← this]; show (3 : Int) ≠ 0; decide
        · rw [if_neg h2] at e; exact lnsF_err ts _ _ _ e
theorem lnsS_err {s : ByteArray} {r : Int × Int} (h : lnsS s = .inl r) : r.2 ≠ 0 := by
  unfold lnsS at h
  split at h
  · have : ((0 : Int), (3 : Int)) = r := by simpa using h
    rw [← this]; decide
  · exact lnsF_err _ _ _ _ h
theorem joinB_size {L : List Lne} (h : Fine L) : (joinB L).size ≤ 140737488351232 := by
  have e : (joinB L).size = (joinK L L.length).length := by
    show (joinK L L.length).toArray.size = _
    simp
  have := joinK_length h _ (Nat.le_refl _)
  have := h.1
  rw [e]
  omega
theorem said_snd {l : List LnV} {L : List Lne} (h : saidL l = L) : l.map (fun p => p.2.2) = L.map (fun p => p.2) := by rw [← h]; unfold saidL; simp

set_option maxRecDepth 1000000 in
set_option maxHeartbeats 4000000 in
theorem core_LineBack (s : ByteArray) (hs9 : s.size ≤ 140737488351232) (w : World) (hM : Mx w) :
    Calls Tryd.prog 6 #[.string s] w fun e w' => e = .returned (.bool true) ∧ Below w.heap.size w w' := by
  cases hG : lnsS s with
  | inl r =>
    have hr := lnsS_err hG
    have H1 : Hid (∀ w : World, Mx w → Calls Tryd.prog 17 #[.string s] w fun e w' => Below w.heap.size w w' ∧ e = .returned (.tuple #[.slice none 0 0, .int .i64 r.1, .int .i64 r.2])) := fun w h => by
      have := lSplit_any s w h hs9
      rw [hG] at this
      exact this
    clear hG
    obtain ⟨r1, r2⟩ := r
    simp only at hr H1
    have hr1 : (r2 == 0) = false := by rw [beq_eq_false_iff_ne]; exact hr
    have hr2 : (r2 != 0) = true := by rw [bne_iff_ne]; exact hr
    go_enter Tryd.func6, Tryd.ntmps6
    go_wp2_with fail
    refine (H1.out _ hM).mono ?_
    rintro e w1 ⟨hb1, rfl⟩
    have HB1 : Hid (Below w.heap.size w w1) := hb1
    have M1 := hM.below hb1
    clear hb1 hM H1
    go_wp2_with fail
    refine (lknown_any _ M1).mono ?_
    rintro e w2 ⟨rfl, hb2⟩
    have HB2 : Hid (Below w.heap.size w w2) := HB1.out.trans (hb2.mono HB1.out.size)
    clear HB1 hb2 M1
    go_wp2_with fail
    go_ret
    exact ⟨rfl, HB2.out⟩
  | inr L =>
    have hfine := fine_good (lnsS_good hG)
    have hjs := joinB_size hfine
    have H1 : Hid (∀ w : World, Mx w → Calls Tryd.prog 17 #[.string s] w fun e w' => Below w.heap.size w w' ∧ ∃ v l, e = .returned (.tuple #[v, .int .i64 0, .int .i64 0]) ∧ OwnL w' w.heap.size 78 v l ∧ saidL l = L) := fun w h => by
      have := lSplit_any s w h hs9
      rw [hG] at this
      exact this
    have HBK : Hid (¬ 8192 < (joinB L).size → ∃ M, lnsS (joinB L) = .inr M ∧ M.map (fun p => p.2) = L.map (fun p => p.2)) := fun h => split_back hG h
    have hL4 := (lnsS_good hG).1
    clear hG
    go_enter Tryd.func6, Tryd.ntmps6
    go_wp2_with fail
    refine (H1.out _ hM).mono ?_
    rintro e w1 ⟨hb1, v, l, rfl, hO, hsaid⟩
    have HB1 : Hid (Below w.heap.size w w1) := hb1
    have M1 : Hid (Mx w1) := hM.below hb1
    have HO1 : Hid (OwnL w1 w.heap.size 78 v l) := hO
    have HJ : Hid (∀ W : World, OwnL W w.heap.size 78 v l → Calls Tryd.prog 23 #[v] W fun e w' => e = .returned (.string (joinB L)) ∧ Below W.heap.size W w') := fun W h => by
      have := join_any l v w.heap.size W h (by rw [hsaid]; exact hfine)
      rw [hsaid] at this
      exact this
    have hl4 : l.length ≤ 400 := by rw [said_len hsaid]; exact hL4
    have HS : Hid (l.map (fun p => p.2.2) = L.map (fun p => p.2)) := said_snd hsaid
    clear hb1 hM H1 hO hsaid hfine
    go_wp2_with fail
    refine (HJ.out _ HO1.out).mono ?_
    rintro e w2 ⟨rfl, hb2⟩
    have HB2 : Hid (Below w.heap.size w w2) := HB1.out.trans (hb2.mono HB1.out.size)
    have M2 : Hid (Mx w2) := M1.out.below hb2
    have HO2 : Hid (OwnL w2 w.heap.size 78 v l) := HO1.out.below hb2
    clear HJ hb2 HB1 M1 HO1
    by_cases hz : 8192 < (joinB L).size
    · have hz' : (8192 : Int) < ((joinB L).size : Int) := by omega
      clear HBK HO2 hz
      generalize joinB L = T at *
      go_wp2_with fail
      refine (lknown_any _ M2.out).mono ?_
      rintro e w3 ⟨rfl, hb3⟩
      have HB3 : Hid (Below w.heap.size w w3) := HB2.out.trans (hb3.mono HB2.out.size)
      clear HB2 hb3 M2
      go_wp2_with fail
      go_ret
      exact ⟨rfl, HB3.out⟩
    · have hz' : ¬ (8192 : Int) < ((joinB L).size : Int) := by omega
      obtain ⟨M, eM, eK⟩ := HBK.out hz
      have hM4 := (lnsS_good eM).1
      have H2 : Hid (∀ w : World, Mx w → Calls Tryd.prog 17 #[.string (joinB L)] w fun e w' => Below w.heap.size w w' ∧ ∃ v l, e = .returned (.tuple #[v, .int .i64 0, .int .i64 0]) ∧ OwnL w' w.heap.size 78 v l ∧ saidL l = M) := fun w h => by
        have := lSplit_any (joinB L) w h hjs
        rw [eM] at this
        exact this
      clear HBK eM hz
      generalize joinB L = T at *
      go_wp2_with fail
      refine (H2.out _ M2.out).mono ?_
      rintro e w3 ⟨hb3, u, k, rfl, hO, hsaid⟩
      have HB3 : Hid (Below w.heap.size w w3) := HB2.out.trans (hb3.mono HB2.out.size)
      have M3 : Hid (Mx w3) := M2.out.below hb3
      have HO3 : Hid (OwnL w3 w.heap.size 78 v l) := HO2.out.below hb3
      have HU3 : Hid (OwnL w3 w.heap.size 78 u k) := hO.lower HB2.out.size
      have hk4 : k.length ≤ 400 := by rw [said_len hsaid]; exact hM4
      have HT : Hid (∀ W : World, OwnL W w.heap.size 78 v l → w.heap.size ≤ W.heap.size → Calls Tryd.prog 20 #[v] W fun e w' => Below W.heap.size W w' ∧ ∃ v', e = .returned v' ∧ OwnL w' w.heap.size 79 v' l) := fun W h1 h2 => ltaken_any l v w.heap.size W hl4 h2 h1
      have HTk : Hid (∀ W : World, OwnL W w.heap.size 78 u k → w.heap.size ≤ W.heap.size → Calls Tryd.prog 20 #[u] W fun e w' => Below W.heap.size W w' ∧ ∃ v', e = .returned v' ∧ OwnL w' w.heap.size 79 v' k) := fun W h1 h2 => ltaken_any k u w.heap.size W hk4 h2 h1
      have HSm : Hid (∀ (W : World) (v1 v2 : Value), OwnL W w.heap.size 79 v1 l → OwnL W w.heap.size 79 v2 k → Calls Tryd.prog 19 #[v1, v2, .bool false] W fun e w' => e = .returned (.bool true) ∧ Below W.heap.size W w') := fun W v1 v2 h1 h2 =>
        esame_yes l k v1 v2 _ _ false W hl4 h1 h2 (by rw [HS.out, said_snd hsaid, eK]) (fun q => absurd q (by decide))
      clear H2 hb3 hO hsaid HB2 M2 HO2 hk4 hl4 eK hM4 HS
      go_wp2_with fail
      refine (HT.out _ HO3.out HB3.out.size).mono ?_
      rintro e w4 ⟨hb4, v', rfl, hO4⟩
      have HB4 : Hid (Below w.heap.size w w4) := HB3.out.trans (hb4.mono HB3.out.size)
      have M4 : Hid (Mx w4) := M3.out.below hb4
      have HU4 : Hid (OwnL w4 w.heap.size 78 u k) := HU3.out.below hb4
      have HV4 : Hid (OwnL w4 w.heap.size 79 v' l) := hO4
      clear HT hb4 hO4 HB3 M3 HO3 HU3
      go_wp2_with fail
      refine (HTk.out _ HU4.out HB4.out.size).mono ?_
      rintro e w5 ⟨hb5, u', rfl, hO5⟩
      have HB5 : Hid (Below w.heap.size w w5) := HB4.out.trans (hb5.mono HB4.out.size)
      have M5 : Hid (Mx w5) := M4.out.below hb5
      have HV5 : Hid (OwnL w5 w.heap.size 79 v' l) := HV4.out.below hb5
      have HU5 : Hid (OwnL w5 w.heap.size 79 u' k) := hO5
      clear HTk hb5 hO5 HB4 M4 HU4 HV4
      go_wp2_with fail
      refine (HSm.out _ _ _ HV5.out HU5.out).mono ?_
      rintro e w6 ⟨rfl, hb6⟩
      have HB6 : Hid (Below w.heap.size w w6) := HB5.out.trans (hb6.mono HB5.out.size)
      have M6 : Hid (Mx w6) := M5.out.below hb6
      clear HSm hb6 HB5 M5 HV5 HU5
      go_wp2_with fail
      refine (lknown_any _ M6.out).mono ?_
      rintro e w7 ⟨rfl, hb7⟩
      have HB7 : Hid (Below w.heap.size w w7) := HB6.out.trans (hb7.mono HB6.out.size)
      clear HB6 hb7 M6
      go_wp2_with fail
      go_ret
      exact ⟨rfl, HB7.out⟩

end Go.Proofs.YtebjicnjbiiioaaDoor
