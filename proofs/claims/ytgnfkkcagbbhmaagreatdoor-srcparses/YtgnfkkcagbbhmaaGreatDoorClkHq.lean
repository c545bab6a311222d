/- Contract of clock.isFace: one or two digits, and twos of them behind colons. -/
import Derived.Test.YtgnfkkcagbbhmaaGreatDoorClkGq
namespace Go.Proofs.YtgnfkkcagbbhmaaGreatDoor.Clk
open Go.RowKit
set_option linter.unusedVariables false

theorem flat_at : ∀ (l : List Run) (i : Nat) (r : Run), l[i]? = some r → (flat l)[i * 3]? = some (.int .i32 r.1) ∧ (flat l)[i * 3 + 1]? = some (.int .i64 (r.2.1 : Int)) ∧ (flat l)[i * 3 + 2]? = some (.int .i64 r.2.2)
  | [], i, r, h => by simp at h
  | x :: l, 0, r, h => by simp at h; subst h; exact ⟨rfl, rfl, rfl⟩
  | x :: l, i + 1, r, h => by
    have q := flat_at l i r (by simpa using h)
    rw [show (i + 1) * 3 = i * 3 + 1 + 1 + 1 by omega]
    exact q

/-- is it not as it must be, at its place? -/
def badR (i : Nat) (r : Run) : Bool := if i = 0 then decide (2 < r.2.1) else (decide (r.2.1 ≠ 2) || decide (r.1 ≠ 58))
def faceFrom : Nat → List Run → Bool
  | _, [] => true
  | i, r :: l => !badR i r && faceFrom (i + 1) l
theorem faceFrom_step {l : List Run} {i : Nat} {r : Run} (h : l[i]? = some r) : faceFrom i (l.drop i) = (!badR i r && faceFrom (i + 1) (l.drop (i + 1))) := by
  obtain ⟨hl, he⟩ := List.getElem?_eq_some_iff.1 h
  rw [List.drop_eq_getElem_cons hl, he]
  rfl

def faceOk (l : List Run) : Bool := faceFrom 0 l && decide ((l.length : Int) ≤ 3)

set_option maxRecDepth 1000000 in
set_option maxHeartbeats 2000000 in
theorem isFace_any (l : List Run) (g cap : Nat) (w : World) (hg : g < w.heap.size) (hl : l.length ≤ 4) (hcap : l.length ≤ cap) (hcap2 : cap ≤ maxLen) (hc : Hid (∀ j u, (flat l)[j]? = some u → w.cell? ⟨g, j, none⟩ = some u)) :
    Calls Tryz.prog 200 #[.slice (some ⟨g, 0, none⟩) l.length cap] w fun e w' => e = .returned (.bool (faceOk l)) ∧ Below w.heap.size w w' := by
  go_enter Tryz.func200, Tryz.ntmps200
  go_wp2_with fail
  go_loopw [7] (fun k wr => ∃ i : Nat, i ≤ l.length ∧ k = .int .i64 (i : Int) ∧ Below w.heap.size w wr ∧ Hid (faceFrom i (l.drop i) = faceFrom 0 l)) (fun k _ => l.length - (intOf k).toNat)
  case atStart => exact ⟨0, by omega, rfl, Below.refl _ _, rfl⟩
  case round =>
    obtain ⟨i, hi, rfl, hB, HS⟩ := hrel
    have HB : Hid (Below w.heap.size w wr) := hB
    by_cases hlt : i < l.length
    · have hlt' : (i : Int) < (l.length : Int) := by omega
      obtain ⟨r, hr⟩ : ∃ r, l[i]? = some r := ⟨l[i]'hlt, List.getElem?_eq_getElem hlt⟩
      obtain ⟨q1, q2, q3⟩ := flat_at l i r hr
      have k1 : wr.cell? ⟨g, i * 3, none⟩ = some (.int .i32 r.1) := (hB.cell (p := ⟨g, i * 3, none⟩) hg).trans (hc.out _ _ q1)
      have k2 : wr.cell? ⟨g, i * 3 + 1, none⟩ = some (.int .i64 (r.2.1 : Int)) := (hB.cell (p := ⟨g, i * 3 + 1, none⟩) hg).trans (hc.out _ _ q2)
      have k3 : wr.cell? ⟨g, i * 3 + 2, none⟩ = some (.int .i64 r.2.2) := (hB.cell (p := ⟨g, i * 3 + 2, none⟩) hg).trans (hc.out _ _ q3)
      have c48 : Tryz.prog.cellsOf 280 = 3 := by kernel_rfl
      have HE := faceFrom_step hr
      obtain ⟨m, d, n⟩ := r
      simp only at k1 k2 k3
      have i0 : (0 : Int) ≤ (i : Int) := by omega
      clear q1 q2 q3 hB hr
      by_cases hbad : badR i (m, d, n) = true
      · have HF : Hid (faceOk l = false) := by show _ = _; unfold faceOk; rw [← HS.out, HE, hbad]; rfl
        clear HE
        unfold badR at hbad
        by_cases iz : i = 0
        · rw [if_pos iz] at hbad
          have h2 : (2 : Int) < (d : Int) := by have := of_decide_eq_true hbad; simp only at this; omega
          subst iz
          clear hbad
          go_wp2
          go_ret
          exact ⟨ret_bool HF.out.symm, HB.out.alloc HB.out.size _⟩
        · rw [if_neg iz] at hbad
          have iz0 : ((i : Int) == 0) = false := by rw [beq_eq_false_iff_ne]; omega
          have iz1 : (0 : Int) < (i : Int) := by omega
          rw [Bool.or_eq_true] at hbad
          by_cases hd : d = 2
          · have hm : (m != 58) = true := by
              rcases hbad with hbad | hbad
              · exact absurd hd (of_decide_eq_true hbad)
              · rw [bne_iff_ne]; exact of_decide_eq_true hbad
            have hd' : ((d : Int) != 2) = false := by rw [hd]; rfl
            clear hbad
            go_wp2
            go_ret
            exact ⟨ret_bool HF.out.symm, HB.out.alloc HB.out.size _⟩
          · have hd' : ((d : Int) != 2) = true := by rw [bne_iff_ne]; omega
            clear hbad
            go_wp2
            go_ret
            exact ⟨ret_bool HF.out.symm, HB.out.alloc HB.out.size _⟩
      · have hbf : badR i (m, d, n) = false := by simpa using hbad
        have HN : Hid (faceFrom (i + 1) (l.drop (i + 1)) = faceFrom 0 l) := by show _ = _; rw [← HS.out, HE, hbf]; simp
        clear HE hbad
        unfold badR at hbf
        by_cases iz : i = 0
        · rw [if_pos iz] at hbf
          have h2 : ¬ (2 : Int) < (d : Int) := by have := of_decide_eq_false hbf; simp only at this; omega
          subst iz
          clear hbf
          go_wp2
          go_roundw
          case rel => exact ⟨1, by omega, rfl, HB.out.alloc HB.out.size _, HN⟩
          case measure => simp [intOf]; omega
        · rw [if_neg iz, Bool.or_eq_false_iff] at hbf
          have iz0 : ((i : Int) == 0) = false := by rw [beq_eq_false_iff_ne]; omega
          have iz1 : (0 : Int) < (i : Int) := by omega
          have hd : d = 2 := by have := of_decide_eq_false hbf.1; simpa using this
          have hm : m = 58 := by have := of_decide_eq_false hbf.2; simpa using this
          subst hd hm
          clear hbf
          go_wp2
          go_roundw
          case rel => exact ⟨i + 1, by omega, by go_num, HB.out.alloc HB.out.size _, HN⟩
          case measure => simp [intOf]; omega
    · have hlt' : ¬ (i : Int) < (l.length : Int) := by omega
      have HF : Hid (faceOk l = decide ((l.length : Int) ≤ 3)) := by
        show _ = _
        unfold faceOk
        rw [← HS.out, List.drop_of_length_le (by omega)]
        rfl
      go_wp2
      go_ret
      exact ⟨ret_bool HF.out.symm, HB.out⟩

end Go.Proofs.YtgnfkkcagbbhmaaGreatDoor.Clk
