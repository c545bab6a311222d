/- Contract of the reference's Same of two lists that are alike. -/
import Derived.Test.YtebjicnjbiiioaaDoorLnE
namespace Go.Proofs.YtebjicnjbiiioaaDoor
open Go.RowKit
set_option linter.unusedVariables false

theorem below_dw (w : World) : ∀ m, Below w.heap.size w (w.drewN m)
  | 0 => Below.refl _ _
  | m + 1 => (below_dw w m).drew
theorem dN_add (w : World) (m : Nat) : ∀ n, (w.drewN m).drewN n = w.drewN (m + n)
  | 0 => rfl
  | n + 1 => by show ((w.drewN m).drewN n).drew = (w.drewN (m + n)).drew; rw [dN_add w m n]
theorem row_form {W : World} {base ty size n : Nat} {v : Value} {xs : List Value} (h : W.ownsRow base ty size v n xs) : ∃ a c, v = .slice a n c := by
  rcases h.2 with ⟨h0, h1⟩ | ⟨g, cap, _, h0, _⟩
  · exact ⟨none, 0, by rw [h0, h1]⟩
  · exact ⟨_, cap, h0⟩
theorem row_some {W : World} {base ty size n : Nat} {v : Value} {xs : List Value} (h : W.ownsRow base ty size v n xs) (hn : 0 < n) : ∃ g c, v = .slice (some ⟨g, 0, none⟩) n c ∧ n ≤ c ∧ c ≤ maxLen ∧ g < W.heap.size := by
  rcases h.2 with ⟨h0, h1⟩ | ⟨g, cap, _, h0, _, hg, h3, h4, _⟩
  · omega
  · exact ⟨g, cap, h0, h3, h4, (Array.getElem?_eq_some_iff.1 hg).1⟩

set_option maxRecDepth 1000000 in
set_option maxHeartbeats 8000000 in
theorem esame_some (l1 l2 : List LnV) (n : Nat) (g1 c1 g2 c2 b1 b2 : Nat) (nb : Bool) (w : World) (hn4 : n ≤ 400) (hc1 : n ≤ c1) (hc1' : c1 ≤ maxLen) (hc2 : n ≤ c2) (hc2' : c2 ≤ maxLen)
    (H1 : Hid (OwnL w b1 79 (.slice (some ⟨g1, 0, none⟩) n c1) l1 ∧ l1.length = n)) (H2 : Hid (OwnL w b2 79 (.slice (some ⟨g2, 0, none⟩) n c2) l2 ∧ l2.length = n))
    (HF : Hid (l1.map (fun p => p.2.2) = l2.map (fun p => p.2.2))) (HN : Hid (nb = true → l1.map (fun p => p.1) = l2.map (fun p => p.1))) :
    Calls Tryd.prog 19 #[.slice (some ⟨g1, 0, none⟩) n c1, .slice (some ⟨g2, 0, none⟩) n c2, .bool nb] w fun e w' => e = .returned (.bool true) ∧ Below w.heap.size w w' := by
  unfold maxLen at hc1' hc2'
  have c79 : Tryd.prog.cellsOf 79 = 2 := by kernel_rfl
  go_enter Tryd.func19, Tryd.ntmps19
  go_wp2_with fail
  go_loopw [7] (fun i W => ∃ k m : Nat, k ≤ n ∧ i = .int .i64 (k : Int) ∧ W = w.drewN m) (fun i _ => n - (intOf i).toNat)
  case atStart => exact ⟨0, 0, Nat.zero_le _, rfl, rfl⟩
  case round =>
    obtain ⟨k, m, hk, rfl, rfl⟩ := hrel
    by_cases hkn : k < n
    · have hkn' : (k : Int) < (n : Int) := by omega
      have hk0 : (0 : Int) ≤ (k : Int) := by omega
      have hkw : IntKind.i64.wrap ((k : Int) + 1) = (k : Int) + 1 := by rw [IntKind.wrap_i64]; omega
      obtain ⟨⟨N1, u1, F⟩, hr1⟩ : ∃ r, l1[k]? = some r := ⟨_, List.getElem?_eq_getElem (by rw [H1.out.2]; exact hkn)⟩
      obtain ⟨⟨N2, u2, F2⟩, hr2⟩ : ∃ r, l2[k]? = some r := ⟨_, List.getElem?_eq_getElem (by rw [H2.out.2]; exact hkn)⟩
      have eF : F = F2 := by
        have := congrArg (fun l => l[k]?) HF.out
        simp [hr1, hr2] at this
        exact this
      have eN : nb = true → N1 = N2 := fun q => by
        have := congrArg (fun l => l[k]?) (HN.out q)
        simp [hr1, hr2] at this
        exact this
      subst eF
      obtain ⟨a1, a2⟩ := ownL_at (by have := H1.out.1.1; rw [H1.out.2] at this; exact this) H1.out.2 k _ hr1
      obtain ⟨a3, a4⟩ := ownL_at (by have := H2.out.1.1; rw [H2.out.2] at this; exact this) H2.out.2 k _ hr2
      obtain ⟨q, hq⟩ : ∃ q, F.length = q := ⟨_, rfl⟩
      have O1 : Hid (w.ownsRow b1 9 1 u1 q (cellsS F)) := by have := H1.out.1.2 _ (List.mem_of_getElem? hr1); rw [← hq]; exact this
      have O2 : Hid (w.ownsRow b2 9 1 u2 q (cellsS F)) := by have := H2.out.1.2 _ (List.mem_of_getElem? hr2); rw [← hq]; exact this
      obtain ⟨p1, d1, e1⟩ := row_form O1.out
      obtain ⟨p2, d2, e2⟩ := row_form O2.out
      subst e1 e2
      have hqm : q ≤ maxLen := by
        rcases O1.out.2 with ⟨_, h0⟩ | ⟨_, cap, _, _, _, _, h3, h4, _⟩
        · omega
        · omega
      unfold maxLen at hqm
      have HQ : Hid (F.length = q) := hq
      clear hr1 hr2 hq
      simp only at a1 a2 a3 a4
      go_upto_region 6 with fail
      go_cut [48] from 20 to 48 (fun p W => ∃ m2, p = .bool false ∧ W = w.drewN m2)
      case first =>
        clear O1 O2 H1 H2 HF HN
        cases nb
        · clear eN
          go_wp2_with fail
          go_quiet (fail)
          go_wp2_with fail
          go_meet
          case rel => exact ⟨_, rfl, dN_add w m nq⟩
        · have e := eN rfl
          subst e
          clear eN
          go_wp2_with fail
          go_quiet (fail)
          go_wp2_with fail
          go_meet
          case rel => exact ⟨_, rfl, dN_add w m nq⟩
      case rest =>
        obtain ⟨m2, rfl, rfl⟩ := hcut
        go_wp2_with fail
        go_loopw [8] (fun i W => ∃ j m3 : Nat, j ≤ q ∧ i = .int .i64 (j : Int) ∧ W = w.drewN m3) (fun i _ => q - (intOf i).toNat)
        case atStart => exact ⟨0, m2, Nat.zero_le _, rfl, rfl⟩
        case round =>
          obtain ⟨j, m3, hj, rfl, rfl⟩ := hrel
          by_cases hjq : j < q
          · have hjq' : (j : Int) < (q : Int) := by omega
            have hj0 : (0 : Int) ≤ (j : Int) := by omega
            have hjw : IntKind.i64.wrap ((j : Int) + 1) = (j : Int) + 1 := by rw [IntKind.wrap_i64]; omega
            obtain ⟨x, hx⟩ : ∃ x, F[j]? = some x := ⟨_, List.getElem?_eq_getElem (by rw [HQ.out]; exact hjq)⟩
            obtain ⟨gg1, cc1, ee1, n1, n2, _⟩ := row_some O1.out (by omega)
            obtain ⟨gg2, cc2, ee2, n3, n4, _⟩ := row_some O2.out (by omega)
            obtain ⟨rfl, rfl⟩ : p1 = some ⟨gg1, 0, none⟩ ∧ d1 = cc1 := by simpa using ee1
            obtain ⟨rfl, rfl⟩ : p2 = some ⟨gg2, 0, none⟩ ∧ d2 = cc2 := by simpa using ee2
            unfold maxLen at n2 n4
            have z1 := ownS_at O1.out HQ.out j x hx
            have z2 := ownS_at O2.out HQ.out j x hx
            clear hx ee1 ee2
            go_wp2_with fail
            go_quiet (fail)
            go_wp2_with fail
            go_roundw
            case rel => exact ⟨j + 1, _, by omega, by go_num, rfl⟩
            case measure => simp [intOf]; omega
          · have hjq' : ¬ (j : Int) < (q : Int) := by omega
            go_wp2_with fail
            go_roundw
            case rel => exact ⟨k + 1, m3, by omega, by go_num, rfl⟩
            case measure => simp [intOf]; omega
    · have hkn' : ¬ (k : Int) < (n : Int) := by omega
      go_wp2_with fail
      go_ret
      exact ⟨rfl, below_dw w m⟩

end Go.Proofs.YtebjicnjbiiioaaDoor
