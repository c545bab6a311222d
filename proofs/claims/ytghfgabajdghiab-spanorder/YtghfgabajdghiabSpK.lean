/- Which interval is the longer one, by their lengths; the reference's Cmp and Sign, whole. -/
import Derived.Test.YtghfgabajdghiabSpI
import Derived.Test.YtghfgabajdghiabSpJ
namespace Go.Proofs.Ytghfgabajdghiab
open Go.RowKit
set_option linter.unusedVariables false

/-- an interval's length. -/
def lng (m d u : Int) : Int := (m * 30 + d) * 86400000000 + u
theorem lng_lv (m d u : Int) : lng m d u = lvD m d u * 86400000000 + lvU u ∧ 0 ≤ lvU u ∧ lvU u < 86400000000 := by unfold lng lvD lvU; omega
theorem lng_bd {m d u : Int} (m1 : -2147483647 ≤ m) (m2 : m ≤ 2147483647) (d1 : -2147483647 ≤ d) (d2 : d ≤ 2147483647) (u1 : -9223372036854775808 ≤ u) (u2 : u ≤ 9223372036854775807) : (lng m d u).natAbs ≤ 10000000000000000000000 := by unfold lng; omega
theorem or_len {a b c d : Int} (P Q : Int) (hb : 0 ≤ b ∧ b < 86400000000) (hd : 0 ≤ d ∧ d < 86400000000) (hP : P = a * 86400000000 + b) (hQ : Q = c * 86400000000 + d) : orV 0 (sgnC a c) (sgnC b d) = sgnC P Q := by
  rcases Int.lt_trichotomy a c with h | h | h
  · rw [sgnC_lt h, sgnC_lt (show P < Q by omega)]; rfl
  · subst h
    rw [sgnC_eq]
    rcases Int.lt_trichotomy b d with k | k | k
    · rw [sgnC_lt k, sgnC_lt (show P < Q by omega)]; rfl
    · subst k
      rw [sgnC_eq, show P = Q by omega, sgnC_eq]; rfl
    · rw [sgnC_gt k, sgnC_gt (show Q < P by omega)]; rfl
  · rw [sgnC_gt h, sgnC_gt (show Q < P by omega)]; rfl
theorem cm_lt {i m d u j n e v : Int} (h : pR i m d u = true) (k : pR j n e v = true) (hl : i < j) : cmA i m d u j n e v = -1 := by
  unfold cmA; rw [if_pos ⟨h, k⟩, sgnC_lt hl]; rfl
theorem cm_gt {i m d u j n e v : Int} (h : pR i m d u = true) (k : pR j n e v = true) (hl : j < i) : cmA i m d u j n e v = 1 := by
  unfold cmA; rw [if_pos ⟨h, k⟩, sgnC_gt hl]; rfl
theorem cm_eq {i m d u n e v : Int} (h : pR i m d u = true) (k : pR i n e v = true) : cmA i m d u i n e v = sgnC (lng m d u) (lng n e v) := by
  unfold cmA; rw [if_pos ⟨h, k⟩, sgnC_eq]
  exact or_len _ _ (lng_lv m d u).2 (lng_lv n e v).2 (lng_lv m d u).1 (lng_lv n e v).1
theorem sgnC_sub (a b : Int) : sgnC (a + -b) 0 = sgnC a b := by
  rcases Int.lt_trichotomy a b with h | h | h
  · rw [sgnC_lt h, sgnC_lt (by omega)]
  · subst h
    rw [sgnC_eq, show a + -a = 0 by omega, sgnC_eq]
  · rw [sgnC_gt h, sgnC_gt (by omega)]
theorem pR_zero : pR 0 0 0 0 = true := by decide
theorem sg_cm (i m d u : Int) : sgA i m d u = cmA i m d u 0 0 0 0 := by
  cases h : pR i m d u
  · unfold sgA cmA; rw [h, if_neg (by decide), if_neg (fun k => absurd k.1 (by decide))]
  · rcases pR_yes h with q | ⟨q, rfl, rfl, rfl⟩
    · obtain ⟨rfl, _⟩ := q
      unfold sgA cmA
      rw [if_pos h, if_pos rfl, if_pos (show pR 0 m d u = true ∧ pR 0 0 0 0 = true from ⟨h, pR_zero⟩), sgnC_eq, show lvD 0 0 0 = 0 by decide, show lvU 0 = 0 by decide]
      have hu := (lng_lv m d u).2
      rcases Int.lt_trichotomy (lvD m d u) 0 with a | a | a
      · rw [if_neg (by omega), if_pos a, sgnC_lt a]; rfl
      · rw [a, sgnC_eq]
        by_cases b : lvU u = 0
        · rw [if_pos ⟨rfl, b⟩, b, sgnC_eq]; rfl
        · rw [if_neg (fun k => b k.2), if_neg (by decide), sgnC_gt (by omega)]; rfl
      · rw [if_neg (by omega), if_neg (by omega), sgnC_gt a]; rfl
    · rcases q with rfl | rfl
      · decide
      · decide
theorem sg_lng {m d u : Int} (h : pR 0 m d u = true) : sgA 0 m d u = sgnC (lng m d u) 0 := by
  rw [sg_cm, cm_eq h pR_zero]; rfl

theorem rlong_any (i m d u : Int) (m1 : -2147483647 ≤ m) (m2 : m ≤ 2147483647) (d1 : -2147483647 ≤ d) (d2 : d ≤ 2147483647) (u1 : -9223372036854775808 ≤ u) (u2 : u ≤ 9223372036854775807) (w : World) :
    Calls Try.prog 43 #[a4 i m d u] w fun r' w' => ∃ v', r' = .returned v' ∧ IsW w' v' (lng m d u) ∧ Below w.heap.size w w' :=
  rlong_run i m d u (m * 30 + d) ((m * 30 + d) * 86400000000) (lng m d u) m1 m2 d1 d2 rfl (fun w => wof _ (by omega) (by omega) w) (fun w => wof _ (by decide) (by decide) w)
    (fun v q w hv hq => wtimes v q _ _ w hv hq (by omega) (by decide)) (fun w => wof u u1 u2 w)
    (fun v q w hv hq => wplus v q _ _ w hv hq (Nat.lt_of_le_of_lt (show ((m * 30 + d) * 86400000000).natAbs + u.natAbs ≤ 100000000000000000000000 by omega) (by decide))) w

theorem rpcmp_any (i m d u j n e v : Int) (u1 : -9223372036854775808 ≤ u) (u2 : u ≤ 9223372036854775807) (v1 : -9223372036854775808 ≤ v) (v2 : v ≤ 9223372036854775807) (w : World) :
    Calls Try.prog 23 #[a4 i m d u, a4 j n e v] w fun r w' => r = .returned (.int .i64 (cmA i m d u j n e v)) ∧ Below w.heap.size w w' := by
  have X := rpright_is i m d u u1 u2
  have Y := rpright_is j n e v v1 v2
  cases h : pR i m d u
  · rw [show cmA i m d u j n e v = 0 from if_neg (fun k => by rw [h] at k; exact absurd k.1 (by decide))]; exact rpcmp_no1 i m d u j n e v (X false h) w
  · cases k : pR j n e v
    · rw [show cmA i m d u j n e v = 0 from if_neg (fun q => by rw [k] at q; exact absurd q.2 (by decide))]; exact rpcmp_no2 i m d u j n e v (X true h) (Y false k) w
    · rcases Int.lt_trichotomy i j with q | q | q
      · rw [cm_lt h k q]; exact rpcmp_lt i m d u j n e v q (X true h) (Y true k) w
      · subst q
        rw [cm_eq h k, ← sgnC_sub]
        have p := pR_yes h
        have q := pR_yes k
        have b1 := lng_bd (m := m) (d := d) (u := u) (by omega) (by omega) (by omega) (by omega) u1 u2
        have b2 := lng_bd (m := n) (d := e) (u := v) (by omega) (by omega) (by omega) (by omega) v1 v2
        exact rpcmp_eq i m d u i n e v (lng m d u) (lng n e v) (lng m d u + -lng n e v) _ (by omega) (by omega) (X true h) (Y true k) (fun w => rlong_any i m d u (by omega) (by omega) (by omega) (by omega) u1 u2 w) (fun w => rlong_any i n e v (by omega) (by omega) (by omega) (by omega) v1 v2 w)
          (fun y w hy => wminus y _ w hy) (fun y q w hy hq => wplus y q _ _ w hy hq (Nat.lt_of_le_of_lt (show (lng m d u).natAbs + (-lng n e v).natAbs ≤ 100000000000000000000000 by omega) (by decide))) (fun y w hy => rsign_any y _ w hy) w
      · rw [cm_gt h k q]; exact rpcmp_gt i m d u j n e v q (X true h) (Y true k) w

theorem rpsign_any (i m d u : Int) (u1 : -9223372036854775808 ≤ u) (u2 : u ≤ 9223372036854775807) (w : World) :
    Calls Try.prog 25 #[a4 i m d u] w fun r w' => r = .returned (.int .i64 (sgA i m d u)) ∧ Below w.heap.size w w' := by
  rw [sg_cm]
  exact rpsign_run i m d u _ (fun w => rpcmp_any i m d u 0 0 0 0 u1 u2 (by decide) (by decide) w) w

end Go.Proofs.Ytghfgabajdghiab
