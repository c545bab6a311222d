/- The reference's Justify, whole. -/
import Derived.Test.YtghfgabajdghiabSpIb
import Derived.Test.YtghfgabajdghiabSpK
namespace Go.Proofs.Ytghfgabajdghiab
open Go.RowKit
set_option linter.unusedVariables false

theorem rpjus_any (i m d u : Int) (u1 : -9223372036854775808 ≤ u) (u2 : u ≤ 9223372036854775807) (w : World) :
    Calls Try.prog 27 #[a4 i m d u] w fun r w' => r = .returned (v5 (jus5 i m d u)) ∧ Below w.heap.size w w' := by
  have RI := rpright_is i m d u u1 u2
  unfold jus5
  cases h : pR i m d u
  · rw [if_neg (by decide)]; exact rpjus_no i m d u (RI false h) w
  · rw [if_pos rfl]
    by_cases h0 : i = 0
    · subst h0
      rw [if_pos rfl]
      have q := pR_yes h
      obtain ⟨t1, t2⟩ := tdiv_day u u1 u2
      have W : ∀ w : World, Calls Try.prog 34 #[.int .i64 (jD d u), .int .i64 2147483647] w fun r w' => r = .returned (.bool (cnt (jD d u))) ∧ w' = w := fun w => within_any _ 2147483647 (by decide) (by decide) w
      cases hc : cnt (jD d u)
      · rw [hc] at W
        rw [if_neg (by decide)]
        exact rpjus_far m d u (jD d u) (jU u) (by omega) (by omega) (by omega) (by omega) t1 t2 rfl rfl (RI true h) W w
      · rw [hc] at W
        rw [if_pos rfl]
        obtain ⟨t3, t4⟩ := tdiv_30 hc
        have hE : -30 < jE d u ∧ jE d u < 30 := tmod_30 (jD d u)
        have hU : -86400000000 < jU u ∧ jU u < 86400000000 := tmod_day u
        have LG := fun w => rlong_any 0 0 (jE d u) (jU u) (by decide) (by decide) (by omega) (by omega) (by omega) (by omega) w
        have SG := fun (y : Value) (w : World) (hy : IsW w y (lng 0 (jE d u) (jU u))) => rsign_any y _ w hy
        have eS : jS d u = sgnC (lng 0 (jE d u) (jU u)) 0 := sg_lng (pR_in (by decide) (by decide) (by omega) (by omega) (by omega) (by omega))
        have eL : lng 0 (jE d u) (jU u) = jE d u * 86400000000 + jU u := by unfold lng; omega
        rw [← eS] at SG
        have m1 : -2147483647 ≤ m := by omega
        have m2 : m ≤ 2147483647 := by omega
        have d1 : -2147483647 ≤ d := by omega
        have d2 : d ≤ 2147483647 := by omega
        have MK := fun (a b c : Int) (h1 : -9223372036854775808 ≤ c) (h2 : c ≤ 9223372036854775807) (w : World) => rpmake_any a b c h1 h2 w
        have h3 : -(2 * 30) < jD3 m d u ∧ jD3 m d u < 2 * 30 := lS_bd (by omega) (by omega) (by decide)
        have uA : ∀ {g : Int}, 0 < g ∧ sgnC (jU u) 0 < 0 → 0 < g ∧ jU u < 0 := fun k => ⟨k.1, by
          by_cases z : jU u < 0
          · exact z
          · rcases Int.lt_or_eq_of_le (Int.not_lt.1 z) with y | y
            · rw [sgnC_gt y] at k; exact absurd k.2 (by decide)
            · rw [← y, sgnC_eq] at k; exact absurd k.2 (by decide)⟩
        have sB : ∀ x : Int, (x < 0 → sgnC x 0 = -1) ∧ (0 < x → sgnC x 0 = 1) ∧ (x = 0 → sgnC x 0 = 0) := fun x => ⟨fun a => sgnC_lt a, fun a => sgnC_gt a, fun a => by rw [a, sgnC_eq]⟩
        have sU := sB (jU u)
        have sL := sB (lng 0 (jE d u) (jU u))
        rw [← eS, eL] at sL
        have dM : jM2 m d u = lG (jM m d u) (jS d u) := rfl
        have d3 : jD3 m d u = lS (jM m d u) (jE d u) 30 (jS d u) := rfl
        have d4 : jD4 m d u = lG (jD3 m d u) (sgnC (jU u) 0) := rfl
        have d5 : jU2 m d u = lS (jD3 m d u) (jU u) 86400000000 (sgnC (jU u) 0) := rfl
        unfold lG at dM d4
        unfold lS at d3 d5
        clear uA
        have hd : d + u.tdiv 86400000000 = jD d u := rfl
        have hu : u.tmod 86400000000 = jU u := rfl
        have hm : m + (jD d u).tdiv 30 = jM m d u := rfl
        have he : (jD d u).tmod 30 = jE d u := rfl
        generalize jD d u = D1 at *
        generalize jU u = U1 at *
        generalize jM m d u = M1 at *
        generalize jE d u = D2 at *
        generalize jS d u = l at *
        generalize sgnC U1 0 = t at *
        generalize lng 0 D2 U1 = L at *
        by_cases a1 : 0 < M1
        · by_cases a2 : l < 0
          · rw [if_pos ⟨a1, a2⟩] at dM d3
            by_cases k2 : U1 < 0
            · have tt := sU.1 k2
              rw [if_pos (by omega)] at d4 d5
              rw [dM, d4, d5, d3]
              exact rpjus_AA m d u D1 U1 M1 D2 L l _ _ _ _ _ m1 m2 d1 d2 t1 t2 hd hu hm he t3 t4 hE.1 hE.2 hU.1 hU.2 a1 a2 (by omega) k2 (RI true h) W LG SG (MK _ _ _ (by omega) (by omega)) w
            · rw [if_neg (by omega), if_neg (by omega)] at d4 d5
              rw [dM, d4, d5, d3]
              exact rpjus_AB m d u D1 U1 M1 D2 L l _ _ _ _ _ m1 m2 d1 d2 t1 t2 hd hu hm he t3 t4 hE.1 hE.2 hU.1 hU.2 a1 a2 (by omega) k2 (RI true h) W LG SG (MK _ _ _ (by omega) (by omega)) w
          · rw [if_neg (fun q => a2 q.2), if_neg (by omega)] at dM d3
            rw [d3] at d4 d5
            by_cases k1 : 0 < D2
            · by_cases k2 : U1 < 0
              · have tt := sU.1 k2
                rw [if_pos (by omega)] at d4 d5
                rw [dM, d4, d5]
                exact rpjus_BA m d u D1 U1 M1 D2 L l _ _ _ _ _ m1 m2 d1 d2 t1 t2 hd hu hm he t3 t4 hE.1 hE.2 hU.1 hU.2 a1 a2 k1 k2 (RI true h) W LG SG (MK _ _ _ (by omega) (by omega)) w
              · rw [if_neg (by omega), if_neg (by omega)] at d4 d5
                rw [dM, d4, d5]
                exact rpjus_BB m d u D1 U1 M1 D2 L l _ _ _ _ _ m1 m2 d1 d2 t1 t2 hd hu hm he t3 t4 hE.1 hE.2 hU.1 hU.2 a1 a2 k1 k2 (RI true h) W LG SG (MK _ _ _ (by omega) (by omega)) w
            · by_cases k3 : D2 < 0
              · by_cases k2 : 0 < U1
                · have tt := sU.2.1 k2
                  rw [if_neg (by omega), if_pos (by omega)] at d4 d5
                  rw [dM, d4, d5]
                  exact rpjus_BC m d u D1 U1 M1 D2 L l _ _ _ _ _ m1 m2 d1 d2 t1 t2 hd hu hm he t3 t4 hE.1 hE.2 hU.1 hU.2 a1 a2 k3 k2 (RI true h) W LG SG (MK _ _ _ (by omega) (by omega)) w
                · rw [if_neg (by omega), if_neg (by omega)] at d4 d5
                  rw [dM, d4, d5]
                  exact rpjus_BD m d u D1 U1 M1 D2 L l _ _ _ _ _ m1 m2 d1 d2 t1 t2 hd hu hm he t3 t4 hE.1 hE.2 hU.1 hU.2 a1 a2 k3 k2 (RI true h) W LG SG (MK _ _ _ (by omega) (by omega)) w
              · rw [if_neg (by omega), if_neg (by omega)] at d4 d5
                rw [dM, d4, d5]
                exact rpjus_BE m d u D1 U1 M1 D2 L l _ _ _ _ _ m1 m2 d1 d2 t1 t2 hd hu hm he t3 t4 hE.1 hE.2 hU.1 hU.2 a1 a2 k1 k3 (RI true h) W LG SG (MK _ _ _ (by omega) (by omega)) w
        · by_cases a3 : M1 < 0
          · by_cases a2 : 0 < l
            · rw [if_neg (by omega), if_pos ⟨a3, a2⟩] at dM d3
              by_cases k2 : 0 < U1
              · have tt := sU.2.1 k2
                rw [if_neg (by omega), if_pos (by omega)] at d4 d5
                rw [dM, d4, d5, d3]
                exact rpjus_CC m d u D1 U1 M1 D2 L l _ _ _ _ _ m1 m2 d1 d2 t1 t2 hd hu hm he t3 t4 hE.1 hE.2 hU.1 hU.2 a3 a2 (by omega) k2 (RI true h) W LG SG (MK _ _ _ (by omega) (by omega)) w
              · rw [if_neg (by omega), if_neg (by omega)] at d4 d5
                rw [dM, d4, d5, d3]
                exact rpjus_CD m d u D1 U1 M1 D2 L l _ _ _ _ _ m1 m2 d1 d2 t1 t2 hd hu hm he t3 t4 hE.1 hE.2 hU.1 hU.2 a3 a2 (by omega) k2 (RI true h) W LG SG (MK _ _ _ (by omega) (by omega)) w
            · rw [if_neg (by omega), if_neg (by omega)] at dM d3
              rw [d3] at d4 d5
              by_cases k1 : 0 < D2
              · by_cases k2 : U1 < 0
                · have tt := sU.1 k2
                  rw [if_pos (by omega)] at d4 d5
                  rw [dM, d4, d5]
                  exact rpjus_DA m d u D1 U1 M1 D2 L l _ _ _ _ _ m1 m2 d1 d2 t1 t2 hd hu hm he t3 t4 hE.1 hE.2 hU.1 hU.2 a3 a2 k1 k2 (RI true h) W LG SG (MK _ _ _ (by omega) (by omega)) w
                · rw [if_neg (by omega), if_neg (by omega)] at d4 d5
                  rw [dM, d4, d5]
                  exact rpjus_DB m d u D1 U1 M1 D2 L l _ _ _ _ _ m1 m2 d1 d2 t1 t2 hd hu hm he t3 t4 hE.1 hE.2 hU.1 hU.2 a3 a2 k1 k2 (RI true h) W LG SG (MK _ _ _ (by omega) (by omega)) w
              · by_cases k3 : D2 < 0
                · by_cases k2 : 0 < U1
                  · have tt := sU.2.1 k2
                    rw [if_neg (by omega), if_pos (by omega)] at d4 d5
                    rw [dM, d4, d5]
                    exact rpjus_DC m d u D1 U1 M1 D2 L l _ _ _ _ _ m1 m2 d1 d2 t1 t2 hd hu hm he t3 t4 hE.1 hE.2 hU.1 hU.2 a3 a2 k3 k2 (RI true h) W LG SG (MK _ _ _ (by omega) (by omega)) w
                  · rw [if_neg (by omega), if_neg (by omega)] at d4 d5
                    rw [dM, d4, d5]
                    exact rpjus_DD m d u D1 U1 M1 D2 L l _ _ _ _ _ m1 m2 d1 d2 t1 t2 hd hu hm he t3 t4 hE.1 hE.2 hU.1 hU.2 a3 a2 k3 k2 (RI true h) W LG SG (MK _ _ _ (by omega) (by omega)) w
                · rw [if_neg (by omega), if_neg (by omega)] at d4 d5
                  rw [dM, d4, d5]
                  exact rpjus_DE m d u D1 U1 M1 D2 L l _ _ _ _ _ m1 m2 d1 d2 t1 t2 hd hu hm he t3 t4 hE.1 hE.2 hU.1 hU.2 a3 a2 k1 k3 (RI true h) W LG SG (MK _ _ _ (by omega) (by omega)) w
          · rw [if_neg (by omega), if_neg (by omega)] at dM d3
            rw [d3] at d4 d5
            by_cases k1 : 0 < D2
            · by_cases k2 : U1 < 0
              · have tt := sU.1 k2
                rw [if_pos (by omega)] at d4 d5
                rw [dM, d4, d5]
                exact rpjus_EA m d u D1 U1 M1 D2 L l _ _ _ _ _ m1 m2 d1 d2 t1 t2 hd hu hm he t3 t4 hE.1 hE.2 hU.1 hU.2 a1 a3 k1 k2 (RI true h) W LG SG (MK _ _ _ (by omega) (by omega)) w
              · rw [if_neg (by omega), if_neg (by omega)] at d4 d5
                rw [dM, d4, d5]
                exact rpjus_EB m d u D1 U1 M1 D2 L l _ _ _ _ _ m1 m2 d1 d2 t1 t2 hd hu hm he t3 t4 hE.1 hE.2 hU.1 hU.2 a1 a3 k1 k2 (RI true h) W LG SG (MK _ _ _ (by omega) (by omega)) w
            · by_cases k3 : D2 < 0
              · by_cases k2 : 0 < U1
                · have tt := sU.2.1 k2
                  rw [if_neg (by omega), if_pos (by omega)] at d4 d5
                  rw [dM, d4, d5]
                  exact rpjus_EC m d u D1 U1 M1 D2 L l _ _ _ _ _ m1 m2 d1 d2 t1 t2 hd hu hm he t3 t4 hE.1 hE.2 hU.1 hU.2 a1 a3 k3 k2 (RI true h) W LG SG (MK _ _ _ (by omega) (by omega)) w
                · rw [if_neg (by omega), if_neg (by omega)] at d4 d5
                  rw [dM, d4, d5]
                  exact rpjus_ED m d u D1 U1 M1 D2 L l _ _ _ _ _ m1 m2 d1 d2 t1 t2 hd hu hm he t3 t4 hE.1 hE.2 hU.1 hU.2 a1 a3 k3 k2 (RI true h) W LG SG (MK _ _ _ (by omega) (by omega)) w
              · rw [if_neg (by omega), if_neg (by omega)] at d4 d5
                rw [dM, d4, d5]
                exact rpjus_EE m d u D1 U1 M1 D2 L l _ _ _ _ _ m1 m2 d1 d2 t1 t2 hd hu hm he t3 t4 hE.1 hE.2 hU.1 hU.2 a1 a3 k1 k3 (RI true h) W LG SG (MK _ _ _ (by omega) (by omega)) w
    · rw [if_neg h0]; exact rpjus_inf i m d u h0 (RI true h) w

end Go.Proofs.Ytghfgabajdghiab
