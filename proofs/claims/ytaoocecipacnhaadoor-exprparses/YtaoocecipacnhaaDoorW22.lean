import Derived.Test.YtaoocecipacnhaaDoorWz
import Derived.Test.YtaoocecipacnhaaDoorW21
import Derived.Laws.IdiomStrings
import Derived.Test.YtaoocecipacnhaaDoorW15
import Derived.Test.YtaoocecipacnhaaDoorW19
open Go.Value renaming int → vi
open Go.IntKind renaming i64 → ki
open List renaming setIfInBounds_toArray → zb, set_cons_zero → zc, set_cons_succ → zd
open Go.Act renaming put → za
open Go.Ending renaming returned → zr
set_option maxRecDepth 100000
set_option maxHeartbeats 16000000
set_option linter.unusedVariables false
namespace Go.Proofs.YtaoocecipacnhaaDoor
open Go.RowKit
def RSplitOf (w : World) (s : ByteArray) (e : Ending) (w' : World) : Option Nat → Prop
  | some i => e = zr (.tuple #[.slice none 0 0, vi ki (i : Int), vi ki 21])
  | none => ∃ v, e = zr (.tuple #[v, vi ki 0, vi ki 0]) ∧ w'.ownsRow w.heap.size 86 3 v (rparts s s.size 0 []).length (flatP s (rparts s s.size 0 []))
theorem rsplit_no {w : World} {s : ByteArray} {e : Ending} {w' : World} {i : Nat} (h : e = zr (.tuple #[.slice none 0 0, vi ki (i : Int), vi ki 21])) : RSplitOf w s e w' (some i) := h
theorem rsplit_yes {w : World} {s : ByteArray} {e : Ending} {w' : World} {l : List Prt} (v : Value) (hl : l = rparts s s.size 0 []) (h : e = zr (.tuple #[v, vi ki 0, vi ki 0])) (ho : w'.ownsRow w.heap.size 86 3 v l.length (flatP s l)) : RSplitOf w s e w' none := by
  subst hl; exact ⟨v, h, ho⟩
theorem bad_long {s : ByteArray} {i : Nat} (h : rlong s i = 0) : badN s i = true := by unfold badN; rw [h]; rfl
theorem bad_low {s : ByteArray} {i : Nat} (h1 : bt s i < 32) (h2 : blankN (bt s i) = false) : badN s i = true := by unfold badN; rw [h2, decide_eq_true h1]; simp
theorem bad_del {s : ByteArray} {i : Nat} (h1 : bt s i = 127) : badN s i = true := by unfold badN; rw [h1]; simp
theorem good_at {s : ByteArray} {i : Nat} (h0 : rlong s i ≠ 0) (h1 : bt s i < 32 → blankN (bt s i) = true) (h2 : bt s i ≠ 127) : badN s i = false := by
  unfold badN
  have a : (rlong s i == 0) = false := by simp; exact h0
  have b : (bt s i == 127) = false := by simp; exact h2
  rw [a, b]
  by_cases c : bt s i < 32
  · rw [h1 c]; simp
  · rw [decide_eq_false c]; rfl
theorem rsplit_any (s : ByteArray) (w : World) (hsz : s.size ≤ 2048) :
    Calls Tryd.prog 16 #[.string s] w fun e w' => Below w.heap.size w w' ∧ RSplitOf w s e w' (rcheck s s.size 0) := by
  obtain ⟨i0, hi, hz0, hz1, hz2⟩ := info_parts infoRPart
  have hsi : ¬ (2048 : Int) < (s.size : Int) := by omega
  obtain ⟨C, hC⟩ : ∃ C, rcheck s s.size 0 = C := ⟨_, rfl⟩
  rw [hC]
  have HC : Hid (rcheck s s.size 0 = C) := hC
  clear hC
  go_enter Tryd.func16, Tryd.ntmps16
  go_wp2_with fail
  go_loop [5] (fun iv => ∃ i fuel : Nat, i ≤ s.size ∧ iv = vi ki (i : Int) ∧ Hid (rcheck s fuel i = C) ∧ s.size ≤ i + fuel) (fun iv => s.size - (intOf iv).toNat)
  case atStart => exact ⟨0, s.size, Nat.zero_le _, rfl, HC, by omega⟩
  case round =>
    obtain ⟨i, fuel, hil, rfl, HS, hf⟩ := hrel
    by_cases hp : i < s.size
    · have hp' : (i : Int) < (s.size : Int) := by omega
      have hp0 : (0 : Int) ≤ (i : Int) := by omega
      obtain ⟨fuel, rfl⟩ : ∃ f', fuel = f' + 1 := ⟨fuel - 1, by omega⟩
      have hb := byte_eq s i hp
      have hlong := rlong_any s i hsz hp
      obtain ⟨c, hc⟩ : ∃ c, bt s i = c := ⟨_, rfl⟩
      obtain ⟨n, hn⟩ : ∃ n, rlong s i = n := ⟨_, rfl⟩
      rw [hc] at hb
      rw [hn] at hlong
      have hc2 : c < 256 := by rw [← hc]; exact UInt8.toNat_lt _
      have HL : Hid (∀ w : World, Calls Tryd.prog 29 #[.string s, vi ki (i : Int)] w fun e w' => e = zr (vi ki (n : Int)) ∧ w' = w) := hlong
      have HN : Hid (rlong s i = n) := hn
      have HC2 : Hid (bt s i = c) := hc
      have hnle : n ≤ 4 ∧ i + n ≤ s.size := by
        obtain ⟨_, k2⟩ := bad_kind s i hp
        have q := rlong_eq s i hp
        rw [hn] at q
        rcases dec_shape s i hp with ⟨y, e⟩ | ⟨y, e⟩ | ⟨y, d1, d2, d3, _⟩
        · rw [if_pos y] at q; omega
        · rw [if_neg (by omega), if_pos e] at q; omega
        · rw [if_neg (by omega), if_neg (fun z => by rw [z] at d1; simp at d1)] at q; omega
      obtain ⟨n4, nle⟩ := hnle
      clear hlong hn hc
      go_wp2_with fail
      refine (HL.out _).mono ?_
      rintro e w' ⟨rfl, rfl⟩
      by_cases n0 : n = 0
      · have e : C = some i := by rw [← HS.out, rcheck_bad hp (bad_long (by rw [HN.out, n0]))]
        subst e
        subst n0
        go_wp2_with fail
        go_ret3
        exact ⟨Below.refl _ _, rsplit_no rfl⟩
      · have n0' : ((n : Int) == 0) = false := by simp; omega
        by_cases c32 : c < 32
        · have c32' : (c : Int) < 32 := by omega
          have hbl := blank_any c hc2
          cases hq : blankN c with
          | false =>
            rw [hq] at hbl
            have HBL : Hid (∀ w : World, Calls Tryd.prog 30 #[.int .u8 (c : Int)] w fun e w' => e = zr (.bool false) ∧ w' = w) := hbl
            have e : C = some i := by rw [← HS.out, rcheck_bad hp (bad_low (by rw [HC2.out]; exact c32) (by rw [HC2.out]; exact hq))]
            subst e
            clear hbl hq
            go_wp2_with fail
            refine (HBL.out _).mono ?_
            rintro e w' ⟨rfl, rfl⟩
            go_wp2_with fail
            go_ret3
            exact ⟨Below.refl _ _, rsplit_no rfl⟩
          | true =>
            rw [hq] at hbl
            have HBL : Hid (∀ w : World, Calls Tryd.prog 30 #[.int .u8 (c : Int)] w fun e w' => e = zr (.bool true) ∧ w' = w) := hbl
            have c127 : ((c : Int) == 127) = false := by simp; omega
            have HE : Hid (rcheck s fuel (i + n) = C) := by show _ = _; rw [← HS.out, rcheck_next hp (good_at (by rw [HN.out]; exact n0) (by rw [HC2.out]; exact fun _ => hq) (by rw [HC2.out]; omega)), HN.out]
            clear hbl hq
            go_wp2_with fail
            refine (HBL.out _).mono ?_
            rintro e w' ⟨rfl, rfl⟩
            go_wp2_with fail
            go_round
            case rel => exact ⟨i + n, fuel, by omega, by go_num, HE, by omega⟩
            case measure => simp [intOf]; omega
        · have c32' : ¬ (c : Int) < 32 := by omega
          by_cases c127 : c = 127
          · have e : C = some i := by rw [← HS.out, rcheck_bad hp (bad_del (by rw [HC2.out]; exact c127))]
            subst e
            subst c127
            go_wp2_with fail
            go_ret3
            exact ⟨Below.refl _ _, rsplit_no rfl⟩
          · have c127' : ((c : Int) == 127) = false := by simp; omega
            have HE : Hid (rcheck s fuel (i + n) = C) := by show _ = _; rw [← HS.out, rcheck_next hp (good_at (by rw [HN.out]; exact n0) (by rw [HC2.out]; exact fun q => absurd q c32) (by rw [HC2.out]; exact c127)), HN.out]
            go_wp2_with fail
            go_round
            case rel => exact ⟨i + n, fuel, by omega, by go_num, HE, by omega⟩
            case measure => simp [intOf]; omega
    · have hp' : ¬ (i : Int) < (s.size : Int) := by omega
      have e : C = none := by rw [← HS.out, rcheck_end s fuel i hp]
      subst e
      obtain ⟨G, hG⟩ : ∃ G, rparts s s.size 0 [] = G := ⟨_, rfl⟩
      have HG : Hid (rparts s s.size 0 [] = G) := hG
      clear hG HS HC
      go_wp2_with fail
      go_loopw [7, 8] (fun v iv W => ∃ (i fuel : Nat) (l : List Prt), i ≤ s.size ∧ iv = vi ki (i : Int) ∧ W.ownsRow w.heap.size 86 3 v l.length (flatP s l) ∧ Below w.heap.size w W ∧ Hid (rparts s fuel i l = G) ∧ s.size ≤ i + fuel ∧ l.length ≤ i) (fun _ iv _ => s.size - (intOf iv).toNat)
      case atStart => exact ⟨0, s.size, [], Nat.zero_le _, rfl, World.ownsRow_nil _ _ _ _, Below.refl _ _, HG, by omega, Nat.le_refl _⟩
      case round =>
        clear hp hp' hf hil
        obtain ⟨i, fuel, l, hil, rfl, ho, B, HS, hf, hln⟩ := hrel
        obtain ⟨n, hn⟩ : ∃ n, l.length = n := ⟨_, rfl⟩
        rw [hn] at ho hln
        have HO : Hid (wr.ownsRow w.heap.size 86 3 u7 n (flatP s l)) := ho
        have HB : Hid (Below w.heap.size w wr) := B
        have HN : Hid (l.length = n) := hn
        clear ho B hn
        by_cases hp : i < s.size
        · have hp' : (i : Int) < (s.size : Int) := by omega
          have hp0 : (0 : Int) ≤ (i : Int) := by omega
          obtain ⟨fuel, rfl⟩ : ∃ f', fuel = f' + 1 := ⟨fuel - 1, by omega⟩
          have hb := byte_eq s i hp
          obtain ⟨c, hc⟩ : ∃ c, bt s i = c := ⟨_, rfl⟩
          rw [hc] at hb
          have hc2 : c < 256 := by rw [← hc]; exact UInt8.toNat_lt _
          have hbl := blank_any c hc2
          have hdg := digit_any c hc2
          have hlt := letter_any c hc2
          have HBL : Hid (∀ w : World, Calls Tryd.prog 30 #[.int .u8 (c : Int)] w fun e w' => e = zr (.bool (blankN c)) ∧ w' = w) := hbl
          have HDG : Hid (∀ w : World, Calls Tryd.prog 31 #[.int .u8 (c : Int)] w fun e w' => e = zr (.bool (digitN c)) ∧ w' = w) := hdg
          have HLT : Hid (∀ w : World, Calls Tryd.prog 32 #[.int .u8 (c : Int)] w fun e w' => e = zr (.bool (letterN c)) ∧ w' = w) := hlt
          clear hbl hdg hlt
          have hkr := bk_range c
          have kb := bk_blank c
          have kd := bk_digit c
          have kl := bk_letter c
          rcases HO.out.2 with ⟨e0, -⟩ | ⟨g0, cap0, cur, e0, _, _, _, _, _, _⟩
          all_goals
            subst e0
            rcases hkr with kk | kk | kk | kk
            · have hkd : bk (bt s i) = 0 := by rw [hc]; exact kk
              have b0 : blankN c = true := kb.2 kk
              have HE : Hid (rparts s fuel (i + 1) l = G) := by show _ = _; rw [← HS.out, rparts, if_pos hp, if_pos hkd]
              rw [b0] at HBL
              clear kb kd kl kk hkd HS hc HDG HLT b0
              go_wp2_with fail
              refine (HBL.out _).mono ?_
              rintro e w' ⟨rfl, hw'⟩
              obtain rfl := hw'.symm
              clear hw'
              go_wp2_with fail
              go_roundw
              case rel => exact ⟨i + 1, fuel, l, by omega, by go_num, by rw [HN.out]; exact HO.out, HB.out, HE, by omega, by rw [HN.out]; omega⟩
              case measure => simp [intOf]; omega
            · have hkd : bk (bt s i) = 1 := by rw [hc]; exact kk
              have b0 : blankN c = false := by
                cases z : blankN c with
                | false => rfl
                | true => have := kb.1 z; omega
              have b1 : digitN c = true := kd.2 kk
              rw [b0] at HBL
              rw [b1] at HDG
              clear kb kd kl kk HLT b0 b1
              go_wp2_with fail
              refine (HBL.out _).mono ?_
              rintro e w' ⟨rfl, hw'⟩
              obtain rfl := hw'.symm
              clear hw'
              go_wp2_with fail
              refine (HDG.out _).mono ?_
              rintro e w' ⟨rfl, hw'⟩
              obtain rfl := hw'.symm
              clear hw'
              go_wp2_with fail
              obtain ⟨E, hE⟩ : ∃ E, runEnd s 1 i = E := ⟨_, rfl⟩
              have HG2 : Hid (rparts s fuel E (l ++ [(1, i, E)]) = G) := by show _ = _; rw [← HS.out, rparts, if_pos hp, if_neg (by omega), if_neg (by omega), hkd, hE]
              have hE1 : i + 1 ≤ E ∧ E ≤ s.size := by
                have q := runEnd_ge s 1 s.size (i + 1)
                rw [← hE, runEnd_next hp hkd]
                exact ⟨q.1, q.2 (by omega)⟩
              have HE : Hid (runEnd s 1 i = E) := hE
              clear hE HS
              go_loop [9] (fun kk => ∃ k : Nat, i ≤ k ∧ k ≤ s.size ∧ kk = vi ki (k : Int) ∧ Hid (runEnd s 1 k = E)) (fun kk => s.size - (intOf kk).toNat)
              case atStart => exact ⟨i, Nat.le_refl _, by omega, rfl, HE⟩
              case round =>
                obtain ⟨k, hk1, hk2, rfl, HK⟩ := hrel
                by_cases hks : k < s.size
                · have hks' : (k : Int) < (s.size : Int) := by omega
                  have hk0 : (0 : Int) ≤ (k : Int) := by omega
                  have hkb := byte_eq s k hks
                  obtain ⟨d, hd⟩ : ∃ d, bt s k = d := ⟨_, rfl⟩
                  rw [hd] at hkb
                  have hd2 : d < 256 := by rw [← hd]; exact UInt8.toNat_lt _
                  have cd := digit_any d hd2
                  cases hq : digitN d with
                  | true =>
                    rw [hq] at cd
                    have HCD : Hid (∀ w : World, Calls Tryd.prog 31 #[.int .u8 (d : Int)] w fun e w' => e = zr (.bool true) ∧ w' = w) := cd
                    have HK2 : Hid (runEnd s 1 (k + 1) = E) := by show _ = _; rw [← HK.out, runEnd_next hks (by rw [hd]; exact (bk_digit d).1 hq)]
                    clear cd hq
                    go_wp2_with fail
                    refine (HCD.out _).mono ?_
                    rintro e w' ⟨rfl, hw'⟩
                    obtain rfl := hw'.symm
                    clear hw'
                    go_wp2_with fail
                    go_round
                    case rel => exact ⟨k + 1, by omega, by omega, by go_num, HK2⟩
                    case measure => simp [intOf]; omega
                  | false =>
                    rw [hq] at cd
                    have HCD : Hid (∀ w : World, Calls Tryd.prog 31 #[.int .u8 (d : Int)] w fun e w' => e = zr (.bool false) ∧ w' = w) := cd
                    obtain rfl : k = E := by
                      rw [← HK.out, runEnd_stop (fun q => by have := (bk_digit d).2 (by rw [← hd]; exact q.2); rw [hq] at this; exact absurd this (by decide))]
                    have ik1 : (i : Int) ≤ (k : Int) := by omega
                    have ik2 : (k : Int) ≤ (s.size : Int) := by omega
                    clear cd hq
                    go_wp2_with fail
                    refine (HCD.out _).mono ?_
                    rintro e w' ⟨rfl, hw'⟩
                    obtain rfl := hw'.symm
                    clear hw'
                    go_wp2_with (first
                      | (at_builtin; refine wpList_append_own _ rfl _ _ 48 rfl w.heap.size 86 i0 (.agg #[vi ki 0, .string ByteArray.empty, vi ki 0]) 3 32 Tryd.underlying48 hi hz0 hz1 hz2 rfl (by decide) _ n (flatP s l) rfl (HO.out.alloc _) ⟨wr.heap.size, 0, none⟩ 1 1 [vi ki 1, .string (s.extract i k), vi ki (i : Int)] rfl rfl (part_new _ _ _ _ _) (part_one _ _ _) (by unfold maxLen; omega) (by omega) (by have := HB.out.size; simp; omega) ?_; intro v' w3 hown' hgrow3 hnil3
                         have HJ : Hid (w3.ownsRow w.heap.size 86 3 v' (n + 1) (flatP s (l ++ [(1, i, k)])) ∧ Below w.heap.size w w3) := ⟨by rw [flatP_append]; exact hown', Below.grown (HB.out.alloc HB.out.size _) hgrow3 (by have := HB.out.size; simp; omega) (fun k hk => by have := (HO.out.lt _ hk).1; omega)⟩
                         clear hown' hgrow3 hnil3))
                    go_roundw
                    case rel =>
                      refine ⟨k, fuel, l ++ [(1, i, k)], by omega, rfl, ?_, HJ.out.2, HG2, by omega, ?_⟩
                      · rw [List.length_append, HN.out]; exact HJ.out.1
                      · simp only [List.length_append, HN.out, List.length_singleton]; omega
                    case measure => simp [intOf]; omega
                · have hks' : ¬ (k : Int) < (s.size : Int) := by omega
                  obtain rfl : k = E := by rw [← HK.out, runEnd_stop (fun q => hks q.1)]
                  have ik1 : (i : Int) ≤ (k : Int) := by omega
                  have ik2 : (k : Int) ≤ (s.size : Int) := by omega
                  go_wp2_with (first
                    | (at_builtin; refine wpList_append_own _ rfl _ _ 48 rfl w.heap.size 86 i0 (.agg #[vi ki 0, .string ByteArray.empty, vi ki 0]) 3 32 Tryd.underlying48 hi hz0 hz1 hz2 rfl (by decide) _ n (flatP s l) rfl (HO.out.alloc _) ⟨wr.heap.size, 0, none⟩ 1 1 [vi ki 1, .string (s.extract i k), vi ki (i : Int)] rfl rfl (part_new _ _ _ _ _) (part_one _ _ _) (by unfold maxLen; omega) (by omega) (by have := HB.out.size; simp; omega) ?_; intro v' w3 hown' hgrow3 hnil3
                       have HJ : Hid (w3.ownsRow w.heap.size 86 3 v' (n + 1) (flatP s (l ++ [(1, i, k)])) ∧ Below w.heap.size w w3) := ⟨by rw [flatP_append]; exact hown', Below.grown (HB.out.alloc HB.out.size _) hgrow3 (by have := HB.out.size; simp; omega) (fun k hk => by have := (HO.out.lt _ hk).1; omega)⟩
                       clear hown' hgrow3 hnil3))
                  go_roundw
                  case rel =>
                    refine ⟨k, fuel, l ++ [(1, i, k)], by omega, rfl, ?_, HJ.out.2, HG2, by omega, ?_⟩
                    · rw [List.length_append, HN.out]; exact HJ.out.1
                    · simp only [List.length_append, HN.out, List.length_singleton]; omega
                  case measure => simp [intOf]; omega
            · have hkd : bk (bt s i) = 2 := by rw [hc]; exact kk
              have b0 : blankN c = false := by
                cases z : blankN c with
                | false => rfl
                | true => have := kb.1 z; omega
              have b1 : digitN c = false := by
                cases z : digitN c with
                | false => rfl
                | true => have := kd.1 z; omega
              have b2 : letterN c = true := kl.2 kk
              rw [b0] at HBL
              rw [b1] at HDG
              rw [b2] at HLT
              clear kb kd kl kk b0 b1 b2
              go_wp2_with fail
              refine (HBL.out _).mono ?_
              rintro e w' ⟨rfl, hw'⟩
              obtain rfl := hw'.symm
              clear hw'
              go_wp2_with fail
              refine (HDG.out _).mono ?_
              rintro e w' ⟨rfl, hw'⟩
              obtain rfl := hw'.symm
              clear hw'
              go_wp2_with fail
              refine (HLT.out _).mono ?_
              rintro e w' ⟨rfl, hw'⟩
              obtain rfl := hw'.symm
              clear hw'
              go_wp2_with fail
              obtain ⟨E, hE⟩ : ∃ E, runEnd s 2 i = E := ⟨_, rfl⟩
              have HG2 : Hid (rparts s fuel E (l ++ [(2, i, E)]) = G) := by show _ = _; rw [← HS.out, rparts, if_pos hp, if_neg (by omega), if_neg (by omega), hkd, hE]
              have hE1 : i + 1 ≤ E ∧ E ≤ s.size := by
                have q := runEnd_ge s 2 s.size (i + 1)
                rw [← hE, runEnd_next hp hkd]
                exact ⟨q.1, q.2 (by omega)⟩
              have HE : Hid (runEnd s 2 i = E) := hE
              clear hE HS
              go_loop [9] (fun kk => ∃ k : Nat, i ≤ k ∧ k ≤ s.size ∧ kk = vi ki (k : Int) ∧ Hid (runEnd s 2 k = E)) (fun kk => s.size - (intOf kk).toNat)
              case atStart => exact ⟨i, Nat.le_refl _, by omega, rfl, HE⟩
              case round =>
                obtain ⟨k, hk1, hk2, rfl, HK⟩ := hrel
                by_cases hks : k < s.size
                · have hks' : (k : Int) < (s.size : Int) := by omega
                  have hk0 : (0 : Int) ≤ (k : Int) := by omega
                  have hkb := byte_eq s k hks
                  obtain ⟨d, hd⟩ : ∃ d, bt s k = d := ⟨_, rfl⟩
                  rw [hd] at hkb
                  have hd2 : d < 256 := by rw [← hd]; exact UInt8.toNat_lt _
                  have cd := letter_any d hd2
                  cases hq : letterN d with
                  | true =>
                    rw [hq] at cd
                    have HCD : Hid (∀ w : World, Calls Tryd.prog 32 #[.int .u8 (d : Int)] w fun e w' => e = zr (.bool true) ∧ w' = w) := cd
                    have HK2 : Hid (runEnd s 2 (k + 1) = E) := by show _ = _; rw [← HK.out, runEnd_next hks (by rw [hd]; exact (bk_letter d).1 hq)]
                    clear cd hq
                    go_wp2_with fail
                    refine (HCD.out _).mono ?_
                    rintro e w' ⟨rfl, hw'⟩
                    obtain rfl := hw'.symm
                    clear hw'
                    go_wp2_with fail
                    go_round
                    case rel => exact ⟨k + 1, by omega, by omega, by go_num, HK2⟩
                    case measure => simp [intOf]; omega
                  | false =>
                    rw [hq] at cd
                    have HCD : Hid (∀ w : World, Calls Tryd.prog 32 #[.int .u8 (d : Int)] w fun e w' => e = zr (.bool false) ∧ w' = w) := cd
                    obtain rfl : k = E := by
                      rw [← HK.out, runEnd_stop (fun q => by have := (bk_letter d).2 (by rw [← hd]; exact q.2); rw [hq] at this; exact absurd this (by decide))]
                    have ik1 : (i : Int) ≤ (k : Int) := by omega
                    have ik2 : (k : Int) ≤ (s.size : Int) := by omega
                    clear cd hq
                    go_wp2_with fail
                    refine (HCD.out _).mono ?_
                    rintro e w' ⟨rfl, hw'⟩
                    obtain rfl := hw'.symm
                    clear hw'
                    go_wp2_with (first
                      | (at_builtin; refine wpList_append_own _ rfl _ _ 48 rfl w.heap.size 86 i0 (.agg #[vi ki 0, .string ByteArray.empty, vi ki 0]) 3 32 Tryd.underlying48 hi hz0 hz1 hz2 rfl (by decide) _ n (flatP s l) rfl (HO.out.alloc _) ⟨wr.heap.size, 0, none⟩ 1 1 [vi ki 2, .string (s.extract i k), vi ki (i : Int)] rfl rfl (part_new _ _ _ _ _) (part_one _ _ _) (by unfold maxLen; omega) (by omega) (by have := HB.out.size; simp; omega) ?_; intro v' w3 hown' hgrow3 hnil3
                         have HJ : Hid (w3.ownsRow w.heap.size 86 3 v' (n + 1) (flatP s (l ++ [(2, i, k)])) ∧ Below w.heap.size w w3) := ⟨by rw [flatP_append]; exact hown', Below.grown (HB.out.alloc HB.out.size _) hgrow3 (by have := HB.out.size; simp; omega) (fun k hk => by have := (HO.out.lt _ hk).1; omega)⟩
                         clear hown' hgrow3 hnil3))
                    go_roundw
                    case rel =>
                      refine ⟨k, fuel, l ++ [(2, i, k)], by omega, rfl, ?_, HJ.out.2, HG2, by omega, ?_⟩
                      · rw [List.length_append, HN.out]; exact HJ.out.1
                      · simp only [List.length_append, HN.out, List.length_singleton]; omega
                    case measure => simp [intOf]; omega
                · have hks' : ¬ (k : Int) < (s.size : Int) := by omega
                  obtain rfl : k = E := by rw [← HK.out, runEnd_stop (fun q => hks q.1)]
                  have ik1 : (i : Int) ≤ (k : Int) := by omega
                  have ik2 : (k : Int) ≤ (s.size : Int) := by omega
                  go_wp2_with (first
                    | (at_builtin; refine wpList_append_own _ rfl _ _ 48 rfl w.heap.size 86 i0 (.agg #[vi ki 0, .string ByteArray.empty, vi ki 0]) 3 32 Tryd.underlying48 hi hz0 hz1 hz2 rfl (by decide) _ n (flatP s l) rfl (HO.out.alloc _) ⟨wr.heap.size, 0, none⟩ 1 1 [vi ki 2, .string (s.extract i k), vi ki (i : Int)] rfl rfl (part_new _ _ _ _ _) (part_one _ _ _) (by unfold maxLen; omega) (by omega) (by have := HB.out.size; simp; omega) ?_; intro v' w3 hown' hgrow3 hnil3
                       have HJ : Hid (w3.ownsRow w.heap.size 86 3 v' (n + 1) (flatP s (l ++ [(2, i, k)])) ∧ Below w.heap.size w w3) := ⟨by rw [flatP_append]; exact hown', Below.grown (HB.out.alloc HB.out.size _) hgrow3 (by have := HB.out.size; simp; omega) (fun k hk => by have := (HO.out.lt _ hk).1; omega)⟩
                       clear hown' hgrow3 hnil3))
                  go_roundw
                  case rel =>
                    refine ⟨k, fuel, l ++ [(2, i, k)], by omega, rfl, ?_, HJ.out.2, HG2, by omega, ?_⟩
                    · rw [List.length_append, HN.out]; exact HJ.out.1
                    · simp only [List.length_append, HN.out, List.length_singleton]; omega
                  case measure => simp [intOf]; omega
            · have hkd : bk (bt s i) = 3 := by rw [hc]; exact kk
              have b0 : blankN c = false := by
                cases z : blankN c with
                | false => rfl
                | true => have := kb.1 z; omega
              have b1 : digitN c = false := by
                cases z : digitN c with
                | false => rfl
                | true => have := kd.1 z; omega
              have b2 : letterN c = false := by
                cases z : letterN c with
                | false => rfl
                | true => have := kl.1 z; omega
              have HG2 : Hid (rparts s fuel (i + 1) (l ++ [(3, i, i + 1)]) = G) := by show _ = _; rw [← HS.out, rparts, if_pos hp, if_neg (by omega), if_pos hkd]
              rw [b0] at HBL
              rw [b1] at HDG
              rw [b2] at HLT
              have y1 : (i : Int) + 1 ≤ (s.size : Int) := by omega
              have y2 : (i : Int) ≤ (i : Int) + 1 := by omega
              have y3 : ((i : Int) + 1).toNat = i + 1 := by omega
              have y4 : (0 : Int) ≤ (i : Int) + 1 := by omega
              clear kb kd kl kk hkd HS hc b0 b1 b2
              go_wp2_with fail
              refine (HBL.out _).mono ?_
              rintro e w' ⟨rfl, hw'⟩
              obtain rfl := hw'.symm
              clear hw'
              go_wp2_with fail
              refine (HDG.out _).mono ?_
              rintro e w' ⟨rfl, hw'⟩
              obtain rfl := hw'.symm
              clear hw'
              go_wp2_with fail
              refine (HLT.out _).mono ?_
              rintro e w' ⟨rfl, hw'⟩
              obtain rfl := hw'.symm
              clear hw'
              go_wp2_with (first
                | (at_builtin; refine wpList_append_own _ rfl _ _ 48 rfl w.heap.size 86 i0 (.agg #[vi ki 0, .string ByteArray.empty, vi ki 0]) 3 32 Tryd.underlying48 hi hz0 hz1 hz2 rfl (by decide) _ n (flatP s l) rfl (HO.out.alloc _) ⟨wr.heap.size, 0, none⟩ 1 1 [vi ki 3, .string (s.extract i (i + 1)), vi ki (i : Int)] rfl rfl (part_new _ _ _ _ _) (part_one _ _ _) (by unfold maxLen; omega) (by omega) (by have := HB.out.size; simp; omega) ?_; intro v' w3 hown' hgrow3 hnil3
                   have HJ : Hid (w3.ownsRow w.heap.size 86 3 v' (n + 1) (flatP s (l ++ [(3, i, (i + 1))])) ∧ Below w.heap.size w w3) := ⟨by rw [flatP_append]; exact hown', Below.grown (HB.out.alloc HB.out.size _) hgrow3 (by have := HB.out.size; simp; omega) (fun k hk => by have := (HO.out.lt _ hk).1; omega)⟩
                   clear hown' hgrow3 hnil3))
              go_roundw
              case rel =>
                refine ⟨i + 1, fuel, l ++ [(3, i, i + 1)], by omega, by go_num, ?_, HJ.out.2, HG2, by omega, ?_⟩
                · rw [List.length_append, HN.out]; exact HJ.out.1
                · simp only [List.length_append, HN.out, List.length_singleton]; omega
              case measure => simp [intOf]; omega
        · have hp' : ¬ (i : Int) < (s.size : Int) := by omega
          have e : l = rparts s s.size 0 [] := by rw [HG.out, ← HS.out, rparts_end s fuel i l hp]
          go_wp2_with fail
          go_ret3
          exact ⟨HB.out, rsplit_yes _ e rfl (by rw [HN.out]; exact HO.out)⟩
theorem rsplit_long (s : ByteArray) (w : World) (hs : s.size ≤ maxLen) (hsz : ¬ s.size ≤ 2048) :
    Calls Tryd.prog 16 #[.string s] w fun e w' => e = zr (.tuple #[.slice none 0 0, vi ki 0, vi ki 3]) ∧ w' = w := by
  unfold maxLen at hs
  have hsi : (2048 : Int) < (s.size : Int) := by omega
  go_enter Tryd.func16, Tryd.ntmps16
  go_wp2_with fail
  go_ret3
  exact ⟨rfl, rfl⟩
def aftT (L : List Tk) (i : Nat) (a : Int) : Bool := match L[i]? with | some q => decide (q.2.2 = a) | none => false
theorem after_any (b cap : Nat) (L : List Tk) (i : Nat) (hi : i ≤ 5000) (a : Int) (w : World) (h : PV b 0 cap L w) :
    Calls Tryd.prog 55 #[.slice (some ⟨b, 0, none⟩) L.length cap, vi ki (i : Int), vi ki a] w fun e w' => e = zr (.bool (aftT L i a)) ∧ w' = w := by
  have hb := h.1
  have hl := h.2.1
  have hlc := h.2.2.1
  have hc := h.2.2.2.1
  by_cases hlt : i < L.length
  · obtain ⟨q, hq⟩ : ∃ q, L[i]? = some q := ⟨L[i]'hlt, List.getElem?_eq_getElem hlt⟩
    obtain ⟨⟨-, -, c2⟩, -⟩ := h.2.2.2.2 i q hq
    rw [Nat.zero_add] at c2
    have e : aftT L i a = decide (q.2.2 = a) := by unfold aftT; rw [hq]
    rw [e]
    have hI : (i : Int) < (L.length : Int) := by omega
    have h0 : (0 : Int) ≤ (i : Int) := by omega
    have hw' : IntKind.i64.wrap (i : Int) = (i : Int) := by rw [IntKind.wrap_i64]; omega
    clear h e
    go_enter Tryd.func55, Tryd.ntmps55
    by_cases he : q.2.2 = a
    · have g : (q.2.2 == a) = true := by simpa using he
      rw [decide_eq_true he]
      go_wp2_with fail
      go_ret
      exact ⟨rfl, rfl⟩
    · have g : (q.2.2 == a) = false := by simpa using he
      rw [decide_eq_false he]
      go_wp2_with fail
      go_ret
      exact ⟨rfl, rfl⟩
  · have e : aftT L i a = false := by unfold aftT; rw [List.getElem?_eq_none (by omega)]
    rw [e]
    have hI : ¬ (i : Int) < (L.length : Int) := by omega
    clear h e
    go_enter Tryd.func55, Tryd.ntmps55
    go_wp2_with fail
    go_ret
    exact ⟨rfl, rfl⟩
theorem rpair_any (t : ByteArray) (w : World) :
    Calls Tryd.prog 56 #[.string t] w fun e w' => e = zr (.bool (isPr t)) ∧ w' = w := by
  have e1 := lit_eq t [60, 61]
  have e2 := lit_eq t [62, 61]
  have e3 := lit_eq t [60, 62]
  have e4 := lit_eq t [58, 58]
  obtain ⟨B, hB⟩ : ∃ B, isPr t = B := ⟨_, rfl⟩
  rw [hB]
  unfold isPr at hB
  change (decide (t = ⟨[60, 61].toArray⟩) || decide (t = ⟨[62, 61].toArray⟩) || decide (t = ⟨[60, 62].toArray⟩) || decide (t = ⟨[58, 58].toArray⟩)) = B at hB
  rw [← e1, ← e2, ← e3, ← e4] at hB
  clear e1 e2 e3 e4
  have HB : Hid _ := hB
  clear hB
  go_enter Tryd.func56, Tryd.ntmps56
  cases h1 : (t.toList == [60, 61]) with
  | true =>
    have HV : Hid (B = true) := by show _ = _; rw [← HB.out, h1]; rfl
    go_wp2_with fail
    go_ret
    exact ⟨(by rw [HV.out]; rfl), rfl⟩
  | false =>
    cases h2 : (t.toList == [62, 61]) with
    | true =>
      have HV : Hid (B = true) := by show _ = _; rw [← HB.out, h1, h2]; rfl
      go_wp2_with fail
      go_ret
      exact ⟨(by rw [HV.out]; rfl), rfl⟩
    | false =>
      cases h3 : (t.toList == [60, 62]) with
      | true =>
        have HV : Hid (B = true) := by show _ = _; rw [← HB.out, h1, h2, h3]; rfl
        go_wp2_with fail
        go_ret
        exact ⟨(by rw [HV.out]; rfl), rfl⟩
      | false =>
        cases h4 : (t.toList == [58, 58]) with
        | true =>
          have HV : Hid (B = true) := by show _ = _; rw [← HB.out, h1, h2, h3, h4]; rfl
          go_wp2_with fail
          go_ret
          exact ⟨(by rw [HV.out]; rfl), rfl⟩
        | false =>
          have HV : Hid (B = false) := by show _ = _; rw [← HB.out, h1, h2, h3, h4]; rfl
          go_wp2_with fail
          go_ret
          exact ⟨(by rw [HV.out]; rfl), rfl⟩
def byV (l : List UInt8) : List Value := l.map fun b => .int .u8 (b.toNat : Int)
theorem infoByt : (Tryd.prog.info? 5).map (fun i => (i.zero, i.size, i.bytes)) = some (some (.int .u8 0), 1, 1) := by kernel_rfl
theorem byV_get {l : List UInt8} {j : Nat} {c : UInt8} (h : l[j]? = some c) : (byV l)[j]? = some (.int .u8 (c.toNat : Int)) := by simp [byV, h]
theorem byV_more (l : List UInt8) (c : UInt8) (x : Int) (h : (c.toNat : Int) = x) : byV (l ++ [c]) = byV l ++ [.int .u8 x] := by simp [byV, ← h]
theorem new_one (w : World) (a : Value) (t : TypeId) : ∀ j u, [a][j]? = some u → (w.alloc (.cells #[a] t)).cell? ((⟨w.heap.size, 0, none⟩ : Addr).add j) = some u := by
  intro j u hj
  match j, hj with
  | 0, hj => simp at hj; subst hj; simp [Addr.add]
  | j + 1, hj => simp at hj
theorem u8_one (m : Int) : ∀ u ∈ [Value.int .u8 m], u.oneCell' = true := by
  intro x hx; simp at hx; subst hx; rfl
def QOf (e : Ending) : Option (List UInt8 × Nat) → Prop
  | none => e = zr (.tuple #[.string ⟨#[]⟩, vi ki (-1)])
  | some x => e = zr (.tuple #[.string ⟨x.1.toArray⟩, vi ki (x.2 : Int)])
theorem by_text {W : World} {base : Nat} {v : Value} {g : List UInt8} (h : W.ownsRow base 5 1 v g.length (byV g)) : (convert 62 9 v).run Tryd.prog W = .ok (.string ⟨g.toArray⟩) W := by
  rcases h.2 with ⟨e0, z⟩ | ⟨a, cap, cur, e0, _, _, h3, h4, _⟩
  · have hg : g = [] := List.length_eq_zero_iff.1 z
    subst e0; subst hg
    rw [run_convert_bytes_string (P := Tryd.prog) W 62 9 5 none 0 0 Tryd.underlying62 Tryd.underlying5 Tryd.underlying9]
    rfl
  · subst e0
    exact run_convert_bytes_back (P := Tryd.prog) W 62 9 5 ⟨a, 0, none⟩ cap g Tryd.underlying62 Tryd.underlying5 Tryd.underlying9 (fun j hj => h.cells rfl j _ (byV_get (List.getElem?_eq_getElem hj)))
theorem quoted_any (s : ByteArray) (a : Nat) (ha : a < s.size) (hs : s.size ≤ 2048) (w : World) :
    Calls Tryd.prog 33 #[.string s, vi ki (a : Int)] w fun e w' => Below w.heap.size w w' ∧ QOf e ((qdL (sb s (a + 1))).map (fun x => (x.1, a + 1 + x.2))) := by
  obtain ⟨i0, hi, hz0, hz1, hz2⟩ := info_parts infoByt
  obtain ⟨R, hR⟩ : ∃ R, R = (qdL (sb s (a + 1))).map (fun x => (x.1, a + 1 + x.2)) := ⟨_, rfl⟩
  rw [← hR]
  have hsI : (s.size : Int) ≤ 2048 := by omega
  have haw : IntKind.i64.wrap ((a : Int) + 1) = (a : Int) + 1 := by rw [IntKind.wrap_i64]; omega
  have HR : Hid (R = (qdL (sb s (a + 1))).map (fun x => (([] : List UInt8) ++ x.1, a + 1 + x.2))) := hR
  clear hR
  go_enter Tryd.func33, Tryd.ntmps33
  go_wp2_with fail
  go_loopw [6, 7] (fun v iv W => ∃ (i : Nat) (g : List UInt8) (sq : Option Addr) (sn sc : Nat), v = .slice sq sn sc ∧ iv = vi ki (i : Int) ∧ i ≤ s.size ∧ g.length ≤ i ∧ Hid (W.ownsRow w.heap.size 5 1 (.slice sq sn sc) g.length (byV g)) ∧ Hid (Below w.heap.size w W) ∧ Hid (R = (qdL (sb s i)).map (fun x => (g ++ x.1, i + x.2)))) (fun _ iv _ => s.size - (intOf iv).toNat)
  case atStart => exact ⟨a + 1, [], none, 0, 0, rfl, by go_num, by omega, by simp, World.ownsRow_nil _ _ _ _, Below.refl _ _, HR⟩
  case round =>
    obtain ⟨i, g, sq, sn, sc, rfl, rfl, his, hgi, HO, HB, HR2⟩ := hrel
    clear HR
    have hi0 : (0 : Int) ≤ (i : Int) := by omega
    have hiw : IntKind.i64.wrap ((i : Int) + 1) = (i : Int) + 1 := by rw [IntKind.wrap_i64]; omega
    by_cases hp : i < s.size
    · have hpI : (i : Int) < (s.size : Int) := by omega
      have e1 := sb_one s i hp
      obtain ⟨c, hc⟩ : ∃ c, s[i]'hp = c := ⟨_, rfl⟩
      obtain ⟨z, hz⟩ : ∃ z : Int, z = (c.toNat : Int) := ⟨_, rfl⟩
      have hb : ((s[i]'hp).toNat : Int) = z := by rw [hc, hz]
      rw [hc] at e1
      have HE1 : Hid (sb s i = c :: sb s (i + 1)) := e1
      have HZ : Hid ((c.toNat : Int) = z) := hz.symm
      clear e1
      by_cases h39 : c = 39
      · have hz39 : (z == 39) = true := by rw [hz, h39]; rfl
        by_cases h2 : i + 1 < s.size ∧ bt s (i + 1) = 39
        · obtain ⟨hp2, hb2⟩ := h2
          have hp2I : (i : Int) + 1 < (s.size : Int) := by omega
          have hb2' : ((s[i + 1]'hp2).toNat : Int) = 39 := by rw [bt_at s _ hp2] at hb2; omega
          have hcc : s[i + 1]'hp2 = 39 := UInt8.toNat_inj.1 (by rw [bt_at s _ hp2] at hb2; exact hb2)
          have HR3 : Hid (R = (qdL (sb s (i + 2))).map (fun x => ((g ++ [39]) ++ x.1, i + 2 + x.2))) := by
            show _ = _
            rw [HR2.out, HE1.out, h39, sb_one s (i + 1) hp2, hcc, qdL, if_pos rfl, if_pos rfl]
            cases qdL (sb s (i + 1 + 1)) with
            | none => rfl
            | some x => simp; omega
          have hi2w : IntKind.i64.wrap ((i : Int) + 1 + 1) = (i : Int) + 2 := by rw [IntKind.wrap_i64]; omega
          clear hc h39 hz HZ HE1 HR2 hb2 hcc
          go_wp2_with (first
            | (at_builtin; refine wpList_append_own _ rfl _ _ 62 rfl w.heap.size 5 i0 (.int .u8 0) 1 1 Tryd.underlying62 hi hz0 hz1 hz2 rfl (by decide) _ g.length (byV g) rfl (HO.out.alloc _) ⟨wr.heap.size, 0, none⟩ 1 1 [.int .u8 39] rfl rfl (new_one _ _ _) (u8_one _) (by unfold maxLen; omega) (by omega) (by have := HB.out.size; simp; omega) ?_; intro v' w3 hown' hgrow3 hnil3
               have HJ : Hid (w3.ownsRow w.heap.size 5 1 v' (g ++ [39]).length (byV (g ++ [39])) ∧ Below w.heap.size w w3) := ⟨by rw [byV_more g 39 39 rfl, List.length_append]; exact hown', Below.grown (HB.out.alloc HB.out.size _) hgrow3 (by have := HB.out.size; simp; omega) (fun k hk => by have := (HO.out.lt _ hk).1; omega)⟩
               obtain ⟨sq', sn', sc', hv'⟩ := own_form hown'
               subst hv'
               clear hown' hgrow3 hnil3))
          go_roundw
          case rel => exact ⟨i + 2, g ++ [39], sq', sn', sc', rfl, by go_num, by omega, by simp; omega, HJ.out.1, HJ.out.2, HR3⟩
          case measure => simp [intOf]; omega
        · have HR3 : Hid (R = some (g, i + 1)) := by
            show _ = _
            have : qdL (c :: sb s (i + 1)) = some ([], 1) := by
              rw [h39]
              by_cases hp2 : i + 1 < s.size
              · rw [sb_one s (i + 1) hp2, qdL, if_pos rfl, if_neg (fun q => h2 ⟨hp2, by rw [bt_at s _ hp2, q]; rfl⟩)]
              · have : sb s (i + 1) = [] := List.length_eq_zero_iff.1 (by rw [sb_length]; omega)
                rw [this]; rfl
            rw [HR2.out, HE1.out, this]; simp
          have hcb := by_text HO.out
          clear hc h39 hz HZ HE1 HR2
          by_cases hp2 : i + 1 < s.size
          · have hp2I : (i : Int) + 1 < (s.size : Int) := by omega
            obtain ⟨y, hy⟩ : ∃ y : Int, ((s[i + 1]'hp2).toNat : Int) = y := ⟨_, rfl⟩
            have hy39 : (y == 39) = false := by
              rw [beq_eq_false_iff_ne]; intro q
              exact h2 ⟨hp2, by rw [bt_at s _ hp2]; omega⟩
            clear h2
            go_wp2_with fail
            go_ret2
            exact ⟨HB.out, by rw [HR3.out]; rfl⟩
          · have hp2I : ¬ (i : Int) + 1 < (s.size : Int) := by omega
            clear h2
            go_wp2_with fail
            go_ret2
            exact ⟨HB.out, by rw [HR3.out]; rfl⟩
      · have hz39 : (z == 39) = false := by
          rw [beq_eq_false_iff_ne, hz]; intro q; exact h39 (UInt8.toNat_inj.1 (by show c.toNat = 39; omega))
        have HR3 : Hid (R = (qdL (sb s (i + 1))).map (fun x => ((g ++ [c]) ++ x.1, i + 1 + x.2))) := by
          show _ = _
          rw [HR2.out, HE1.out, qdL_cons h39]
          cases qdL (sb s (i + 1)) with
          | none => rfl
          | some x => simp; omega
        clear hc h39 hz HE1 HR2
        go_wp2_with (first
          | (at_builtin; refine wpList_append_own _ rfl _ _ 62 rfl w.heap.size 5 i0 (.int .u8 0) 1 1 Tryd.underlying62 hi hz0 hz1 hz2 rfl (by decide) _ g.length (byV g) rfl (HO.out.alloc _) ⟨wr.heap.size, 0, none⟩ 1 1 [.int .u8 z] rfl rfl (new_one _ _ _) (u8_one _) (by unfold maxLen; omega) (by omega) (by have := HB.out.size; simp; omega) ?_; intro v' w3 hown' hgrow3 hnil3
             have HJ : Hid (w3.ownsRow w.heap.size 5 1 v' (g ++ [c]).length (byV (g ++ [c])) ∧ Below w.heap.size w w3) := ⟨by rw [byV_more g c z HZ.out, List.length_append]; exact hown', Below.grown (HB.out.alloc HB.out.size _) hgrow3 (by have := HB.out.size; simp; omega) (fun k hk => by have := (HO.out.lt _ hk).1; omega)⟩
             obtain ⟨sq', sn', sc', hv'⟩ := own_form hown'
             subst hv'
             clear hown' hgrow3 hnil3))
        go_roundw
        case rel => exact ⟨i + 1, g ++ [c], sq', sn', sc', rfl, by go_num, by omega, by simp; omega, HJ.out.1, HJ.out.2, HR3⟩
        case measure => simp [intOf]; omega
    · have hpI : ¬ (i : Int) < (s.size : Int) := by omega
      have HR3 : Hid (R = none) := by
        show _ = _
        have : sb s i = [] := List.length_eq_zero_iff.1 (by rw [sb_length]; omega)
        rw [HR2.out, this]; rfl
      clear HR2
      go_wp2_with fail
      go_ret2
      exact ⟨HB.out, by rw [HR3.out]; rfl⟩
def TxtA (w : World) (a : Addr) (L : List ByteArray) : Prop := True ∧ ∀ j t, L[j]? = some t → w.cell? (a.add j) = some (.string t)
theorem TxtA.below {w w1 : World} {a : Addr} {L : List ByteArray} (h : TxtA w a L) (hb : Below w.heap.size w w1) : TxtA w1 a L :=
 ⟨trivial, fun j t hj => (hb.cell (World.block_lt_of_cell? w _ (h.2 j t hj))).trans (h.2 j t hj)⟩
theorem rknownA_any (s : ByteArray) (L : List ByteArray) (a : Addr) (cap : Nat) (w : World) (hs : s.size ≤ 140737488351232) (hL : ∀ (j : Nat) (t : ByteArray), L[j]? = some t → t.size ≤ 140737488351232) (hcap : L.length ≤ cap) (hcap2 : cap ≤ maxLen) (hT : TxtA w a L) :
  Calls Tryd.prog 68 #[.string s, .slice (some a) L.length cap] w fun e w' => e = zr (vi ki (knownB s L)) ∧ Below w.heap.size w w' := by
 unfold maxLen at hcap2
 obtain ⟨G, hG⟩ : ∃ G, knownB s L = G := ⟨_, rfl⟩
 have HG : Hid (findF (fun t => sameB s t) 0 (L.drop 0) = G) := by show _ = _; rw [List.drop_zero, ← hG]; rfl
 rw [hG]
 clear hG
 go_enter Tryd.func68, Tryd.ntmps68
 go_wp2_with fail
 go_loopw [5] (fun k wr => ∃ i : Nat, i ≤ L.length ∧ k = vi ki (i : Int) ∧ Below w.heap.size w wr ∧ TxtA wr a L ∧ Hid (findF (fun t => sameB s t) i (L.drop i) = G)) (fun k _ => L.length - (intOf k).toNat)
 case atStart => exact ⟨0, Nat.zero_le _, rfl, Below.refl _ _, hT, HG⟩
 case round =>
  obtain ⟨i, hi, rfl, B, T, HS⟩ := hrel
  have HB : Hid (Below w.heap.size w wr) := B
  have HT : Hid (TxtA wr a L) := T
  by_cases hlt : i < L.length
  ·have hlt' : (i : Int) < (L.length : Int) := by omega
   obtain ⟨t, ht⟩ : ∃ t, L[i]? = some t := ⟨L[i]'hlt, List.getElem?_eq_getElem hlt⟩
   have hc : wr.cell? (a.add i) = some (.string t) := T.2 i t ht
   have hts := hL i t ht
   have HE : Hid ((if sameB s t = true then (i : Int) else findF (fun t => sameB s t) (i + 1) (L.drop (i + 1))) = G) := by show _ = _; rw [← HS.out, findF_step ht]
   have i0 : (0 : Int) ≤ (i : Int) := by omega
   have i1 : (i : Int) < 9223372036854775807 := by omega
   have HSM : Hid (∀ w : World, Calls Tryd.prog 77 #[.string s, .string t] w fun e w' => e = zr (.bool (sameB s t)) ∧ Below w.heap.size w w') := rsame_any s t hs hts
   clear HS B T ht hT HG
   cases hq : sameB s t with
   | true =>
    have e1 : G = (i : Int) := by rw [← HE.out, if_pos hq]
    rw [hq] at HSM
    subst e1
    clear hq
    go_wp2_with fail
    refine (HSM.out _).mono ?_
    rintro e w2 ⟨rfl, b2⟩
    have HB2 : Hid (Below w.heap.size w w2) := HB.out.trans (b2.mono HB.out.size)
    clear b2
    go_wp2_with fail
    go_ret
    exact ⟨rfl, HB2.out⟩
   | false =>
    have HF : Hid (findF (fun t => sameB s t) (i + 1) (L.drop (i + 1)) = G) := by show _ = _; rw [← HE.out, if_neg (by rw [hq]; decide)]
    rw [hq] at HSM
    clear hq
    go_wp2_with fail
    refine (HSM.out _).mono ?_
    rintro e w2 ⟨rfl, b2⟩
    have HB2 : Hid (Below w.heap.size w w2) := HB.out.trans (b2.mono HB.out.size)
    have HT2 : Hid (TxtA w2 a L) := HT.out.below b2
    clear b2
    go_wp2_with fail
    go_roundw
    case rel => exact ⟨i + 1, by omega, by go_num, HB2.out, HT2.out, HF⟩
    case measure => simp [intOf]; omega
  ·have hlt' : ¬ (i : Int) < (L.length : Int) := by omega
   have e1 : G = -1 := by rw [← HS.out, findF_end hlt]
   subst e1
   clear B T
   go_wp2_with fail
   go_ret
   exact ⟨rfl, HB.out⟩
end Go.Proofs.YtaoocecipacnhaaDoor
