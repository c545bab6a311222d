/- Contract of the reference's Split: a text's parts, or the place where it is not right. -/
import Derived.Test.YtaoocecipacnhaaDoorWdGq
namespace Go.Proofs.YtaoocecipacnhaaDoor
open Go.RowKit
set_option linter.unusedVariables false

/-- what the reference's Split hands back. -/
def RSplitOf (w : World) (s : ByteArray) (e : Ending) (w' : World) : Option Nat → Prop
  | some i => e = .returned (.tuple #[.slice none 0 0, .int .i64 (i : Int), .int .i64 21])
  | none => ∃ v, e = .returned (.tuple #[v, .int .i64 0, .int .i64 0]) ∧ w'.ownsRow w.heap.size 86 3 v (rparts s s.size 0 []).length (flatP s (rparts s s.size 0 []))
theorem rsplit_no {w : World} {s : ByteArray} {e : Ending} {w' : World} {i : Nat} (h : e = .returned (.tuple #[.slice none 0 0, .int .i64 (i : Int), .int .i64 21])) : RSplitOf w s e w' (some i) := h
theorem rsplit_yes {w : World} {s : ByteArray} {e : Ending} {w' : World} {l : List Prt} (v : Value) (hl : l = rparts s s.size 0 []) (h : e = .returned (.tuple #[v, .int .i64 0, .int .i64 0])) (ho : w'.ownsRow w.heap.size 86 3 v l.length (flatP s l)) : RSplitOf w s e w' none := by
  subst hl; exact ⟨v, h, ho⟩
theorem bad_long {s : ByteArray} {i : Nat} (h : rlong s i = 0) : badN s i = true := by unfold badN; rw [h]; rfl
theorem bad_low {s : ByteArray} {i : Nat} (h1 : bt s i < 32) (h2 : blankN (bt s i) = false) : badN s i = true := by unfold badN; rw [h2, decide_eq_true h1]; simp
theorem bad_del {s : ByteArray} {i : Nat} (h1 : bt s i = 127) : badN s i = true := by unfold badN; rw [h1]; simp
theorem good_at {s : ByteArray} {i : Nat} (h0 : rlong s i ≠ 0) (h1 : bt s i < 32 → blankN (bt s i) = true) (h2 : bt s i ≠ 127) : badN s i = false := by
  unfold badN
  have a : (rlong s i == 0) = false := by simp; exact h0
  have b : (bt s i == 127) = false := by simp; exact h2
  rw [a, b]
  by_cases c : bt s i < 32
  · rw [h1 c]; simp
  · rw [decide_eq_false c]; rfl

set_option maxRecDepth 1000000 in
set_option maxHeartbeats 8000000 in
theorem rsplit_any (s : ByteArray) (w : World) (hsz : s.size ≤ 2048) :
    Calls Tryd.prog 16 #[.string s] w fun e w' => Below w.heap.size w w' ∧ RSplitOf w s e w' (rcheck s s.size 0) := by
  obtain ⟨i0, hi, hz0, hz1, hz2⟩ := info_parts infoRPart
  have hsi : ¬ (2048 : Int) < (s.size : Int) := by omega
  obtain ⟨C, hC⟩ : ∃ C, rcheck s s.size 0 = C := ⟨_, rfl⟩
  rw [hC]
  have HC : Hid (rcheck s s.size 0 = C) := hC
  clear hC
  go_enter Tryd.func16, Tryd.ntmps16
  go_wp2_with fail
  go_loop [5] (fun iv => ∃ i fuel : Nat, i ≤ s.size ∧ iv = .int .i64 (i : Int) ∧ Hid (rcheck s fuel i = C) ∧ s.size ≤ i + fuel) (fun iv => s.size - (intOf iv).toNat)
  case atStart => exact ⟨0, s.size, Nat.zero_le _, rfl, HC, by omega⟩
  case round =>
    obtain ⟨i, fuel, hil, rfl, HS, hf⟩ := hrel
    by_cases hp : i < s.size
    · have hp' : (i : Int) < (s.size : Int) := by omega
      have hp0 : (0 : Int) ≤ (i : Int) := by omega
      obtain ⟨fuel, rfl⟩ : ∃ f', fuel = f' + 1 := ⟨fuel - 1, by omega⟩
      have hb := byte_eq s i hp
      have hlong := rlong_any s i hsz hp
      obtain ⟨c, hc⟩ : ∃ c, bt s i = c := ⟨_, rfl⟩
      obtain ⟨n, hn⟩ : ∃ n, rlong s i = n := ⟨_, rfl⟩
      rw [hc] at hb
      rw [hn] at hlong
      have hc2 : c < 256 := by rw [← hc]; exact UInt8.toNat_lt _
      have HL : Hid (∀ w : World, Calls Tryd.prog 29 #[.string s, .int .i64 (i : Int)] w fun e w' => e = .returned (.int .i64 (n : Int)) ∧ w' = w) := hlong
      have HN : Hid (rlong s i = n) := hn
      have HC2 : Hid (bt s i = c) := hc
      have hnle : n ≤ 4 ∧ i + n ≤ s.size := by
        obtain ⟨_, k2⟩ := bad_kind s i hp
        have q := rlong_eq s i hp
        rw [hn] at q
        rcases dec_shape s i hp with ⟨y, e⟩ | ⟨y, e⟩ | ⟨y, d1, d2, d3, _⟩
        · rw [if_pos y] at q; omega
        · rw [if_neg (by omega), if_pos e] at q; omega
        · rw [if_neg (by omega), if_neg (fun z => by rw [z] at d1; simp at d1)] at q; omega
      obtain ⟨n4, nle⟩ := hnle
      clear hlong hn hc
      go_wp2_with fail
      refine (HL.out _).mono ?_
      rintro e w' ⟨rfl, rfl⟩
      by_cases n0 : n = 0
      · have e : C = some i := by rw [← HS.out, rcheck_bad hp (bad_long (by rw [HN.out, n0]))]
        subst e
        subst n0
        go_wp2_with fail
        go_ret3
        exact ⟨Below.refl _ _, rsplit_no rfl⟩
      · have n0' : ((n : Int) == 0) = false := by simp; omega
        by_cases c32 : c < 32
        · have c32' : (c : Int) < 32 := by omega
          have hbl := blank_any c hc2
          cases hq : blankN c with
          | false =>
            rw [hq] at hbl
            have HBL : Hid (∀ w : World, Calls Tryd.prog 30 #[.int .u8 (c : Int)] w fun e w' => e = .returned (.bool false) ∧ w' = w) := hbl
            have e : C = some i := by rw [← HS.out, rcheck_bad hp (bad_low (by rw [HC2.out]; exact c32) (by rw [HC2.out]; exact hq))]
            subst e
            clear hbl hq
            go_wp2_with fail
            refine (HBL.out _).mono ?_
            rintro e w' ⟨rfl, rfl⟩
            go_wp2_with fail
            go_ret3
            exact ⟨Below.refl _ _, rsplit_no rfl⟩
          | true =>
            rw [hq] at hbl
            have HBL : Hid (∀ w : World, Calls Tryd.prog 30 #[.int .u8 (c : Int)] w fun e w' => e = .returned (.bool true) ∧ w' = w) := hbl
            have c127 : ((c : Int) == 127) = false := by simp; omega
            have HE : Hid (rcheck s fuel (i + n) = C) := by show _ = _; rw [← HS.out, rcheck_next hp (good_at (by rw [HN.out]; exact n0) (by rw [HC2.out]; exact fun _ => hq) (by rw [HC2.out]; omega)), HN.out]
            clear hbl hq
            go_wp2_with fail
            refine (HBL.out _).mono ?_
            rintro e w' ⟨rfl, rfl⟩
            go_wp2_with fail
            go_round
            case rel => exact ⟨i + n, fuel, by omega, by go_num, HE, by omega⟩
            case measure => simp [intOf]; omega
        · have c32' : ¬ (c : Int) < 32 := by omega
          by_cases c127 : c = 127
          · have e : C = some i := by rw [← HS.out, rcheck_bad hp (bad_del (by rw [HC2.out]; exact c127))]
            subst e
            subst c127
            go_wp2_with fail
            go_ret3
            exact ⟨Below.refl _ _, rsplit_no rfl⟩
          · have c127' : ((c : Int) == 127) = false := by simp; omega
            have HE : Hid (rcheck s fuel (i + n) = C) := by show _ = _; rw [← HS.out, rcheck_next hp (good_at (by rw [HN.out]; exact n0) (by rw [HC2.out]; exact fun q => absurd q c32) (by rw [HC2.out]; exact c127)), HN.out]
            go_wp2_with fail
            go_round
            case rel => exact ⟨i + n, fuel, by omega, by go_num, HE, by omega⟩
            case measure => simp [intOf]; omega
    · have hp' : ¬ (i : Int) < (s.size : Int) := by omega
      have e : C = none := by rw [← HS.out, rcheck_end s fuel i hp]
      subst e
      obtain ⟨G, hG⟩ : ∃ G, rparts s s.size 0 [] = G := ⟨_, rfl⟩
      have HG : Hid (rparts s s.size 0 [] = G) := hG
      clear hG HS HC
      go_wp2_with fail
      go_loopw [7, 8] (fun v iv W => ∃ (i fuel : Nat) (l : List Prt), i ≤ s.size ∧ iv = .int .i64 (i : Int) ∧ W.ownsRow w.heap.size 86 3 v l.length (flatP s l) ∧ Below w.heap.size w W ∧ Hid (rparts s fuel i l = G) ∧ s.size ≤ i + fuel ∧ l.length ≤ i) (fun _ iv _ => s.size - (intOf iv).toNat)
      case atStart => exact ⟨0, s.size, [], Nat.zero_le _, rfl, World.ownsRow_nil _ _ _ _, Below.refl _ _, HG, by omega, Nat.le_refl _⟩
      case round =>
        clear hp hp' hf hil
        obtain ⟨i, fuel, l, hil, rfl, ho, B, HS, hf, hln⟩ := hrel
        obtain ⟨n, hn⟩ : ∃ n, l.length = n := ⟨_, rfl⟩
        rw [hn] at ho hln
        have HO : Hid (wr.ownsRow w.heap.size 86 3 u7 n (flatP s l)) := ho
        have HB : Hid (Below w.heap.size w wr) := B
        have HN : Hid (l.length = n) := hn
        clear ho B hn
        by_cases hp : i < s.size
        · have hp' : (i : Int) < (s.size : Int) := by omega
          have hp0 : (0 : Int) ≤ (i : Int) := by omega
          obtain ⟨fuel, rfl⟩ : ∃ f', fuel = f' + 1 := ⟨fuel - 1, by omega⟩
          have hb := byte_eq s i hp
          obtain ⟨c, hc⟩ : ∃ c, bt s i = c := ⟨_, rfl⟩
          rw [hc] at hb
          have hc2 : c < 256 := by rw [← hc]; exact UInt8.toNat_lt _
          have hbl := blank_any c hc2
          have hdg := digit_any c hc2
          have hlt := letter_any c hc2
          have HBL : Hid (∀ w : World, Calls Tryd.prog 30 #[.int .u8 (c : Int)] w fun e w' => e = .returned (.bool (blankN c)) ∧ w' = w) := hbl
          have HDG : Hid (∀ w : World, Calls Tryd.prog 31 #[.int .u8 (c : Int)] w fun e w' => e = .returned (.bool (digitN c)) ∧ w' = w) := hdg
          have HLT : Hid (∀ w : World, Calls Tryd.prog 32 #[.int .u8 (c : Int)] w fun e w' => e = .returned (.bool (letterN c)) ∧ w' = w) := hlt
          clear hbl hdg hlt
          have hkr := bk_range c
          have kb := bk_blank c
          have kd := bk_digit c
          have kl := bk_letter c
          rcases HO.out.2 with ⟨e0, -⟩ | ⟨g0, cap0, cur, e0, _, _, _, _, _, _⟩
          all_goals
            subst e0
            rcases hkr with kk | kk | kk | kk
            · have hkd : bk (bt s i) = 0 := by rw [hc]; exact kk
              have b0 : blankN c = true := kb.2 kk
              have HE : Hid (rparts s fuel (i + 1) l = G) := by show _ = _; rw [← HS.out, rparts, if_pos hp, if_pos hkd]
              rw [b0] at HBL
              clear kb kd kl kk hkd HS hc HDG HLT b0
              go_wp2_with fail
              refine (HBL.out _).mono ?_
              rintro e w' ⟨rfl, hw'⟩
              obtain rfl := hw'.symm
              clear hw'
              go_wp2_with fail
              go_roundw
              case rel => exact ⟨i + 1, fuel, l, by omega, by go_num, by rw [HN.out]; exact HO.out, HB.out, HE, by omega, by rw [HN.out]; omega⟩
              case measure => simp [intOf]; omega
            · have hkd : bk (bt s i) = 1 := by rw [hc]; exact kk
              have b0 : blankN c = false := by
                cases z : blankN c with
                | false => rfl
                | true => have := kb.1 z; omega
              have b1 : digitN c = true := kd.2 kk
              rw [b0] at HBL
              rw [b1] at HDG
              clear kb kd kl kk HLT b0 b1
              go_wp2_with fail
              refine (HBL.out _).mono ?_
              rintro e w' ⟨rfl, hw'⟩
              obtain rfl := hw'.symm
              clear hw'
              go_wp2_with fail
              refine (HDG.out _).mono ?_
              rintro e w' ⟨rfl, hw'⟩
              obtain rfl := hw'.symm
              clear hw'
              go_wp2_with fail
              obtain ⟨E, hE⟩ : ∃ E, runEnd s 1 i = E := ⟨_, rfl⟩
              have HG2 : Hid (rparts s fuel E (l ++ [(1, i, E)]) = G) := by show _ = _; rw [← HS.out, rparts, if_pos hp, if_neg (by omega), if_neg (by omega), hkd, hE]
              have hE1 : i + 1 ≤ E ∧ E ≤ s.size := by
                have q := runEnd_ge s 1 s.size (i + 1)
                rw [← hE, runEnd_next hp hkd]
                exact ⟨q.1, q.2 (by omega)⟩
              have HE : Hid (runEnd s 1 i = E) := hE
              clear hE HS
              go_loop [9] (fun kk => ∃ k : Nat, i ≤ k ∧ k ≤ s.size ∧ kk = .int .i64 (k : Int) ∧ Hid (runEnd s 1 k = E)) (fun kk => s.size - (intOf kk).toNat)
              case atStart => exact ⟨i, Nat.le_refl _, by omega, rfl, HE⟩
              case round =>
                obtain ⟨k, hk1, hk2, rfl, HK⟩ := hrel
                by_cases hks : k < s.size
                · have hks' : (k : Int) < (s.size : Int) := by omega
                  have hk0 : (0 : Int) ≤ (k : Int) := by omega
                  have hkb := byte_eq s k hks
                  obtain ⟨d, hd⟩ : ∃ d, bt s k = d := ⟨_, rfl⟩
                  rw [hd] at hkb
                  have hd2 : d < 256 := by rw [← hd]; exact UInt8.toNat_lt _
                  have cd := digit_any d hd2
                  cases hq : digitN d with
                  | true =>
                    rw [hq] at cd
                    have HCD : Hid (∀ w : World, Calls Tryd.prog 31 #[.int .u8 (d : Int)] w fun e w' => e = .returned (.bool true) ∧ w' = w) := cd
                    have HK2 : Hid (runEnd s 1 (k + 1) = E) := by show _ = _; rw [← HK.out, runEnd_next hks (by rw [hd]; exact (bk_digit d).1 hq)]
                    clear cd hq
                    go_wp2_with fail
                    refine (HCD.out _).mono ?_
                    rintro e w' ⟨rfl, hw'⟩
                    obtain rfl := hw'.symm
                    clear hw'
                    go_wp2_with fail
                    go_round
                    case rel => exact ⟨k + 1, by omega, by omega, by go_num, HK2⟩
                    case measure => simp [intOf]; omega
                  | false =>
                    rw [hq] at cd
                    have HCD : Hid (∀ w : World, Calls Tryd.prog 31 #[.int .u8 (d : Int)] w fun e w' => e = .returned (.bool false) ∧ w' = w) := cd
                    obtain rfl : k = E := by
                      rw [← HK.out, runEnd_stop (fun q => by have := (bk_digit d).2 (by rw [← hd]; exact q.2); rw [hq] at this; exact absurd this (by decide))]
                    have ik1 : (i : Int) ≤ (k : Int) := by omega
                    have ik2 : (k : Int) ≤ (s.size : Int) := by omega
                    clear cd hq
                    go_wp2_with fail
                    refine (HCD.out _).mono ?_
                    rintro e w' ⟨rfl, hw'⟩
                    obtain rfl := hw'.symm
                    clear hw'
                    go_wp2_with (first
                      | (at_builtin; refine wpList_append_own _ rfl _ _ 48 rfl w.heap.size 86 i0 (.agg #[.int .i64 0, .string ByteArray.empty, .int .i64 0]) 3 32 Tryd.underlying48 hi hz0 hz1 hz2 rfl (by decide) _ n (flatP s l) rfl (HO.out.alloc _) ⟨wr.heap.size, 0, none⟩ 1 1 [.int .i64 1, .string (s.extract i k), .int .i64 (i : Int)] rfl rfl (part_new _ _ _ _ _) (part_one _ _ _) (by unfold maxLen; omega) (by omega) (by have := HB.out.size; simp; omega) ?_; intro v' w3 hown' hgrow3 hnil3
                         have HJ : Hid (w3.ownsRow w.heap.size 86 3 v' (n + 1) (flatP s (l ++ [(1, i, k)])) ∧ Below w.heap.size w w3) := ⟨by rw [flatP_append]; exact hown', Below.grown (HB.out.alloc HB.out.size _) hgrow3 (by have := HB.out.size; simp; omega) (fun k hk => by have := (HO.out.lt _ hk).1; omega)⟩
                         clear hown' hgrow3 hnil3))
                    go_roundw
                    case rel =>
                      refine ⟨k, fuel, l ++ [(1, i, k)], by omega, rfl, ?_, HJ.out.2, HG2, by omega, ?_⟩
                      · rw [List.length_append, HN.out]; exact HJ.out.1
                      · simp only [List.length_append, HN.out, List.length_singleton]; omega
                    case measure => simp [intOf]; omega
                · have hks' : ¬ (k : Int) < (s.size : Int) := by omega
                  obtain rfl : k = E := by rw [← HK.out, runEnd_stop (fun q => hks q.1)]
                  have ik1 : (i : Int) ≤ (k : Int) := by omega
                  have ik2 : (k : Int) ≤ (s.size : Int) := by omega
                  go_wp2_with (first
                    | (at_builtin; refine wpList_append_own _ rfl _ _ 48 rfl w.heap.size 86 i0 (.agg #[.int .i64 0, .string ByteArray.empty, .int .i64 0]) 3 32 Tryd.underlying48 hi hz0 hz1 hz2 rfl (by decide) _ n (flatP s l) rfl (HO.out.alloc _) ⟨wr.heap.size, 0, none⟩ 1 1 [.int .i64 1, .string (s.extract i k), .int .i64 (i : Int)] rfl rfl (part_new _ _ _ _ _) (part_one _ _ _) (by unfold maxLen; omega) (by omega) (by have := HB.out.size; simp; omega) ?_; intro v' w3 hown' hgrow3 hnil3
                       have HJ : Hid (w3.ownsRow w.heap.size 86 3 v' (n + 1) (flatP s (l ++ [(1, i, k)])) ∧ Below w.heap.size w w3) := ⟨by rw [flatP_append]; exact hown', Below.grown (HB.out.alloc HB.out.size _) hgrow3 (by have := HB.out.size; simp; omega) (fun k hk => by have := (HO.out.lt _ hk).1; omega)⟩
                       clear hown' hgrow3 hnil3))
                  go_roundw
                  case rel =>
                    refine ⟨k, fuel, l ++ [(1, i, k)], by omega, rfl, ?_, HJ.out.2, HG2, by omega, ?_⟩
                    · rw [List.length_append, HN.out]; exact HJ.out.1
                    · simp only [List.length_append, HN.out, List.length_singleton]; omega
                  case measure => simp [intOf]; omega
            · have hkd : bk (bt s i) = 2 := by rw [hc]; exact kk
              have b0 : blankN c = false := by
                cases z : blankN c with
                | false => rfl
                | true => have := kb.1 z; omega
              have b1 : digitN c = false := by
                cases z : digitN c with
                | false => rfl
                | true => have := kd.1 z; omega
              have b2 : letterN c = true := kl.2 kk
              rw [b0] at HBL
              rw [b1] at HDG
              rw [b2] at HLT
              clear kb kd kl kk b0 b1 b2
              go_wp2_with fail
              refine (HBL.out _).mono ?_
              rintro e w' ⟨rfl, hw'⟩
              obtain rfl := hw'.symm
              clear hw'
              go_wp2_with fail
              refine (HDG.out _).mono ?_
              rintro e w' ⟨rfl, hw'⟩
              obtain rfl := hw'.symm
              clear hw'
              go_wp2_with fail
              refine (HLT.out _).mono ?_
              rintro e w' ⟨rfl, hw'⟩
              obtain rfl := hw'.symm
              clear hw'
              go_wp2_with fail
              obtain ⟨E, hE⟩ : ∃ E, runEnd s 2 i = E := ⟨_, rfl⟩
              have HG2 : Hid (rparts s fuel E (l ++ [(2, i, E)]) = G) := by show _ = _; rw [← HS.out, rparts, if_pos hp, if_neg (by omega), if_neg (by omega), hkd, hE]
              have hE1 : i + 1 ≤ E ∧ E ≤ s.size := by
                have q := runEnd_ge s 2 s.size (i + 1)
                rw [← hE, runEnd_next hp hkd]
                exact ⟨q.1, q.2 (by omega)⟩
              have HE : Hid (runEnd s 2 i = E) := hE
              clear hE HS
              go_loop [9] (fun kk => ∃ k : Nat, i ≤ k ∧ k ≤ s.size ∧ kk = .int .i64 (k : Int) ∧ Hid (runEnd s 2 k = E)) (fun kk => s.size - (intOf kk).toNat)
              case atStart => exact ⟨i, Nat.le_refl _, by omega, rfl, HE⟩
              case round =>
                obtain ⟨k, hk1, hk2, rfl, HK⟩ := hrel
                by_cases hks : k < s.size
                · have hks' : (k : Int) < (s.size : Int) := by omega
                  have hk0 : (0 : Int) ≤ (k : Int) := by omega
                  have hkb := byte_eq s k hks
                  obtain ⟨d, hd⟩ : ∃ d, bt s k = d := ⟨_, rfl⟩
                  rw [hd] at hkb
                  have hd2 : d < 256 := by rw [← hd]; exact UInt8.toNat_lt _
                  have cd := letter_any d hd2
                  cases hq : letterN d with
                  | true =>
                    rw [hq] at cd
                    have HCD : Hid (∀ w : World, Calls Tryd.prog 32 #[.int .u8 (d : Int)] w fun e w' => e = .returned (.bool true) ∧ w' = w) := cd
                    have HK2 : Hid (runEnd s 2 (k + 1) = E) := by show _ = _; rw [← HK.out, runEnd_next hks (by rw [hd]; exact (bk_letter d).1 hq)]
                    clear cd hq
                    go_wp2_with fail
                    refine (HCD.out _).mono ?_
                    rintro e w' ⟨rfl, hw'⟩
                    obtain rfl := hw'.symm
                    clear hw'
                    go_wp2_with fail
                    go_round
                    case rel => exact ⟨k + 1, by omega, by omega, by go_num, HK2⟩
                    case measure => simp [intOf]; omega
                  | false =>
                    rw [hq] at cd
                    have HCD : Hid (∀ w : World, Calls Tryd.prog 32 #[.int .u8 (d : Int)] w fun e w' => e = .returned (.bool false) ∧ w' = w) := cd
                    obtain rfl : k = E := by
                      rw [← HK.out, runEnd_stop (fun q => by have := (bk_letter d).2 (by rw [← hd]; exact q.2); rw [hq] at this; exact absurd this (by decide))]
                    have ik1 : (i : Int) ≤ (k : Int) := by omega
                    have ik2 : (k : Int) ≤ (s.size : Int) := by omega
                    clear cd hq
                    go_wp2_with fail
                    refine (HCD.out _).mono ?_
                    rintro e w' ⟨rfl, hw'⟩
                    obtain rfl := hw'.symm
                    clear hw'
                    go_wp2_with (first
                      | (at_builtin; refine wpList_append_own _ rfl _ _ 48 rfl w.heap.size 86 i0 (.agg #[.int .i64 0, .string ByteArray.empty, .int .i64 0]) 3 32 Tryd.underlying48 hi hz0 hz1 hz2 rfl (by decide) _ n (flatP s l) rfl (HO.out.alloc _) ⟨wr.heap.size, 0, none⟩ 1 1 [.int .i64 2, .string (s.extract i k), .int .i64 (i : Int)] rfl rfl (part_new _ _ _ _ _) (part_one _ _ _) (by unfold maxLen; omega) (by omega) (by have := HB.out.size; simp; omega) ?_; intro v' w3 hown' hgrow3 hnil3
                         have HJ : Hid (w3.ownsRow w.heap.size 86 3 v' (n + 1) (flatP s (l ++ [(2, i, k)])) ∧ Below w.heap.size w w3) := ⟨by rw [flatP_append]; exact hown', Below.grown (HB.out.alloc HB.out.size _) hgrow3 (by have := HB.out.size; simp; omega) (fun k hk => by have := (HO.out.lt _ hk).1; omega)⟩
                         clear hown' hgrow3 hnil3))
                    go_roundw
                    case rel =>
                      refine ⟨k, fuel, l ++ [(2, i, k)], by omega, rfl, ?_, HJ.out.2, HG2, by omega, ?_⟩
                      · rw [List.length_append, HN.out]; exact HJ.out.1
                      · simp only [List.length_append, HN.out, List.length_singleton]; omega
                    case measure => simp [intOf]; omega
                · have hks' : ¬ (k : Int) < (s.size : Int) := by omega
                  obtain rfl : k = E := by rw [← HK.out, runEnd_stop (fun q => hks q.1)]
                  have ik1 : (i : Int) ≤ (k : Int) := by omega
                  have ik2 : (k : Int) ≤ (s.size : Int) := by omega
                  go_wp2_with (first
                    | (at_builtin; refine wpList_append_own _ rfl _ _ 48 rfl w.heap.size 86 i0 (.agg #[.int .i64 0, .string ByteArray.empty, .int .i64 0]) 3 32 Tryd.underlying48 hi hz0 hz1 hz2 rfl (by decide) _ n (flatP s l) rfl (HO.out.alloc _) ⟨wr.heap.size, 0, none⟩ 1 1 [.int .i64 2, .string (s.extract i k), .int .i64 (i : Int)] rfl rfl (part_new _ _ _ _ _) (part_one _ _ _) (by unfold maxLen; omega) (by omega) (by have := HB.out.size; simp; omega) ?_; intro v' w3 hown' hgrow3 hnil3
                       have HJ : Hid (w3.ownsRow w.heap.size 86 3 v' (n + 1) (flatP s (l ++ [(2, i, k)])) ∧ Below w.heap.size w w3) := ⟨by rw [flatP_append]; exact hown', Below.grown (HB.out.alloc HB.out.size _) hgrow3 (by have := HB.out.size; simp; omega) (fun k hk => by have := (HO.out.lt _ hk).1; omega)⟩
                       clear hown' hgrow3 hnil3))
                  go_roundw
                  case rel =>
                    refine ⟨k, fuel, l ++ [(2, i, k)], by omega, rfl, ?_, HJ.out.2, HG2, by omega, ?_⟩
                    · rw [List.length_append, HN.out]; exact HJ.out.1
                    · simp only [List.length_append, HN.out, List.length_singleton]; omega
                  case measure => simp [intOf]; omega
            · have hkd : bk (bt s i) = 3 := by rw [hc]; exact kk
              have b0 : blankN c = false := by
                cases z : blankN c with
                | false => rfl
                | true => have := kb.1 z; omega
              have b1 : digitN c = false := by
                cases z : digitN c with
                | false => rfl
                | true => have := kd.1 z; omega
              have b2 : letterN c = false := by
                cases z : letterN c with
                | false => rfl
                | true => have := kl.1 z; omega
              have HG2 : Hid (rparts s fuel (i + 1) (l ++ [(3, i, i + 1)]) = G) := by show _ = _; rw [← HS.out, rparts, if_pos hp, if_neg (by omega), if_pos hkd]
              rw [b0] at HBL
              rw [b1] at HDG
              rw [b2] at HLT
              have y1 : (i : Int) + 1 ≤ (s.size : Int) := by omega
              have y2 : (i : Int) ≤ (i : Int) + 1 := by omega
              have y3 : ((i : Int) + 1).toNat = i + 1 := by omega
              have y4 : (0 : Int) ≤ (i : Int) + 1 := by omega
              clear kb kd kl kk hkd HS hc b0 b1 b2
              go_wp2_with fail
              refine (HBL.out _).mono ?_
              rintro e w' ⟨rfl, hw'⟩
              obtain rfl := hw'.symm
              clear hw'
              go_wp2_with fail
              refine (HDG.out _).mono ?_
              rintro e w' ⟨rfl, hw'⟩
              obtain rfl := hw'.symm
              clear hw'
              go_wp2_with fail
              refine (HLT.out _).mono ?_
              rintro e w' ⟨rfl, hw'⟩
              obtain rfl := hw'.symm
              clear hw'
              go_wp2_with (first
                | (at_builtin; refine wpList_append_own _ rfl _ _ 48 rfl w.heap.size 86 i0 (.agg #[.int .i64 0, .string ByteArray.empty, .int .i64 0]) 3 32 Tryd.underlying48 hi hz0 hz1 hz2 rfl (by decide) _ n (flatP s l) rfl (HO.out.alloc _) ⟨wr.heap.size, 0, none⟩ 1 1 [.int .i64 3, .string (s.extract i (i + 1)), .int .i64 (i : Int)] rfl rfl (part_new _ _ _ _ _) (part_one _ _ _) (by unfold maxLen; omega) (by omega) (by have := HB.out.size; simp; omega) ?_; intro v' w3 hown' hgrow3 hnil3
                   have HJ : Hid (w3.ownsRow w.heap.size 86 3 v' (n + 1) (flatP s (l ++ [(3, i, (i + 1))])) ∧ Below w.heap.size w w3) := ⟨by rw [flatP_append]; exact hown', Below.grown (HB.out.alloc HB.out.size _) hgrow3 (by have := HB.out.size; simp; omega) (fun k hk => by have := (HO.out.lt _ hk).1; omega)⟩
                   clear hown' hgrow3 hnil3))
              go_roundw
              case rel =>
                refine ⟨i + 1, fuel, l ++ [(3, i, i + 1)], by omega, by go_num, ?_, HJ.out.2, HG2, by omega, ?_⟩
                · rw [List.length_append, HN.out]; exact HJ.out.1
                · simp only [List.length_append, HN.out, List.length_singleton]; omega
              case measure => simp [intOf]; omega
        · have hp' : ¬ (i : Int) < (s.size : Int) := by omega
          have e : l = rparts s s.size 0 [] := by rw [HG.out, ← HS.out, rparts_end s fuel i l hp]
          go_wp2_with fail
          go_ret3
          exact ⟨HB.out, rsplit_yes _ e rfl (by rw [HN.out]; exact HO.out)⟩

theorem rsplit_long (s : ByteArray) (w : World) (hs : s.size ≤ maxLen) (hsz : ¬ s.size ≤ 2048) :
    Calls Tryd.prog 16 #[.string s] w fun e w' => e = .returned (.tuple #[.slice none 0 0, .int .i64 0, .int .i64 3]) ∧ w' = w := by
  unfold maxLen at hs
  have hsi : (2048 : Int) < (s.size : Int) := by omega
  go_enter Tryd.func16, Tryd.ntmps16
  go_wp2_with fail
  go_ret3
  exact ⟨rfl, rfl⟩

end Go.Proofs.YtaoocecipacnhaaDoor
