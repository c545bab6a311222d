/- Contract of the reference's long: how many bytes the rune at a place has. -/
import Derived.Test.YtaoocecipacnhaaDoorWdFq
namespace Go.Proofs.YtaoocecipacnhaaDoor
open Go.RowKit
set_option linter.unusedVariables false

/-- the bytes behind the second one, as they must be. -/
def conts (s : ByteArray) (i n : Nat) : Prop := ∀ k, 2 ≤ k → k < n → 128 ≤ bt s (i + k) ∧ bt s (i + k) ≤ 191

set_option maxRecDepth 100000 in
set_option maxHeartbeats 8000000 in
theorem long_short (s : ByteArray) (i c n lo hh : Nat) (hs : s.size ≤ 2048) (hi : i < s.size) (hc : bt s i = c) (h : 128 ≤ c) (hz : c < 256) (hcl : Cls c n lo hh) (hsh : s.size - i < n) (w : World) :
    Calls Tryd.prog 29 #[.string s, .int .i64 (i : Int)] w fun e w' => e = .returned (.int .i64 0) ∧ w' = w := by
  have hb := byte_eq s i hi
  rw [hc] at hb
  have hi' : (i : Int) < (s.size : Int) := by omega
  have h' : ¬ (c : Int) < 128 := by omega
  have i0 : (0 : Int) ≤ (i : Int) := by omega
  have hsh' : (s.size : Int) - (i : Int) < (n : Int) := by omega
  rcases hcl with ⟨x1, x2, rfl, rfl, rfl⟩ | ⟨rfl, rfl, rfl, rfl⟩ | ⟨rfl, rfl, rfl, rfl⟩ | ⟨⟨x1, x2, x3⟩, rfl, rfl, rfl⟩ | ⟨rfl, rfl, rfl, rfl⟩ | ⟨rfl, rfl, rfl, rfl⟩ | ⟨⟨x1, x2⟩, rfl, rfl, rfl⟩
  all_goals
    go_enter Tryd.func29, Tryd.ntmps29
    go_wp2_with fail
    all_goals first
      | (go_ret; exact ⟨rfl, rfl⟩)
      | (exfalso; omega)

set_option maxRecDepth 100000 in
set_option maxHeartbeats 8000000 in
theorem long_out (s : ByteArray) (i c n lo hh b : Nat) (hs : s.size ≤ 2048) (hi : i < s.size) (hc : bt s i = c) (h : 128 ≤ c) (hz : c < 256) (hcl : Cls c n lo hh) (hsh : ¬ s.size - i < n) (hbb : bt s (i + 1) = b) (hlo : b < lo ∨ hh < b) (w : World) :
    Calls Tryd.prog 29 #[.string s, .int .i64 (i : Int)] w fun e w' => e = .returned (.int .i64 0) ∧ w' = w := by
  have hb := byte_eq s i hi
  rw [hc] at hb
  have hi' : (i : Int) < (s.size : Int) := by omega
  have h' : ¬ (c : Int) < 128 := by omega
  have i0 : (0 : Int) ≤ (i : Int) := by omega
  have hsh' : ¬ (s.size : Int) - (i : Int) < (n : Int) := by omega
  have hn2 : 2 ≤ n ∧ n ≤ 4 ∧ 128 ≤ lo ∧ hh ≤ 191 := by unfold Cls at hcl; omega
  have h1 : i + 1 < s.size := by omega
  have hb1 := byte_eq s (i + 1) h1
  rw [hbb] at hb1
  have hbz : b < 256 := by rw [← hbb]; exact UInt8.toNat_lt _
  have h1' : (i : Int) + 1 < (s.size : Int) := by omega
  have hlo' : (b : Int) < (lo : Int) ∨ (hh : Int) < (b : Int) := by omega
  rcases hcl with ⟨x1, x2, rfl, rfl, rfl⟩ | ⟨rfl, rfl, rfl, rfl⟩ | ⟨rfl, rfl, rfl, rfl⟩ | ⟨⟨x1, x2, x3⟩, rfl, rfl, rfl⟩ | ⟨rfl, rfl, rfl, rfl⟩ | ⟨rfl, rfl, rfl, rfl⟩ | ⟨⟨x1, x2⟩, rfl, rfl, rfl⟩
  all_goals
    go_enter Tryd.func29, Tryd.ntmps29
    go_wp2_with fail
    all_goals first
      | (go_ret; exact ⟨rfl, rfl⟩)
      | (exfalso; omega)

set_option maxRecDepth 100000 in
set_option maxHeartbeats 8000000 in
theorem long_in2 (s : ByteArray) (i c lo hh b R : Nat) (hs : s.size ≤ 2048) (hi : i < s.size) (hc : bt s i = c) (h : 128 ≤ c) (hz : c < 256) (hcl : (194 ≤ c ∧ c ≤ 223 ∧ lo = 128 ∧ hh = 191)) (hsh : ¬ s.size - i < 2) (hbb : bt s (i + 1) = b) (hlo1 : ¬ b < lo) (hlo2 : ¬ hh < b)
    (HR1 : Hid (¬ conts s i 2 → R = 0)) (HR2 : Hid (conts s i 2 → R = 2)) (w : World) :
    Calls Tryd.prog 29 #[.string s, .int .i64 (i : Int)] w fun e w' => e = .returned (.int .i64 (R : Int)) ∧ w' = w := by
  have hb := byte_eq s i hi
  rw [hc] at hb
  have hi' : (i : Int) < (s.size : Int) := by omega
  have h' : ¬ (c : Int) < 128 := by omega
  have i0 : (0 : Int) ≤ (i : Int) := by omega
  have hsh' : ¬ (s.size : Int) - (i : Int) < 2 := by omega
  have h1 : i + 1 < s.size := by omega
  have hb1 := byte_eq s (i + 1) h1
  rw [hbb] at hb1
  have hbz : b < 256 := by rw [← hbb]; exact UInt8.toNat_lt _
  have h1' : (i : Int) + 1 < (s.size : Int) := by omega
  have hlo1' : ¬ (b : Int) < (lo : Int) := by omega
  have hlo2' : ¬ (hh : Int) < (b : Int) := by omega
  obtain ⟨x1, x2, rfl, rfl⟩ := hcl
  all_goals
    go_enter Tryd.func29, Tryd.ntmps29
    go_wp2_with fail
  all_goals first
    | (exfalso; omega)
    | (go_ret; exfalso; omega)
    | skip
  all_goals
    go_loop [9] (fun kk => ∃ k : Nat, 2 ≤ k ∧ k ≤ 2 ∧ kk = .int .i64 (k : Int) ∧ Hid (∀ j, 2 ≤ j → j < k → 128 ≤ bt s (i + j) ∧ bt s (i + j) ≤ 191)) (fun kk => 2 - (intOf kk).toNat)
    case atStart => exact ⟨2, Nat.le_refl _, by omega, rfl, fun j a b => by omega⟩
    case round =>
      obtain ⟨k, k2, kn, rfl, HK⟩ := hrel
      by_cases hk : k < 2
      · have hk' : (k : Int) < 2 := by omega
        have hks : i + k < s.size := by omega
        have hks' : (i : Int) + (k : Int) < (s.size : Int) := by omega
        have hk0 : (0 : Int) ≤ (i : Int) + (k : Int) := by omega
        have hto : ((i : Int) + (k : Int)).toNat = i + k := by omega
        have hbk := byte_eq s (i + k) hks
        obtain ⟨d, hd⟩ : ∃ d, bt s (i + k) = d := ⟨_, rfl⟩
        rw [hd] at hbk
        by_cases hok : 128 ≤ d ∧ d ≤ 191
        · have d1 : ¬ (d : Int) < 128 := by omega
          have d2 : ¬ (191 : Int) < (d : Int) := by omega
          go_wp2_with fail
          go_round
          case rel => exact ⟨k + 1, by omega, by omega, by go_num, fun j a b => by
            by_cases e : j = k
            · subst e; rw [hd]; exact hok
            · exact HK.out j a (by omega)⟩
          case measure => simp [intOf]; omega
        · have e : R = 0 := HR1.out (fun q => hok (by rw [← hd]; exact q k k2 hk))
          subst e
          go_wp2_with fail
          all_goals first
            | (exfalso; omega)
            | (go_ret; exact ⟨rfl, rfl⟩)
      · have hk' : ¬ (k : Int) < 2 := by omega
        obtain rfl : k = 2 := by omega
        have e : R = 2 := HR2.out HK.out
        subst e
        go_wp2_with fail
        go_ret
        exact ⟨rfl, rfl⟩

set_option maxRecDepth 100000 in
set_option maxHeartbeats 8000000 in
theorem long_in3 (s : ByteArray) (i c lo hh b R : Nat) (hs : s.size ≤ 2048) (hi : i < s.size) (hc : bt s i = c) (h : 128 ≤ c) (hz : c < 256) (hcl : (c = 224 ∧ lo = 160 ∧ hh = 191) ∨ (c = 237 ∧ lo = 128 ∧ hh = 159) ∨ ((225 ≤ c ∧ c ≤ 239 ∧ c ≠ 237) ∧ lo = 128 ∧ hh = 191)) (hsh : ¬ s.size - i < 3) (hbb : bt s (i + 1) = b) (hlo1 : ¬ b < lo) (hlo2 : ¬ hh < b)
    (HR1 : Hid (¬ conts s i 3 → R = 0)) (HR2 : Hid (conts s i 3 → R = 3)) (w : World) :
    Calls Tryd.prog 29 #[.string s, .int .i64 (i : Int)] w fun e w' => e = .returned (.int .i64 (R : Int)) ∧ w' = w := by
  have hb := byte_eq s i hi
  rw [hc] at hb
  have hi' : (i : Int) < (s.size : Int) := by omega
  have h' : ¬ (c : Int) < 128 := by omega
  have i0 : (0 : Int) ≤ (i : Int) := by omega
  have hsh' : ¬ (s.size : Int) - (i : Int) < 3 := by omega
  have h1 : i + 1 < s.size := by omega
  have hb1 := byte_eq s (i + 1) h1
  rw [hbb] at hb1
  have hbz : b < 256 := by rw [← hbb]; exact UInt8.toNat_lt _
  have h1' : (i : Int) + 1 < (s.size : Int) := by omega
  have hlo1' : ¬ (b : Int) < (lo : Int) := by omega
  have hlo2' : ¬ (hh : Int) < (b : Int) := by omega
  rcases hcl with ⟨rfl, rfl, rfl⟩ | ⟨rfl, rfl, rfl⟩ | ⟨⟨x1, x2, x3⟩, rfl, rfl⟩
  all_goals
    go_enter Tryd.func29, Tryd.ntmps29
    go_wp2_with fail
  all_goals first
    | (exfalso; omega)
    | (go_ret; exfalso; omega)
    | skip
  all_goals
    go_loop [9] (fun kk => ∃ k : Nat, 2 ≤ k ∧ k ≤ 3 ∧ kk = .int .i64 (k : Int) ∧ Hid (∀ j, 2 ≤ j → j < k → 128 ≤ bt s (i + j) ∧ bt s (i + j) ≤ 191)) (fun kk => 3 - (intOf kk).toNat)
    case atStart => exact ⟨2, Nat.le_refl _, by omega, rfl, fun j a b => by omega⟩
    case round =>
      obtain ⟨k, k2, kn, rfl, HK⟩ := hrel
      by_cases hk : k < 3
      · have hk' : (k : Int) < 3 := by omega
        have hks : i + k < s.size := by omega
        have hks' : (i : Int) + (k : Int) < (s.size : Int) := by omega
        have hk0 : (0 : Int) ≤ (i : Int) + (k : Int) := by omega
        have hto : ((i : Int) + (k : Int)).toNat = i + k := by omega
        have hbk := byte_eq s (i + k) hks
        obtain ⟨d, hd⟩ : ∃ d, bt s (i + k) = d := ⟨_, rfl⟩
        rw [hd] at hbk
        by_cases hok : 128 ≤ d ∧ d ≤ 191
        · have d1 : ¬ (d : Int) < 128 := by omega
          have d2 : ¬ (191 : Int) < (d : Int) := by omega
          go_wp2_with fail
          go_round
          case rel => exact ⟨k + 1, by omega, by omega, by go_num, fun j a b => by
            by_cases e : j = k
            · subst e; rw [hd]; exact hok
            · exact HK.out j a (by omega)⟩
          case measure => simp [intOf]; omega
        · have e : R = 0 := HR1.out (fun q => hok (by rw [← hd]; exact q k k2 hk))
          subst e
          go_wp2_with fail
          all_goals first
            | (exfalso; omega)
            | (go_ret; exact ⟨rfl, rfl⟩)
      · have hk' : ¬ (k : Int) < 3 := by omega
        obtain rfl : k = 3 := by omega
        have e : R = 3 := HR2.out HK.out
        subst e
        go_wp2_with fail
        go_ret
        exact ⟨rfl, rfl⟩

set_option maxRecDepth 100000 in
set_option maxHeartbeats 8000000 in
theorem long_in4 (s : ByteArray) (i c lo hh b R : Nat) (hs : s.size ≤ 2048) (hi : i < s.size) (hc : bt s i = c) (h : 128 ≤ c) (hz : c < 256) (hcl : (c = 240 ∧ lo = 144 ∧ hh = 191) ∨ (c = 244 ∧ lo = 128 ∧ hh = 143) ∨ ((241 ≤ c ∧ c ≤ 243) ∧ lo = 128 ∧ hh = 191)) (hsh : ¬ s.size - i < 4) (hbb : bt s (i + 1) = b) (hlo1 : ¬ b < lo) (hlo2 : ¬ hh < b)
    (HR1 : Hid (¬ conts s i 4 → R = 0)) (HR2 : Hid (conts s i 4 → R = 4)) (w : World) :
    Calls Tryd.prog 29 #[.string s, .int .i64 (i : Int)] w fun e w' => e = .returned (.int .i64 (R : Int)) ∧ w' = w := by
  have hb := byte_eq s i hi
  rw [hc] at hb
  have hi' : (i : Int) < (s.size : Int) := by omega
  have h' : ¬ (c : Int) < 128 := by omega
  have i0 : (0 : Int) ≤ (i : Int) := by omega
  have hsh' : ¬ (s.size : Int) - (i : Int) < 4 := by omega
  have h1 : i + 1 < s.size := by omega
  have hb1 := byte_eq s (i + 1) h1
  rw [hbb] at hb1
  have hbz : b < 256 := by rw [← hbb]; exact UInt8.toNat_lt _
  have h1' : (i : Int) + 1 < (s.size : Int) := by omega
  have hlo1' : ¬ (b : Int) < (lo : Int) := by omega
  have hlo2' : ¬ (hh : Int) < (b : Int) := by omega
  rcases hcl with ⟨rfl, rfl, rfl⟩ | ⟨rfl, rfl, rfl⟩ | ⟨⟨x1, x2⟩, rfl, rfl⟩
  all_goals
    go_enter Tryd.func29, Tryd.ntmps29
    go_wp2_with fail
  all_goals first
    | (exfalso; omega)
    | (go_ret; exfalso; omega)
    | skip
  all_goals
    go_loop [9] (fun kk => ∃ k : Nat, 2 ≤ k ∧ k ≤ 4 ∧ kk = .int .i64 (k : Int) ∧ Hid (∀ j, 2 ≤ j → j < k → 128 ≤ bt s (i + j) ∧ bt s (i + j) ≤ 191)) (fun kk => 4 - (intOf kk).toNat)
    case atStart => exact ⟨2, Nat.le_refl _, by omega, rfl, fun j a b => by omega⟩
    case round =>
      obtain ⟨k, k2, kn, rfl, HK⟩ := hrel
      by_cases hk : k < 4
      · have hk' : (k : Int) < 4 := by omega
        have hks : i + k < s.size := by omega
        have hks' : (i : Int) + (k : Int) < (s.size : Int) := by omega
        have hk0 : (0 : Int) ≤ (i : Int) + (k : Int) := by omega
        have hto : ((i : Int) + (k : Int)).toNat = i + k := by omega
        have hbk := byte_eq s (i + k) hks
        obtain ⟨d, hd⟩ : ∃ d, bt s (i + k) = d := ⟨_, rfl⟩
        rw [hd] at hbk
        by_cases hok : 128 ≤ d ∧ d ≤ 191
        · have d1 : ¬ (d : Int) < 128 := by omega
          have d2 : ¬ (191 : Int) < (d : Int) := by omega
          go_wp2_with fail
          go_round
          case rel => exact ⟨k + 1, by omega, by omega, by go_num, fun j a b => by
            by_cases e : j = k
            · subst e; rw [hd]; exact hok
            · exact HK.out j a (by omega)⟩
          case measure => simp [intOf]; omega
        · have e : R = 0 := HR1.out (fun q => hok (by rw [← hd]; exact q k k2 hk))
          subst e
          go_wp2_with fail
          all_goals first
            | (exfalso; omega)
            | (go_ret; exact ⟨rfl, rfl⟩)
      · have hk' : ¬ (k : Int) < 4 := by omega
        obtain rfl : k = 4 := by omega
        have e : R = 4 := HR2.out HK.out
        subst e
        go_wp2_with fail
        go_ret
        exact ⟨rfl, rfl⟩

theorem rlong_any (s : ByteArray) (i : Nat) (hs : s.size ≤ 2048) (hi : i < s.size) (w : World) :
    Calls Tryd.prog 29 #[.string s, .int .i64 (i : Int)] w fun e w' => e = .returned (.int .i64 (rlong s i : Int)) ∧ w' = w := by
  have hz : bt s i < 256 := UInt8.toNat_lt _
  unfold rlong
  by_cases h : bt s i < 128
  · rw [if_pos h]; exact long_low s i hs hi h w
  · rw [if_neg h]
    by_cases h0 : rN (bt s i) = 0
    · rw [if_pos (.inl h0)]
      refine long_none s i _ hs hi rfl (by omega) ?_ hz w
      unfold rN at h0
      by_cases a : 194 ≤ bt s i ∧ bt s i ≤ 223
      · rw [if_pos a] at h0; exact absurd h0 (by decide)
      · rw [if_neg a] at h0
        by_cases b : 224 ≤ bt s i ∧ bt s i ≤ 239
        · rw [if_pos b] at h0; exact absurd h0 (by decide)
        · rw [if_neg b] at h0
          by_cases d : 240 ≤ bt s i ∧ bt s i ≤ 244
          · rw [if_pos d] at h0; exact absurd h0 (by decide)
          · omega
    · have hcl := cls_of (bt s i) (by omega) hz h0
      obtain ⟨n, hn⟩ : ∃ n, rN (bt s i) = n := ⟨_, rfl⟩
      obtain ⟨lo, hlo⟩ : ∃ n, rLo (bt s i) = n := ⟨_, rfl⟩
      obtain ⟨hh, hhh⟩ : ∃ n, rHi (bt s i) = n := ⟨_, rfl⟩
      rw [hn] at h0 hcl ⊢
      rw [hlo] at hcl ⊢
      rw [hhh] at hcl ⊢
      by_cases hsh : s.size - i < n
      · rw [if_pos (.inr (.inl hsh))]
        exact long_short s i _ n lo hh hs hi rfl (by omega) hz hcl hsh w
      · by_cases ho : bt s (i + 1) < lo ∨ hh < bt s (i + 1)
        · rw [if_pos (.inr (.inr ho))]
          exact long_out s i _ n lo hh _ hs hi rfl (by omega) hz hcl hsh rfl ho w
        · rw [if_neg (fun q => by rcases q with q | q | q; exact h0 q; exact hsh q; exact ho q)]
          have hn24 : n = 2 ∨ n = 3 ∨ n = 4 := by unfold Cls at hcl; omega
          rcases hn24 with rfl | rfl | rfl
          · exact long_in2 s i _ lo hh _ _ hs hi rfl (by omega) hz (by unfold Cls at hcl; omega) hsh rfl (by omega) (by omega)
              (fun q => absurd (fun k a b => by omega) q) (fun _ => by simp) w
          · refine long_in3 s i _ lo hh _ _ hs hi rfl (by omega) hz (by unfold Cls at hcl; omega) hsh rfl (by omega) (by omega) (fun q => ?_) (fun q => ?_) w
            · rw [if_pos]
              refine ⟨by omega, ?_⟩
              apply Classical.byContradiction
              intro z
              exact q (fun k a b => by obtain rfl : k = 2 := by omega
                                       omega)
            · have := q 2 (by omega) (by omega)
              rw [if_neg (by omega), if_neg (by omega)]
          · refine long_in4 s i _ lo hh _ _ hs hi rfl (by omega) hz (by unfold Cls at hcl; omega) hsh rfl (by omega) (by omega) (fun q => ?_) (fun q => ?_) w
            · by_cases z2 : bt s (i + 2) < 128 ∨ 191 < bt s (i + 2)
              · rw [if_pos ⟨by omega, z2⟩]
              · rw [if_neg (fun y => z2 y.2), if_pos]
                refine ⟨by omega, ?_⟩
                apply Classical.byContradiction
                intro z
                exact q (fun k a b => by
                  have : k = 2 ∨ k = 3 := by omega
                  rcases this with rfl | rfl <;> omega)
            · have u2 := q 2 (by omega) (by omega)
              have u3 := q 3 (by omega) (by omega)
              rw [if_neg (by omega), if_neg (by omega)]

end Go.Proofs.YtaoocecipacnhaaDoor
