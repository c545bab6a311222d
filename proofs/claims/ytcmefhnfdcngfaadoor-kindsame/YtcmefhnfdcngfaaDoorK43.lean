import Derived.Test.YtcmefhnfdcngfaaDoorK35
import Derived.Test.YtcmefhnfdcngfaaDoorK42
/- KindSame: brackets about an expression, and a cast to its own kind, change no kind. -/
namespace Go.Proofs.YtcmefhnfdcngfaaDoor
open Go.RowKit
set_option linter.unusedVariables false

set_option maxRecDepth 100000 in
set_option maxHeartbeats 4000000 in
theorem lck_bad (s : ByteArray) (A E : Int) (hE : E ≠ 0) (w : World)
    (hC : Calls Tryd.prog 23 #[.string s] w fun e w' => Below w.heap.size w w' ∧ e = .returned (.tuple #[.agg #[.int .i64 0, .string ⟨#[]⟩, .slice none 0 0, .int .i64 0], .int .i64 A, .int .i64 E])) :
    Calls Tryd.prog 16 #[.string s] w fun e w' => e = .returned (.tuple #[.int .i64 0, .bool false, .int .i64 A, .int .i64 E]) ∧ Below w.heap.size w w' := by
  have HC : Hid (Calls Tryd.prog 23 #[.string s] w fun e w' => Below w.heap.size w w' ∧ e = .returned (.tuple #[.agg #[.int .i64 0, .string ⟨#[]⟩, .slice none 0 0, .int .i64 0], .int .i64 A, .int .i64 E])) := hC
  have g0 : (E == 0) = false := by simpa using hE
  clear hC
  go_enter Tryd.func16, Tryd.ntmps16
  go_wp2_with fail
  refine HC.out.mono ?_
  rintro e V ⟨hb, rfl⟩
  have HB : Hid (Below w.heap.size w (V.alloc (.cells [.int .i64 0, .string ⟨#[]⟩, .slice none 0 0, .int .i64 0].toArray 52))) := hb.alloc hb.size _
  clear hb HC
  go_wp2
  exact bodyPost_ret (v := .tuple #[.int .i64 0, .bool false, .int .i64 A, .int .i64 E]) (by simp [results, Tryd.results16, go_sem]) rfl ⟨rfl, HB.out⟩

set_option maxRecDepth 100000 in
set_option maxHeartbeats 4000000 in
theorem same_bad (s : ByteArray) (hs : s.size ≤ 140737488351232) (k a E : Int) (l : Bool) (hE : E ≠ 0) (C1 : Hid (∀ V : World, G23 V → Calls Tryd.prog 16 #[.string s] V fun e w' => e = .returned (.tuple #[.int .i64 k, .bool l, .int .i64 a, .int .i64 E]) ∧ Below V.heap.size V w')) (w : World) (hG : G23 w) :
    Calls Tryd.prog 5 #[.string s] w fun e w' => e = .returned (.bool true) ∧ Below w.heap.size w w' := by
  have g0 : (E == 0) = false := by simpa using hE
  have hsI : (s.size : Int) ≤ 140737488351232 := by omega
  have HG : Hid (G23 w) := hG
  clear hG
  go_enter Tryd.func5, Tryd.ntmps5
  go_wp2_with fail
  refine (C1.out w HG.out).mono ?_
  rintro e V1 ⟨rfl, b1⟩
  have B1 : Hid (Below w.heap.size w V1) := b1
  clear b1
  go_wp2_with fail
  refine (known23_any V1 (HG.out.below B1.out)).mono ?_
  rintro e V2 ⟨rfl, b2⟩
  have B2 : Hid (Below w.heap.size w V2) := B1.out.trans (b2.mono B1.out.size)
  clear b2 B1
  go_wp2
  go_ret
  exact ⟨rfl, B2.out⟩

set_option maxRecDepth 100000 in
set_option maxHeartbeats 4000000 in
theorem same_big (s : ByteArray) (hs : s.size ≤ 140737488351232) (hbig : 2018 < s.size) (k a : Int) (l : Bool) (C1 : Hid (∀ V : World, G23 V → Calls Tryd.prog 16 #[.string s] V fun e w' => e = .returned (.tuple #[.int .i64 k, .bool l, .int .i64 a, .int .i64 0]) ∧ Below V.heap.size V w')) (w : World) (hG : G23 w) :
    Calls Tryd.prog 5 #[.string s] w fun e w' => e = .returned (.bool true) ∧ Below w.heap.size w w' := by
  have hsI : (s.size : Int) ≤ 140737488351232 := by omega
  have hsJ : 2018 < (s.size : Int) := by omega
  have HG : Hid (G23 w) := hG
  clear hG
  go_enter Tryd.func5, Tryd.ntmps5
  go_wp2_with fail
  refine (C1.out w HG.out).mono ?_
  rintro e V1 ⟨rfl, b1⟩
  have B1 : Hid (Below w.heap.size w V1) := b1
  clear b1
  go_wp2_with fail
  refine (known23_any V1 (HG.out.below B1.out)).mono ?_
  rintro e V2 ⟨rfl, b2⟩
  have B2 : Hid (Below w.heap.size w V2) := B1.out.trans (b2.mono B1.out.size)
  clear b2 B1
  go_wp2
  go_ret
  exact ⟨rfl, B2.out⟩

set_option maxRecDepth 100000 in
set_option maxHeartbeats 4000000 in
theorem same_deep (s : ByteArray) (hs : s.size ≤ 2018) (k b : Int) (l : Bool) (C1 : Hid (∀ V : World, G23 V → Calls Tryd.prog 16 #[.string s] V fun e w' => e = .returned (.tuple #[.int .i64 k, .bool l, .int .i64 0, .int .i64 0]) ∧ Below V.heap.size V w')) (C2 : Hid (∀ V : World, G23 V → Calls Tryd.prog 16 #[.string ((⟨#[40]⟩ : ByteArray) ++ s ++ (⟨#[41]⟩ : ByteArray))] V fun e w' => e = .returned (.tuple #[.int .i64 0, .bool false, .int .i64 b, .int .i64 31]) ∧ Below V.heap.size V w')) (w : World) (hG : G23 w) :
    Calls Tryd.prog 5 #[.string s] w fun e w' => e = .returned (.bool true) ∧ Below w.heap.size w w' := by
  have hsI : (s.size : Int) ≤ 2018 := by omega
  have HG : Hid (G23 w) := hG
  clear hG
  go_enter Tryd.func5, Tryd.ntmps5
  go_wp2_with fail
  refine (C1.out w HG.out).mono ?_
  rintro e V1 ⟨rfl, b1⟩
  have B1 : Hid (Below w.heap.size w V1) := b1
  clear b1
  go_wp2_with fail
  refine (C2.out V1 (HG.out.below B1.out)).mono ?_
  rintro e V2 ⟨rfl, b2⟩
  have B2 : Hid (Below w.heap.size w V2) := B1.out.trans (b2.mono B1.out.size)
  clear b2 B1
  go_wp2_with fail
  refine (known23_any V2 (HG.out.below B2.out)).mono ?_
  rintro e V3 ⟨rfl, b3⟩
  have B3 : Hid (Below w.heap.size w V3) := B2.out.trans (b3.mono B2.out.size)
  clear b3 B2
  go_wp2
  go_ret
  exact ⟨rfl, B3.out⟩

set_option maxRecDepth 100000 in
set_option maxHeartbeats 4000000 in
theorem same_list (s : ByteArray) (hs : s.size ≤ 2018) (k b : Int) (l : Bool) (N : ByteArray) (hN : knN k = N) (hz : N.size ≤ 11)  (C1 : Hid (∀ V : World, G23 V → Calls Tryd.prog 16 #[.string s] V fun e w' => e = .returned (.tuple #[.int .i64 k, .bool true, .int .i64 0, .int .i64 0]) ∧ Below V.heap.size V w')) (C2 : Hid (∀ V : World, G23 V → Calls Tryd.prog 16 #[.string ((⟨#[40]⟩ : ByteArray) ++ s ++ (⟨#[41]⟩ : ByteArray))] V fun e w' => e = .returned (.tuple #[.int .i64 k, .bool true, .int .i64 0, .int .i64 0]) ∧ Below V.heap.size V w')) (C3 : Hid (∀ V : World, G23 V → Calls Tryd.prog 16 #[.string ((⟨#[40]⟩ : ByteArray) ++ s ++ (⟨#[41, 58, 58]⟩ : ByteArray) ++ N)] V fun e w' => e = .returned (.tuple #[.int .i64 0, .bool false, .int .i64 b, .int .i64 32]) ∧ Below V.heap.size V w')) (w : World) (hG : G23 w) :
    Calls Tryd.prog 5 #[.string s] w fun e w' => e = .returned (.bool true) ∧ Below w.heap.size w w' := by
  have hsI : (s.size : Int) ≤ 2018 := by omega
  have hzI : (N.size : Int) ≤ 11 := by omega
  have HN : Hid (∀ V : World, G23 V → Calls Tryd.prog 8 #[.int .i64 k] V fun e w' => e = .returned (.string N) ∧ Below V.heap.size V w') := fun V hV => by have q := name_any k V hV.2; rw [hN] at q; exact q
  clear hN
  have HG : Hid (G23 w) := hG
  clear hG
  go_enter Tryd.func5, Tryd.ntmps5
  go_wp2_with fail
  refine (C1.out w HG.out).mono ?_
  rintro e V1 ⟨rfl, b1⟩
  have B1 : Hid (Below w.heap.size w V1) := b1
  clear b1
  go_wp2_with fail
  refine (C2.out V1 (HG.out.below B1.out)).mono ?_
  rintro e V2 ⟨rfl, b2⟩
  have B2 : Hid (Below w.heap.size w V2) := B1.out.trans (b2.mono B1.out.size)
  clear b2 B1
  go_wp2_with fail
  refine (HN.out V2 (HG.out.below B2.out)).mono ?_
  rintro e V3 ⟨rfl, b3⟩
  have B3 : Hid (Below w.heap.size w V3) := B2.out.trans (b3.mono B2.out.size)
  clear b3 B2
  go_wp2_with fail
  refine (C3.out V3 (HG.out.below B3.out)).mono ?_
  rintro e V4 ⟨rfl, b4⟩
  have B4 : Hid (Below w.heap.size w V4) := B3.out.trans (b4.mono B3.out.size)
  clear b4 B3
  go_wp2_with fail
  refine (known23_any V4 (HG.out.below B4.out)).mono ?_
  rintro e V5 ⟨rfl, b5⟩
  have B5 : Hid (Below w.heap.size w V5) := B4.out.trans (b5.mono B4.out.size)
  clear b5 B4
  go_wp2
  go_ret
  exact ⟨rfl, B5.out⟩

set_option maxRecDepth 100000 in
set_option maxHeartbeats 4000000 in
theorem same_bool (s : ByteArray) (hs : s.size ≤ 2018) (k b : Int) (l : Bool) (N : ByteArray) (hN : knN 1 = N) (hz : N.size ≤ 11)  (C1 : Hid (∀ V : World, G23 V → Calls Tryd.prog 16 #[.string s] V fun e w' => e = .returned (.tuple #[.int .i64 1, .bool false, .int .i64 0, .int .i64 0]) ∧ Below V.heap.size V w')) (C2 : Hid (∀ V : World, G23 V → Calls Tryd.prog 16 #[.string ((⟨#[40]⟩ : ByteArray) ++ s ++ (⟨#[41]⟩ : ByteArray))] V fun e w' => e = .returned (.tuple #[.int .i64 1, .bool false, .int .i64 0, .int .i64 0]) ∧ Below V.heap.size V w')) (C3 : Hid (∀ V : World, G23 V → Calls Tryd.prog 16 #[.string ((⟨#[40]⟩ : ByteArray) ++ s ++ (⟨#[41, 58, 58]⟩ : ByteArray) ++ N)] V fun e w' => e = .returned (.tuple #[.int .i64 0, .bool false, .int .i64 b, .int .i64 32]) ∧ Below V.heap.size V w')) (w : World) (hG : G23 w) :
    Calls Tryd.prog 5 #[.string s] w fun e w' => e = .returned (.bool true) ∧ Below w.heap.size w w' := by
  have hsI : (s.size : Int) ≤ 2018 := by omega
  have hzI : (N.size : Int) ≤ 11 := by omega
  have HN : Hid (∀ V : World, G23 V → Calls Tryd.prog 8 #[.int .i64 1] V fun e w' => e = .returned (.string N) ∧ Below V.heap.size V w') := fun V hV => by have q := name_any 1 V hV.2; rw [hN] at q; exact q
  clear hN
  have HG : Hid (G23 w) := hG
  clear hG
  go_enter Tryd.func5, Tryd.ntmps5
  go_wp2_with fail
  refine (C1.out w HG.out).mono ?_
  rintro e V1 ⟨rfl, b1⟩
  have B1 : Hid (Below w.heap.size w V1) := b1
  clear b1
  go_wp2_with fail
  refine (C2.out V1 (HG.out.below B1.out)).mono ?_
  rintro e V2 ⟨rfl, b2⟩
  have B2 : Hid (Below w.heap.size w V2) := B1.out.trans (b2.mono B1.out.size)
  clear b2 B1
  go_wp2_with fail
  refine (HN.out V2 (HG.out.below B2.out)).mono ?_
  rintro e V3 ⟨rfl, b3⟩
  have B3 : Hid (Below w.heap.size w V3) := B2.out.trans (b3.mono B2.out.size)
  clear b3 B2
  go_wp2_with fail
  refine (C3.out V3 (HG.out.below B3.out)).mono ?_
  rintro e V4 ⟨rfl, b4⟩
  have B4 : Hid (Below w.heap.size w V4) := B3.out.trans (b4.mono B3.out.size)
  clear b4 B3
  go_wp2_with fail
  refine (known23_any V4 (HG.out.below B4.out)).mono ?_
  rintro e V5 ⟨rfl, b5⟩
  have B5 : Hid (Below w.heap.size w V5) := B4.out.trans (b5.mono B4.out.size)
  clear b5 B4
  go_wp2
  go_ret
  exact ⟨rfl, B5.out⟩

set_option maxRecDepth 100000 in
set_option maxHeartbeats 4000000 in
theorem same_kind (s : ByteArray) (hs : s.size ≤ 2018) (k b : Int) (l : Bool) (N : ByteArray) (hN : knN k = N) (hz : N.size ≤ 11) (hk : k ≠ 1) (C1 : Hid (∀ V : World, G23 V → Calls Tryd.prog 16 #[.string s] V fun e w' => e = .returned (.tuple #[.int .i64 k, .bool false, .int .i64 0, .int .i64 0]) ∧ Below V.heap.size V w')) (C2 : Hid (∀ V : World, G23 V → Calls Tryd.prog 16 #[.string ((⟨#[40]⟩ : ByteArray) ++ s ++ (⟨#[41]⟩ : ByteArray))] V fun e w' => e = .returned (.tuple #[.int .i64 k, .bool false, .int .i64 0, .int .i64 0]) ∧ Below V.heap.size V w')) (C3 : Hid (∀ V : World, G23 V → Calls Tryd.prog 16 #[.string ((⟨#[40]⟩ : ByteArray) ++ s ++ (⟨#[41, 58, 58]⟩ : ByteArray) ++ N)] V fun e w' => e = .returned (.tuple #[.int .i64 k, .bool false, .int .i64 0, .int .i64 0]) ∧ Below V.heap.size V w')) (w : World) (hG : G23 w) :
    Calls Tryd.prog 5 #[.string s] w fun e w' => e = .returned (.bool true) ∧ Below w.heap.size w w' := by
  have hsI : (s.size : Int) ≤ 2018 := by omega
  have hzI : (N.size : Int) ≤ 11 := by omega
  have HN : Hid (∀ V : World, G23 V → Calls Tryd.prog 8 #[.int .i64 k] V fun e w' => e = .returned (.string N) ∧ Below V.heap.size V w') := fun V hV => by have q := name_any k V hV.2; rw [hN] at q; exact q
  clear hN
  have g1 : (k == 1) = false := by simpa using hk
  have HG : Hid (G23 w) := hG
  clear hG
  go_enter Tryd.func5, Tryd.ntmps5
  go_wp2_with fail
  refine (C1.out w HG.out).mono ?_
  rintro e V1 ⟨rfl, b1⟩
  have B1 : Hid (Below w.heap.size w V1) := b1
  clear b1
  go_wp2_with fail
  refine (C2.out V1 (HG.out.below B1.out)).mono ?_
  rintro e V2 ⟨rfl, b2⟩
  have B2 : Hid (Below w.heap.size w V2) := B1.out.trans (b2.mono B1.out.size)
  clear b2 B1
  go_wp2_with fail
  refine (HN.out V2 (HG.out.below B2.out)).mono ?_
  rintro e V3 ⟨rfl, b3⟩
  have B3 : Hid (Below w.heap.size w V3) := B2.out.trans (b3.mono B2.out.size)
  clear b3 B2
  go_wp2_with fail
  refine (C3.out V3 (HG.out.below B3.out)).mono ?_
  rintro e V4 ⟨rfl, b4⟩
  have B4 : Hid (Below w.heap.size w V4) := B3.out.trans (b4.mono B3.out.size)
  clear b4 B3
  go_wp2_with fail
  refine (known23_any V4 (HG.out.below B4.out)).mono ?_
  rintro e V5 ⟨rfl, b5⟩
  have B5 : Hid (Below w.heap.size w V5) := B4.out.trans (b5.mono B4.out.size)
  clear b5 B4
  go_wp2
  go_ret
  exact ⟨rfl, B5.out⟩

theorem same_any23 (s : ByteArray) (hs : s.size ≤ 140737488351232) (w : World) (hG : G23 w) :
    Calls Tryd.prog 5 #[.string s] w fun e w' => e = .returned (.bool true) ∧ Below w.heap.size w w' := by
  by_cases h48 : s.size ≤ 2048
  · have hpl := parse_pl s h48
    cases hp : parseB s with
    | inl x =>
      rw [hp] at hpl
      refine same_bad s hs 0 x.1 x.2 false hpl.2.2 (fun V hV => lck_bad s x.1 x.2 hpl.2.2 V ?_) w hG
      have := parse_gl s V hV.1 h48
      rw [hp] at this
      exact this
    | inr n =>
      cases hC : chN n with
      | inl a => exact same_bad s hs 0 a 32 false (by omega) (fun V hV => lck_node h48 hp hC V hV) w hG
      | inr x =>
        obtain ⟨k, l⟩ := x
        have C1 : Hid (∀ V : World, G23 V → Calls Tryd.prog 16 #[.string s] V fun e w' => e = .returned (.tuple #[.int .i64 k, .bool l, .int .i64 0, .int .i64 0]) ∧ Below V.heap.size V w') := fun V hV => lck_node h48 hp hC V hV
        by_cases h18 : s.size ≤ 2018
        · obtain ⟨r1, r2⟩ := ch_rg hC
          obtain ⟨N, z, hcs⟩ := cs_all r1 r2
          have hz2 : ((⟨#[40]⟩ : ByteArray) ++ s ++ (⟨#[41]⟩ : ByteArray)).size ≤ 2048 := by simp only [ByteArray.size_append]; show 1 + s.size + 1 ≤ 2048; omega
          rcases parse_cast h48 hp hcs.2.1 hcs.2.2.1 with ⟨m, a, hal, p2, p3⟩ | ⟨b, p2⟩
          · have hm : chN m = .inr (k, l) := by
              have q := al_ch n m hal
              rw [hC] at q
              cases hcm : chN m with
              | inl y => rw [hcm] at q; exact q.elim
              | inr y => rw [hcm] at q; rw [show (k, l) = y from q]
            have C2 : Hid (∀ V : World, G23 V → Calls Tryd.prog 16 #[.string ((⟨#[40]⟩ : ByteArray) ++ s ++ (⟨#[41]⟩ : ByteArray))] V fun e w' => e = .returned (.tuple #[.int .i64 k, .bool l, .int .i64 0, .int .i64 0]) ∧ Below V.heap.size V w') := fun V hV => lck_node hz2 p2 hm V hV
            have hz3 : ((⟨#[40]⟩ : ByteArray) ++ s ++ (⟨#[41, 58, 58]⟩ : ByteArray) ++ N).size ≤ 2048 := by
              have := hcs.2.2.2.2.2
              simp only [ByteArray.size_append]; show 1 + s.size + 3 + N.size ≤ 2048; omega
            obtain ⟨t1, t2⟩ := ch_cast hcs (a := a) hm
            cases l with
            | true =>
              obtain ⟨b, hb⟩ := t1 (.inl rfl)
              exact same_list s h18 k b true N hcs.1 hcs.2.2.2.2.2 C1 C2 (fun V hV => lck_node hz3 p3 hb V hV) w hG
            | false =>
              by_cases hk : k = 1
              · obtain ⟨b, hb⟩ := t1 (.inr hk)
                subst hk
                exact same_bool s h18 1 b false N hcs.1 hcs.2.2.2.2.2 C1 C2 (fun V hV => lck_node hz3 p3 hb V hV) w hG
              · exact same_kind s h18 k 0 false N hcs.1 hcs.2.2.2.2.2 hk C1 C2 (fun V hV => lck_node hz3 p3 (t2 rfl hk) V hV) w hG
          · refine same_deep s h18 k b l C1 (fun V hV => lck_bad _ b 31 (by omega) V ?_) w hG
            have := parse_gl _ V hV.1 hz2
            rw [p2] at this
            exact this
        · exact same_big s hs (by omega) k 0 l C1 w hG
  · exact same_bad s hs 0 0 3 false (by omega) (fun V hV => lck_bad s 0 3 (by omega) V (parse_long s V (by unfold maxLen; omega) h48)) w hG

end Go.Proofs.YtcmefhnfdcngfaaDoor
