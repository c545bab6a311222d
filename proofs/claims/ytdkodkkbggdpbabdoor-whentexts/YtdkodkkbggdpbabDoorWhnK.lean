/- What the law's fixed calls come to. -/
import Derived.Test.YtdkodkkbggdpbabDoorWhnI
namespace Go.Proofs.YtdkodkkbggdpbabDoor
open Go.RowKit
set_option linter.unusedVariables false

set_option maxRecDepth 100000 in
set_option maxHeartbeats 8000000 in
theorem taken_any (k d n : Int) (w : World) :
    Calls Tryd.prog 19 #[.agg #[.int .i64 k, .int .i64 d, .int .i64 n]] w fun e w' => e = .returned (.agg #[.int .i64 k, .int .i64 d, .int .i64 n]) ∧ Below w.heap.size w w' := by
  go_enter Tryd.func19, Tryd.ntmps19
  go_wp2
  refine bodyPost_ret (v := .agg #[.int .i64 k, .int .i64 d, .int .i64 n]) (by simp [results, Tryd.results19, go_sem]) rfl ⟨rfl, (by repeat' (first | assumption | exact Below.refl _ _ | exact Nat.le_refl _ | refine Below.alloc ?_ ?_ _ | (simp; done) | (simp; omega) | omega))⟩

set_option maxRecDepth 100000 in
set_option maxHeartbeats 8000000 in
theorem given_any (k d n : Int) (w : World) :
    Calls Tryd.prog 22 #[.agg #[.int .i64 k, .int .i64 d, .int .i64 n]] w fun e w' => e = .returned (.agg #[.int .i64 k, .int .i64 d, .int .i64 n]) ∧ Below w.heap.size w w' := by
  go_enter Tryd.func22, Tryd.ntmps22
  go_wp2
  refine bodyPost_ret (v := .agg #[.int .i64 k, .int .i64 d, .int .i64 n]) (by simp [results, Tryd.results22, go_sem]) rfl ⟨rfl, (by repeat' (first | assumption | exact Below.refl _ _ | exact Nat.le_refl _ | refine Below.alloc ?_ ?_ _ | (simp; done) | (simp; omega) | omega))⟩

theorem k_readOn (w : World) : Calls Tryd.prog 13 #[.string ⟨#[108, 97, 115, 116, 83, 117, 110]⟩] w fun e w' => e = .returned (.tuple #[.agg #[.int .i64 1, .int .i64 0, .int .i64 0], .int .i64 0]) ∧ Below w.heap.size w w' := by
  have CU : Hid (∀ w : World, Calls Tryd.prog 64 #[.string ⟨#[108, 97, 115, 116, 83, 117, 110]⟩, .func (.func 65) #[] #[]] w fun e w' => e = .returned (.tuple #[.string ⟨#[108, 97, 115, 116, 83, 117, 110]⟩, .string ⟨#[]⟩]) ∧ Below w.heap.size w w') := fun w => by
    have R := cut_let [108, 97, 115, 116, 83, 117, 110] w (by unfold maxLen; decide)
    rw [show ([108, 97, 115, 116, 83, 117, 110] : List UInt8).takeWhile letC = [108, 97, 115, 116, 83, 117, 110] by decide, show ([108, 97, 115, 116, 83, 117, 110] : List UInt8).dropWhile letC = [] by decide] at R
    exact R
  have P : ∀ p : ByteArray, Lib.hasPrefix [] p.data.toList = false → Hid (∀ w : World, Calls Tryd.prog 67 #[.string ⟨#[]⟩, .string p] w fun e w' => e = .returned (.bool false) ∧ w' = w) := fun p hp w => by
    have R := Tryd.strings_HasPrefix ⟨#[]⟩ p w
    rw [show Lib.hasPrefix (⟨#[]⟩ : ByteArray).data.toList p.data.toList = false from hp] at R
    exact R
  have SA : Hid (∀ w : World, Calls Tryd.prog 69 #[.string ((⟨#[108, 97, 115, 116, 83, 117, 110]⟩ : ByteArray).extract 0 4), .string ⟨#[108, 97, 115, 116]⟩] w fun e w' => e = .returned (.bool true) ∧ Below w.heap.size w w') := fun w => by
    have R := Wrd.same_any ((⟨#[108, 97, 115, 116, 83, 117, 110]⟩ : ByteArray).extract 0 4) ⟨#[108, 97, 115, 116]⟩ (by decide +kernel) (by decide +kernel) w
    rw [show Wrd.sameB ((⟨#[108, 97, 115, 116, 83, 117, 110]⟩ : ByteArray).extract 0 4) ⟨#[108, 97, 115, 116]⟩ = true by decide +kernel] at R
    exact R
  have DY : Hid (∀ w : World, Calls Tryd.prog 68 #[.string ((⟨#[108, 97, 115, 116, 83, 117, 110]⟩ : ByteArray).extract 4 (⟨#[108, 97, 115, 116, 83, 117, 110]⟩ : ByteArray).size)] w fun e w' => e = .returned (.int .i64 0) ∧ Below w.heap.size w w') := fun w => by
    have R := Wrd.day_any ((⟨#[108, 97, 115, 116, 83, 117, 110]⟩ : ByteArray).extract 4 (⟨#[108, 97, 115, 116, 83, 117, 110]⟩ : ByteArray).size) (by decide +kernel) w
    rw [show Wrd.shortB ((⟨#[108, 97, 115, 116, 83, 117, 110]⟩ : ByteArray).extract 4 (⟨#[108, 97, 115, 116, 83, 117, 110]⟩ : ByteArray).size) Wrd.daysL = 0 by decide +kernel] at R
    exact R
  exact ron_fin _ 0 (by decide) (by decide) (fun w => rf_fin _ _ _ 0 (by decide) rfl (by decide) (by decide +kernel) CU (P _ (by decide)) (P _ (by decide)) SA DY w) w
theorem k_readAt (w : World) : Calls Tryd.prog 15 #[.string ⟨#[50, 58, 48, 48, 115]⟩] w fun e w' => e = .returned (.tuple #[.agg #[.int .i64 7200, .int .u8 115], .int .i64 0]) ∧ Below w.heap.size w w' := by
  have SE : Hid (∀ w : World, Calls Tryd.prog 39 #[.string ⟨#[50, 58, 48, 48, 115]⟩] w fun e w' => e = .returned (.tuple #[.int .i64 7200, .string ⟨#[115]⟩, .bool true]) ∧ Below w.heap.size w w') := fun w => by
    have R := seconds_any [50, 58, 48, 48, 115] (by decide) w
    rw [show sV [50, 58, 48, 48, 115] = 7200 by decide +kernel, show sOk [50, 58, 48, 48, 115] = true by decide +kernel, show ([50, 58, 48, 48, 115] : List UInt8).dropWhile faceC = [115] by decide] at R
    exact R
  have CK : Hid (∀ w : World, Calls Tryd.prog 40 #[.string ⟨#[115]⟩] w fun e w' => e = .returned (.int .u8 115) ∧ Below w.heap.size w w') := fun w => by
    have R := clockOf_any ⟨#[115]⟩ w
    rw [show clkV (⟨#[115]⟩ : ByteArray).toList = 115 by rw [Lib.toList_data]; decide] at R
    exact R
  exact rat_yes _ _ 7200 115 (by rw [Lib.toList_data]; decide) (by decide) SE CK w
theorem k_readSave (w : World) : Calls Tryd.prog 17 #[.string ⟨#[45, 49, 58, 48, 48]⟩] w fun e w' => e = .returned (.tuple #[.int .i64 (-3600), .int .i64 0]) ∧ Below w.heap.size w w' := by
  have SE : Hid (∀ w : World, Calls Tryd.prog 39 #[.string ⟨#[49, 58, 48, 48]⟩] w fun e w' => e = .returned (.tuple #[.int .i64 3600, .string ⟨#[]⟩, .bool true]) ∧ Below w.heap.size w w') := fun w => by
    have R := seconds_any [49, 58, 48, 48] (by decide) w
    rw [show sV [49, 58, 48, 48] = 3600 by decide +kernel, show sOk [49, 58, 48, 48] = true by decide +kernel, show ([49, 58, 48, 48] : List UInt8).dropWhile faceC = [] by decide] at R
    exact R
  have CP : Hid (∀ w : World, Calls Tryd.prog 43 #[.string ⟨#[45, 49, 58, 48, 48]⟩, .string ⟨#[45]⟩] w fun e w' => e = .returned (.tuple #[.string ⟨#[49, 58, 48, 48]⟩, .bool true]) ∧ w' = w) := fun w => by
    have R := Tryd.strings_CutPrefix ⟨#[45, 49, 58, 48, 48]⟩ ⟨#[45]⟩ w
    rw [show (⟨(Lib.trimPrefix (⟨#[45, 49, 58, 48, 48]⟩ : ByteArray).data.toList (⟨#[45]⟩ : ByteArray).data.toList).toArray⟩ : ByteArray) = ⟨#[49, 58, 48, 48]⟩ by decide, show Lib.hasPrefix (⟨#[45, 49, 58, 48, 48]⟩ : ByteArray).data.toList (⟨#[45]⟩ : ByteArray).data.toList = true by decide] at R
    exact R
  exact rsv_neg _ _ _ 3600 (by rw [Lib.toList_data]; decide) rfl (by decide) (by decide) CP SE w
theorem k_day (w : World) (hL : Cvl.Lens w) : Calls Tryd.prog 21 #[.int .i64 2024, .int .i64 3, .agg #[.int .i64 1, .int .i64 0, .int .i64 0]] w fun e w' => e = .returned (.tuple #[.int .i64 8856, .int .i64 0]) ∧ Below w.heap.size w w' := by
  have R := day_any 2024 3 1 0 0 w hL
  rw [show dyV 2024 3 1 0 0 = 8856 by decide +kernel, show dyE 2024 3 1 0 0 = 0 by decide +kernel] at R
  exact R
theorem k_days (w : World) : Calls Tryd.prog 28 #[.int .i64 2024, .int .i64 3, .int .i64 31] w fun e w' => e = .returned (.tuple #[.int .i64 8856, .int .i64 0]) ∧ w' = w := by
  have R := Cvl.rdays_yes 2024 3 31 (by decide +kernel) w
  rw [show Cv.S 2024 + Cv.cum 2024 3 + 31 - 1 = 8856 by decide +kernel] at R
  exact R

/-- the three blocks of the fixed calls' answers. -/
def KnS (w : World) (a b c : Nat) (W : World) : Prop :=
  OnS w a 1 0 0 W ∧ (b < W.heap.size ∧ W.cell? ⟨b, 0, none⟩ = some (.int .i64 7200) ∧ W.cell? ⟨b, 1, none⟩ = some (.int .u8 115)) ∧ OnS w c 1 0 0 W
theorem KnS.below {w W W1 : World} {a b c : Nat} (h : KnS w a b c W) (hb : Below W.heap.size W W1) : KnS w a b c W1 :=
  ⟨h.1.below hb, ⟨Nat.lt_of_lt_of_le h.2.1.1 hb.size, (hb.cell (p := ⟨b, 0, none⟩) h.2.1.1).trans h.2.1.2.1, (hb.cell (p := ⟨b, 1, none⟩) h.2.1.1).trans h.2.1.2.2⟩, h.2.2.below hb⟩
theorem KnS.drew {w W : World} {a b c : Nat} (h : KnS w a b c W) : KnS w a b c W.drew := ⟨h.1.drew, h.2.1, h.2.2.drew⟩
theorem OnS.more {w W : World} {a : Nat} {k d n : Int} (h : OnS w a k d n W) (ob : Obj) : OnS w a k d n (W.alloc ob) := h.below ((Below.refl _ _).alloc (Nat.le_refl _) _)
theorem OnS.put {w W : World} (h : Below w.heap.size w W) (k d n : Int) (t : TypeId) : OnS w W.heap.size k d n (W.alloc (.cells #[.int .i64 k, .int .i64 d, .int .i64 n] t)) := by
  have q := OnS.new W k d n t
  exact ⟨q.1, q.2.1, q.2.2.1, q.2.2.2.1, h.alloc h.size _⟩

set_option maxRecDepth 100000 in
set_option maxHeartbeats 8000000 in
theorem known_any (w : World) (hL : Cvl.Lens w) : Calls Tryd.prog 20 #[] w fun e w' => e = .returned (.bool true) ∧ Below w.heap.size w w' := by
  have C1 : Hid (∀ w : World, Calls Tryd.prog 13 #[.string ⟨#[108, 97, 115, 116, 83, 117, 110]⟩] w fun e w' => e = .returned (.tuple #[.agg #[.int .i64 1, .int .i64 0, .int .i64 0], .int .i64 0]) ∧ Below w.heap.size w w') := k_readOn
  have C2 : Hid (∀ w : World, Cvl.Lens w → Calls Tryd.prog 21 #[.int .i64 2024, .int .i64 3, .agg #[.int .i64 1, .int .i64 0, .int .i64 0]] w fun e w' => e = .returned (.tuple #[.int .i64 8856, .int .i64 0]) ∧ Below w.heap.size w w') := k_day
  have C3 : Hid (∀ w : World, Calls Tryd.prog 28 #[.int .i64 2024, .int .i64 3, .int .i64 31] w fun e w' => e = .returned (.tuple #[.int .i64 8856, .int .i64 0]) ∧ w' = w) := k_days
  have C4 : Hid (∀ w : World, Calls Tryd.prog 15 #[.string ⟨#[50, 58, 48, 48, 115]⟩] w fun e w' => e = .returned (.tuple #[.agg #[.int .i64 7200, .int .u8 115], .int .i64 0]) ∧ Below w.heap.size w w') := k_readAt
  have C5 : Hid (∀ w : World, Calls Tryd.prog 17 #[.string ⟨#[45, 49, 58, 48, 48]⟩] w fun e w' => e = .returned (.tuple #[.int .i64 (-3600), .int .i64 0]) ∧ Below w.heap.size w w') := k_readSave
  have TK : Hid (∀ w : World, Calls Tryd.prog 19 #[.agg #[.int .i64 1, .int .i64 0, .int .i64 0]] w fun e w' => e = .returned (.agg #[.int .i64 1, .int .i64 0, .int .i64 0]) ∧ Below w.heap.size w w') := taken_any 1 0 0
  have HL : Hid (Cvl.Lens w) := hL
  clear hL
  go_enter Tryd.func20, Tryd.ntmps20
  go_wp2_with fail
  refine (C1.out _).mono ?_
  rintro e w1 ⟨rfl, hb⟩
  have S1 : Hid (OnS w w1.heap.size 1 0 0 (w1.alloc (.cells #[.int .i64 1, .int .i64 0, .int .i64 0] 32))) := OnS.put hb 1 0 0 _
  clear hb
  go_wp2_with fail
  refine (C2.out _ (Lens_below HL.out S1.out.2.2.2.2 (Lens_lt HL.out))).mono ?_
  rintro e w2 ⟨rfl, hb⟩
  have S2 : Hid (OnS w w1.heap.size 1 0 0 w2) := S1.out.below hb
  clear hb S1
  go_wp2_with fail
  refine (C3.out _).mono ?_
  rintro e w2' ⟨rfl, rfl⟩
  go_wp2_with fail
  refine (C4.out _).mono ?_
  rintro e w3 ⟨rfl, hb⟩
  have S3 : Hid (OnS w w1.heap.size 1 0 0 (w3.alloc (.cells #[.int .i64 7200, .int .u8 115] 39))) := (S2.out.below hb).more _
  have A3 : Hid (w3.heap.size < (w3.alloc (.cells #[.int .i64 7200, .int .u8 115] 39)).heap.size ∧ (w3.alloc (.cells #[.int .i64 7200, .int .u8 115] 39)).cell? ⟨w3.heap.size, 0, none⟩ = some (.int .i64 7200) ∧ (w3.alloc (.cells #[.int .i64 7200, .int .u8 115] 39)).cell? ⟨w3.heap.size, 1, none⟩ = some (.int .u8 115)) := ⟨by simp, by rw [World.cell?_alloc_at _ _ _ _ rfl]; rfl, by rw [World.cell?_alloc_at _ _ _ _ rfl]; rfl⟩
  clear hb S2
  go_wp2_with fail
  refine (C5.out _).mono ?_
  rintro e w4 ⟨rfl, hb⟩
  have KS : Hid (KnS w w1.heap.size w3.heap.size w4.heap.size (w4.alloc (.cells #[.int .i64 1, .int .i64 0, .int .i64 0] 35))) := by
    have q := S3.out.below hb
    have r : Below w4.heap.size w4 (w4.alloc (.cells #[.int .i64 1, .int .i64 0, .int .i64 0] 35)) := (Below.refl _ _).alloc (Nat.le_refl _) _
    have z : w3.heap.size < w4.heap.size := Nat.lt_of_lt_of_le A3.out.1 hb.size
    exact ⟨q.more _, ⟨Nat.lt_of_lt_of_le z r.size, (r.cell (p := ⟨w3.heap.size, 0, none⟩) z).trans ((hb.cell (p := ⟨w3.heap.size, 0, none⟩) A3.out.1).trans A3.out.2.1), (r.cell (p := ⟨w3.heap.size, 1, none⟩) z).trans ((hb.cell (p := ⟨w3.heap.size, 1, none⟩) A3.out.1).trans A3.out.2.2)⟩, OnS.put q.2.2.2.2 1 0 0 _⟩
  clear hb S3 A3
  go_wp2_with fail
  refine wp_region_held_drew (S := KnS w w1.heap.size w3.heap.size w4.heap.size) (by kernel_rfl) KS.out.drew (fun hHeld => ?_)
  refine wpAnyH_take (i := 0) (v := ?_) (oi := { dst := some 34, op := _, type := _, pos := _, after := _, guard := none }) rfl (by kernel_rfl) (by kernel_rfl) (by kernel_rfl) (fun _ _ _ h => h) (Or.inl ⟨by kernel_rfl, ?_⟩) (by assumption) ?_
  case refine_2 => (intro w9 hSw; clear hSw; go_simp; try with_reducible rfl)
  simp only [Act.put, List.setIfInBounds_toArray, List.set_cons_zero, List.set_cons_succ]
  refine wpAnyH_take (i := 1) (v := ?_) (oi := { dst := some 35, op := _, type := _, pos := _, after := _, guard := none }) rfl (by kernel_rfl) (by kernel_rfl) (by kernel_rfl) (fun _ _ _ h => h) (Or.inl ⟨by kernel_rfl, ?_⟩) (by assumption) ?_
  case refine_2 => (intro w9 hSw; clear hSw; go_simp; try with_reducible rfl)
  simp only [Act.put, List.setIfInBounds_toArray, List.set_cons_zero, List.set_cons_succ]
  refine wpAnyH_take (i := 2) (v := ?_) (oi := { dst := some 36, op := _, type := _, pos := _, after := _, guard := none }) rfl (by kernel_rfl) (by kernel_rfl) (by kernel_rfl) (fun _ _ _ h => h) (Or.inl ⟨by kernel_rfl, ?_⟩) (by assumption) ?_
  case refine_2 => (intro w9 hSw; clear hSw; go_simp; try with_reducible rfl)
  simp only [Act.put, List.setIfInBounds_toArray, List.set_cons_zero, List.set_cons_succ]
  refine wpAnyH_take (i := 3) (v := ?_) (oi := { dst := some 37, op := _, type := _, pos := _, after := _, guard := some (2, true) }) rfl (by kernel_rfl) (by kernel_rfl) (by kernel_rfl) (fun _ _ _ h => h) (Or.inl ⟨by kernel_rfl, ?_⟩) (by assumption) ?_
  case refine_2 => (intro w9 hSw; obtain ⟨⟨sa, sb, sc, sd, se⟩, ⟨ta, tb, tc⟩, ⟨ua, ub, uc, ud, ue⟩⟩ := hSw; clear se ue; go_simp; try with_reducible rfl)
  simp only [Act.put, List.setIfInBounds_toArray, List.set_cons_zero, List.set_cons_succ]
  refine wpAnyH_take (i := 5) (v := ?_) (oi := { dst := some 39, op := _, type := _, pos := _, after := _, guard := some (2, true) }) rfl (by kernel_rfl) (by kernel_rfl) (by kernel_rfl) (fun _ _ _ h => h) (Or.inl ⟨by kernel_rfl, ?_⟩) (by assumption) ?_
  case refine_2 => (intro w9 hSw; obtain ⟨⟨sa, sb, sc, sd, se⟩, ⟨ta, tb, tc⟩, ⟨ua, ub, uc, ud, ue⟩⟩ := hSw; clear se ue; go_simp; try with_reducible rfl)
  simp only [Act.put, List.setIfInBounds_toArray, List.set_cons_zero, List.set_cons_succ]
  refine wpAnyH_ready (rs := [4]) (by kernel_rfl) (by simp) (AllReadyH.cons (o := { dst := some 38, op := _, type := _, pos := _, after := _, guard := some (2, true) }) rfl (fun K hK => ?_) AllReadyH.nil)
  go_simp
  refine (TK.out _).mono ?_
  rintro e v1 ⟨rfl, hb1⟩
  refine hK.out _ _ (hHeld.below hb1) (fun hHeld => ?_)
  clear hK K hb1
  refine wpAnyH_take (i := 6) (v := ?_) (oi := { dst := some 40, op := _, type := _, pos := _, after := _, guard := some (2, true) }) rfl (by kernel_rfl) (by kernel_rfl) (by kernel_rfl) (fun _ _ _ h => h) (Or.inl ⟨by kernel_rfl, ?_⟩) (by assumption) ?_
  case refine_2 => (intro w9 hSw; clear hSw; go_simp; try with_reducible rfl)
  simp only [Act.put, List.setIfInBounds_toArray, List.set_cons_zero, List.set_cons_succ]
  refine wpAnyH_take (i := 7) (v := ?_) (oi := { dst := some 41, op := _, type := _, pos := _, after := _, guard := none }) rfl (by kernel_rfl) (by kernel_rfl) (by kernel_rfl) (fun _ _ _ h => h) (Or.inl ⟨by kernel_rfl, ?_⟩) (by assumption) ?_
  case refine_2 => (intro w9 hSw; clear hSw; go_simp; try with_reducible rfl)
  simp only [Act.put, List.setIfInBounds_toArray, List.set_cons_zero, List.set_cons_succ]
  refine wpAnyH_take (i := 8) (v := ?_) (oi := { dst := some 42, op := _, type := _, pos := _, after := _, guard := none }) rfl (by kernel_rfl) (by kernel_rfl) (by kernel_rfl) (fun _ _ _ h => h) (Or.inl ⟨by kernel_rfl, ?_⟩) (by assumption) ?_
  case refine_2 => (intro w9 hSw; clear hSw; go_simp; try with_reducible rfl)
  simp only [Act.put, List.setIfInBounds_toArray, List.set_cons_zero, List.set_cons_succ]
  refine wpAnyH_take (i := 9) (v := ?_) (oi := { dst := some 43, op := _, type := _, pos := _, after := _, guard := some (8, true) }) rfl (by kernel_rfl) (by kernel_rfl) (by kernel_rfl) (fun _ _ _ h => h) (Or.inl ⟨by kernel_rfl, ?_⟩) (by assumption) ?_
  case refine_2 => (intro w9 hSw; clear hSw; go_simp; try with_reducible rfl)
  simp only [Act.put, List.setIfInBounds_toArray, List.set_cons_zero, List.set_cons_succ]
  refine wpAnyH_take (i := 10) (v := ?_) (oi := { dst := some 44, op := _, type := _, pos := _, after := _, guard := some (8, true) }) rfl (by kernel_rfl) (by kernel_rfl) (by kernel_rfl) (fun _ _ _ h => h) (Or.inl ⟨by kernel_rfl, ?_⟩) (by assumption) ?_
  case refine_2 => (intro w9 hSw; clear hSw; go_simp; try with_reducible rfl)
  simp only [Act.put, List.setIfInBounds_toArray, List.set_cons_zero, List.set_cons_succ]
  refine wpAnyH_take (i := 11) (v := ?_) (oi := { dst := some 45, op := _, type := _, pos := _, after := _, guard := some (8, true) }) rfl (by kernel_rfl) (by kernel_rfl) (by kernel_rfl) (fun _ _ _ h => h) (Or.inl ⟨by kernel_rfl, ?_⟩) (by assumption) ?_
  case refine_2 => (intro w9 hSw; clear hSw; go_simp; try with_reducible rfl)
  simp only [Act.put, List.setIfInBounds_toArray, List.set_cons_zero, List.set_cons_succ]
  refine wpAnyH_take (i := 12) (v := ?_) (oi := { dst := some 46, op := _, type := _, pos := _, after := _, guard := none }) rfl (by kernel_rfl) (by kernel_rfl) (by kernel_rfl) (fun _ _ _ h => h) (Or.inl ⟨by kernel_rfl, ?_⟩) (by assumption) ?_
  case refine_2 => (intro w9 hSw; clear hSw; go_simp; try with_reducible rfl)
  simp only [Act.put, List.setIfInBounds_toArray, List.set_cons_zero, List.set_cons_succ]
  refine wpAnyH_take (i := 13) (v := ?_) (oi := { dst := some 47, op := _, type := _, pos := _, after := _, guard := none }) rfl (by kernel_rfl) (by kernel_rfl) (by kernel_rfl) (fun _ _ _ h => h) (Or.inl ⟨by kernel_rfl, ?_⟩) (by assumption) ?_
  case refine_2 => (intro w9 hSw; clear hSw; go_simp; try with_reducible rfl)
  simp only [Act.put, List.setIfInBounds_toArray, List.set_cons_zero, List.set_cons_succ]
  refine wpAnyH_take (i := 14) (v := ?_) (oi := { dst := some 48, op := _, type := _, pos := _, after := _, guard := some (13, true) }) rfl (by kernel_rfl) (by kernel_rfl) (by kernel_rfl) (fun _ _ _ h => h) (Or.inl ⟨by kernel_rfl, ?_⟩) (by assumption) ?_
  case refine_2 => (intro w9 hSw; clear hSw; go_simp; try with_reducible rfl)
  simp only [Act.put, List.setIfInBounds_toArray, List.set_cons_zero, List.set_cons_succ]
  refine wpAnyH_take (i := 15) (v := ?_) (oi := { dst := some 49, op := _, type := _, pos := _, after := _, guard := some (13, true) }) rfl (by kernel_rfl) (by kernel_rfl) (by kernel_rfl) (fun _ _ _ h => h) (Or.inl ⟨by kernel_rfl, ?_⟩) (by assumption) ?_
  case refine_2 => (intro w9 hSw; clear hSw; go_simp; try with_reducible rfl)
  simp only [Act.put, List.setIfInBounds_toArray, List.set_cons_zero, List.set_cons_succ]
  refine wpAnyH_take (i := 16) (v := ?_) (oi := { dst := some 50, op := _, type := _, pos := _, after := _, guard := none }) rfl (by kernel_rfl) (by kernel_rfl) (by kernel_rfl) (fun _ _ _ h => h) (Or.inl ⟨by kernel_rfl, ?_⟩) (by assumption) ?_
  case refine_2 => (intro w9 hSw; clear hSw; go_simp; try with_reducible rfl)
  simp only [Act.put, List.setIfInBounds_toArray, List.set_cons_zero, List.set_cons_succ]
  refine wpAnyH_take (i := 17) (v := ?_) (oi := { dst := some 51, op := _, type := _, pos := _, after := _, guard := none }) rfl (by kernel_rfl) (by kernel_rfl) (by kernel_rfl) (fun _ _ _ h => h) (Or.inl ⟨by kernel_rfl, ?_⟩) (by assumption) ?_
  case refine_2 => (intro w9 hSw; clear hSw; go_simp; try with_reducible rfl)
  simp only [Act.put, List.setIfInBounds_toArray, List.set_cons_zero, List.set_cons_succ]
  refine wpAnyH_take (i := 18) (v := ?_) (oi := { dst := some 52, op := _, type := _, pos := _, after := _, guard := some (17, true) }) rfl (by kernel_rfl) (by kernel_rfl) (by kernel_rfl) (fun _ _ _ h => h) (Or.inl ⟨by kernel_rfl, ?_⟩) (by assumption) ?_
  case refine_2 => (intro w9 hSw; clear hSw; go_simp; try with_reducible rfl)
  simp only [Act.put, List.setIfInBounds_toArray, List.set_cons_zero, List.set_cons_succ]
  refine wpAnyH_take (i := 19) (v := ?_) (oi := { dst := some 53, op := _, type := _, pos := _, after := _, guard := some (17, true) }) rfl (by kernel_rfl) (by kernel_rfl) (by kernel_rfl) (fun _ _ _ h => h) (Or.inl ⟨by kernel_rfl, ?_⟩) (by assumption) ?_
  case refine_2 => (intro w9 hSw; obtain ⟨⟨sa, sb, sc, sd, se⟩, ⟨ta, tb, tc⟩, ⟨ua, ub, uc, ud, ue⟩⟩ := hSw; clear se ue; go_simp; try with_reducible rfl)
  simp only [Act.put, List.setIfInBounds_toArray, List.set_cons_zero, List.set_cons_succ]
  refine wpAnyH_take (i := 20) (v := ?_) (oi := { dst := some 54, op := _, type := _, pos := _, after := _, guard := some (17, true) }) rfl (by kernel_rfl) (by kernel_rfl) (by kernel_rfl) (fun _ _ _ h => h) (Or.inl ⟨by kernel_rfl, ?_⟩) (by assumption) ?_
  case refine_2 => (intro w9 hSw; clear hSw; go_simp; try with_reducible rfl)
  simp only [Act.put, List.setIfInBounds_toArray, List.set_cons_zero, List.set_cons_succ]
  refine wpAnyH_take (i := 21) (v := ?_) (oi := { dst := some 55, op := _, type := _, pos := _, after := _, guard := none }) rfl (by kernel_rfl) (by kernel_rfl) (by kernel_rfl) (fun _ _ _ h => h) (Or.inl ⟨by kernel_rfl, ?_⟩) (by assumption) ?_
  case refine_2 => (intro w9 hSw; clear hSw; go_simp; try with_reducible rfl)
  simp only [Act.put, List.setIfInBounds_toArray, List.set_cons_zero, List.set_cons_succ]
  refine wpAnyH_take (i := 22) (v := ?_) (oi := { dst := some 56, op := _, type := _, pos := _, after := _, guard := none }) rfl (by kernel_rfl) (by kernel_rfl) (by kernel_rfl) (fun _ _ _ h => h) (Or.inl ⟨by kernel_rfl, ?_⟩) (by assumption) ?_
  case refine_2 => (intro w9 hSw; clear hSw; go_simp; try with_reducible rfl)
  simp only [Act.put, List.setIfInBounds_toArray, List.set_cons_zero, List.set_cons_succ]
  refine wpAnyH_take (i := 23) (v := ?_) (oi := { dst := some 57, op := _, type := _, pos := _, after := _, guard := some (22, true) }) rfl (by kernel_rfl) (by kernel_rfl) (by kernel_rfl) (fun _ _ _ h => h) (Or.inl ⟨by kernel_rfl, ?_⟩) (by assumption) ?_
  case refine_2 => (intro w9 hSw; clear hSw; go_simp; try with_reducible rfl)
  simp only [Act.put, List.setIfInBounds_toArray, List.set_cons_zero, List.set_cons_succ]
  refine wpAnyH_take (i := 24) (v := ?_) (oi := { dst := some 58, op := _, type := _, pos := _, after := _, guard := some (22, true) }) rfl (by kernel_rfl) (by kernel_rfl) (by kernel_rfl) (fun _ _ _ h => h) (Or.inl ⟨by kernel_rfl, ?_⟩) (by assumption) ?_
  case refine_2 => (intro w9 hSw; obtain ⟨⟨sa, sb, sc, sd, se⟩, ⟨ta, tb, tc⟩, ⟨ua, ub, uc, ud, ue⟩⟩ := hSw; clear se ue; go_simp; try with_reducible rfl)
  simp only [Act.put, List.setIfInBounds_toArray, List.set_cons_zero, List.set_cons_succ]
  refine wpAnyH_take (i := 25) (v := ?_) (oi := { dst := some 59, op := _, type := _, pos := _, after := _, guard := some (22, true) }) rfl (by kernel_rfl) (by kernel_rfl) (by kernel_rfl) (fun _ _ _ h => h) (Or.inl ⟨by kernel_rfl, ?_⟩) (by assumption) ?_
  case refine_2 => (intro w9 hSw; clear hSw; go_simp; try with_reducible rfl)
  simp only [Act.put, List.setIfInBounds_toArray, List.set_cons_zero, List.set_cons_succ]
  refine wpAnyH_take (i := 26) (v := ?_) (oi := { dst := some 60, op := _, type := _, pos := _, after := _, guard := none }) rfl (by kernel_rfl) (by kernel_rfl) (by kernel_rfl) (fun _ _ _ h => h) (Or.inl ⟨by kernel_rfl, ?_⟩) (by assumption) ?_
  case refine_2 => (intro w9 hSw; clear hSw; go_simp; try with_reducible rfl)
  simp only [Act.put, List.setIfInBounds_toArray, List.set_cons_zero, List.set_cons_succ]
  refine wpAnyH_take (i := 27) (v := ?_) (oi := { dst := some 61, op := _, type := _, pos := _, after := _, guard := none }) rfl (by kernel_rfl) (by kernel_rfl) (by kernel_rfl) (fun _ _ _ h => h) (Or.inl ⟨by kernel_rfl, ?_⟩) (by assumption) ?_
  case refine_2 => (intro w9 hSw; clear hSw; go_simp; try with_reducible rfl)
  simp only [Act.put, List.setIfInBounds_toArray, List.set_cons_zero, List.set_cons_succ]
  refine wpAnyH_take (i := 28) (v := ?_) (oi := { dst := some 62, op := _, type := _, pos := _, after := _, guard := some (27, true) }) rfl (by kernel_rfl) (by kernel_rfl) (by kernel_rfl) (fun _ _ _ h => h) (Or.inl ⟨by kernel_rfl, ?_⟩) (by assumption) ?_
  case refine_2 => (intro w9 hSw; clear hSw; go_simp; try with_reducible rfl)
  simp only [Act.put, List.setIfInBounds_toArray, List.set_cons_zero, List.set_cons_succ]
  refine wpAnyH_take (i := 29) (v := ?_) (oi := { dst := some 63, op := _, type := _, pos := _, after := _, guard := some (27, true) }) rfl (by kernel_rfl) (by kernel_rfl) (by kernel_rfl) (fun _ _ _ h => h) (Or.inl ⟨by kernel_rfl, ?_⟩) (by assumption) ?_
  case refine_2 => (intro w9 hSw; clear hSw; go_simp; try with_reducible rfl)
  simp only [Act.put, List.setIfInBounds_toArray, List.set_cons_zero, List.set_cons_succ]
  refine wpAnyH_take (i := 30) (v := ?_) (oi := { dst := some 64, op := _, type := _, pos := _, after := _, guard := none }) rfl (by kernel_rfl) (by kernel_rfl) (by kernel_rfl) (fun _ _ _ h => h) (Or.inl ⟨by kernel_rfl, ?_⟩) (by assumption) ?_
  case refine_2 => (intro w9 hSw; clear hSw; go_simp; try with_reducible rfl)
  simp only [Act.put, List.setIfInBounds_toArray, List.set_cons_zero, List.set_cons_succ]
  refine wpAnyH_take (i := 31) (v := ?_) (oi := { dst := some 65, op := _, type := _, pos := _, after := _, guard := none }) rfl (by kernel_rfl) (by kernel_rfl) (by kernel_rfl) (fun _ _ _ h => h) (Or.inl ⟨by kernel_rfl, ?_⟩) (by assumption) ?_
  case refine_2 => (intro w9 hSw; clear hSw; go_simp; try with_reducible rfl)
  simp only [Act.put, List.setIfInBounds_toArray, List.set_cons_zero, List.set_cons_succ]
  refine wpAnyH_take (i := 32) (v := ?_) (oi := { dst := some 66, op := _, type := _, pos := _, after := _, guard := some (31, true) }) rfl (by kernel_rfl) (by kernel_rfl) (by kernel_rfl) (fun _ _ _ h => h) (Or.inl ⟨by kernel_rfl, ?_⟩) (by assumption) ?_
  case refine_2 => (intro w9 hSw; clear hSw; go_simp; try with_reducible rfl)
  simp only [Act.put, List.setIfInBounds_toArray, List.set_cons_zero, List.set_cons_succ]
  refine wpAnyH_take (i := 33) (v := ?_) (oi := { dst := some 67, op := _, type := _, pos := _, after := _, guard := some (31, true) }) rfl (by kernel_rfl) (by kernel_rfl) (by kernel_rfl) (fun _ _ _ h => h) (Or.inl ⟨by kernel_rfl, ?_⟩) (by assumption) ?_
  case refine_2 => (intro w9 hSw; clear hSw; go_simp; try with_reducible rfl)
  simp only [Act.put, List.setIfInBounds_toArray, List.set_cons_zero, List.set_cons_succ]
  refine wpAnyH_take (i := 34) (v := ?_) (oi := { dst := some 68, op := _, type := _, pos := _, after := _, guard := none }) rfl (by kernel_rfl) (by kernel_rfl) (by kernel_rfl) (fun _ _ _ h => h) (Or.inl ⟨by kernel_rfl, ?_⟩) (by assumption) ?_
  case refine_2 => (intro w9 hSw; clear hSw; go_simp; try with_reducible rfl)
  simp only [Act.put, List.setIfInBounds_toArray, List.set_cons_zero, List.set_cons_succ]
  refine wpAnyH_take (i := 35) (v := ?_) (oi := { dst := some 69, op := _, type := _, pos := _, after := _, guard := none }) rfl (by kernel_rfl) (by kernel_rfl) (by kernel_rfl) (fun _ _ _ h => h) (Or.inl ⟨by kernel_rfl, ?_⟩) (by assumption) ?_
  case refine_2 => (intro w9 hSw; clear hSw; go_simp; try with_reducible rfl)
  simp only [Act.put, List.setIfInBounds_toArray, List.set_cons_zero, List.set_cons_succ]
  refine wpAnyH_take (i := 36) (v := ?_) (oi := { dst := some 70, op := _, type := _, pos := _, after := _, guard := some (35, true) }) rfl (by kernel_rfl) (by kernel_rfl) (by kernel_rfl) (fun _ _ _ h => h) (Or.inl ⟨by kernel_rfl, ?_⟩) (by assumption) ?_
  case refine_2 => (intro w9 hSw; clear hSw; go_simp; try with_reducible rfl)
  simp only [Act.put, List.setIfInBounds_toArray, List.set_cons_zero, List.set_cons_succ]
  refine wpAnyH_take (i := 37) (v := ?_) (oi := { dst := some 71, op := _, type := _, pos := _, after := _, guard := some (35, true) }) rfl (by kernel_rfl) (by kernel_rfl) (by kernel_rfl) (fun _ _ _ h => h) (Or.inl ⟨by kernel_rfl, ?_⟩) (by assumption) ?_
  case refine_2 => (intro w9 hSw; clear hSw; go_simp; try with_reducible rfl)
  simp only [Act.put, List.setIfInBounds_toArray, List.set_cons_zero, List.set_cons_succ]
  refine wpAnyH_take (i := 38) (v := ?_) (oi := { dst := some 72, op := _, type := _, pos := _, after := _, guard := none }) rfl (by kernel_rfl) (by kernel_rfl) (by kernel_rfl) (fun _ _ _ h => h) (Or.inl ⟨by kernel_rfl, ?_⟩) (by assumption) ?_
  case refine_2 => (intro w9 hSw; clear hSw; go_simp; try with_reducible rfl)
  simp only [Act.put, List.setIfInBounds_toArray, List.set_cons_zero, List.set_cons_succ]
  refine wpAnyH_take (i := 39) (v := ?_) (oi := { dst := some 0, op := _, type := _, pos := _, after := _, guard := none }) rfl (by kernel_rfl) (by kernel_rfl) (by kernel_rfl) (fun _ _ _ h => h) (Or.inl ⟨by kernel_rfl, ?_⟩) (by assumption) ?_
  case refine_2 => (intro w9 hSw; clear hSw; go_simp; try with_reducible rfl)
  simp only [Act.put, List.setIfInBounds_toArray, List.set_cons_zero]
  refine wpAnyH_done (by kernel_rfl) ?_ _
  have HB : Hid (Below w.heap.size w _) := hHeld.1.2.2.2.2
  clear hHeld
  go_wp2
  go_ret
  exact ⟨rfl, HB.out⟩

end Go.Proofs.YtdkodkkbggdpbabDoor
