/- Contracts: the reference's ReadOn, a weekday at, behind or ahead of a number. -/
import Derived.Test.YtgnfkkcagbbhmaaGreatDoorWhnSq
namespace Go.Proofs.YtgnfkkcagbbhmaaGreatDoor
open Go.RowKit
set_option linter.unusedVariables false

theorem RdS.kind {w W : World} {b : Nat} {k d n : Int} (h : RdS w b k d n W) (k' : Int) : RdS w b k' d n (W.setCell ⟨b, 0, none⟩ (.int .i64 k')) := by
  obtain ⟨h0, ⟨h1, h2, h3, h4, h5, h6, h7⟩, h8⟩ := h
  exact ⟨h0.other h8 _ _, ⟨by simpa [World.setCell] using h1, World.cell?_setCell_same _ _ _ h2, (World.cell?_setCell_other _ _ _ _ (adr_ne (by decide))).trans h3, (World.cell?_setCell_other _ _ _ _ (adr_ne (by decide))).trans h4, by simpa using h5, by simpa using h6, by simpa using h7⟩, h8⟩

set_option maxRecDepth 100000 in
set_option maxHeartbeats 8000000 in
theorem ern_2_few {bb : Bool} (s : ByteArray) (N : Int) (h : N < 0) (hz : ¬ 4 < s.size) (hz2 : s.size ≤ 140737488351232) (l : List UInt8) (hs : Hid (s = ⟨l.toArray⟩)) (hl : s.size = l.length) (I : Nat) (d n : Int) (hI : I + 1 < l.length) (hno : Hid (∀ j, j < I → noE l j)) (hA : Hid (l[I]? = some 62)) (hC : Hid (l[I + 1]? = some 61))
    (SH : Hid (∀ w : World, Calls Tryz.prog 118 #[.string s] w fun e w' => e = .returned (.int .i64 N) ∧ Below w.heap.size w w'))
    (DY : Hid (∀ w : World, Calls Tryz.prog 119 #[.string (s.extract 0 I)] w fun e w' => e = .returned (.int .i64 d) ∧ Below w.heap.size w w'))
    (S2H : Hid (∀ w : World, Calls Tryz.prog 118 #[.string (s.extract (I + 2) l.length)] w fun e w' => e = .returned (.int .i64 n) ∧ Below w.heap.size w w'))
    (RO : Hid (∀ w : World, Calls Tryz.prog 65 #[.agg #[.int .i64 2, .int .i64 d, .int .i64 n]] w fun e w' => e = .returned (.bool bb) ∧ Below w.heap.size w w'))
    (w : World) :
    Calls Tryz.prog 88 #[.string s] w fun e w' => e = .returned (if bb = true then .tuple #[.agg #[.int .i64 2, .int .i64 d, .int .i64 n], .int .i64 0] else .tuple #[.agg #[.int .i64 0, .int .i64 0, .int .i64 0], .int .i64 21]) ∧ Below w.heap.size w w' := by
  have S0 : Hid (ResB w w.heap.size (w.alloc (.cells #[.int .i64 0, .int .i64 0, .int .i64 0] 67))) := ResB.new w _
  have h2 : ¬ (4 : Int) < (s.size : Int) := by omega
  rw [hl] at hz2
  go_enter Tryz.func88, Tryz.ntmps88
  go_wp2_with fail
  refine (SH.out _).mono ?_
  rintro e w1 ⟨rfl, hb⟩
  have R1 : Hid (ResB w w.heap.size w1) := S0.out.below hb
  clear hb S0
  have S1 : Hid (RdS w w1.heap.size (-1) 0 0 (w1.alloc (.cells #[.int .i64 (-1), .int .i64 0, .int .i64 0] 67))) := RdS.new R1.out _ _ _ _
  have S2 := S1
  clear S1
  go_wp2_with fail
  go_loopw [5] (fun iv W => ∃ i : Nat, i ≤ I ∧ iv = .int .i64 (i : Int) ∧ RdS w w1.heap.size (-1) 0 0 W) (fun iv _ => l.length - (intOf iv).toNat)
  case atStart => exact ⟨0, Nat.zero_le _, rfl, S2.out⟩
  case round =>
    obtain ⟨i, hi, rfl, hS⟩ := hrel
    have HS : Hid (RdS w w1.heap.size (-1) 0 0 wr) := hS
    clear hS
    have hlt : i + 1 < l.length := by omega
    have hlt' : (i : Int) + 1 < (l.length : Int) := by omega
    obtain ⟨a, ha⟩ : ∃ a, l[i]? = some a := ⟨l[i]'(by omega), List.getElem?_eq_getElem (by omega)⟩
    obtain ⟨c, hc⟩ : ∃ c, l[i + 1]? = some c := ⟨l[i + 1]'hlt, List.getElem?_eq_getElem hlt⟩
    have i1 := Clk.ix_of s l i a hs.out ha
    have i2 := ix1 s l i c hs.out hc
    by_cases hlast : i = I
    · subst hlast
      have e1 : a = 62 := by have := hA.out; rw [ha] at this; exact Option.some.inj this
      have e2 : c = 61 := by have := hC.out; rw [hc] at this; exact Option.some.inj this
      have f1 : (a.toNat : Int) = 62 := by rw [e1]; rfl
      have f2 : (c.toNat : Int) = 61 := by rw [e2]; rfl
      rw [f1] at i1
      rw [f2] at i2
      have sl : (i : Int) + 2 ≤ (l.length : Int) := by omega
      have sl0 : i ≤ l.length := by omega
      have sl2 : i + 2 ≤ l.length := by omega
      have sl3 : (0 : Int) ≤ (i : Int) + 2 := by omega
      have sl4 : ((i : Int) + 2).toNat = i + 2 := by omega
      have wr2 : IntKind.i64.wrap ((i : Int) + 2) = (i : Int) + 2 := by rw [IntKind.wrap_i64]; omega
      clear f1 f2 e1 e2 ha hc
      go_wp2_with fail
      refine wp_region_held_drew (S := RdE w w1.heap.size) (by kernel_rfl) ⟨_, _, _, HS.out.drew⟩ (fun hHeld => ?_)
      refine wpAnyH_take (i := 0) (v := ?_) (oi := { dst := some 49, op := _, type := _, pos := _, after := _, guard := none }) rfl (by kernel_rfl) (by kernel_rfl) (by kernel_rfl) (fun _ _ _ h => h) (Or.inl ⟨by kernel_rfl, ?_⟩) (by assumption) ?_
      case refine_2 => (intro w9 hSw; clear hSw; go_simp; try with_reducible rfl)
      simp only [Act.put, List.setIfInBounds_toArray, List.set_cons_zero, List.set_cons_succ]
      refine wpAnyH_take (i := 1) (v := ?_) (oi := { dst := some 50, op := _, type := _, pos := _, after := _, guard := none }) rfl (by kernel_rfl) (by kernel_rfl) (by kernel_rfl) (fun _ _ _ h => h) (Or.inl ⟨by kernel_rfl, ?_⟩) (by assumption) ?_
      case refine_2 => (intro w9 hSw; clear hSw; go_simp; try with_reducible rfl)
      simp only [Act.put, List.setIfInBounds_toArray, List.set_cons_zero, List.set_cons_succ]
      refine wpAnyH_take (i := 2) (v := ?_) (oi := { dst := some 51, op := _, type := _, pos := _, after := _, guard := none }) rfl (by kernel_rfl) (by kernel_rfl) (by kernel_rfl) (fun _ _ _ h => h) (Or.inl ⟨by kernel_rfl, ?_⟩) (by assumption) ?_
      case refine_2 => (intro w9 hSw; clear hSw; go_simp; try with_reducible rfl)
      simp only [Act.put, List.setIfInBounds_toArray, List.set_cons_zero, List.set_cons_succ]
      refine wpAnyH_take (i := 4) (v := ?_) (oi := { dst := some 53, op := _, type := _, pos := _, after := _, guard := none }) rfl (by kernel_rfl) (by kernel_rfl) (by kernel_rfl) (fun _ _ _ h => h) (Or.inl ⟨by kernel_rfl, ?_⟩) (by assumption) ?_
      case refine_2 => (intro w9 hSw; clear hSw; go_simp; try with_reducible rfl)
      simp only [Act.put, List.setIfInBounds_toArray, List.set_cons_zero, List.set_cons_succ]
      refine wpAnyH_take (i := 5) (v := ?_) (oi := { dst := some 54, op := _, type := _, pos := _, after := _, guard := none }) rfl (by kernel_rfl) (by kernel_rfl) (by kernel_rfl) (fun _ _ _ h => h) (Or.inl ⟨by kernel_rfl, ?_⟩) (by assumption) ?_
      case refine_2 => (intro w9 hSw; clear hSw; go_simp; try with_reducible rfl)
      simp only [Act.put, List.setIfInBounds_toArray, List.set_cons_zero, List.set_cons_succ]
      refine wpAnyH_take (i := 6) (v := ?_) (oi := { dst := some 55, op := _, type := _, pos := _, after := _, guard := none }) rfl (by kernel_rfl) (by kernel_rfl) (by kernel_rfl) (fun _ _ _ h => h) (Or.inl ⟨by kernel_rfl, ?_⟩) (by assumption) ?_
      case refine_2 => (intro w9 hSw; clear hSw; go_simp; try with_reducible rfl)
      simp only [Act.put, List.setIfInBounds_toArray, List.set_cons_zero, List.set_cons_succ]
      refine wpAnyH_take (i := 7) (v := ?_) (oi := { dst := some 56, op := _, type := _, pos := _, after := _, guard := none }) rfl (by kernel_rfl) (by kernel_rfl) (by kernel_rfl) (fun _ _ _ h => h) (Or.inl ⟨by kernel_rfl, ?_⟩) (by assumption) ?_
      case refine_2 => (intro w9 hSw; clear hSw; go_simp; try with_reducible rfl)
      simp only [Act.put, List.setIfInBounds_toArray, List.set_cons_zero, List.set_cons_succ]
      refine wpAnyH_ready (rs := [3]) (by kernel_rfl) (by simp) (AllReadyH.cons (o := { dst := some 52, op := _, type := _, pos := _, after := _, guard := none }) rfl (fun K hK => ?_) AllReadyH.nil)
      go_simp
      refine (DY.out _).mono ?_
      rintro e v1 ⟨rfl, hb1⟩
      refine hK.out _ _ (hHeld.below hb1) (fun hHeld => ?_)
      clear hK K hb1
      refine wpAnyH_ready (rs := [8]) (by kernel_rfl) (by simp) (AllReadyH.cons (o := { dst := some 57, op := _, type := _, pos := _, after := _, guard := none }) rfl (fun K hK => ?_) AllReadyH.nil)
      go_simp
      refine (S2H.out _).mono ?_
      rintro e v2 ⟨rfl, hb2⟩
      refine hK.out _ _ (hHeld.below hb2) (fun hHeld => ?_)
      clear hK K hb2
      refine wpAnyH_take (i := 9) (v := ?_) (oi := { dst := some 58, op := _, type := _, pos := _, after := _, guard := none }) rfl (by kernel_rfl) (by kernel_rfl) (by kernel_rfl) (fun _ _ _ h => h) (Or.inl ⟨by kernel_rfl, ?_⟩) (by assumption) ?_
      case refine_2 => (intro w9 hSw; clear hSw; go_simp; try with_reducible rfl)
      simp only [Act.put, List.setIfInBounds_toArray, List.set_cons_zero, List.set_cons_succ]
      refine wpAnyH_ready (rs := [10]) (by kernel_rfl) (by simp) (AllReadyH.cons (o := { dst := none, op := _, type := _, pos := _, after := _, guard := none }) rfl (fun K hK => ?_) AllReadyH.nil)
      obtain ⟨k0, d0, n0, hr⟩ := hHeld
      have NS : Hid (RdS w w1.heap.size 2 d n _) := hr.set 2 d n
      obtain ⟨_, ⟨x1, x2, x3, x4, x5, x6, x7⟩, x8⟩ := id hr
      go_simp
      refine hK.out _ _ ⟨2, d, n, NS.out⟩ (fun hHeld => ?_)
      clear hK K x1 x2 x3 x4 x5 x6 x7 x8 hr
      refine wpAnyH_done (by kernel_rfl) ?_ _
      obtain ⟨_, ⟨x1, x2, x3, x4, x5, x6, x7⟩, x8⟩ := id NS.out
      clear hHeld
      go_wp2_with fail
      refine (RO.out _).mono ?_
      rintro e w9 ⟨rfl, hb⟩
      have S9 : Hid (RdS w w1.heap.size 2 d n w9) := (NS.out).below hb
      clear hb
      obtain ⟨⟨q1, q2, q3, q4, q5, q6, q7, q8⟩, ⟨z1, z2, z3, z4, z5, z6, z7⟩, z8⟩ := id S9.out
      cases bb
      · obtain ⟨y1, y2, y3⟩ := three_set (x := .int .i64 0) (y := .int .i64 0) (z := .int .i64 0) q2 q3 q4
        have HB : Hid (Below w.heap.size w w9) := q8
        clear q8
        go_wp2
        refine bodyPost_ret (v := .tuple #[.agg #[.int .i64 0, .int .i64 0, .int .i64 0], .int .i64 21]) (by simp [results, Tryz.results88, go_sem, y1, y2, y3]) rfl ⟨rfl, ?_⟩
        exact ((HB.out.setCell (Nat.le_refl _) _).setCell (Nat.le_refl _) _).setCell (Nat.le_refl _) _
      · obtain ⟨y1, y2, y3⟩ := three_set (x := .int .i64 2) (y := .int .i64 d) (z := .int .i64 n) q2 q3 q4
        have HB : Hid (Below w.heap.size w w9) := q8
        clear q8
        go_wp2
        refine bodyPost_ret (v := .tuple #[.agg #[.int .i64 2, .int .i64 d, .int .i64 n], .int .i64 0]) (by simp [results, Tryz.results88, go_sem, y1, y2, y3]) rfl ⟨rfl, ?_⟩
        exact ((HB.out.setCell (Nat.le_refl _) _).setCell (Nat.le_refl _) _).setCell (Nat.le_refl _) _
    · have hil : i < I := by omega
      have hn := hno.out i hil
      unfold noE at hn
      rw [ha, hc] at hn
      by_cases c1 : c = 61
      · have hn' : a ≠ 62 ∧ a ≠ 60 := by
          rcases hn with hn | hn
          · exact absurd (by rw [c1]) hn
          · exact ⟨fun e => hn.1 (by rw [e]), fun e => hn.2 (by rw [e])⟩
        have b1 : ((a.toNat : Int) == 62) = false := beq_eq_false_iff_ne.2 (fun e => hn'.1 (UInt8.toNat_inj.1 (by have : (62 : UInt8).toNat = 62 := rfl; omega)))
        have b2 : ((a.toNat : Int) == 60) = false := beq_eq_false_iff_ne.2 (fun e => hn'.2 (UInt8.toNat_inj.1 (by have : (60 : UInt8).toNat = 60 := rfl; omega)))
        have b3 : ((c.toNat : Int) == 61) = true := by rw [c1]; rfl
        clear hn hn' c1 ha hc hlast
        generalize (a.toNat : Int) = A at *
        generalize (c.toNat : Int) = Q at *
        go_wp2_with fail
        go_roundw
        case rel => exact ⟨i + 1, by omega, by go_num, HS.out⟩
        case measure => simp [intOf]; omega
      · have b3 : ((c.toNat : Int) == 61) = false := beq_eq_false_iff_ne.2 (fun e => c1 (UInt8.toNat_inj.1 (by have : (61 : UInt8).toNat = 61 := rfl; omega)))
        clear hn c1 ha hc hlast
        generalize (a.toNat : Int) = A at *
        generalize (c.toNat : Int) = Q at *
        go_wp2_with fail
        go_roundw
        case rel => exact ⟨i + 1, by omega, by go_num, HS.out⟩
        case measure => simp [intOf]; omega

set_option maxRecDepth 100000 in
set_option maxHeartbeats 8000000 in
theorem ern_3_few {bb : Bool} (s : ByteArray) (N : Int) (h : N < 0) (hz : ¬ 4 < s.size) (hz2 : s.size ≤ 140737488351232) (l : List UInt8) (hs : Hid (s = ⟨l.toArray⟩)) (hl : s.size = l.length) (I : Nat) (d n : Int) (hI : I + 1 < l.length) (hno : Hid (∀ j, j < I → noE l j)) (hA : Hid (l[I]? = some 60)) (hC : Hid (l[I + 1]? = some 61))
    (SH : Hid (∀ w : World, Calls Tryz.prog 118 #[.string s] w fun e w' => e = .returned (.int .i64 N) ∧ Below w.heap.size w w'))
    (DY : Hid (∀ w : World, Calls Tryz.prog 119 #[.string (s.extract 0 I)] w fun e w' => e = .returned (.int .i64 d) ∧ Below w.heap.size w w'))
    (S2H : Hid (∀ w : World, Calls Tryz.prog 118 #[.string (s.extract (I + 2) l.length)] w fun e w' => e = .returned (.int .i64 n) ∧ Below w.heap.size w w'))
    (RO : Hid (∀ w : World, Calls Tryz.prog 65 #[.agg #[.int .i64 3, .int .i64 d, .int .i64 n]] w fun e w' => e = .returned (.bool bb) ∧ Below w.heap.size w w'))
    (w : World) :
    Calls Tryz.prog 88 #[.string s] w fun e w' => e = .returned (if bb = true then .tuple #[.agg #[.int .i64 3, .int .i64 d, .int .i64 n], .int .i64 0] else .tuple #[.agg #[.int .i64 0, .int .i64 0, .int .i64 0], .int .i64 21]) ∧ Below w.heap.size w w' := by
  have S0 : Hid (ResB w w.heap.size (w.alloc (.cells #[.int .i64 0, .int .i64 0, .int .i64 0] 67))) := ResB.new w _
  have h2 : ¬ (4 : Int) < (s.size : Int) := by omega
  rw [hl] at hz2
  go_enter Tryz.func88, Tryz.ntmps88
  go_wp2_with fail
  refine (SH.out _).mono ?_
  rintro e w1 ⟨rfl, hb⟩
  have R1 : Hid (ResB w w.heap.size w1) := S0.out.below hb
  clear hb S0
  have S1 : Hid (RdS w w1.heap.size (-1) 0 0 (w1.alloc (.cells #[.int .i64 (-1), .int .i64 0, .int .i64 0] 67))) := RdS.new R1.out _ _ _ _
  have S2 := S1
  clear S1
  go_wp2_with fail
  go_loopw [5] (fun iv W => ∃ i : Nat, i ≤ I ∧ iv = .int .i64 (i : Int) ∧ RdS w w1.heap.size (-1) 0 0 W) (fun iv _ => l.length - (intOf iv).toNat)
  case atStart => exact ⟨0, Nat.zero_le _, rfl, S2.out⟩
  case round =>
    obtain ⟨i, hi, rfl, hS⟩ := hrel
    have HS : Hid (RdS w w1.heap.size (-1) 0 0 wr) := hS
    clear hS
    have hlt : i + 1 < l.length := by omega
    have hlt' : (i : Int) + 1 < (l.length : Int) := by omega
    obtain ⟨a, ha⟩ : ∃ a, l[i]? = some a := ⟨l[i]'(by omega), List.getElem?_eq_getElem (by omega)⟩
    obtain ⟨c, hc⟩ : ∃ c, l[i + 1]? = some c := ⟨l[i + 1]'hlt, List.getElem?_eq_getElem hlt⟩
    have i1 := Clk.ix_of s l i a hs.out ha
    have i2 := ix1 s l i c hs.out hc
    by_cases hlast : i = I
    · subst hlast
      have e1 : a = 60 := by have := hA.out; rw [ha] at this; exact Option.some.inj this
      have e2 : c = 61 := by have := hC.out; rw [hc] at this; exact Option.some.inj this
      have f1 : (a.toNat : Int) = 60 := by rw [e1]; rfl
      have f2 : (c.toNat : Int) = 61 := by rw [e2]; rfl
      rw [f1] at i1
      rw [f2] at i2
      have sl : (i : Int) + 2 ≤ (l.length : Int) := by omega
      have sl0 : i ≤ l.length := by omega
      have sl2 : i + 2 ≤ l.length := by omega
      have sl3 : (0 : Int) ≤ (i : Int) + 2 := by omega
      have sl4 : ((i : Int) + 2).toNat = i + 2 := by omega
      have wr2 : IntKind.i64.wrap ((i : Int) + 2) = (i : Int) + 2 := by rw [IntKind.wrap_i64]; omega
      clear f1 f2 e1 e2 ha hc
      go_wp2_with fail
      refine wp_region_held_drew (S := RdE w w1.heap.size) (by kernel_rfl) ⟨_, _, _, HS.out.drew⟩ (fun hHeld => ?_)
      refine wpAnyH_take (i := 0) (v := ?_) (oi := { dst := some 49, op := _, type := _, pos := _, after := _, guard := none }) rfl (by kernel_rfl) (by kernel_rfl) (by kernel_rfl) (fun _ _ _ h => h) (Or.inl ⟨by kernel_rfl, ?_⟩) (by assumption) ?_
      case refine_2 => (intro w9 hSw; clear hSw; go_simp; try with_reducible rfl)
      simp only [Act.put, List.setIfInBounds_toArray, List.set_cons_zero, List.set_cons_succ]
      refine wpAnyH_take (i := 1) (v := ?_) (oi := { dst := some 50, op := _, type := _, pos := _, after := _, guard := none }) rfl (by kernel_rfl) (by kernel_rfl) (by kernel_rfl) (fun _ _ _ h => h) (Or.inl ⟨by kernel_rfl, ?_⟩) (by assumption) ?_
      case refine_2 => (intro w9 hSw; clear hSw; go_simp; try with_reducible rfl)
      simp only [Act.put, List.setIfInBounds_toArray, List.set_cons_zero, List.set_cons_succ]
      refine wpAnyH_take (i := 2) (v := ?_) (oi := { dst := some 51, op := _, type := _, pos := _, after := _, guard := none }) rfl (by kernel_rfl) (by kernel_rfl) (by kernel_rfl) (fun _ _ _ h => h) (Or.inl ⟨by kernel_rfl, ?_⟩) (by assumption) ?_
      case refine_2 => (intro w9 hSw; clear hSw; go_simp; try with_reducible rfl)
      simp only [Act.put, List.setIfInBounds_toArray, List.set_cons_zero, List.set_cons_succ]
      refine wpAnyH_take (i := 4) (v := ?_) (oi := { dst := some 53, op := _, type := _, pos := _, after := _, guard := none }) rfl (by kernel_rfl) (by kernel_rfl) (by kernel_rfl) (fun _ _ _ h => h) (Or.inl ⟨by kernel_rfl, ?_⟩) (by assumption) ?_
      case refine_2 => (intro w9 hSw; clear hSw; go_simp; try with_reducible rfl)
      simp only [Act.put, List.setIfInBounds_toArray, List.set_cons_zero, List.set_cons_succ]
      refine wpAnyH_take (i := 5) (v := ?_) (oi := { dst := some 54, op := _, type := _, pos := _, after := _, guard := none }) rfl (by kernel_rfl) (by kernel_rfl) (by kernel_rfl) (fun _ _ _ h => h) (Or.inl ⟨by kernel_rfl, ?_⟩) (by assumption) ?_
      case refine_2 => (intro w9 hSw; clear hSw; go_simp; try with_reducible rfl)
      simp only [Act.put, List.setIfInBounds_toArray, List.set_cons_zero, List.set_cons_succ]
      refine wpAnyH_take (i := 6) (v := ?_) (oi := { dst := some 55, op := _, type := _, pos := _, after := _, guard := none }) rfl (by kernel_rfl) (by kernel_rfl) (by kernel_rfl) (fun _ _ _ h => h) (Or.inl ⟨by kernel_rfl, ?_⟩) (by assumption) ?_
      case refine_2 => (intro w9 hSw; clear hSw; go_simp; try with_reducible rfl)
      simp only [Act.put, List.setIfInBounds_toArray, List.set_cons_zero, List.set_cons_succ]
      refine wpAnyH_take (i := 7) (v := ?_) (oi := { dst := some 56, op := _, type := _, pos := _, after := _, guard := none }) rfl (by kernel_rfl) (by kernel_rfl) (by kernel_rfl) (fun _ _ _ h => h) (Or.inl ⟨by kernel_rfl, ?_⟩) (by assumption) ?_
      case refine_2 => (intro w9 hSw; clear hSw; go_simp; try with_reducible rfl)
      simp only [Act.put, List.setIfInBounds_toArray, List.set_cons_zero, List.set_cons_succ]
      refine wpAnyH_ready (rs := [3]) (by kernel_rfl) (by simp) (AllReadyH.cons (o := { dst := some 52, op := _, type := _, pos := _, after := _, guard := none }) rfl (fun K hK => ?_) AllReadyH.nil)
      go_simp
      refine (DY.out _).mono ?_
      rintro e v1 ⟨rfl, hb1⟩
      refine hK.out _ _ (hHeld.below hb1) (fun hHeld => ?_)
      clear hK K hb1
      refine wpAnyH_ready (rs := [8]) (by kernel_rfl) (by simp) (AllReadyH.cons (o := { dst := some 57, op := _, type := _, pos := _, after := _, guard := none }) rfl (fun K hK => ?_) AllReadyH.nil)
      go_simp
      refine (S2H.out _).mono ?_
      rintro e v2 ⟨rfl, hb2⟩
      refine hK.out _ _ (hHeld.below hb2) (fun hHeld => ?_)
      clear hK K hb2
      refine wpAnyH_take (i := 9) (v := ?_) (oi := { dst := some 58, op := _, type := _, pos := _, after := _, guard := none }) rfl (by kernel_rfl) (by kernel_rfl) (by kernel_rfl) (fun _ _ _ h => h) (Or.inl ⟨by kernel_rfl, ?_⟩) (by assumption) ?_
      case refine_2 => (intro w9 hSw; clear hSw; go_simp; try with_reducible rfl)
      simp only [Act.put, List.setIfInBounds_toArray, List.set_cons_zero, List.set_cons_succ]
      refine wpAnyH_ready (rs := [10]) (by kernel_rfl) (by simp) (AllReadyH.cons (o := { dst := none, op := _, type := _, pos := _, after := _, guard := none }) rfl (fun K hK => ?_) AllReadyH.nil)
      obtain ⟨k0, d0, n0, hr⟩ := hHeld
      have NS : Hid (RdS w w1.heap.size 2 d n _) := hr.set 2 d n
      obtain ⟨_, ⟨x1, x2, x3, x4, x5, x6, x7⟩, x8⟩ := id hr
      go_simp
      refine hK.out _ _ ⟨2, d, n, NS.out⟩ (fun hHeld => ?_)
      clear hK K x1 x2 x3 x4 x5 x6 x7 x8 hr
      refine wpAnyH_done (by kernel_rfl) ?_ _
      obtain ⟨_, ⟨x1, x2, x3, x4, x5, x6, x7⟩, x8⟩ := id NS.out
      clear hHeld
      have NS3 : Hid (RdS w w1.heap.size 3 d n _) := NS.out.kind 3
      go_wp2_with fail
      refine (RO.out _).mono ?_
      rintro e w9 ⟨rfl, hb⟩
      have S9 : Hid (RdS w w1.heap.size 3 d n w9) := (NS3.out).below hb
      clear hb
      obtain ⟨⟨q1, q2, q3, q4, q5, q6, q7, q8⟩, ⟨z1, z2, z3, z4, z5, z6, z7⟩, z8⟩ := id S9.out
      cases bb
      · obtain ⟨y1, y2, y3⟩ := three_set (x := .int .i64 0) (y := .int .i64 0) (z := .int .i64 0) q2 q3 q4
        have HB : Hid (Below w.heap.size w w9) := q8
        clear q8
        go_wp2
        refine bodyPost_ret (v := .tuple #[.agg #[.int .i64 0, .int .i64 0, .int .i64 0], .int .i64 21]) (by simp [results, Tryz.results88, go_sem, y1, y2, y3]) rfl ⟨rfl, ?_⟩
        exact ((HB.out.setCell (Nat.le_refl _) _).setCell (Nat.le_refl _) _).setCell (Nat.le_refl _) _
      · obtain ⟨y1, y2, y3⟩ := three_set (x := .int .i64 3) (y := .int .i64 d) (z := .int .i64 n) q2 q3 q4
        have HB : Hid (Below w.heap.size w w9) := q8
        clear q8
        go_wp2
        refine bodyPost_ret (v := .tuple #[.agg #[.int .i64 3, .int .i64 d, .int .i64 n], .int .i64 0]) (by simp [results, Tryz.results88, go_sem, y1, y2, y3]) rfl ⟨rfl, ?_⟩
        exact ((HB.out.setCell (Nat.le_refl _) _).setCell (Nat.le_refl _) _).setCell (Nat.le_refl _) _
    · have hil : i < I := by omega
      have hn := hno.out i hil
      unfold noE at hn
      rw [ha, hc] at hn
      by_cases c1 : c = 61
      · have hn' : a ≠ 62 ∧ a ≠ 60 := by
          rcases hn with hn | hn
          · exact absurd (by rw [c1]) hn
          · exact ⟨fun e => hn.1 (by rw [e]), fun e => hn.2 (by rw [e])⟩
        have b1 : ((a.toNat : Int) == 62) = false := beq_eq_false_iff_ne.2 (fun e => hn'.1 (UInt8.toNat_inj.1 (by have : (62 : UInt8).toNat = 62 := rfl; omega)))
        have b2 : ((a.toNat : Int) == 60) = false := beq_eq_false_iff_ne.2 (fun e => hn'.2 (UInt8.toNat_inj.1 (by have : (60 : UInt8).toNat = 60 := rfl; omega)))
        have b3 : ((c.toNat : Int) == 61) = true := by rw [c1]; rfl
        clear hn hn' c1 ha hc hlast
        generalize (a.toNat : Int) = A at *
        generalize (c.toNat : Int) = Q at *
        go_wp2_with fail
        go_roundw
        case rel => exact ⟨i + 1, by omega, by go_num, HS.out⟩
        case measure => simp [intOf]; omega
      · have b3 : ((c.toNat : Int) == 61) = false := beq_eq_false_iff_ne.2 (fun e => c1 (UInt8.toNat_inj.1 (by have : (61 : UInt8).toNat = 61 := rfl; omega)))
        clear hn c1 ha hc hlast
        generalize (a.toNat : Int) = A at *
        generalize (c.toNat : Int) = Q at *
        go_wp2_with fail
        go_roundw
        case rel => exact ⟨i + 1, by omega, by go_num, HS.out⟩
        case measure => simp [intOf]; omega

set_option maxRecDepth 100000 in
set_option maxHeartbeats 8000000 in
theorem ern_2_not {bb : Bool} (s : ByteArray) (N : Int) (h : N < 0) (hz : 4 < s.size) (hz2 : s.size ≤ 140737488351232) (l : List UInt8) (hs : Hid (s = ⟨l.toArray⟩)) (hl : s.size = l.length) (I : Nat) (d n : Int) (hI : I + 1 < l.length) (hno : Hid (∀ j, j < I → noE l j)) (hA : Hid (l[I]? = some 62)) (hC : Hid (l[I + 1]? = some 61))
    (SH : Hid (∀ w : World, Calls Tryz.prog 118 #[.string s] w fun e w' => e = .returned (.int .i64 N) ∧ Below w.heap.size w w'))
    (SA : Hid (∀ w : World, Calls Tryz.prog 54 #[.string (s.extract 0 4), .string ⟨#[108, 97, 115, 116]⟩] w fun e w' => e = .returned (.bool false) ∧ Below w.heap.size w w'))
    (DY : Hid (∀ w : World, Calls Tryz.prog 119 #[.string (s.extract 0 I)] w fun e w' => e = .returned (.int .i64 d) ∧ Below w.heap.size w w'))
    (S2H : Hid (∀ w : World, Calls Tryz.prog 118 #[.string (s.extract (I + 2) l.length)] w fun e w' => e = .returned (.int .i64 n) ∧ Below w.heap.size w w'))
    (RO : Hid (∀ w : World, Calls Tryz.prog 65 #[.agg #[.int .i64 2, .int .i64 d, .int .i64 n]] w fun e w' => e = .returned (.bool bb) ∧ Below w.heap.size w w'))
    (w : World) :
    Calls Tryz.prog 88 #[.string s] w fun e w' => e = .returned (if bb = true then .tuple #[.agg #[.int .i64 2, .int .i64 d, .int .i64 n], .int .i64 0] else .tuple #[.agg #[.int .i64 0, .int .i64 0, .int .i64 0], .int .i64 21]) ∧ Below w.heap.size w w' := by
  have S0 : Hid (ResB w w.heap.size (w.alloc (.cells #[.int .i64 0, .int .i64 0, .int .i64 0] 67))) := ResB.new w _
  have h2 : (4 : Int) < (s.size : Int) := by omega
  rw [hl] at hz2
  go_enter Tryz.func88, Tryz.ntmps88
  go_wp2_with fail
  refine (SH.out _).mono ?_
  rintro e w1 ⟨rfl, hb⟩
  have R1 : Hid (ResB w w.heap.size w1) := S0.out.below hb
  clear hb S0
  have S1 : Hid (RdS w w1.heap.size (-1) 0 0 (w1.alloc (.cells #[.int .i64 (-1), .int .i64 0, .int .i64 0] 67))) := RdS.new R1.out _ _ _ _
  go_wp2_with fail
  refine (SA.out _).mono ?_
  rintro e w2 ⟨rfl, hb⟩
  have S2 : Hid (RdS w w1.heap.size (-1) 0 0 w2) := S1.out.below hb
  clear hb S1
  go_wp2_with fail
  go_loopw [5] (fun iv W => ∃ i : Nat, i ≤ I ∧ iv = .int .i64 (i : Int) ∧ RdS w w1.heap.size (-1) 0 0 W) (fun iv _ => l.length - (intOf iv).toNat)
  case atStart => exact ⟨0, Nat.zero_le _, rfl, S2.out⟩
  case round =>
    obtain ⟨i, hi, rfl, hS⟩ := hrel
    have HS : Hid (RdS w w1.heap.size (-1) 0 0 wr) := hS
    clear hS
    have hlt : i + 1 < l.length := by omega
    have hlt' : (i : Int) + 1 < (l.length : Int) := by omega
    obtain ⟨a, ha⟩ : ∃ a, l[i]? = some a := ⟨l[i]'(by omega), List.getElem?_eq_getElem (by omega)⟩
    obtain ⟨c, hc⟩ : ∃ c, l[i + 1]? = some c := ⟨l[i + 1]'hlt, List.getElem?_eq_getElem hlt⟩
    have i1 := Clk.ix_of s l i a hs.out ha
    have i2 := ix1 s l i c hs.out hc
    by_cases hlast : i = I
    · subst hlast
      have e1 : a = 62 := by have := hA.out; rw [ha] at this; exact Option.some.inj this
      have e2 : c = 61 := by have := hC.out; rw [hc] at this; exact Option.some.inj this
      have f1 : (a.toNat : Int) = 62 := by rw [e1]; rfl
      have f2 : (c.toNat : Int) = 61 := by rw [e2]; rfl
      rw [f1] at i1
      rw [f2] at i2
      have sl : (i : Int) + 2 ≤ (l.length : Int) := by omega
      have sl0 : i ≤ l.length := by omega
      have sl2 : i + 2 ≤ l.length := by omega
      have sl3 : (0 : Int) ≤ (i : Int) + 2 := by omega
      have sl4 : ((i : Int) + 2).toNat = i + 2 := by omega
      have wr2 : IntKind.i64.wrap ((i : Int) + 2) = (i : Int) + 2 := by rw [IntKind.wrap_i64]; omega
      clear f1 f2 e1 e2 ha hc
      go_wp2_with fail
      refine wp_region_held_drew (S := RdE w w1.heap.size) (by kernel_rfl) ⟨_, _, _, HS.out.drew⟩ (fun hHeld => ?_)
      refine wpAnyH_take (i := 0) (v := ?_) (oi := { dst := some 49, op := _, type := _, pos := _, after := _, guard := none }) rfl (by kernel_rfl) (by kernel_rfl) (by kernel_rfl) (fun _ _ _ h => h) (Or.inl ⟨by kernel_rfl, ?_⟩) (by assumption) ?_
      case refine_2 => (intro w9 hSw; clear hSw; go_simp; try with_reducible rfl)
      simp only [Act.put, List.setIfInBounds_toArray, List.set_cons_zero, List.set_cons_succ]
      refine wpAnyH_take (i := 1) (v := ?_) (oi := { dst := some 50, op := _, type := _, pos := _, after := _, guard := none }) rfl (by kernel_rfl) (by kernel_rfl) (by kernel_rfl) (fun _ _ _ h => h) (Or.inl ⟨by kernel_rfl, ?_⟩) (by assumption) ?_
      case refine_2 => (intro w9 hSw; clear hSw; go_simp; try with_reducible rfl)
      simp only [Act.put, List.setIfInBounds_toArray, List.set_cons_zero, List.set_cons_succ]
      refine wpAnyH_take (i := 2) (v := ?_) (oi := { dst := some 51, op := _, type := _, pos := _, after := _, guard := none }) rfl (by kernel_rfl) (by kernel_rfl) (by kernel_rfl) (fun _ _ _ h => h) (Or.inl ⟨by kernel_rfl, ?_⟩) (by assumption) ?_
      case refine_2 => (intro w9 hSw; clear hSw; go_simp; try with_reducible rfl)
      simp only [Act.put, List.setIfInBounds_toArray, List.set_cons_zero, List.set_cons_succ]
      refine wpAnyH_take (i := 4) (v := ?_) (oi := { dst := some 53, op := _, type := _, pos := _, after := _, guard := none }) rfl (by kernel_rfl) (by kernel_rfl) (by kernel_rfl) (fun _ _ _ h => h) (Or.inl ⟨by kernel_rfl, ?_⟩) (by assumption) ?_
      case refine_2 => (intro w9 hSw; clear hSw; go_simp; try with_reducible rfl)
      simp only [Act.put, List.setIfInBounds_toArray, List.set_cons_zero, List.set_cons_succ]
      refine wpAnyH_take (i := 5) (v := ?_) (oi := { dst := some 54, op := _, type := _, pos := _, after := _, guard := none }) rfl (by kernel_rfl) (by kernel_rfl) (by kernel_rfl) (fun _ _ _ h => h) (Or.inl ⟨by kernel_rfl, ?_⟩) (by assumption) ?_
      case refine_2 => (intro w9 hSw; clear hSw; go_simp; try with_reducible rfl)
      simp only [Act.put, List.setIfInBounds_toArray, List.set_cons_zero, List.set_cons_succ]
      refine wpAnyH_take (i := 6) (v := ?_) (oi := { dst := some 55, op := _, type := _, pos := _, after := _, guard := none }) rfl (by kernel_rfl) (by kernel_rfl) (by kernel_rfl) (fun _ _ _ h => h) (Or.inl ⟨by kernel_rfl, ?_⟩) (by assumption) ?_
      case refine_2 => (intro w9 hSw; clear hSw; go_simp; try with_reducible rfl)
      simp only [Act.put, List.setIfInBounds_toArray, List.set_cons_zero, List.set_cons_succ]
      refine wpAnyH_take (i := 7) (v := ?_) (oi := { dst := some 56, op := _, type := _, pos := _, after := _, guard := none }) rfl (by kernel_rfl) (by kernel_rfl) (by kernel_rfl) (fun _ _ _ h => h) (Or.inl ⟨by kernel_rfl, ?_⟩) (by assumption) ?_
      case refine_2 => (intro w9 hSw; clear hSw; go_simp; try with_reducible rfl)
      simp only [Act.put, List.setIfInBounds_toArray, List.set_cons_zero, List.set_cons_succ]
      refine wpAnyH_ready (rs := [3]) (by kernel_rfl) (by simp) (AllReadyH.cons (o := { dst := some 52, op := _, type := _, pos := _, after := _, guard := none }) rfl (fun K hK => ?_) AllReadyH.nil)
      go_simp
      refine (DY.out _).mono ?_
      rintro e v1 ⟨rfl, hb1⟩
      refine hK.out _ _ (hHeld.below hb1) (fun hHeld => ?_)
      clear hK K hb1
      refine wpAnyH_ready (rs := [8]) (by kernel_rfl) (by simp) (AllReadyH.cons (o := { dst := some 57, op := _, type := _, pos := _, after := _, guard := none }) rfl (fun K hK => ?_) AllReadyH.nil)
      go_simp
      refine (S2H.out _).mono ?_
      rintro e v2 ⟨rfl, hb2⟩
      refine hK.out _ _ (hHeld.below hb2) (fun hHeld => ?_)
      clear hK K hb2
      refine wpAnyH_take (i := 9) (v := ?_) (oi := { dst := some 58, op := _, type := _, pos := _, after := _, guard := none }) rfl (by kernel_rfl) (by kernel_rfl) (by kernel_rfl) (fun _ _ _ h => h) (Or.inl ⟨by kernel_rfl, ?_⟩) (by assumption) ?_
      case refine_2 => (intro w9 hSw; clear hSw; go_simp; try with_reducible rfl)
      simp only [Act.put, List.setIfInBounds_toArray, List.set_cons_zero, List.set_cons_succ]
      refine wpAnyH_ready (rs := [10]) (by kernel_rfl) (by simp) (AllReadyH.cons (o := { dst := none, op := _, type := _, pos := _, after := _, guard := none }) rfl (fun K hK => ?_) AllReadyH.nil)
      obtain ⟨k0, d0, n0, hr⟩ := hHeld
      have NS : Hid (RdS w w1.heap.size 2 d n _) := hr.set 2 d n
      obtain ⟨_, ⟨x1, x2, x3, x4, x5, x6, x7⟩, x8⟩ := id hr
      go_simp
      refine hK.out _ _ ⟨2, d, n, NS.out⟩ (fun hHeld => ?_)
      clear hK K x1 x2 x3 x4 x5 x6 x7 x8 hr
      refine wpAnyH_done (by kernel_rfl) ?_ _
      obtain ⟨_, ⟨x1, x2, x3, x4, x5, x6, x7⟩, x8⟩ := id NS.out
      clear hHeld
      go_wp2_with fail
      refine (RO.out _).mono ?_
      rintro e w9 ⟨rfl, hb⟩
      have S9 : Hid (RdS w w1.heap.size 2 d n w9) := (NS.out).below hb
      clear hb
      obtain ⟨⟨q1, q2, q3, q4, q5, q6, q7, q8⟩, ⟨z1, z2, z3, z4, z5, z6, z7⟩, z8⟩ := id S9.out
      cases bb
      · obtain ⟨y1, y2, y3⟩ := three_set (x := .int .i64 0) (y := .int .i64 0) (z := .int .i64 0) q2 q3 q4
        have HB : Hid (Below w.heap.size w w9) := q8
        clear q8
        go_wp2
        refine bodyPost_ret (v := .tuple #[.agg #[.int .i64 0, .int .i64 0, .int .i64 0], .int .i64 21]) (by simp [results, Tryz.results88, go_sem, y1, y2, y3]) rfl ⟨rfl, ?_⟩
        exact ((HB.out.setCell (Nat.le_refl _) _).setCell (Nat.le_refl _) _).setCell (Nat.le_refl _) _
      · obtain ⟨y1, y2, y3⟩ := three_set (x := .int .i64 2) (y := .int .i64 d) (z := .int .i64 n) q2 q3 q4
        have HB : Hid (Below w.heap.size w w9) := q8
        clear q8
        go_wp2
        refine bodyPost_ret (v := .tuple #[.agg #[.int .i64 2, .int .i64 d, .int .i64 n], .int .i64 0]) (by simp [results, Tryz.results88, go_sem, y1, y2, y3]) rfl ⟨rfl, ?_⟩
        exact ((HB.out.setCell (Nat.le_refl _) _).setCell (Nat.le_refl _) _).setCell (Nat.le_refl _) _
    · have hil : i < I := by omega
      have hn := hno.out i hil
      unfold noE at hn
      rw [ha, hc] at hn
      by_cases c1 : c = 61
      · have hn' : a ≠ 62 ∧ a ≠ 60 := by
          rcases hn with hn | hn
          · exact absurd (by rw [c1]) hn
          · exact ⟨fun e => hn.1 (by rw [e]), fun e => hn.2 (by rw [e])⟩
        have b1 : ((a.toNat : Int) == 62) = false := beq_eq_false_iff_ne.2 (fun e => hn'.1 (UInt8.toNat_inj.1 (by have : (62 : UInt8).toNat = 62 := rfl; omega)))
        have b2 : ((a.toNat : Int) == 60) = false := beq_eq_false_iff_ne.2 (fun e => hn'.2 (UInt8.toNat_inj.1 (by have : (60 : UInt8).toNat = 60 := rfl; omega)))
        have b3 : ((c.toNat : Int) == 61) = true := by rw [c1]; rfl
        clear hn hn' c1 ha hc hlast
        generalize (a.toNat : Int) = A at *
        generalize (c.toNat : Int) = Q at *
        go_wp2_with fail
        go_roundw
        case rel => exact ⟨i + 1, by omega, by go_num, HS.out⟩
        case measure => simp [intOf]; omega
      · have b3 : ((c.toNat : Int) == 61) = false := beq_eq_false_iff_ne.2 (fun e => c1 (UInt8.toNat_inj.1 (by have : (61 : UInt8).toNat = 61 := rfl; omega)))
        clear hn c1 ha hc hlast
        generalize (a.toNat : Int) = A at *
        generalize (c.toNat : Int) = Q at *
        go_wp2_with fail
        go_roundw
        case rel => exact ⟨i + 1, by omega, by go_num, HS.out⟩
        case measure => simp [intOf]; omega

set_option maxRecDepth 100000 in
set_option maxHeartbeats 8000000 in
theorem ern_3_not {bb : Bool} (s : ByteArray) (N : Int) (h : N < 0) (hz : 4 < s.size) (hz2 : s.size ≤ 140737488351232) (l : List UInt8) (hs : Hid (s = ⟨l.toArray⟩)) (hl : s.size = l.length) (I : Nat) (d n : Int) (hI : I + 1 < l.length) (hno : Hid (∀ j, j < I → noE l j)) (hA : Hid (l[I]? = some 60)) (hC : Hid (l[I + 1]? = some 61))
    (SH : Hid (∀ w : World, Calls Tryz.prog 118 #[.string s] w fun e w' => e = .returned (.int .i64 N) ∧ Below w.heap.size w w'))
    (SA : Hid (∀ w : World, Calls Tryz.prog 54 #[.string (s.extract 0 4), .string ⟨#[108, 97, 115, 116]⟩] w fun e w' => e = .returned (.bool false) ∧ Below w.heap.size w w'))
    (DY : Hid (∀ w : World, Calls Tryz.prog 119 #[.string (s.extract 0 I)] w fun e w' => e = .returned (.int .i64 d) ∧ Below w.heap.size w w'))
    (S2H : Hid (∀ w : World, Calls Tryz.prog 118 #[.string (s.extract (I + 2) l.length)] w fun e w' => e = .returned (.int .i64 n) ∧ Below w.heap.size w w'))
    (RO : Hid (∀ w : World, Calls Tryz.prog 65 #[.agg #[.int .i64 3, .int .i64 d, .int .i64 n]] w fun e w' => e = .returned (.bool bb) ∧ Below w.heap.size w w'))
    (w : World) :
    Calls Tryz.prog 88 #[.string s] w fun e w' => e = .returned (if bb = true then .tuple #[.agg #[.int .i64 3, .int .i64 d, .int .i64 n], .int .i64 0] else .tuple #[.agg #[.int .i64 0, .int .i64 0, .int .i64 0], .int .i64 21]) ∧ Below w.heap.size w w' := by
  have S0 : Hid (ResB w w.heap.size (w.alloc (.cells #[.int .i64 0, .int .i64 0, .int .i64 0] 67))) := ResB.new w _
  have h2 : (4 : Int) < (s.size : Int) := by omega
  rw [hl] at hz2
  go_enter Tryz.func88, Tryz.ntmps88
  go_wp2_with fail
  refine (SH.out _).mono ?_
  rintro e w1 ⟨rfl, hb⟩
  have R1 : Hid (ResB w w.heap.size w1) := S0.out.below hb
  clear hb S0
  have S1 : Hid (RdS w w1.heap.size (-1) 0 0 (w1.alloc (.cells #[.int .i64 (-1), .int .i64 0, .int .i64 0] 67))) := RdS.new R1.out _ _ _ _
  go_wp2_with fail
  refine (SA.out _).mono ?_
  rintro e w2 ⟨rfl, hb⟩
  have S2 : Hid (RdS w w1.heap.size (-1) 0 0 w2) := S1.out.below hb
  clear hb S1
  go_wp2_with fail
  go_loopw [5] (fun iv W => ∃ i : Nat, i ≤ I ∧ iv = .int .i64 (i : Int) ∧ RdS w w1.heap.size (-1) 0 0 W) (fun iv _ => l.length - (intOf iv).toNat)
  case atStart => exact ⟨0, Nat.zero_le _, rfl, S2.out⟩
  case round =>
    obtain ⟨i, hi, rfl, hS⟩ := hrel
    have HS : Hid (RdS w w1.heap.size (-1) 0 0 wr) := hS
    clear hS
    have hlt : i + 1 < l.length := by omega
    have hlt' : (i : Int) + 1 < (l.length : Int) := by omega
    obtain ⟨a, ha⟩ : ∃ a, l[i]? = some a := ⟨l[i]'(by omega), List.getElem?_eq_getElem (by omega)⟩
    obtain ⟨c, hc⟩ : ∃ c, l[i + 1]? = some c := ⟨l[i + 1]'hlt, List.getElem?_eq_getElem hlt⟩
    have i1 := Clk.ix_of s l i a hs.out ha
    have i2 := ix1 s l i c hs.out hc
    by_cases hlast : i = I
    · subst hlast
      have e1 : a = 60 := by have := hA.out; rw [ha] at this; exact Option.some.inj this
      have e2 : c = 61 := by have := hC.out; rw [hc] at this; exact Option.some.inj this
      have f1 : (a.toNat : Int) = 60 := by rw [e1]; rfl
      have f2 : (c.toNat : Int) = 61 := by rw [e2]; rfl
      rw [f1] at i1
      rw [f2] at i2
      have sl : (i : Int) + 2 ≤ (l.length : Int) := by omega
      have sl0 : i ≤ l.length := by omega
      have sl2 : i + 2 ≤ l.length := by omega
      have sl3 : (0 : Int) ≤ (i : Int) + 2 := by omega
      have sl4 : ((i : Int) + 2).toNat = i + 2 := by omega
      have wr2 : IntKind.i64.wrap ((i : Int) + 2) = (i : Int) + 2 := by rw [IntKind.wrap_i64]; omega
      clear f1 f2 e1 e2 ha hc
      go_wp2_with fail
      refine wp_region_held_drew (S := RdE w w1.heap.size) (by kernel_rfl) ⟨_, _, _, HS.out.drew⟩ (fun hHeld => ?_)
      refine wpAnyH_take (i := 0) (v := ?_) (oi := { dst := some 49, op := _, type := _, pos := _, after := _, guard := none }) rfl (by kernel_rfl) (by kernel_rfl) (by kernel_rfl) (fun _ _ _ h => h) (Or.inl ⟨by kernel_rfl, ?_⟩) (by assumption) ?_
      case refine_2 => (intro w9 hSw; clear hSw; go_simp; try with_reducible rfl)
      simp only [Act.put, List.setIfInBounds_toArray, List.set_cons_zero, List.set_cons_succ]
      refine wpAnyH_take (i := 1) (v := ?_) (oi := { dst := some 50, op := _, type := _, pos := _, after := _, guard := none }) rfl (by kernel_rfl) (by kernel_rfl) (by kernel_rfl) (fun _ _ _ h => h) (Or.inl ⟨by kernel_rfl, ?_⟩) (by assumption) ?_
      case refine_2 => (intro w9 hSw; clear hSw; go_simp; try with_reducible rfl)
      simp only [Act.put, List.setIfInBounds_toArray, List.set_cons_zero, List.set_cons_succ]
      refine wpAnyH_take (i := 2) (v := ?_) (oi := { dst := some 51, op := _, type := _, pos := _, after := _, guard := none }) rfl (by kernel_rfl) (by kernel_rfl) (by kernel_rfl) (fun _ _ _ h => h) (Or.inl ⟨by kernel_rfl, ?_⟩) (by assumption) ?_
      case refine_2 => (intro w9 hSw; clear hSw; go_simp; try with_reducible rfl)
      simp only [Act.put, List.setIfInBounds_toArray, List.set_cons_zero, List.set_cons_succ]
      refine wpAnyH_take (i := 4) (v := ?_) (oi := { dst := some 53, op := _, type := _, pos := _, after := _, guard := none }) rfl (by kernel_rfl) (by kernel_rfl) (by kernel_rfl) (fun _ _ _ h => h) (Or.inl ⟨by kernel_rfl, ?_⟩) (by assumption) ?_
      case refine_2 => (intro w9 hSw; clear hSw; go_simp; try with_reducible rfl)
      simp only [Act.put, List.setIfInBounds_toArray, List.set_cons_zero, List.set_cons_succ]
      refine wpAnyH_take (i := 5) (v := ?_) (oi := { dst := some 54, op := _, type := _, pos := _, after := _, guard := none }) rfl (by kernel_rfl) (by kernel_rfl) (by kernel_rfl) (fun _ _ _ h => h) (Or.inl ⟨by kernel_rfl, ?_⟩) (by assumption) ?_
      case refine_2 => (intro w9 hSw; clear hSw; go_simp; try with_reducible rfl)
      simp only [Act.put, List.setIfInBounds_toArray, List.set_cons_zero, List.set_cons_succ]
      refine wpAnyH_take (i := 6) (v := ?_) (oi := { dst := some 55, op := _, type := _, pos := _, after := _, guard := none }) rfl (by kernel_rfl) (by kernel_rfl) (by kernel_rfl) (fun _ _ _ h => h) (Or.inl ⟨by kernel_rfl, ?_⟩) (by assumption) ?_
      case refine_2 => (intro w9 hSw; clear hSw; go_simp; try with_reducible rfl)
      simp only [Act.put, List.setIfInBounds_toArray, List.set_cons_zero, List.set_cons_succ]
      refine wpAnyH_take (i := 7) (v := ?_) (oi := { dst := some 56, op := _, type := _, pos := _, after := _, guard := none }) rfl (by kernel_rfl) (by kernel_rfl) (by kernel_rfl) (fun _ _ _ h => h) (Or.inl ⟨by kernel_rfl, ?_⟩) (by assumption) ?_
      case refine_2 => (intro w9 hSw; clear hSw; go_simp; try with_reducible rfl)
      simp only [Act.put, List.setIfInBounds_toArray, List.set_cons_zero, List.set_cons_succ]
      refine wpAnyH_ready (rs := [3]) (by kernel_rfl) (by simp) (AllReadyH.cons (o := { dst := some 52, op := _, type := _, pos := _, after := _, guard := none }) rfl (fun K hK => ?_) AllReadyH.nil)
      go_simp
      refine (DY.out _).mono ?_
      rintro e v1 ⟨rfl, hb1⟩
      refine hK.out _ _ (hHeld.below hb1) (fun hHeld => ?_)
      clear hK K hb1
      refine wpAnyH_ready (rs := [8]) (by kernel_rfl) (by simp) (AllReadyH.cons (o := { dst := some 57, op := _, type := _, pos := _, after := _, guard := none }) rfl (fun K hK => ?_) AllReadyH.nil)
      go_simp
      refine (S2H.out _).mono ?_
      rintro e v2 ⟨rfl, hb2⟩
      refine hK.out _ _ (hHeld.below hb2) (fun hHeld => ?_)
      clear hK K hb2
      refine wpAnyH_take (i := 9) (v := ?_) (oi := { dst := some 58, op := _, type := _, pos := _, after := _, guard := none }) rfl (by kernel_rfl) (by kernel_rfl) (by kernel_rfl) (fun _ _ _ h => h) (Or.inl ⟨by kernel_rfl, ?_⟩) (by assumption) ?_
      case refine_2 => (intro w9 hSw; clear hSw; go_simp; try with_reducible rfl)
      simp only [Act.put, List.setIfInBounds_toArray, List.set_cons_zero, List.set_cons_succ]
      refine wpAnyH_ready (rs := [10]) (by kernel_rfl) (by simp) (AllReadyH.cons (o := { dst := none, op := _, type := _, pos := _, after := _, guard := none }) rfl (fun K hK => ?_) AllReadyH.nil)
      obtain ⟨k0, d0, n0, hr⟩ := hHeld
      have NS : Hid (RdS w w1.heap.size 2 d n _) := hr.set 2 d n
      obtain ⟨_, ⟨x1, x2, x3, x4, x5, x6, x7⟩, x8⟩ := id hr
      go_simp
      refine hK.out _ _ ⟨2, d, n, NS.out⟩ (fun hHeld => ?_)
      clear hK K x1 x2 x3 x4 x5 x6 x7 x8 hr
      refine wpAnyH_done (by kernel_rfl) ?_ _
      obtain ⟨_, ⟨x1, x2, x3, x4, x5, x6, x7⟩, x8⟩ := id NS.out
      clear hHeld
      have NS3 : Hid (RdS w w1.heap.size 3 d n _) := NS.out.kind 3
      go_wp2_with fail
      refine (RO.out _).mono ?_
      rintro e w9 ⟨rfl, hb⟩
      have S9 : Hid (RdS w w1.heap.size 3 d n w9) := (NS3.out).below hb
      clear hb
      obtain ⟨⟨q1, q2, q3, q4, q5, q6, q7, q8⟩, ⟨z1, z2, z3, z4, z5, z6, z7⟩, z8⟩ := id S9.out
      cases bb
      · obtain ⟨y1, y2, y3⟩ := three_set (x := .int .i64 0) (y := .int .i64 0) (z := .int .i64 0) q2 q3 q4
        have HB : Hid (Below w.heap.size w w9) := q8
        clear q8
        go_wp2
        refine bodyPost_ret (v := .tuple #[.agg #[.int .i64 0, .int .i64 0, .int .i64 0], .int .i64 21]) (by simp [results, Tryz.results88, go_sem, y1, y2, y3]) rfl ⟨rfl, ?_⟩
        exact ((HB.out.setCell (Nat.le_refl _) _).setCell (Nat.le_refl _) _).setCell (Nat.le_refl _) _
      · obtain ⟨y1, y2, y3⟩ := three_set (x := .int .i64 3) (y := .int .i64 d) (z := .int .i64 n) q2 q3 q4
        have HB : Hid (Below w.heap.size w w9) := q8
        clear q8
        go_wp2
        refine bodyPost_ret (v := .tuple #[.agg #[.int .i64 3, .int .i64 d, .int .i64 n], .int .i64 0]) (by simp [results, Tryz.results88, go_sem, y1, y2, y3]) rfl ⟨rfl, ?_⟩
        exact ((HB.out.setCell (Nat.le_refl _) _).setCell (Nat.le_refl _) _).setCell (Nat.le_refl _) _
    · have hil : i < I := by omega
      have hn := hno.out i hil
      unfold noE at hn
      rw [ha, hc] at hn
      by_cases c1 : c = 61
      · have hn' : a ≠ 62 ∧ a ≠ 60 := by
          rcases hn with hn | hn
          · exact absurd (by rw [c1]) hn
          · exact ⟨fun e => hn.1 (by rw [e]), fun e => hn.2 (by rw [e])⟩
        have b1 : ((a.toNat : Int) == 62) = false := beq_eq_false_iff_ne.2 (fun e => hn'.1 (UInt8.toNat_inj.1 (by have : (62 : UInt8).toNat = 62 := rfl; omega)))
        have b2 : ((a.toNat : Int) == 60) = false := beq_eq_false_iff_ne.2 (fun e => hn'.2 (UInt8.toNat_inj.1 (by have : (60 : UInt8).toNat = 60 := rfl; omega)))
        have b3 : ((c.toNat : Int) == 61) = true := by rw [c1]; rfl
        clear hn hn' c1 ha hc hlast
        generalize (a.toNat : Int) = A at *
        generalize (c.toNat : Int) = Q at *
        go_wp2_with fail
        go_roundw
        case rel => exact ⟨i + 1, by omega, by go_num, HS.out⟩
        case measure => simp [intOf]; omega
      · have b3 : ((c.toNat : Int) == 61) = false := beq_eq_false_iff_ne.2 (fun e => c1 (UInt8.toNat_inj.1 (by have : (61 : UInt8).toNat = 61 := rfl; omega)))
        clear hn c1 ha hc hlast
        generalize (a.toNat : Int) = A at *
        generalize (c.toNat : Int) = Q at *
        go_wp2_with fail
        go_roundw
        case rel => exact ⟨i + 1, by omega, by go_num, HS.out⟩
        case measure => simp [intOf]; omega

end Go.Proofs.YtgnfkkcagbbhmaaGreatDoor
