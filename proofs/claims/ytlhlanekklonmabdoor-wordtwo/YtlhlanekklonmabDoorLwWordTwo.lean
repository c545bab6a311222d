/- The law WordTwo, walked over word.Split's contract. -/
import Derived.Test.YtlhlanekklonmabDoorLwWordWhole
namespace Go.Proofs.YtlhlanekklonmabDoor
open Go.RowKit
set_option linter.unusedVariables false

/-- the error of a text. -/
def errE (s : ByteArray) : Int := if s.size ≤ 2048 then (match splitB s with | .inl _ => 21 | .inr _ => 0) else 3
theorem errE_any (s : ByteArray) (hs : s.size ≤ maxLen) (w : World) (hT : Tabs w) :
    Calls Tryd.prog 17 #[.string s] w fun e w' => (∃ v k, e = .returned (.tuple #[v, .int .i64 k, .int .i64 (errE s)])) ∧ Below w.heap.size w w' := by
  unfold errE
  by_cases h : s.size ≤ 2048
  · rw [if_pos h]
    refine (wsplit_any s w hT h).mono ?_
    rintro e w' ⟨hb, he⟩
    cases hB : splitB s with
    | inl i => rw [hB] at he; exact ⟨⟨_, _, he⟩, hb⟩
    | inr l => rw [hB] at he; obtain ⟨v, h1, _⟩ := he; exact ⟨⟨v, 0, h1⟩, hb⟩
  · rw [if_neg h]
    refine (wsplit_long s w hs h).mono ?_
    rintro e w' ⟨he, rfl⟩
    exact ⟨⟨_, _, he⟩, Below.refl _ _⟩
theorem errE_ok {s : ByteArray} (h : errE s = 0) : s.size ≤ 2048 ∧ ∃ l, splitB s = .inr l := by
  unfold errE at h
  by_cases c : s.size ≤ 2048
  · rw [if_pos c] at h
    cases hB : splitB s with
    | inl i => rw [hB] at h; simp at h
    | inr l => exact ⟨c, l, rfl⟩
  · rw [if_neg c] at h; exact absurd h (by decide)

set_option maxRecDepth 100000 in
set_option maxHeartbeats 2000000 in
theorem two_none (a b : ByteArray) (E F : Int) (ha : a.size ≤ maxLen) (hb : b.size ≤ maxLen)
    (hc : (E = 3 ∨ E = 21) ∨ (E = 0 ∧ (F = 3 ∨ F = 21)) ∨ (E = 0 ∧ F = 0 ∧ a.size ≤ 2048 ∧ b.size ≤ 2048 ∧ ((2048 : Int) - (a.size : Int) ≤ (b.size : Int))))
    (HC1 : Hid (∀ w : World, Tabs w → Calls Tryd.prog 17 #[.string a] w fun e w' => (∃ v k, e = .returned (.tuple #[v, .int .i64 k, .int .i64 E])) ∧ Below w.heap.size w w'))
    (HC2 : Hid (∀ w : World, Tabs w → Calls Tryd.prog 17 #[.string b] w fun e w' => (∃ v k, e = .returned (.tuple #[v, .int .i64 k, .int .i64 F])) ∧ Below w.heap.size w w'))
    (w : World) (hT : Tabs w) :
    Calls Tryd.prog 8 #[.string a, .string b] w fun e w' => e = .returned (.bool true) ∧ Below w.heap.size w w' := by
  unfold maxLen at ha hb
  rcases hc with (rfl | rfl) | ⟨rfl, rfl | rfl⟩ | ⟨rfl, rfl, h1, h2, h3⟩
  all_goals
    go_enter Tryd.func8, Tryd.ntmps8
    go_wp2_with fail
    refine (HC1.out _ hT).mono ?_
    rintro e w1 ⟨⟨v1, k1, rfl⟩, B1⟩
    have HB1 : Hid (Below w.heap.size w w1) := B1
    clear B1
    go_wp2_with fail
    refine (HC2.out _ (Tabs_below hT HB1.out)).mono ?_
    rintro e w2 ⟨⟨v2, k2, rfl⟩, b2⟩
    have HB2 : Hid (Below w.heap.size w w2) := HB1.out.trans (b2.mono HB1.out.size)
    clear b2 HB1
    go_wp2_with fail
    refine (known_any _ (Tabs_below hT HB2.out)).mono ?_
    rintro e w3 ⟨rfl, b3⟩
    have HB3 : Hid (Below w.heap.size w w3) := HB2.out.trans (b3.mono HB2.out.size)
    clear b3 HB2
    go_wp2
    go_ret
    exact ⟨rfl, HB3.out⟩

/-- a part of the second text, where it stands in both. -/
def shT (n : Nat) (p : PT) : PT := (p.1, p.2.1, p.2.2 + (n : Int) + 1)

set_option maxRecDepth 1000000 in
set_option maxHeartbeats 4000000 in
theorem two_good (a b : ByteArray) (tl tm : List PT) (ha : a.size ≤ 2048) (hb : b.size ≤ 2048) (hab : (b.size : Int) < (2048 : Int) - (a.size : Int)) (hl : tl.length ≤ 2048) (hm : tm.length ≤ 2048) (hx : ∀ r ∈ tm, 0 ≤ r.2.2 ∧ r.2.2 ≤ 2048)
    (HC1 : Hid (∀ w : World, Tabs w → Calls Tryd.prog 17 #[.string a] w fun e w' => ∃ v, e = .returned (.tuple #[v, .int .i64 0, .int .i64 0]) ∧ w'.ownsRow w.heap.size 55 3 v tl.length (flatT tl) ∧ Below w.heap.size w w'))
    (HC2 : Hid (∀ w : World, Tabs w → Calls Tryd.prog 17 #[.string b] w fun e w' => ∃ v, e = .returned (.tuple #[v, .int .i64 0, .int .i64 0]) ∧ w'.ownsRow w.heap.size 55 3 v tm.length (flatT tm) ∧ Below w.heap.size w w'))
    (HC3 : Hid (∀ w : World, Tabs w → Calls Tryd.prog 17 #[.string (a ++ ⟨#[32]⟩ ++ b)] w fun e w' => ∃ v, e = .returned (.tuple #[v, .int .i64 0, .int .i64 0]) ∧ w'.ownsRow w.heap.size 55 3 v (tl ++ tm.map (shT a.size)).length (flatT (tl ++ tm.map (shT a.size))) ∧ Below w.heap.size w w'))
    (w : World) (hT : Tabs w) :
    Calls Tryd.prog 8 #[.string a, .string b] w fun e w' => e = .returned (.bool true) ∧ Below w.heap.size w w' := by
  have c55 : Tryd.prog.cellsOf 55 = 3 := by kernel_rfl
  obtain ⟨tn, htn⟩ : ∃ tn, tn = tl ++ tm.map (shT a.size) := ⟨_, rfl⟩
  rw [← htn] at HC3
  have hN : tn.length = tl.length + tm.length := by rw [htn]; simp
  have HG1 : Hid (∀ (i : Nat) (r : PT), i < tl.length → tl[i]? = some r → tn[i]? = some r) := fun i r h1 h2 => by rw [htn, List.getElem?_append_left h1]; exact h2
  have HG2 : Hid (∀ (i : Nat) (r : PT), ¬ i < tl.length → tm[i - tl.length]? = some r → tn[i]? = some (shT a.size r)) := fun i r h1 h2 => by rw [htn, List.getElem?_append_right (by omega), List.getElem?_map, h2]; rfl
  have HX : Hid (∀ r ∈ tm, 0 ≤ r.2.2 ∧ r.2.2 ≤ 2048) := hx
  clear htn hx
  go_enter Tryd.func8, Tryd.ntmps8
  go_wp2_with fail
  refine (HC1.out _ hT).mono ?_
  rintro e w1 ⟨v1, rfl, ho1, B1⟩
  have HB1 : Hid (Below w.heap.size w w1) := B1
  have HO1 : Hid (Below w1.heap.size w1 w1 ∧ w1.ownsRow w.heap.size 55 3 v1 tl.length (flatT tl)) := ⟨Below.refl _ _, ho1⟩
  clear B1 ho1
  go_wp2_with fail
  refine (HC2.out _ (Tabs_below hT HB1.out)).mono ?_
  rintro e w2 ⟨v2, rfl, ho2, b2⟩
  have HB2 : Hid (Below w.heap.size w w2) := HB1.out.trans (b2.mono HB1.out.size)
  have HO1' : Hid (w2.ownsRow w.heap.size 55 3 v1 tl.length (flatT tl)) := ownsRow_keep HO1.out.2 (fun k _ hk => b2.block k hk)
  have HO2 : Hid (w2.ownsRow w1.heap.size 55 3 v2 tm.length (flatT tm)) := ho2
  clear b2 ho2 HO1 HB1
  go_wp2_with fail
  refine (HC3.out _ (Tabs_below hT HB2.out)).mono ?_
  rintro e w3 ⟨v3, rfl, ho3, b3⟩
  have HB3 : Hid (Below w.heap.size w w3) := HB2.out.trans (b3.mono HB2.out.size)
  obtain ⟨p1, cap1, e1, q1⟩ := row_form (ownsRow_keep HO1'.out (fun k _ hk => b3.block k hk))
  obtain ⟨p2, cap2, e2, q2⟩ := row_form (ownsRow_keep HO2.out (fun k _ hk => b3.block k hk))
  obtain ⟨p3, cap3, e3, q3⟩ := row_form ho3
  subst e1 e2 e3
  have HP1 : Hid (0 < tl.length → ∃ g, p1 = some ⟨g, 0, none⟩ ∧ g < w3.heap.size ∧ tl.length ≤ cap1 ∧ cap1 ≤ maxLen ∧ ∀ (k : Nat) (r : PT), tl[k]? = some r → At3 w3 g k r.1 r.2.1 r.2.2) := q1
  have HP2 : Hid (0 < tm.length → ∃ g, p2 = some ⟨g, 0, none⟩ ∧ g < w3.heap.size ∧ tm.length ≤ cap2 ∧ cap2 ≤ maxLen ∧ ∀ (k : Nat) (r : PT), tm[k]? = some r → At3 w3 g k r.1 r.2.1 r.2.2) := q2
  have HP3 : Hid (0 < tn.length → ∃ g, p3 = some ⟨g, 0, none⟩ ∧ g < w3.heap.size ∧ tn.length ≤ cap3 ∧ cap3 ≤ maxLen ∧ ∀ (k : Nat) (r : PT), tn[k]? = some r → At3 w3 g k r.1 r.2.1 r.2.2) := q3
  clear b3 ho3 q1 q2 q3 HO1' HO2 HB2 HC1 HC2 HC3
  obtain ⟨nl, hnl⟩ : ∃ n, tl.length = n := ⟨_, rfl⟩
  obtain ⟨nm, hnm⟩ : ∃ n, tm.length = n := ⟨_, rfl⟩
  obtain ⟨nn, hnn⟩ : ∃ n, tn.length = n := ⟨_, rfl⟩
  rw [hnl] at HP1 HG1 HG2 hl hN ⊢
  rw [hnm] at HP2 hm hN ⊢
  rw [hnn] at HP3 hN ⊢
  subst hN
  have HL1 : Hid (tl.length = nl) := hnl
  have HL2 : Hid (tm.length = nm) := hnm
  clear hnl hnm hnn
  go_wp2_with fail
  go_loopw [14] (fun i W => ∃ j : Nat, j ≤ nl + nm ∧ i = .int .i64 (j : Int) ∧ Below w3.heap.size w3 W) (fun i _ => nl + nm - (intOf i).toNat)
  case atStart => exact ⟨0, Nat.zero_le _, rfl, Below.refl _ _⟩
  case round =>
    obtain ⟨i, hi, rfl, B⟩ := hrel
    have HB : Hid (Below w3.heap.size w3 wr) := B
    clear B
    by_cases hlt : i < nl + nm
    · have hlt' : (i : Int) < (nl : Int) + (nm : Int) := by omega
      have i0 : (0 : Int) ≤ (i : Int) := by omega
      obtain ⟨g3, z3, hg3, hc3, hd3, hA3⟩ := HP3.out (by omega)
      unfold maxLen at hd3
      subst z3
      by_cases hil : i < nl
      · have hil' : (i : Int) < (nl : Int) := by omega
        obtain ⟨g1, z1, hg1, hc1, hd1, hA1⟩ := HP1.out (by omega)
        unfold maxLen at hd1
        subst z1
        obtain ⟨⟨q, t, x⟩, hr⟩ : ∃ r, tl[i]? = some r := ⟨tl[i]'(by rw [HL1.out]; exact hil), List.getElem?_eq_getElem (by rw [HL1.out]; exact hil)⟩
        obtain ⟨s1, s2, s3⟩ := At3.below (hA1 i _ hr) hg1 HB.out
        obtain ⟨r1, r2, r3⟩ := At3.below (hA3 i _ (HG1.out i _ hil hr)) hg3 HB.out
        have ne3 : g3 ≠ wr.heap.size := by have := HB.out.size; omega
        have m1 : wr.heap.size ≠ g1 := World.new_ne wr ⟨g1, i * 3, none⟩ s1
        have m2 : g1 ≠ wr.heap.size := fun e => m1 e.symm
        have m3 : g1 < wr.heap.size := by have := HB.out.size; omega
        have m4 : wr.heap.size ≠ g3 := World.new_ne wr ⟨g3, i * 3, none⟩ r1
        have m5 : g3 < wr.heap.size := by have := HB.out.size; omega
        clear hr hA1 hA3
        go_wp2_with fail
        refine wp_region_held_drew (S := fun W => At3 W g3 i q t x ∧ (W.cell? ⟨wr.heap.size, 0, none⟩ = some (.int .i64 q) ∧ W.cell? ⟨wr.heap.size, 1, none⟩ = some (.string t) ∧ W.cell? ⟨wr.heap.size, 2, none⟩ = some (.int .i64 x))) (by kernel_rfl) ⟨⟨(World.cell?_alloc_past _ _ _ m5).trans r1, (World.cell?_alloc_past _ _ _ m5).trans r2, (World.cell?_alloc_past _ _ _ m5).trans r3⟩, by simp, by simp, by simp⟩ (fun hHeld => ?_)
        refine wpAnyH_take (i := 0) (v := ?_) (oi := { dst := some 92, op := _, type := _, pos := _, after := _, guard := none }) rfl (by kernel_rfl) (by kernel_rfl) (by kernel_rfl) (fun _ _ _ h => h) (Or.inl ⟨by kernel_rfl, ?_⟩) (by assumption) ?_
        case refine_2 => (intro w9 hSw; clear hSw; go_simp; try with_reducible rfl)
        simp only [Act.put, List.setIfInBounds_toArray, List.set_cons_zero, List.set_cons_succ]
        refine wpAnyH_take (i := 1) (v := ?_) (oi := { dst := some 93, op := _, type := _, pos := _, after := _, guard := none }) rfl (by kernel_rfl) (by kernel_rfl) (by kernel_rfl) (fun _ _ _ h => h) (Or.inl ⟨by kernel_rfl, ?_⟩) (by assumption) ?_
        case refine_2 => (intro w9 hSw; clear hSw; go_simp; try with_reducible rfl)
        simp only [Act.put, List.setIfInBounds_toArray, List.set_cons_zero, List.set_cons_succ]
        refine wpAnyH_take (i := 2) (v := ?_) (oi := { dst := some 94, op := _, type := _, pos := _, after := _, guard := none }) rfl (by kernel_rfl) (by kernel_rfl) (by kernel_rfl) (fun _ _ _ h => h) (Or.inl ⟨by kernel_rfl, ?_⟩) (by assumption) ?_
        case refine_2 => (intro w9 hSw; clear hSw; go_simp; try with_reducible rfl)
        simp only [Act.put, List.setIfInBounds_toArray, List.set_cons_zero, List.set_cons_succ]
        refine wpAnyH_take (i := 3) (v := ?_) (oi := { dst := some 95, op := _, type := _, pos := _, after := _, guard := none }) rfl (by kernel_rfl) (by kernel_rfl) (by kernel_rfl) (fun _ _ _ h => h) (Or.inl ⟨by kernel_rfl, ?_⟩) (by assumption) ?_
        case refine_2 => (intro w9 hSw; obtain ⟨⟨ra, rb, rc⟩, rd, re, rf⟩ := hSw; go_simp; try with_reducible rfl)
        simp only [Act.put, List.setIfInBounds_toArray, List.set_cons_zero, List.set_cons_succ]
        refine wpAnyH_take (i := 4) (v := ?_) (oi := { dst := some 96, op := _, type := _, pos := _, after := _, guard := none }) rfl (by kernel_rfl) (by kernel_rfl) (by kernel_rfl) (fun _ _ _ h => h) (Or.inl ⟨by kernel_rfl, ?_⟩) (by assumption) ?_
        case refine_2 => (intro w9 hSw; obtain ⟨⟨ra, rb, rc⟩, rd, re, rf⟩ := hSw; go_simp; try with_reducible rfl)
        simp only [Act.put, List.setIfInBounds_toArray, List.set_cons_zero, List.set_cons_succ]
        refine wpAnyH_take (i := 5) (v := ?_) (oi := { dst := some 97, op := _, type := _, pos := _, after := _, guard := none }) rfl (by kernel_rfl) (by kernel_rfl) (by kernel_rfl) (fun _ _ _ h => h) (Or.inl ⟨by kernel_rfl, ?_⟩) (by assumption) ?_
        case refine_2 => (intro w9 hSw; clear hSw; go_simp; try with_reducible rfl)
        simp only [Act.put, List.setIfInBounds_toArray, List.set_cons_zero, List.set_cons_succ]
        clear hHeld
        refine wpAnyH_done (by kernel_rfl) ?_ _
        go_wp2_with fail
        go_roundw
        case rel => exact ⟨i + 1, by omega, by go_num, (by first | exact HB.out.alloc HB.out.size _ | exact (HB.out.alloc HB.out.size _).drew)⟩
        case measure => simp [intOf]; omega
      · have hil' : ¬ (i : Int) < (nl : Int) := by omega
        obtain ⟨k, rfl⟩ : ∃ k, i = nl + k := ⟨i - nl, by omega⟩
        have hkm : k < nm := by omega
        obtain ⟨g2, z2, hg2, hc2, hd2, hA2⟩ := HP2.out (by omega)
        unfold maxLen at hd2
        subst z2
        obtain ⟨⟨q, t, x⟩, hr⟩ : ∃ r, tm[k]? = some r := ⟨tm[k]'(by rw [HL2.out]; exact hkm), List.getElem?_eq_getElem (by rw [HL2.out]; exact hkm)⟩
        obtain ⟨s1, s2, s3⟩ := At3.below (hA2 k _ hr) hg2 HB.out
        obtain ⟨r1, r2, r3⟩ := At3.below (hA3 (nl + k) _ (HG2.out (nl + k) _ (by omega) (by rw [show nl + k - nl = k by omega]; exact hr))) hg3 HB.out
        obtain ⟨x1, x2⟩ := HX.out _ (List.mem_of_getElem? hr)
        simp only [shT] at r1 r2 r3 x1 x2
        have m1 : wr.heap.size ≠ g2 := World.new_ne wr ⟨g2, k * 3, none⟩ s1
        have m2 : g2 ≠ wr.heap.size := fun e => m1 e.symm
        have m3 : g2 < wr.heap.size := by have := HB.out.size; omega
        have m4 : wr.heap.size ≠ g3 := World.new_ne wr ⟨g3, (nl + k) * 3, none⟩ r1
        have m5 : g3 < wr.heap.size := by have := HB.out.size; omega
        have k0 : (0 : Int) ≤ (k : Int) := by omega
        have k1 : (k : Int) < (nm : Int) := by omega
        have ki : (((nl + k : Nat) : Int) - (nl : Int)) = (k : Int) := by omega
        have k2 : (nl : Int) + (k : Int) < (nl : Int) + (nm : Int) := by omega
        have k3 : (0 : Int) ≤ (nl : Int) + (k : Int) := by omega
        have k4 : ((nl : Int) + (k : Int)).toNat = nl + k := by omega
        clear hr hA2 hA3
        go_wp2_with fail
        refine wp_region_held_drew (S := fun W => At3 W g3 (nl + k) q t (x + (a.size : Int) + 1) ∧ (W.cell? ⟨wr.heap.size, 0, none⟩ = some (.int .i64 q) ∧ W.cell? ⟨wr.heap.size, 1, none⟩ = some (.string t) ∧ W.cell? ⟨wr.heap.size, 2, none⟩ = some (.int .i64 (x + (a.size : Int) + 1)))) (by kernel_rfl) ⟨⟨(World.cell?_alloc_past _ _ _ m5).trans r1, (World.cell?_alloc_past _ _ _ m5).trans r2, (World.cell?_alloc_past _ _ _ m5).trans r3⟩, by simp, by simp, by simp⟩ (fun hHeld => ?_)
        refine wpAnyH_take (i := 0) (v := ?_) (oi := { dst := some 92, op := _, type := _, pos := _, after := _, guard := none }) rfl (by kernel_rfl) (by kernel_rfl) (by kernel_rfl) (fun _ _ _ h => h) (Or.inl ⟨by kernel_rfl, ?_⟩) (by assumption) ?_
        case refine_2 => (intro w9 hSw; clear hSw; go_simp; try with_reducible rfl)
        simp only [Act.put, List.setIfInBounds_toArray, List.set_cons_zero, List.set_cons_succ]
        refine wpAnyH_take (i := 1) (v := ?_) (oi := { dst := some 93, op := _, type := _, pos := _, after := _, guard := none }) rfl (by kernel_rfl) (by kernel_rfl) (by kernel_rfl) (fun _ _ _ h => h) (Or.inl ⟨by kernel_rfl, ?_⟩) (by assumption) ?_
        case refine_2 => (intro w9 hSw; clear hSw; go_simp; try with_reducible rfl)
        simp only [Act.put, List.setIfInBounds_toArray, List.set_cons_zero, List.set_cons_succ]
        refine wpAnyH_take (i := 2) (v := ?_) (oi := { dst := some 94, op := _, type := _, pos := _, after := _, guard := none }) rfl (by kernel_rfl) (by kernel_rfl) (by kernel_rfl) (fun _ _ _ h => h) (Or.inl ⟨by kernel_rfl, ?_⟩) (by assumption) ?_
        case refine_2 => (intro w9 hSw; clear hSw; go_simp; try with_reducible rfl)
        simp only [Act.put, List.setIfInBounds_toArray, List.set_cons_zero, List.set_cons_succ]
        refine wpAnyH_take (i := 3) (v := ?_) (oi := { dst := some 95, op := _, type := _, pos := _, after := _, guard := none }) rfl (by kernel_rfl) (by kernel_rfl) (by kernel_rfl) (fun _ _ _ h => h) (Or.inl ⟨by kernel_rfl, ?_⟩) (by assumption) ?_
        case refine_2 => (intro w9 hSw; obtain ⟨⟨ra, rb, rc⟩, rd, re, rf⟩ := hSw; go_simp; try with_reducible rfl)
        simp only [Act.put, List.setIfInBounds_toArray, List.set_cons_zero, List.set_cons_succ]
        refine wpAnyH_take (i := 4) (v := ?_) (oi := { dst := some 96, op := _, type := _, pos := _, after := _, guard := none }) rfl (by kernel_rfl) (by kernel_rfl) (by kernel_rfl) (fun _ _ _ h => h) (Or.inl ⟨by kernel_rfl, ?_⟩) (by assumption) ?_
        case refine_2 => (intro w9 hSw; obtain ⟨⟨ra, rb, rc⟩, rd, re, rf⟩ := hSw; go_simp; try with_reducible rfl)
        simp only [Act.put, List.setIfInBounds_toArray, List.set_cons_zero, List.set_cons_succ]
        refine wpAnyH_take (i := 5) (v := ?_) (oi := { dst := some 97, op := _, type := _, pos := _, after := _, guard := none }) rfl (by kernel_rfl) (by kernel_rfl) (by kernel_rfl) (fun _ _ _ h => h) (Or.inl ⟨by kernel_rfl, ?_⟩) (by assumption) ?_
        case refine_2 => (intro w9 hSw; clear hSw; go_simp; try with_reducible rfl)
        simp only [Act.put, List.setIfInBounds_toArray, List.set_cons_zero, List.set_cons_succ]
        clear hHeld
        refine wpAnyH_done (by kernel_rfl) ?_ _
        go_wp2_with fail
        go_roundw
        case rel => exact ⟨nl + k + 1, by omega, by go_num, (by first | exact HB.out.alloc HB.out.size _ | exact (HB.out.alloc HB.out.size _).drew)⟩
        case measure => simp [intOf]; omega
    · have hlt' : ¬ (i : Int) < (nl : Int) + (nm : Int) := by omega
      go_wp2_with fail
      refine (known_any _ (Tabs_below (Tabs_below hT HB3.out) HB.out)).mono ?_
      rintro e w4 ⟨rfl, b4⟩
      have HB4 : Hid (Below w.heap.size w w4) := (HB3.out.trans (HB.out.mono HB3.out.size)).trans (b4.mono (Nat.le_trans HB3.out.size HB.out.size))
      clear b4
      go_wp2
      go_ret
      exact ⟨rfl, HB4.out⟩

end Go.Proofs.YtlhlanekklonmabDoor
