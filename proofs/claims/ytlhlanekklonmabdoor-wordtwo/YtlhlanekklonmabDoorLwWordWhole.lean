/- The law WordWhole, walked over word.Split's contract. -/
import Derived.Test.YtlhlanekklonmabDoorWdK
namespace Go.Proofs.YtlhlanekklonmabDoor
open Go.RowKit
set_option linter.unusedVariables false

set_option maxRecDepth 100000 in
set_option maxHeartbeats 2000000 in
theorem whole_bad (s : ByteArray) (at_ E : Int) (hE : (E == 0) = false)
    (HC : Hid (∀ w : World, Tabs w → Calls Tryd.prog 17 #[.string s] w fun e w' => e = .returned (.tuple #[.slice none 0 0, .int .i64 at_, .int .i64 E]) ∧ Below w.heap.size w w')) (w : World) (hT : Tabs w) :
    Calls Tryd.prog 7 #[.string s] w fun e w' => e = .returned (.bool true) ∧ Below w.heap.size w w' := by
  go_enter Tryd.func7, Tryd.ntmps7
  go_wp2_with fail
  refine (HC.out _ hT).mono ?_
  rintro e w1 ⟨rfl, B1⟩
  have HB1 : Hid (Below w.heap.size w w1) := B1
  clear B1
  go_wp2_with fail
  refine (known_any _ (Tabs_below hT HB1.out)).mono ?_
  rintro e w2 ⟨rfl, b2⟩
  have HB2 : Hid (Below w.heap.size w w2) := HB1.out.trans (b2.mono HB1.out.size)
  clear b2 HB1
  go_wp2
  go_ret
  exact ⟨rfl, HB2.out⟩

/-- how a slice of parts lies. -/
theorem row_form {w : World} {base : Nat} {v : Value} {l : List PT} {e : TypeId} (h : w.ownsRow base e 3 v l.length (flatT l)) :
    ∃ p cap, v = .slice p l.length cap ∧ (0 < l.length → ∃ g, p = some ⟨g, 0, none⟩ ∧ g < w.heap.size ∧ l.length ≤ cap ∧ cap ≤ maxLen ∧ ∀ (k : Nat) (r : PT), l[k]? = some r → At3 w g k r.1 r.2.1 r.2.2) := by
  have h0 := h
  rcases h0.2 with ⟨e0, z⟩ | ⟨g, cap, cur, e0, _, hh, h3, h4, _⟩
  · exact ⟨none, 0, by rw [e0, z], fun q => by omega⟩
  · subst e0
    exact ⟨_, cap, rfl, fun _ => ⟨g, rfl, (Array.getElem?_eq_some_iff.1 hh).1, h3, h4, ownsRow_at3 h⟩⟩
theorem blank_cases {c : Nat} (h : blankN c = true) : c = 32 ∨ c = 9 ∨ c = 10 ∨ c = 13 := by simpa [blankN, or_assoc] using h
theorem byte_at (s : ByteArray) (c : Nat) (h : c < s.size) : (s[c]'h).toNat = bt s c := (bt_get s c h).2
theorem texts_at {s : ByteArray} {l : List Prt} {k : Nat} {p : Prt} (h : l[k]? = some p) : (texts s l)[k]? = some (p.1, s.extract p.2.1 p.2.2, (p.2.1 : Int)) := by simp [texts, h]

set_option maxRecDepth 1000000 in
set_option maxHeartbeats 4000000 in
theorem whole_good (s : ByteArray) (l : List Prt) (hs : s.size ≤ 2048) (hC : Cov s 0 l s.size)
    (HC : Hid (∀ w : World, Tabs w → Calls Tryd.prog 17 #[.string s] w fun e w' => ∃ v, e = .returned (.tuple #[v, .int .i64 0, .int .i64 0]) ∧ w'.ownsRow w.heap.size 55 3 v (texts s l).length (flatT (texts s l)) ∧ Below w.heap.size w w')) (w : World) (hT : Tabs w) :
    Calls Tryd.prog 7 #[.string s] w fun e w' => e = .returned (.bool true) ∧ Below w.heap.size w w' := by
  have hln := Cov_length s l 0 _ hC
  have HCv : Hid (Cov s 0 l s.size) := hC
  have c55 : Tryd.prog.cellsOf 55 = 3 := by kernel_rfl
  clear hC
  go_enter Tryd.func7, Tryd.ntmps7
  go_wp2_with fail
  refine (HC.out _ hT).mono ?_
  rintro e w1 ⟨v, rfl, ho, B1⟩
  obtain ⟨p, cap, e0, hp⟩ := row_form ho
  subst e0
  rw [texts_length] at hp ⊢
  have HP : Hid (0 < l.length → ∃ g, p = some ⟨g, 0, none⟩ ∧ g < w1.heap.size ∧ l.length ≤ cap ∧ cap ≤ maxLen ∧ ∀ (k : Nat) (r : PT), (texts s l)[k]? = some r → At3 w1 g k r.1 r.2.1 r.2.2) := hp
  have HB1 : Hid (Below w.heap.size w w1) := B1
  obtain ⟨n, hn⟩ : ∃ n, l.length = n := ⟨_, rfl⟩
  rw [hn] at HP hln ⊢
  have HN : Hid (l.length = n) := hn
  clear B1 ho hp hn HC
  go_wp2_with fail
  go_loopw [6, 7] (fun a i W => ∃ j at_ : Nat, j ≤ n ∧ i = .int .i64 (j : Int) ∧ a = .int .i64 (at_ : Int) ∧ Hid (Cov s at_ (l.drop j) s.size) ∧ Below w1.heap.size w1 W) (fun _ i _ => n - (intOf i).toNat)
  case atStart => exact ⟨0, 0, Nat.zero_le _, rfl, rfl, HCv, Below.refl _ _⟩
  case round =>
    obtain ⟨j, at_, hj, rfl, rfl, HV, B⟩ := hrel
    have HB : Hid (Below w1.heap.size w1 wr) := B
    clear B HCv
    by_cases hlt : j < n
    · have hlt' : (j : Int) < (n : Int) := by omega
      obtain ⟨g, e1, hg, hc1, hc2, hA⟩ := HP.out (by omega)
      subst e1
      obtain ⟨⟨q, x, y⟩, hr⟩ : ∃ r, l[j]? = some r := ⟨l[j]'(by rw [HN.out]; exact hlt), List.getElem?_eq_getElem (by rw [HN.out]; exact hlt)⟩
      have hd : l.drop j = (q, x, y) :: l.drop (j + 1) := by
        obtain ⟨hl, he⟩ := List.getElem?_eq_some_iff.1 hr
        rw [List.drop_eq_getElem_cons hl, he]
      have hcov := HV.out
      rw [hd] at hcov
      obtain ⟨v1, v2, v3, v4, v5⟩ := hcov
      simp only at v1 v2 v3 v4 v5
      obtain ⟨t, ht⟩ : ∃ t, s.extract x y = t := ⟨_, rfl⟩
      have hts : t.size = y - x := by rw [← ht, ByteArray.size_extract]; omega
      obtain rfl : y = x + t.size := by omega
      obtain ⟨p1, p2, p3⟩ := At3.below (hA j _ (texts_at hr)) hg HB.out
      simp only [ht] at p1 p2 p3
      have HV4 : Hid (∀ c, at_ ≤ c → c < x → blankN (bt s c) = true) := v4
      have HV5 : Hid (Cov s (x + t.size) (l.drop (j + 1)) s.size) := v5
      unfold maxLen at hc2
      have y1 : decide ((x : Int) < (at_ : Int)) = false := decide_eq_false (by omega)
      have y2 : ((t.size : Int) == 0) = false := beq_eq_false_iff_ne.2 (by omega)
      have y3 : decide ((s.size : Int) < (x : Int)) = false := decide_eq_false (by omega)
      have y4 : IntKind.i64.wrap ((s.size : Int) - (x : Int)) = ((s.size - x : Nat) : Int) := by rw [IntKind.wrap_i64]; omega
      have y5 : decide (((s.size - x : Nat) : Int) < (t.size : Int)) = false := decide_eq_false (by omega)
      have y6 : IntKind.i64.wrap ((x : Int) + (t.size : Int)) = ((x + t.size : Nat) : Int) := by rw [IntKind.wrap_i64]; omega
      have y7 : (0 : Int) ≤ (x : Int) := by omega
      have y8 : (x : Int) ≤ (x : Int) + (t.size : Int) := by omega
      have y9 : (x : Int) + (t.size : Int) ≤ (s.size : Int) := by omega
      have y10 : (0 : Int) ≤ (j : Int) := by omega
      clear hr hd v4 v5 hts hA
      go_wp2_with fail
      refine wp_region_held_drew (S := fun W => W.cell? ⟨wr.heap.size, 0, none⟩ = some (.int .i64 q) ∧ W.cell? ⟨wr.heap.size, 1, none⟩ = some (.string t) ∧ W.cell? ⟨wr.heap.size, 2, none⟩ = some (.int .i64 (x : Int))) (by kernel_rfl) ⟨by simp, by simp, by simp⟩ (fun hHeld => ?_)
      refine wpAnyH_take (i := 0) (v := ?_) (oi := { dst := some 35, op := _, type := _, pos := _, after := _, guard := none }) rfl (by kernel_rfl) (by kernel_rfl) (by kernel_rfl) (fun _ _ _ h => h) (Or.inl ⟨by kernel_rfl, ?_⟩) (by assumption) ?_
      case refine_2 => (intro w9 hSw; clear hSw; go_simp; try with_reducible rfl)
      simp only [Act.put, List.setIfInBounds_toArray, List.set_cons_zero, List.set_cons_succ]
      refine wpAnyH_take (i := 1) (v := ?_) (oi := { dst := some 36, op := _, type := _, pos := _, after := _, guard := none }) rfl (by kernel_rfl) (by kernel_rfl) (by kernel_rfl) (fun _ _ _ h => h) (Or.inl ⟨by kernel_rfl, ?_⟩) (by assumption) ?_
      case refine_2 => (intro w9 hSw; obtain ⟨ra, rb, rc⟩ := hSw; go_simp; try with_reducible rfl)
      simp only [Act.put, List.setIfInBounds_toArray, List.set_cons_zero, List.set_cons_succ]
      refine wpAnyH_take (i := 2) (v := ?_) (oi := { dst := some 37, op := _, type := _, pos := _, after := _, guard := none }) rfl (by kernel_rfl) (by kernel_rfl) (by kernel_rfl) (fun _ _ _ h => h) (Or.inl ⟨by kernel_rfl, ?_⟩) (by assumption) ?_
      case refine_2 => (intro w9 hSw; clear hSw; go_simp; try with_reducible rfl)
      simp only [Act.put, List.setIfInBounds_toArray, List.set_cons_zero, List.set_cons_succ]
      refine wpAnyH_take (i := 3) (v := .bool false) (oi := { dst := some 38, op := _, type := _, pos := _, after := _, guard := none }) rfl (by kernel_rfl) (by kernel_rfl) (by kernel_rfl) (fun _ _ _ h => h) (Or.inl ⟨by kernel_rfl, ?_⟩) (by assumption) ?_
      case refine_1 => (intro w9 hSw; clear hSw; (go_simp) <;> first | omega | (simp_all; done) | (simp_all; omega))
      simp only [Act.put, List.setIfInBounds_toArray, List.set_cons_zero, List.set_cons_succ]
      refine wpAnyH_take (i := 4) (v := ?_) (oi := { dst := some 39, op := _, type := _, pos := _, after := _, guard := none }) rfl (by kernel_rfl) (by kernel_rfl) (by kernel_rfl) (fun _ _ _ h => h) (Or.inl ⟨by kernel_rfl, ?_⟩) (by assumption) ?_
      case refine_2 => (intro w9 hSw; clear hSw; go_simp; try with_reducible rfl)
      simp only [Act.put, List.setIfInBounds_toArray, List.set_cons_zero, List.set_cons_succ]
      refine wpAnyH_take (i := 5) (v := ?_) (oi := { dst := some 40, op := _, type := _, pos := _, after := _, guard := some (4, false) }) rfl (by kernel_rfl) (by kernel_rfl) (by kernel_rfl) (fun _ _ _ h => h) (Or.inl ⟨by kernel_rfl, ?_⟩) (by assumption) ?_
      case refine_2 => (intro w9 hSw; clear hSw; go_simp; try with_reducible rfl)
      simp only [Act.put, List.setIfInBounds_toArray, List.set_cons_zero, List.set_cons_succ]
      refine wpAnyH_take (i := 6) (v := ?_) (oi := { dst := some 41, op := _, type := _, pos := _, after := _, guard := some (4, false) }) rfl (by kernel_rfl) (by kernel_rfl) (by kernel_rfl) (fun _ _ _ h => h) (Or.inl ⟨by kernel_rfl, ?_⟩) (by assumption) ?_
      case refine_2 => (intro w9 hSw; obtain ⟨ra, rb, rc⟩ := hSw; go_simp; try with_reducible rfl)
      simp only [Act.put, List.setIfInBounds_toArray, List.set_cons_zero, List.set_cons_succ]
      refine wpAnyH_take (i := 7) (v := ?_) (oi := { dst := some 42, op := _, type := _, pos := _, after := _, guard := some (4, false) }) rfl (by kernel_rfl) (by kernel_rfl) (by kernel_rfl) (fun _ _ _ h => h) (Or.inl ⟨by kernel_rfl, ?_⟩) (by assumption) ?_
      case refine_2 => (intro w9 hSw; clear hSw; go_simp; try with_reducible rfl)
      simp only [Act.put, List.setIfInBounds_toArray, List.set_cons_zero, List.set_cons_succ]
      refine wpAnyH_take (i := 8) (v := .bool false) (oi := { dst := some 43, op := _, type := _, pos := _, after := _, guard := some (4, false) }) rfl (by kernel_rfl) (by kernel_rfl) (by kernel_rfl) (fun _ _ _ h => h) (Or.inl ⟨by kernel_rfl, ?_⟩) (by assumption) ?_
      case refine_1 => (intro w9 hSw; clear hSw; (go_simp) <;> first | omega | (simp_all; done) | (simp_all; omega))
      simp only [Act.put, List.setIfInBounds_toArray, List.set_cons_zero, List.set_cons_succ]
      refine wpAnyH_take (i := 9) (v := ?_) (oi := { dst := some 44, op := _, type := _, pos := _, after := _, guard := none }) rfl (by kernel_rfl) (by kernel_rfl) (by kernel_rfl) (fun _ _ _ h => h) (Or.inl ⟨by kernel_rfl, ?_⟩) (by assumption) ?_
      case refine_2 => (intro w9 hSw; clear hSw; go_simp; try with_reducible rfl)
      simp only [Act.put, List.setIfInBounds_toArray, List.set_cons_zero, List.set_cons_succ]
      refine wpAnyH_take (i := 10) (v := ?_) (oi := { dst := some 45, op := _, type := _, pos := _, after := _, guard := none }) rfl (by kernel_rfl) (by kernel_rfl) (by kernel_rfl) (fun _ _ _ h => h) (Or.inl ⟨by kernel_rfl, ?_⟩) (by assumption) ?_
      case refine_2 => (intro w9 hSw; clear hSw; go_simp; try with_reducible rfl)
      simp only [Act.put, List.setIfInBounds_toArray, List.set_cons_zero, List.set_cons_succ]
      refine wpAnyH_take (i := 11) (v := ?_) (oi := { dst := some 46, op := _, type := _, pos := _, after := _, guard := some (10, false) }) rfl (by kernel_rfl) (by kernel_rfl) (by kernel_rfl) (fun _ _ _ h => h) (Or.inl ⟨by kernel_rfl, ?_⟩) (by assumption) ?_
      case refine_2 => (intro w9 hSw; clear hSw; go_simp; try with_reducible rfl)
      simp only [Act.put, List.setIfInBounds_toArray, List.set_cons_zero, List.set_cons_succ]
      refine wpAnyH_take (i := 12) (v := ?_) (oi := { dst := some 47, op := _, type := _, pos := _, after := _, guard := some (10, false) }) rfl (by kernel_rfl) (by kernel_rfl) (by kernel_rfl) (fun _ _ _ h => h) (Or.inl ⟨by kernel_rfl, ?_⟩) (by assumption) ?_
      case refine_2 => (intro w9 hSw; obtain ⟨ra, rb, rc⟩ := hSw; go_simp; try with_reducible rfl)
      simp only [Act.put, List.setIfInBounds_toArray, List.set_cons_zero, List.set_cons_succ]
      refine wpAnyH_take (i := 13) (v := ?_) (oi := { dst := some 48, op := _, type := _, pos := _, after := _, guard := some (10, false) }) rfl (by kernel_rfl) (by kernel_rfl) (by kernel_rfl) (fun _ _ _ h => h) (Or.inl ⟨by kernel_rfl, ?_⟩) (by assumption) ?_
      case refine_2 => (intro w9 hSw; clear hSw; go_simp; try with_reducible rfl)
      simp only [Act.put, List.setIfInBounds_toArray, List.set_cons_zero, List.set_cons_succ]
      refine wpAnyH_take (i := 14) (v := ?_) (oi := { dst := some 49, op := _, type := _, pos := _, after := _, guard := some (10, false) }) rfl (by kernel_rfl) (by kernel_rfl) (by kernel_rfl) (fun _ _ _ h => h) (Or.inl ⟨by kernel_rfl, ?_⟩) (by assumption) ?_
      case refine_2 => (intro w9 hSw; clear hSw; go_simp; try with_reducible rfl)
      simp only [Act.put, List.setIfInBounds_toArray, List.set_cons_zero, List.set_cons_succ]
      refine wpAnyH_take (i := 15) (v := .bool false) (oi := { dst := some 50, op := _, type := _, pos := _, after := _, guard := some (10, false) }) rfl (by kernel_rfl) (by kernel_rfl) (by kernel_rfl) (fun _ _ _ h => h) (Or.inl ⟨by kernel_rfl, ?_⟩) (by assumption) ?_
      case refine_1 => (intro w9 hSw; clear hSw; (go_simp) <;> first | omega | (simp_all; done) | (simp_all; omega))
      simp only [Act.put, List.setIfInBounds_toArray, List.set_cons_zero, List.set_cons_succ]
      refine wpAnyH_take (i := 16) (v := ?_) (oi := { dst := some 51, op := _, type := _, pos := _, after := _, guard := none }) rfl (by kernel_rfl) (by kernel_rfl) (by kernel_rfl) (fun _ _ _ h => h) (Or.inl ⟨by kernel_rfl, ?_⟩) (by assumption) ?_
      case refine_2 => (intro w9 hSw; clear hSw; go_simp; try with_reducible rfl)
      simp only [Act.put, List.setIfInBounds_toArray, List.set_cons_zero, List.set_cons_succ]
      refine wpAnyH_take (i := 17) (v := ?_) (oi := { dst := some 52, op := _, type := _, pos := _, after := _, guard := none }) rfl (by kernel_rfl) (by kernel_rfl) (by kernel_rfl) (fun _ _ _ h => h) (Or.inl ⟨by kernel_rfl, ?_⟩) (by assumption) ?_
      case refine_2 => (intro w9 hSw; clear hSw; go_simp; try with_reducible rfl)
      simp only [Act.put, List.setIfInBounds_toArray, List.set_cons_zero, List.set_cons_succ]
      refine wpAnyH_take (i := 18) (v := ?_) (oi := { dst := some 53, op := _, type := _, pos := _, after := _, guard := some (17, false) }) rfl (by kernel_rfl) (by kernel_rfl) (by kernel_rfl) (fun _ _ _ h => h) (Or.inl ⟨by kernel_rfl, ?_⟩) (by assumption) ?_
      case refine_2 => (intro w9 hSw; clear hSw; go_simp; try with_reducible rfl)
      simp only [Act.put, List.setIfInBounds_toArray, List.set_cons_zero, List.set_cons_succ]
      refine wpAnyH_take (i := 19) (v := ?_) (oi := { dst := some 54, op := _, type := _, pos := _, after := _, guard := some (17, false) }) rfl (by kernel_rfl) (by kernel_rfl) (by kernel_rfl) (fun _ _ _ h => h) (Or.inl ⟨by kernel_rfl, ?_⟩) (by assumption) ?_
      case refine_2 => (intro w9 hSw; obtain ⟨ra, rb, rc⟩ := hSw; go_simp; try with_reducible rfl)
      simp only [Act.put, List.setIfInBounds_toArray, List.set_cons_zero, List.set_cons_succ]
      refine wpAnyH_take (i := 20) (v := ?_) (oi := { dst := some 55, op := _, type := _, pos := _, after := _, guard := some (17, false) }) rfl (by kernel_rfl) (by kernel_rfl) (by kernel_rfl) (fun _ _ _ h => h) (Or.inl ⟨by kernel_rfl, ?_⟩) (by assumption) ?_
      case refine_2 => (intro w9 hSw; clear hSw; go_simp; try with_reducible rfl)
      simp only [Act.put, List.setIfInBounds_toArray, List.set_cons_zero, List.set_cons_succ]
      refine wpAnyH_take (i := 21) (v := ?_) (oi := { dst := some 56, op := _, type := _, pos := _, after := _, guard := some (17, false) }) rfl (by kernel_rfl) (by kernel_rfl) (by kernel_rfl) (fun _ _ _ h => h) (Or.inl ⟨by kernel_rfl, ?_⟩) (by assumption) ?_
      case refine_2 => (intro w9 hSw; clear hSw; go_simp; try with_reducible rfl)
      simp only [Act.put, List.setIfInBounds_toArray, List.set_cons_zero, List.set_cons_succ]
      refine wpAnyH_take (i := 22) (v := ?_) (oi := { dst := some 57, op := _, type := _, pos := _, after := _, guard := some (17, false) }) rfl (by kernel_rfl) (by kernel_rfl) (by kernel_rfl) (fun _ _ _ h => h) (Or.inl ⟨by kernel_rfl, ?_⟩) (by assumption) ?_
      case refine_2 => (intro w9 hSw; clear hSw; go_simp; try with_reducible rfl)
      simp only [Act.put, List.setIfInBounds_toArray, List.set_cons_zero, List.set_cons_succ]
      refine wpAnyH_take (i := 23) (v := ?_) (oi := { dst := some 58, op := _, type := _, pos := _, after := _, guard := some (17, false) }) rfl (by kernel_rfl) (by kernel_rfl) (by kernel_rfl) (fun _ _ _ h => h) (Or.inl ⟨by kernel_rfl, ?_⟩) (by assumption) ?_
      case refine_2 => (intro w9 hSw; clear hSw; go_simp; try with_reducible rfl)
      simp only [Act.put, List.setIfInBounds_toArray, List.set_cons_zero, List.set_cons_succ]
      refine wpAnyH_take (i := 24) (v := ?_) (oi := { dst := some 59, op := _, type := _, pos := _, after := _, guard := some (17, false) }) rfl (by kernel_rfl) (by kernel_rfl) (by kernel_rfl) (fun _ _ _ h => h) (Or.inl ⟨by kernel_rfl, ?_⟩) (by assumption) ?_
      case refine_2 => (intro w9 hSw; obtain ⟨ra, rb, rc⟩ := hSw; go_simp; try with_reducible rfl)
      simp only [Act.put, List.setIfInBounds_toArray, List.set_cons_zero, List.set_cons_succ]
      refine wpAnyH_take (i := 25) (v := ?_) (oi := { dst := some 60, op := _, type := _, pos := _, after := _, guard := some (17, false) }) rfl (by kernel_rfl) (by kernel_rfl) (by kernel_rfl) (fun _ _ _ h => h) (Or.inl ⟨by kernel_rfl, ?_⟩) (by assumption) ?_
      case refine_2 => (intro w9 hSw; clear hSw; go_simp; try with_reducible rfl)
      simp only [Act.put, List.setIfInBounds_toArray, List.set_cons_zero, List.set_cons_succ]
      refine wpAnyH_take (i := 26) (v := .bool false) (oi := { dst := some 61, op := _, type := _, pos := _, after := _, guard := some (17, false) }) rfl (by kernel_rfl) (by kernel_rfl) (by kernel_rfl) (fun _ _ _ h => h) (Or.inl ⟨by kernel_rfl, ?_⟩) (by assumption) ?_
      case refine_1 => (intro w9 hSw; clear hSw; (go_simp) <;> first | omega | (simp_all; done) | (simp_all; omega))
      simp only [Act.put, List.setIfInBounds_toArray, List.set_cons_zero, List.set_cons_succ]
      refine wpAnyH_take (i := 27) (v := ?_) (oi := { dst := some 62, op := _, type := _, pos := _, after := _, guard := none }) rfl (by kernel_rfl) (by kernel_rfl) (by kernel_rfl) (fun _ _ _ h => h) (Or.inl ⟨by kernel_rfl, ?_⟩) (by assumption) ?_
      case refine_2 => (intro w9 hSw; clear hSw; go_simp; try with_reducible rfl)
      simp only [Act.put, List.setIfInBounds_toArray, List.set_cons_zero, List.set_cons_succ]
      refine wpAnyH_take (i := 28) (v := ?_) (oi := { dst := some 63, op := _, type := _, pos := _, after := _, guard := none }) rfl (by kernel_rfl) (by kernel_rfl) (by kernel_rfl) (fun _ _ _ h => h) (Or.inl ⟨by kernel_rfl, ?_⟩) (by assumption) ?_
      case refine_2 => (intro w9 hSw; clear hSw; go_simp; try with_reducible rfl)
      simp only [Act.put, List.setIfInBounds_toArray, List.set_cons_zero, List.set_cons_succ]
      refine wpAnyH_take (i := 29) (v := ?_) (oi := { dst := some 64, op := _, type := _, pos := _, after := _, guard := some (28, false) }) rfl (by kernel_rfl) (by kernel_rfl) (by kernel_rfl) (fun _ _ _ h => h) (Or.inl ⟨by kernel_rfl, ?_⟩) (by assumption) ?_
      case refine_2 => (intro w9 hSw; clear hSw; go_simp; try with_reducible rfl)
      simp only [Act.put, List.setIfInBounds_toArray, List.set_cons_zero, List.set_cons_succ]
      refine wpAnyH_take (i := 30) (v := ?_) (oi := { dst := some 65, op := _, type := _, pos := _, after := _, guard := some (28, false) }) rfl (by kernel_rfl) (by kernel_rfl) (by kernel_rfl) (fun _ _ _ h => h) (Or.inl ⟨by kernel_rfl, ?_⟩) (by assumption) ?_
      case refine_2 => (intro w9 hSw; clear hSw; go_simp; try with_reducible rfl)
      simp only [Act.put, List.setIfInBounds_toArray, List.set_cons_zero, List.set_cons_succ]
      refine wpAnyH_take (i := 31) (v := ?_) (oi := { dst := some 66, op := _, type := _, pos := _, after := _, guard := some (28, false) }) rfl (by kernel_rfl) (by kernel_rfl) (by kernel_rfl) (fun _ _ _ h => h) (Or.inl ⟨by kernel_rfl, ?_⟩) (by assumption) ?_
      case refine_2 => (intro w9 hSw; obtain ⟨ra, rb, rc⟩ := hSw; go_simp; try with_reducible rfl)
      simp only [Act.put, List.setIfInBounds_toArray, List.set_cons_zero, List.set_cons_succ]
      refine wpAnyH_take (i := 32) (v := ?_) (oi := { dst := some 67, op := _, type := _, pos := _, after := _, guard := some (28, false) }) rfl (by kernel_rfl) (by kernel_rfl) (by kernel_rfl) (fun _ _ _ h => h) (Or.inl ⟨by kernel_rfl, ?_⟩) (by assumption) ?_
      case refine_2 => (intro w9 hSw; clear hSw; go_simp; try with_reducible rfl)
      simp only [Act.put, List.setIfInBounds_toArray, List.set_cons_zero, List.set_cons_succ]
      refine wpAnyH_take (i := 33) (v := ?_) (oi := { dst := some 68, op := _, type := _, pos := _, after := _, guard := some (28, false) }) rfl (by kernel_rfl) (by kernel_rfl) (by kernel_rfl) (fun _ _ _ h => h) (Or.inl ⟨by kernel_rfl, ?_⟩) (by assumption) ?_
      case refine_2 => (intro w9 hSw; obtain ⟨ra, rb, rc⟩ := hSw; go_simp; try with_reducible rfl)
      simp only [Act.put, List.setIfInBounds_toArray, List.set_cons_zero, List.set_cons_succ]
      refine wpAnyH_take (i := 34) (v := ?_) (oi := { dst := some 69, op := _, type := _, pos := _, after := _, guard := some (28, false) }) rfl (by kernel_rfl) (by kernel_rfl) (by kernel_rfl) (fun _ _ _ h => h) (Or.inl ⟨by kernel_rfl, ?_⟩) (by assumption) ?_
      case refine_2 => (intro w9 hSw; clear hSw; go_simp; try with_reducible rfl)
      simp only [Act.put, List.setIfInBounds_toArray, List.set_cons_zero, List.set_cons_succ]
      refine wpAnyH_take (i := 35) (v := ?_) (oi := { dst := some 70, op := _, type := _, pos := _, after := _, guard := some (28, false) }) rfl (by kernel_rfl) (by kernel_rfl) (by kernel_rfl) (fun _ _ _ h => h) (Or.inl ⟨by kernel_rfl, ?_⟩) (by assumption) ?_
      case refine_2 => (intro w9 hSw; obtain ⟨ra, rb, rc⟩ := hSw; go_simp; try with_reducible rfl)
      simp only [Act.put, List.setIfInBounds_toArray, List.set_cons_zero, List.set_cons_succ]
      refine wpAnyH_take (i := 36) (v := ?_) (oi := { dst := some 71, op := _, type := _, pos := _, after := _, guard := some (28, false) }) rfl (by kernel_rfl) (by kernel_rfl) (by kernel_rfl) (fun _ _ _ h => h) (Or.inl ⟨by kernel_rfl, ?_⟩) (by assumption) ?_
      case refine_2 => (intro w9 hSw; clear hSw; go_simp; try with_reducible rfl)
      simp only [Act.put, List.setIfInBounds_toArray, List.set_cons_zero, List.set_cons_succ]
      refine wpAnyH_take (i := 37) (v := ?_) (oi := { dst := some 72, op := _, type := _, pos := _, after := _, guard := some (28, false) }) rfl (by kernel_rfl) (by kernel_rfl) (by kernel_rfl) (fun _ _ _ h => h) (Or.inl ⟨by kernel_rfl, ?_⟩) (by assumption) ?_
      case refine_2 => (intro w9 hSw; clear hSw; go_simp; try with_reducible rfl)
      simp only [Act.put, List.setIfInBounds_toArray, List.set_cons_zero, List.set_cons_succ]
      refine wpAnyH_take (i := 38) (v := .string t) (oi := { dst := some 73, op := _, type := _, pos := _, after := _, guard := some (28, false) }) rfl (by kernel_rfl) (by kernel_rfl) (by kernel_rfl) (fun _ _ _ h => h) (Or.inl ⟨by kernel_rfl, ?_⟩) (by assumption) ?_
      case refine_1 => (intro w9 hSw; clear hSw; go_simp; exact ht)
      simp only [Act.put, List.setIfInBounds_toArray, List.set_cons_zero, List.set_cons_succ]
      refine wpAnyH_take (i := 39) (v := ?_) (oi := { dst := some 74, op := _, type := _, pos := _, after := _, guard := some (28, false) }) rfl (by kernel_rfl) (by kernel_rfl) (by kernel_rfl) (fun _ _ _ h => h) (Or.inl ⟨by kernel_rfl, ?_⟩) (by assumption) ?_
      case refine_2 => (intro w9 hSw; clear hSw; go_simp; try with_reducible rfl)
      simp only [Act.put, List.setIfInBounds_toArray, List.set_cons_zero, List.set_cons_succ]
      refine wpAnyH_take (i := 40) (v := ?_) (oi := { dst := some 75, op := _, type := _, pos := _, after := _, guard := some (28, false) }) rfl (by kernel_rfl) (by kernel_rfl) (by kernel_rfl) (fun _ _ _ h => h) (Or.inl ⟨by kernel_rfl, ?_⟩) (by assumption) ?_
      case refine_2 => (intro w9 hSw; obtain ⟨ra, rb, rc⟩ := hSw; go_simp; try with_reducible rfl)
      simp only [Act.put, List.setIfInBounds_toArray, List.set_cons_zero, List.set_cons_succ]
      refine wpAnyH_take (i := 41) (v := .bool false) (oi := { dst := some 76, op := _, type := _, pos := _, after := _, guard := some (28, false) }) rfl (by kernel_rfl) (by kernel_rfl) (by kernel_rfl) (fun _ _ _ h => h) (Or.inl ⟨by kernel_rfl, ?_⟩) (by assumption) ?_
      case refine_1 => (intro w9 hSw; clear hSw; (go_simp) <;> first | omega | (simp_all; done) | (simp_all; omega))
      simp only [Act.put, List.setIfInBounds_toArray, List.set_cons_zero, List.set_cons_succ]
      refine wpAnyH_take (i := 42) (v := ?_) (oi := { dst := some 77, op := _, type := _, pos := _, after := _, guard := none }) rfl (by kernel_rfl) (by kernel_rfl) (by kernel_rfl) (fun _ _ _ h => h) (Or.inl ⟨by kernel_rfl, ?_⟩) (by assumption) ?_
      case refine_2 => (intro w9 hSw; clear hSw; go_simp; try with_reducible rfl)
      simp only [Act.put, List.setIfInBounds_toArray, List.set_cons_zero, List.set_cons_succ]
      clear hHeld
      refine wpAnyH_done (by kernel_rfl) ?_ _
      go_wp2_with fail
      go_loop [9] (fun kk => ∃ c : Nat, at_ ≤ c ∧ c ≤ x ∧ kk = .int .i64 (c : Int)) (fun kk => x - (intOf kk).toNat)
      case atStart => exact ⟨at_, Nat.le_refl _, v1, rfl⟩
      case round =>
        obtain ⟨c, hc3, hc4, rfl⟩ := hrel
        by_cases hcx : c < x
        · have hcx' : (c : Int) < (x : Int) := by omega
          have hcs : c < s.size := by omega
          have hcs' : (c : Int) < (s.size : Int) := by omega
          have hc0 : (0 : Int) ≤ (c : Int) := by omega
          have hcb := byte_at s c hcs
          rcases blank_cases (HV4.out c hc3 hcx) with z | z | z | z
          all_goals
            rw [z] at hcb
            have hcb' : ((s[c]'hcs).toNat : Int) = _ := congrArg (Nat.cast : Nat → Int) hcb
            clear z hcb
            go_wp2_with fail
            go_round
            case rel => exact ⟨c + 1, by omega, by omega, by go_num⟩
            case measure => simp [intOf]; omega
        · have hcx' : ¬ (c : Int) < (x : Int) := by omega
          go_wp2_with fail
          go_roundw
          case rel => exact ⟨j + 1, x + t.size, by omega, by go_num, by go_num, HV5, (by first | exact HB.out.alloc HB.out.size _ | exact (HB.out.alloc HB.out.size _).drew)⟩
          case measure => simp [intOf]; omega
    · have hlt' : ¬ (j : Int) < (n : Int) := by omega
      have hcov : Cov s at_ [] s.size := by
        have := HV.out
        rw [List.drop_of_length_le (by rw [HN.out]; omega)] at this
        exact this
      obtain ⟨v1, v2, v3⟩ := hcov
      have HV3 : Hid (∀ c, at_ ≤ c → c < s.size → blankN (bt s c) = true) := v3
      clear v3 HP
      go_wp2_with fail
      go_loop [10] (fun kk => ∃ c : Nat, at_ ≤ c ∧ c ≤ s.size ∧ kk = .int .i64 (c : Int)) (fun kk => s.size - (intOf kk).toNat)
      case atStart => exact ⟨at_, Nat.le_refl _, v1, rfl⟩
      case round =>
        obtain ⟨c, hc3, hc4, rfl⟩ := hrel
        by_cases hcs : c < s.size
        · have hcs' : (c : Int) < (s.size : Int) := by omega
          have hc0 : (0 : Int) ≤ (c : Int) := by omega
          have hcb := byte_at s c hcs
          rcases blank_cases (HV3.out c hc3 hcs) with z | z | z | z
          all_goals
            rw [z] at hcb
            have hcb' : ((s[c]'hcs).toNat : Int) = _ := congrArg (Nat.cast : Nat → Int) hcb
            clear z hcb
            go_wp2_with fail
            go_round
            case rel => exact ⟨c + 1, by omega, by omega, by go_num⟩
            case measure => simp [intOf]; omega
        · have hcs' : ¬ (c : Int) < (s.size : Int) := by omega
          go_wp2_with fail
          refine (known_any _ (Tabs_below (Tabs_below hT HB1.out) HB.out)).mono ?_
          rintro e w2 ⟨rfl, b2⟩
          have HB2 : Hid (Below w.heap.size w w2) := (HB1.out.trans (HB.out.mono HB1.out.size)).trans (b2.mono (Nat.le_trans HB1.out.size HB.out.size))
          clear b2
          go_wp2
          go_ret
          exact ⟨rfl, HB2.out⟩

end Go.Proofs.YtlhlanekklonmabDoor
