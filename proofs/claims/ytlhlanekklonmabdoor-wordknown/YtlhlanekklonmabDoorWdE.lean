/- Contracts of the laws' taken and of the reference's Parts: lists of parts, copied and compared. -/
import Derived.Test.YtlhlanekklonmabDoorWdD
import Derived.BigQuiet
import Derived.Deep.QuietTactic
namespace Go.Proofs.YtlhlanekklonmabDoor
open Go.RowKit
set_option linter.unusedVariables false

/-- a part: its kind, its text, its place. -/
abbrev PT := Int × ByteArray × Int
def flatT : List PT → List Value
  | [] => []
  | p :: l => .int .i64 p.1 :: .string p.2.1 :: .int .i64 p.2.2 :: flatT l
theorem flatT_length : ∀ l : List PT, (flatT l).length = l.length * 3
  | [] => rfl
  | r :: l => by simp [flatT, flatT_length l]; omega
theorem flatT_append : ∀ (l k : List PT), flatT (l ++ k) = flatT l ++ flatT k
  | [], k => rfl
  | r :: l, k => by simp [flatT, flatT_append l k]
theorem flatT_at : ∀ (l : List PT) (i : Nat) (r : PT), l[i]? = some r → (flatT l)[i * 3]? = some (.int .i64 r.1) ∧ (flatT l)[i * 3 + 1]? = some (.string r.2.1) ∧ (flatT l)[i * 3 + 2]? = some (.int .i64 r.2.2)
  | [], i, r, h => by simp at h
  | x :: l, 0, r, h => by simp at h; subst h; exact ⟨rfl, rfl, rfl⟩
  | x :: l, i + 1, r, h => by
    have q := flatT_at l i r (by simpa using h)
    rw [show (i + 1) * 3 = i * 3 + 1 + 1 + 1 by omega]
    exact q
theorem flatT_snoc {l : List PT} {k : Nat} {r : PT} (h : l[k]? = some r) : flatT (l.take (k + 1)) = flatT (l.take k) ++ [.int .i64 r.1, .string r.2.1, .int .i64 r.2.2] := by
  rw [List.take_add_one, h, flatT_append]; rfl
/-- parts of a text, with their texts. -/
def texts (s : ByteArray) (l : List Prt) : List PT := l.map fun p => (p.1, s.extract p.2.1 p.2.2, (p.2.1 : Int))
theorem flatP_texts (s : ByteArray) : ∀ l, flatP s l = flatT (texts s l)
  | [] => rfl
  | p :: l => by simp [flatP, texts, flatT]; exact flatP_texts s l
theorem texts_length (s : ByteArray) (l : List Prt) : (texts s l).length = l.length := by simp [texts]

theorem infoRPart : (Tryd.prog.info? 82).map (fun i => (i.zero, i.size, i.bytes)) = some (some (.agg #[.int .i64 0, .string ByteArray.empty, .int .i64 0]), 3, 32) := by kernel_rfl
theorem ite_yes {c : Prop} [Decidable c] {A B : Prop} (h : c) (a : A) : if c then A else B := by rw [if_pos h]; exact a

/-- what taken's loop keeps: the first parts, copied. -/
def TInv (w W : World) (v : Value) (k : Nat) (l : List PT) : Prop := W.ownsRow w.heap.size 82 3 v k (flatT (l.take k)) ∧ Below w.heap.size w W
/-- a part where it lies. -/
def At3 (w : World) (g k : Nat) (a : Int) (t : ByteArray) (x : Int) : Prop := w.cell? ⟨g, k * 3, none⟩ = some (.int .i64 a) ∧ w.cell? ⟨g, k * 3 + 1, none⟩ = some (.string t) ∧ w.cell? ⟨g, k * 3 + 2, none⟩ = some (.int .i64 x)
theorem At3.below {w W : World} {g k B : Nat} {a : Int} {t : ByteArray} {x : Int} (h3 : At3 w g k a t x) (hg : g < B) (h : Below B w W) : At3 W g k a t x :=
  ⟨(h.cell (p := ⟨g, k * 3, none⟩) hg).trans h3.1, (h.cell (p := ⟨g, k * 3 + 1, none⟩) hg).trans h3.2.1, (h.cell (p := ⟨g, k * 3 + 2, none⟩) hg).trans h3.2.2⟩

set_option maxRecDepth 1000000 in
set_option maxHeartbeats 4000000 in
theorem taken_some (l : List PT) (g cap : Nat) (w : World) (hg : g < w.heap.size) (hl : l.length ≤ 2048) (hcap : l.length ≤ cap) (hcap2 : cap ≤ maxLen) (hc : Hid (∀ (k : Nat) (r : PT), l[k]? = some r → At3 w g k r.1 r.2.1 r.2.2)) :
    Calls Tryd.prog 20 #[.slice (some ⟨g, 0, none⟩) l.length cap] w fun e w' => ∃ v, e = .returned v ∧ TInv w w' v l.length l := by
  obtain ⟨i0, hi, hz0, hz1, hz2⟩ := info_parts infoRPart
  unfold maxLen at hcap2
  have c55 : Tryd.prog.cellsOf 55 = 3 := by kernel_rfl
  go_enter Tryd.func20, Tryd.ntmps20
  go_wp2_with fail
  go_loopw [3, 4] (fun v i W => ∃ k : Nat, k ≤ l.length ∧ i = .int .i64 (k : Int) ∧ TInv w W v k l) (fun _ i _ => l.length - (intOf i).toNat)
  case atStart => exact ⟨0, Nat.zero_le _, rfl, World.ownsRow_nil _ _ _ _, Below.refl _ _⟩
  case round =>
    obtain ⟨k, hk, rfl, I⟩ := hrel
    have HI : Hid (TInv w wr u3 k l) := I
    clear I
    by_cases hlt : k < l.length
    · have hlt' : (k : Int) < (l.length : Int) := by omega
      obtain ⟨⟨a, t, x⟩, hr⟩ : ∃ r, l[k]? = some r := ⟨l[k]'hlt, List.getElem?_eq_getElem hlt⟩
      have HA : Hid (At3 w g k a t x) := hc.out k _ hr
      have HX : Hid (l[k]? = some (a, t, x)) := hr
      have k0 : (0 : Int) ≤ (k : Int) := by omega
      have k1 : (k : Int) ≤ 2048 := by omega
      clear hr hlt
      go_wp2_with fail
      refine wp_region_held_drew (S := fun W => Below w.heap.size w W) (by kernel_rfl) HI.out.2.drew (fun hHeld => ?_)
      refine wpAnyH_take (i := 0) (v := ?_) (oi := { dst := some 11, op := _, type := _, pos := _, after := _, guard := none }) rfl (by kernel_rfl) (by kernel_rfl) (by kernel_rfl) (fun _ _ _ h => h) (Or.inl ⟨by kernel_rfl, ?_⟩) (by assumption) ?_
      case refine_2 => (intro w9 hSw; clear hSw; go_simp; try with_reducible rfl)
      simp only [Act.put, List.setIfInBounds_toArray, List.set_cons_zero, List.set_cons_succ]
      refine wpAnyH_take (i := 1) (v := ?_) (oi := { dst := some 12, op := _, type := _, pos := _, after := _, guard := none }) rfl (by kernel_rfl) (by kernel_rfl) (by kernel_rfl) (fun _ _ _ h => h) (Or.inl ⟨by kernel_rfl, ?_⟩) (by assumption) ?_
      case refine_2 => (intro w9 hSw; clear hSw; go_simp; try with_reducible rfl)
      simp only [Act.put, List.setIfInBounds_toArray, List.set_cons_zero, List.set_cons_succ]
      refine wpAnyH_take (i := 2) (v := ?_) (oi := { dst := some 13, op := _, type := _, pos := _, after := _, guard := none }) rfl (by kernel_rfl) (by kernel_rfl) (by kernel_rfl) (fun _ _ _ h => h) (Or.inl ⟨by kernel_rfl, ?_⟩) (by assumption) ?_
      case refine_2 => (intro w9 hSw; clear hSw; go_simp; try with_reducible rfl)
      simp only [Act.put, List.setIfInBounds_toArray, List.set_cons_zero, List.set_cons_succ]
      refine wpAnyH_take (i := 3) (v := ?_) (oi := { dst := some 14, op := _, type := _, pos := _, after := _, guard := none }) rfl (by kernel_rfl) (by kernel_rfl) (by kernel_rfl) (fun _ _ _ h => h) (Or.inl ⟨by kernel_rfl, ?_⟩) (by assumption) ?_
      case refine_2 => (intro w9 hSw; clear hSw; go_simp; try with_reducible rfl)
      simp only [Act.put, List.setIfInBounds_toArray, List.set_cons_zero, List.set_cons_succ]
      refine wpAnyH_take (i := 4) (v := ?_) (oi := { dst := some 15, op := _, type := _, pos := _, after := _, guard := none }) rfl (by kernel_rfl) (by kernel_rfl) (by kernel_rfl) (fun _ _ _ h => h) (Or.inl ⟨by kernel_rfl, ?_⟩) (by assumption) ?_
      case refine_2 => (intro w9 hSw; clear hSw; go_simp; try with_reducible rfl)
      simp only [Act.put, List.setIfInBounds_toArray, List.set_cons_zero, List.set_cons_succ]
      refine wpAnyH_take (i := 5) (v := ?_) (oi := { dst := some 16, op := _, type := _, pos := _, after := _, guard := none }) rfl (by kernel_rfl) (by kernel_rfl) (by kernel_rfl) (fun _ _ _ h => h) (Or.inl ⟨by kernel_rfl, ?_⟩) (by assumption) ?_
      case refine_2 => (intro w9 hSw; obtain ⟨ca, cb, cc⟩ := At3.below HA.out hg hSw; clear hSw; go_simp; try with_reducible rfl)
      simp only [Act.put, List.setIfInBounds_toArray, List.set_cons_zero, List.set_cons_succ]
      refine wpAnyH_take (i := 6) (v := ?_) (oi := { dst := some 17, op := _, type := _, pos := _, after := _, guard := none }) rfl (by kernel_rfl) (by kernel_rfl) (by kernel_rfl) (fun _ _ _ h => h) (Or.inl ⟨by kernel_rfl, ?_⟩) (by assumption) ?_
      case refine_2 => (intro w9 hSw; clear hSw; go_simp; try with_reducible rfl)
      simp only [Act.put, List.setIfInBounds_toArray, List.set_cons_zero, List.set_cons_succ]
      refine wpAnyH_take (i := 7) (v := ?_) (oi := { dst := some 18, op := _, type := _, pos := _, after := _, guard := none }) rfl (by kernel_rfl) (by kernel_rfl) (by kernel_rfl) (fun _ _ _ h => h) (Or.inl ⟨by kernel_rfl, ?_⟩) (by assumption) ?_
      case refine_2 => (intro w9 hSw; clear hSw; go_simp; try with_reducible rfl)
      simp only [Act.put, List.setIfInBounds_toArray, List.set_cons_zero, List.set_cons_succ]
      refine wpAnyH_take (i := 8) (v := ?_) (oi := { dst := some 19, op := _, type := _, pos := _, after := _, guard := none }) rfl (by kernel_rfl) (by kernel_rfl) (by kernel_rfl) (fun _ _ _ h => h) (Or.inl ⟨by kernel_rfl, ?_⟩) (by assumption) ?_
      case refine_2 => (intro w9 hSw; clear hSw; go_simp; try with_reducible rfl)
      simp only [Act.put, List.setIfInBounds_toArray, List.set_cons_zero, List.set_cons_succ]
      refine wpAnyH_take (i := 9) (v := ?_) (oi := { dst := some 20, op := _, type := _, pos := _, after := _, guard := none }) rfl (by kernel_rfl) (by kernel_rfl) (by kernel_rfl) (fun _ _ _ h => h) (Or.inl ⟨by kernel_rfl, ?_⟩) (by assumption) ?_
      case refine_2 => (intro w9 hSw; clear hSw; go_simp; try with_reducible rfl)
      simp only [Act.put, List.setIfInBounds_toArray, List.set_cons_zero, List.set_cons_succ]
      refine wpAnyH_take (i := 10) (v := ?_) (oi := { dst := some 21, op := _, type := _, pos := _, after := _, guard := none }) rfl (by kernel_rfl) (by kernel_rfl) (by kernel_rfl) (fun _ _ _ h => h) (Or.inl ⟨by kernel_rfl, ?_⟩) (by assumption) ?_
      case refine_2 => (intro w9 hSw; obtain ⟨ca, cb, cc⟩ := At3.below HA.out hg hSw; clear hSw; go_simp; try with_reducible rfl)
      simp only [Act.put, List.setIfInBounds_toArray, List.set_cons_zero, List.set_cons_succ]
      refine wpAnyH_take (i := 11) (v := ?_) (oi := { dst := some 22, op := _, type := _, pos := _, after := _, guard := none }) rfl (by kernel_rfl) (by kernel_rfl) (by kernel_rfl) (fun _ _ _ h => h) (Or.inl ⟨by kernel_rfl, ?_⟩) (by assumption) ?_
      case refine_2 => (intro w9 hSw; clear hSw; go_simp; try with_reducible rfl)
      simp only [Act.put, List.setIfInBounds_toArray, List.set_cons_zero, List.set_cons_succ]
      refine wpAnyH_take (i := 12) (v := ?_) (oi := { dst := some 23, op := _, type := _, pos := _, after := _, guard := none }) rfl (by kernel_rfl) (by kernel_rfl) (by kernel_rfl) (fun _ _ _ h => h) (Or.inl ⟨by kernel_rfl, ?_⟩) (by assumption) ?_
      case refine_2 => (intro w9 hSw; clear hSw; go_simp; try with_reducible rfl)
      simp only [Act.put, List.setIfInBounds_toArray, List.set_cons_zero, List.set_cons_succ]
      refine wpAnyH_take (i := 13) (v := ?_) (oi := { dst := some 24, op := _, type := _, pos := _, after := _, guard := none }) rfl (by kernel_rfl) (by kernel_rfl) (by kernel_rfl) (fun _ _ _ h => h) (Or.inl ⟨by kernel_rfl, ?_⟩) (by assumption) ?_
      case refine_2 => (intro w9 hSw; clear hSw; go_simp; try with_reducible rfl)
      simp only [Act.put, List.setIfInBounds_toArray, List.set_cons_zero, List.set_cons_succ]
      refine wpAnyH_take (i := 14) (v := ?_) (oi := { dst := some 25, op := _, type := _, pos := _, after := _, guard := none }) rfl (by kernel_rfl) (by kernel_rfl) (by kernel_rfl) (fun _ _ _ h => h) (Or.inl ⟨by kernel_rfl, ?_⟩) (by assumption) ?_
      case refine_2 => (intro w9 hSw; clear hSw; go_simp; try with_reducible rfl)
      simp only [Act.put, List.setIfInBounds_toArray, List.set_cons_zero, List.set_cons_succ]
      refine wpAnyH_take (i := 15) (v := ?_) (oi := { dst := some 26, op := _, type := _, pos := _, after := _, guard := none }) rfl (by kernel_rfl) (by kernel_rfl) (by kernel_rfl) (fun _ _ _ h => h) (Or.inl ⟨by kernel_rfl, ?_⟩) (by assumption) ?_
      case refine_2 => (intro w9 hSw; obtain ⟨ca, cb, cc⟩ := At3.below HA.out hg hSw; clear hSw; go_simp; try with_reducible rfl)
      simp only [Act.put, List.setIfInBounds_toArray, List.set_cons_zero, List.set_cons_succ]
      refine wpAnyH_take (i := 16) (v := ?_) (oi := { dst := some 27, op := _, type := _, pos := _, after := _, guard := none }) rfl (by kernel_rfl) (by kernel_rfl) (by kernel_rfl) (fun _ _ _ h => h) (Or.inl ⟨by kernel_rfl, ?_⟩) (by assumption) ?_
      case refine_2 => (intro w9 hSw; clear hSw; go_simp; try with_reducible rfl)
      simp only [Act.put, List.setIfInBounds_toArray, List.set_cons_zero, List.set_cons_succ]
      refine wpAnyH_ready (rs := [17]) (by kernel_rfl) (by simp) (AllReadyH.cons (o := { dst := some 28, op := _, type := _, pos := _, after := _, guard := none }) rfl (fun K hK => ?_) AllReadyH.nil)
      go_simp
      refine hK.out _ _ (hHeld.alloc hHeld.size _) (fun hHeld2 => ?_)
      clear hK K
      refine wpAnyH_ready (rs := [18]) (by kernel_rfl) (by simp) (AllReadyH.cons (o := { dst := some 29, op := _, type := _, pos := _, after := _, guard := none }) rfl (fun K hK => ?_) AllReadyH.nil)
      refine ite_yes (by kernel_rfl) (wp_append_own _ (.tmp 11) (.tmp 28) 40 rfl w.heap.size 82 i0 (.agg #[.int .i64 0, .string ByteArray.empty, .int .i64 0]) 3 32 Tryd.underlying40 hi hz0 hz1 hz2 rfl (by decide) u3 k (flatT (l.take k)) rfl (HI.out.1.alloc _) ⟨wr.heap.size, 0, none⟩ 1 1 [.int .i64 a, .string t, .int .i64 x] rfl rfl (part_new _ _ _ _ _) (part_one _ _ _) (by unfold maxLen; omega) (by omega) (by have := HI.out.2.size; simp; omega) ?_)
      intro v' w3 ho hgr hn
      have J : TInv w w3 v' (k + 1) l := ⟨by rw [flatT_snoc HX.out]; exact ho, Below.grown (hHeld.alloc hHeld.size _) hgr (by have := HI.out.2.size; simp; omega) (fun k hk => by have := (HI.out.1.lt _ hk).1; omega)⟩
      refine hK.out _ _ J.2 (fun hHeld3 => ?_)
      have HJ : Hid (TInv w w3 v' (k + 1) l) := J
      clear hK K hHeld hHeld2 J ho hgr hn
      refine wpAnyH_take (i := 19) (v := ?_) (oi := { dst := some 3, op := _, type := _, pos := _, after := _, guard := none }) rfl (by kernel_rfl) (by kernel_rfl) (by kernel_rfl) (fun _ _ _ h => h) (Or.inl ⟨by kernel_rfl, ?_⟩) (by assumption) ?_
      case refine_2 => (intro w9 hSw; clear hSw; go_simp; try with_reducible rfl)
      simp only [Act.put, List.setIfInBounds_toArray, List.set_cons_zero, List.set_cons_succ]
      refine wpAnyH_done (by kernel_rfl) ?_ _
      go_wp2_with fail
      go_roundw
      case rel => exact ⟨k + 1, by omega, by go_num, HJ.out⟩
      case measure => simp [intOf]; omega
    · have hlt' : ¬ (k : Int) < (l.length : Int) := by omega
      obtain rfl : k = l.length := by omega
      go_wp2_with fail
      go_ret
      exact ⟨u3, rfl, HI.out⟩

theorem taken_none (w : World) : Calls Tryd.prog 20 #[.slice none 0 0] w fun e w' => ∃ v, e = .returned v ∧ TInv w w' v 0 [] := by
  go_enter Tryd.func20, Tryd.ntmps20
  go_wp2_with fail
  go_loopw [3, 4] (fun v i W => v = .slice none 0 0 ∧ i = .int .i64 0 ∧ W = w) (fun _ _ _ => 0)
  case atStart => exact ⟨rfl, rfl, rfl⟩
  case round =>
    obtain ⟨rfl, rfl, rfl⟩ := hrel
    go_wp2_with fail
    go_ret
    exact ⟨.slice none 0 0, rfl, World.ownsRow_nil _ _ _ _, Below.refl _ _⟩

/-- the parts that a slice holds. -/
theorem ownsRow_at3 {w : World} {base g cap : Nat} {e : TypeId} {l : List PT} (h : w.ownsRow base e 3 (.slice (some ⟨g, 0, none⟩) l.length cap) l.length (flatT l)) : ∀ (k : Nat) (r : PT), l[k]? = some r → At3 w g k r.1 r.2.1 r.2.2 := by
  intro k r hr
  have hk : k < l.length := (List.getElem?_eq_some_iff.1 hr).1
  obtain ⟨q1, q2, q3⟩ := flatT_at l k r hr
  exact ⟨(h.cellAt _ (by omega)).trans q1, (h.cellAt _ (by omega)).trans q2, (h.cellAt _ (by omega)).trans q3⟩
theorem taken_any (l : List PT) (v : Value) (base : Nat) (w : World) (hl : l.length ≤ 2048) (h : w.ownsRow base 55 3 v l.length (flatT l)) :
    Calls Tryd.prog 20 #[v] w fun e w' => ∃ v, e = .returned v ∧ w'.ownsRow w.heap.size 82 3 v l.length (flatT l) ∧ Below w.heap.size w w' := by
  have h0 := h
  rcases h0.2 with ⟨e0, h1⟩ | ⟨g, cap, cur, e0, hg, hh, h3, h4, _⟩
  · subst e0
    have hl0 : l = [] := by
      cases l with
      | nil => rfl
      | cons a b => simp at h1
    subst hl0
    refine (taken_none w).mono ?_
    rintro e w' ⟨v, rfl, I⟩
    exact ⟨v, rfl, I.1, I.2⟩
  · subst e0
    refine (taken_some l g cap w (Array.getElem?_eq_some_iff.1 hh).1 hl h3 h4 (ownsRow_at3 h)).mono ?_
    rintro e w' ⟨v, rfl, I⟩
    have := I.1
    rw [List.take_of_length_le (Nat.le_refl _)] at this
    exact ⟨v, rfl, this, I.2⟩

/-- do two lists hold the same? -/
theorem parts_step {la lb : List PT} {k : Nat} {x y : PT} (h : la.length = lb.length) (hx : la[k]? = some x) (hy : lb[k]? = some y) (hn : x ≠ y) : decide (la = lb) = false := by
  apply decide_eq_false
  intro e
  subst e
  rw [hx] at hy
  exact hn (Option.some.inj hy)
theorem parts_all {la lb : List PT} (h : la.length = lb.length) (hk : la.take la.length = lb.take la.length) : decide (la = lb) = true := by
  apply decide_eq_true
  rw [List.take_of_length_le (Nat.le_refl _), List.take_of_length_le (by omega)] at hk
  exact hk

theorem below_drewN (w : World) : ∀ m, Below w.heap.size w (w.drewN m)
  | 0 => Below.refl _ _
  | m + 1 => (below_drewN w m).drew
theorem neq_true {a a' x x' : Int} {t t' : ByteArray} (he : (a, t, x) ≠ (a', t', x')) : a = a' → t.toList = t'.toList → ¬ x = x' := by
  intro h1 h2 h3
  have h2' : t = t' := by have := toList_eq t t'; rw [beq_iff_eq.2 h2] at this; exact of_decide_eq_true this.symm
  exact he (by rw [h1, h2', h3])

set_option maxRecDepth 1000000 in
set_option maxHeartbeats 4000000 in
theorem parts_some (la lb : List PT) (ga ca gb cb : Nat) (w : World) (hl : la.length ≤ 2048) (hab : la.length = lb.length) (h1 : la.length ≤ ca) (h2 : ca ≤ maxLen) (h3 : lb.length ≤ cb) (h4 : cb ≤ maxLen)
    (hA : Hid (∀ (k : Nat) (r : PT), la[k]? = some r → At3 w ga k r.1 r.2.1 r.2.2)) (hB : Hid (∀ (k : Nat) (r : PT), lb[k]? = some r → At3 w gb k r.1 r.2.1 r.2.2)) :
    Calls Tryd.prog 19 #[.slice (some ⟨ga, 0, none⟩) la.length ca, .slice (some ⟨gb, 0, none⟩) lb.length cb] w fun e w' => e = .returned (.bool (decide (la = lb))) ∧ Below w.heap.size w w' := by
  unfold maxLen at h2 h4
  have c82 : Tryd.prog.cellsOf 82 = 3 := by kernel_rfl
  obtain ⟨n, hn⟩ : ∃ n, la.length = n := ⟨_, rfl⟩
  have hn' : lb.length = n := by omega
  obtain ⟨G, hG⟩ : ∃ G, decide (la = lb) = G := ⟨_, rfl⟩
  rw [hG]
  have HG : Hid (decide (la = lb) = G) := hG
  rw [hn, hn']
  rw [hn] at hl h1 
  rw [hn'] at h3
  have HN : Hid (la.length = n) := hn
  have HN' : Hid (lb.length = n) := hn'
  clear hG hn hn' hab
  go_enter Tryd.func19, Tryd.ntmps19
  go_wp2_with fail
  go_loopw [5] (fun i W => ∃ k : Nat, k ≤ n ∧ i = .int .i64 (k : Int) ∧ Below w.heap.size w W ∧ (∃ m, W = w.drewN m) ∧ Hid (la.take k = lb.take k)) (fun i _ => n - (intOf i).toNat)
  case atStart => exact ⟨0, Nat.zero_le _, rfl, Below.refl _ _, ⟨0, rfl⟩, rfl⟩
  case round =>
    obtain ⟨k, hk, rfl, B, ⟨m, rfl⟩, HT⟩ := hrel
    by_cases hlt : k < n
    · have hlt' : (k : Int) < (n : Int) := by omega
      obtain ⟨⟨a, t, x⟩, hr⟩ : ∃ r, la[k]? = some r := ⟨la[k]'(by rw [HN.out]; exact hlt), List.getElem?_eq_getElem (by rw [HN.out]; exact hlt)⟩
      obtain ⟨⟨a', t', x'⟩, hr'⟩ : ∃ r, lb[k]? = some r := ⟨lb[k]'(by rw [HN'.out]; exact hlt), List.getElem?_eq_getElem (by rw [HN'.out]; exact hlt)⟩
      obtain ⟨p1, p2, p3⟩ := hA.out k _ hr
      obtain ⟨q1, q2, q3⟩ := hB.out k _ hr'
      have k0 : (0 : Int) ≤ (k : Int) := by omega
      have k1 : (k : Int) ≤ 2048 := by omega
      have HR : Hid (la[k]? = some (a, t, x)) := hr
      have HR' : Hid (lb[k]? = some (a', t', x')) := hr'
      clear hr hr' B hlt
      go_wp2_with fail
      by_cases he : (a, t, x) = (a', t', x')
      · obtain ⟨rfl, rfl, rfl⟩ : a = a' ∧ t = t' ∧ x = x' := by simpa using he
        clear he
        refine wp_region_held_drew (S := fun W => At3 W ga k a t x ∧ At3 W gb k a t x) (by kernel_rfl) ⟨⟨p1, p2, p3⟩, ⟨q1, q2, q3⟩⟩ (fun hHeld => ?_)
        refine wpAnyH_take (i := 0) (v := ?_) (oi := { dst := some 17, op := _, type := _, pos := _, after := _, guard := none }) rfl (by kernel_rfl) (by kernel_rfl) (by kernel_rfl) (fun _ _ _ h => h) (Or.inl ⟨by kernel_rfl, ?_⟩) (by assumption) ?_
        case refine_2 => (intro w9 hSw; clear hSw; go_simp; try with_reducible rfl)
        simp only [Act.put, List.setIfInBounds_toArray, List.set_cons_zero, List.set_cons_succ]
        refine wpAnyH_take (i := 1) (v := ?_) (oi := { dst := some 18, op := _, type := _, pos := _, after := _, guard := none }) rfl (by kernel_rfl) (by kernel_rfl) (by kernel_rfl) (fun _ _ _ h => h) (Or.inl ⟨by kernel_rfl, ?_⟩) (by assumption) ?_
        case refine_2 => (intro w9 hSw; clear hSw; go_simp; try with_reducible rfl)
        simp only [Act.put, List.setIfInBounds_toArray, List.set_cons_zero, List.set_cons_succ]
        refine wpAnyH_take (i := 2) (v := ?_) (oi := { dst := some 19, op := _, type := _, pos := _, after := _, guard := none }) rfl (by kernel_rfl) (by kernel_rfl) (by kernel_rfl) (fun _ _ _ h => h) (Or.inl ⟨by kernel_rfl, ?_⟩) (by assumption) ?_
        case refine_2 => (intro w9 hSw; clear hSw; go_simp; try with_reducible rfl)
        simp only [Act.put, List.setIfInBounds_toArray, List.set_cons_zero, List.set_cons_succ]
        refine wpAnyH_take (i := 3) (v := ?_) (oi := { dst := some 20, op := _, type := _, pos := _, after := _, guard := none }) rfl (by kernel_rfl) (by kernel_rfl) (by kernel_rfl) (fun _ _ _ h => h) (Or.inl ⟨by kernel_rfl, ?_⟩) (by assumption) ?_
        case refine_2 => (intro w9 hSw; obtain ⟨⟨ra, rb, rc⟩, ⟨rd, re, rf⟩⟩ := hSw; go_simp; try with_reducible rfl)
        simp only [Act.put, List.setIfInBounds_toArray, List.set_cons_zero, List.set_cons_succ]
        refine wpAnyH_take (i := 4) (v := ?_) (oi := { dst := some 21, op := _, type := _, pos := _, after := _, guard := none }) rfl (by kernel_rfl) (by kernel_rfl) (by kernel_rfl) (fun _ _ _ h => h) (Or.inl ⟨by kernel_rfl, ?_⟩) (by assumption) ?_
        case refine_2 => (intro w9 hSw; clear hSw; go_simp; try with_reducible rfl)
        simp only [Act.put, List.setIfInBounds_toArray, List.set_cons_zero, List.set_cons_succ]
        refine wpAnyH_take (i := 5) (v := ?_) (oi := { dst := some 22, op := _, type := _, pos := _, after := _, guard := none }) rfl (by kernel_rfl) (by kernel_rfl) (by kernel_rfl) (fun _ _ _ h => h) (Or.inl ⟨by kernel_rfl, ?_⟩) (by assumption) ?_
        case refine_2 => (intro w9 hSw; clear hSw; go_simp; try with_reducible rfl)
        simp only [Act.put, List.setIfInBounds_toArray, List.set_cons_zero, List.set_cons_succ]
        refine wpAnyH_take (i := 6) (v := ?_) (oi := { dst := some 23, op := _, type := _, pos := _, after := _, guard := none }) rfl (by kernel_rfl) (by kernel_rfl) (by kernel_rfl) (fun _ _ _ h => h) (Or.inl ⟨by kernel_rfl, ?_⟩) (by assumption) ?_
        case refine_2 => (intro w9 hSw; clear hSw; go_simp; try with_reducible rfl)
        simp only [Act.put, List.setIfInBounds_toArray, List.set_cons_zero, List.set_cons_succ]
        refine wpAnyH_take (i := 7) (v := ?_) (oi := { dst := some 24, op := _, type := _, pos := _, after := _, guard := none }) rfl (by kernel_rfl) (by kernel_rfl) (by kernel_rfl) (fun _ _ _ h => h) (Or.inl ⟨by kernel_rfl, ?_⟩) (by assumption) ?_
        case refine_2 => (intro w9 hSw; obtain ⟨⟨ra, rb, rc⟩, ⟨rd, re, rf⟩⟩ := hSw; go_simp; try with_reducible rfl)
        simp only [Act.put, List.setIfInBounds_toArray, List.set_cons_zero, List.set_cons_succ]
        refine wpAnyH_take (i := 8) (v := ?_) (oi := { dst := some 25, op := _, type := _, pos := _, after := _, guard := none }) rfl (by kernel_rfl) (by kernel_rfl) (by kernel_rfl) (fun _ _ _ h => h) (Or.inl ⟨by kernel_rfl, ?_⟩) (by assumption) ?_
        case refine_2 => (intro w9 hSw; clear hSw; go_simp; try with_reducible rfl)
        simp only [Act.put, List.setIfInBounds_toArray, List.set_cons_zero, List.set_cons_succ]
        clear hHeld
        refine wpAnyH_done (by kernel_rfl) ?_ _
        go_wp2_with fail
        go_roundw
        case rel => exact ⟨k + 1, by omega, by go_num, (below_drewN w (m + 1)), ⟨m + 1, rfl⟩, by show _ = _; rw [List.take_add_one, List.take_add_one, HR.out, HR'.out, HT.out]⟩
        case measure => simp [intOf]; omega
      · have HF : G = false := by rw [← HG.out]; exact parts_step (by rw [HN.out, HN'.out]) HR.out HR'.out he
        subst HF
        refine wp_region_held_drew (S := fun W => At3 W ga k a t x ∧ At3 W gb k a' t' x') (by kernel_rfl) ⟨⟨p1, p2, p3⟩, ⟨q1, q2, q3⟩⟩ (fun hHeld => ?_)
        refine wpAnyH_take (i := 0) (v := ?_) (oi := { dst := some 17, op := _, type := _, pos := _, after := _, guard := none }) rfl (by kernel_rfl) (by kernel_rfl) (by kernel_rfl) (fun _ _ _ h => h) (Or.inl ⟨by kernel_rfl, ?_⟩) (by assumption) ?_
        case refine_2 => (intro w9 hSw; clear hSw; go_simp; try with_reducible rfl)
        simp only [Act.put, List.setIfInBounds_toArray, List.set_cons_zero, List.set_cons_succ]
        refine wpAnyH_take (i := 1) (v := ?_) (oi := { dst := some 18, op := _, type := _, pos := _, after := _, guard := none }) rfl (by kernel_rfl) (by kernel_rfl) (by kernel_rfl) (fun _ _ _ h => h) (Or.inl ⟨by kernel_rfl, ?_⟩) (by assumption) ?_
        case refine_2 => (intro w9 hSw; clear hSw; go_simp; try with_reducible rfl)
        simp only [Act.put, List.setIfInBounds_toArray, List.set_cons_zero, List.set_cons_succ]
        refine wpAnyH_take (i := 2) (v := ?_) (oi := { dst := some 19, op := _, type := _, pos := _, after := _, guard := none }) rfl (by kernel_rfl) (by kernel_rfl) (by kernel_rfl) (fun _ _ _ h => h) (Or.inl ⟨by kernel_rfl, ?_⟩) (by assumption) ?_
        case refine_2 => (intro w9 hSw; clear hSw; go_simp; try with_reducible rfl)
        simp only [Act.put, List.setIfInBounds_toArray, List.set_cons_zero, List.set_cons_succ]
        refine wpAnyH_take (i := 3) (v := ?_) (oi := { dst := some 20, op := _, type := _, pos := _, after := _, guard := none }) rfl (by kernel_rfl) (by kernel_rfl) (by kernel_rfl) (fun _ _ _ h => h) (Or.inl ⟨by kernel_rfl, ?_⟩) (by assumption) ?_
        case refine_2 => (intro w9 hSw; obtain ⟨⟨ra, rb, rc⟩, ⟨rd, re, rf⟩⟩ := hSw; go_simp; try with_reducible rfl)
        simp only [Act.put, List.setIfInBounds_toArray, List.set_cons_zero, List.set_cons_succ]
        refine wpAnyH_take (i := 4) (v := ?_) (oi := { dst := some 21, op := _, type := _, pos := _, after := _, guard := none }) rfl (by kernel_rfl) (by kernel_rfl) (by kernel_rfl) (fun _ _ _ h => h) (Or.inl ⟨by kernel_rfl, ?_⟩) (by assumption) ?_
        case refine_2 => (intro w9 hSw; clear hSw; go_simp; try with_reducible rfl)
        simp only [Act.put, List.setIfInBounds_toArray, List.set_cons_zero, List.set_cons_succ]
        refine wpAnyH_take (i := 5) (v := ?_) (oi := { dst := some 22, op := _, type := _, pos := _, after := _, guard := none }) rfl (by kernel_rfl) (by kernel_rfl) (by kernel_rfl) (fun _ _ _ h => h) (Or.inl ⟨by kernel_rfl, ?_⟩) (by assumption) ?_
        case refine_2 => (intro w9 hSw; clear hSw; go_simp; try with_reducible rfl)
        simp only [Act.put, List.setIfInBounds_toArray, List.set_cons_zero, List.set_cons_succ]
        refine wpAnyH_take (i := 6) (v := ?_) (oi := { dst := some 23, op := _, type := _, pos := _, after := _, guard := none }) rfl (by kernel_rfl) (by kernel_rfl) (by kernel_rfl) (fun _ _ _ h => h) (Or.inl ⟨by kernel_rfl, ?_⟩) (by assumption) ?_
        case refine_2 => (intro w9 hSw; clear hSw; go_simp; try with_reducible rfl)
        simp only [Act.put, List.setIfInBounds_toArray, List.set_cons_zero, List.set_cons_succ]
        refine wpAnyH_take (i := 7) (v := ?_) (oi := { dst := some 24, op := _, type := _, pos := _, after := _, guard := none }) rfl (by kernel_rfl) (by kernel_rfl) (by kernel_rfl) (fun _ _ _ h => h) (Or.inl ⟨by kernel_rfl, ?_⟩) (by assumption) ?_
        case refine_2 => (intro w9 hSw; obtain ⟨⟨ra, rb, rc⟩, ⟨rd, re, rf⟩⟩ := hSw; go_simp; try with_reducible rfl)
        simp only [Act.put, List.setIfInBounds_toArray, List.set_cons_zero, List.set_cons_succ]
        refine wpAnyH_take (i := 8) (v := .bool true) (oi := { dst := some 25, op := _, type := _, pos := _, after := _, guard := none }) rfl (by kernel_rfl) (by kernel_rfl) (by kernel_rfl) (fun _ _ _ h => h) (Or.inl ⟨by kernel_rfl, ?_⟩) (by assumption) ?_
        case refine_1 => (intro w9 hSw; clear hSw; go_simp; exact neq_true he)
        simp only [Act.put, List.setIfInBounds_toArray, List.set_cons_zero, List.set_cons_succ]
        clear hHeld
        refine wpAnyH_done (by kernel_rfl) ?_ _
        go_wp2_with fail
        go_ret
        exact ⟨rfl, below_drewN w (m + 1)⟩
    · have hlt' : ¬ (k : Int) < (n : Int) := by omega
      obtain rfl : k = n := by omega
      have HF : G = true := by rw [← HG.out]; exact parts_all (by rw [HN.out, HN'.out]) (by rw [HN.out]; exact HT.out)
      subst HF
      go_wp2_with fail
      go_ret
      exact ⟨rfl, below_drewN w m⟩

set_option maxRecDepth 1000000 in
set_option maxHeartbeats 4000000 in
theorem parts_apart (va vb : Value) (pa pb : Option Addr) (na ca nb cb : Nat) (ha : va = .slice pa na ca) (hb : vb = .slice pb nb cb) (h1 : na ≤ 2048) (h2 : nb ≤ 2048) (hn : na ≠ nb) (w : World) :
    Calls Tryd.prog 19 #[va, vb] w fun e w' => e = .returned (.bool false) ∧ Below w.heap.size w w' := by
  subst ha hb
  have hn' : ((na : Int) == (nb : Int)) = false := by simp; omega
  go_enter Tryd.func19, Tryd.ntmps19
  go_wp2_with fail
  go_ret
  exact ⟨rfl, Below.refl _ _⟩

set_option maxRecDepth 1000000 in
set_option maxHeartbeats 4000000 in
theorem parts_none (va vb : Value) (pa pb : Option Addr) (ca cb : Nat) (ha : va = .slice pa 0 ca) (hb : vb = .slice pb 0 cb) (w : World) :
    Calls Tryd.prog 19 #[va, vb] w fun e w' => e = .returned (.bool true) ∧ Below w.heap.size w w' := by
  subst ha hb
  go_enter Tryd.func19, Tryd.ntmps19
  go_wp2_with fail
  go_loopw [5] (fun i W => i = .int .i64 0 ∧ W = w) (fun _ _ => 0)
  case atStart => exact ⟨rfl, rfl⟩
  case round =>
    obtain ⟨rfl, rfl⟩ := hrel
    go_wp2_with fail
    go_ret
    exact ⟨rfl, Below.refl _ _⟩

/-- a list of parts in memory. -/
def Row (w : World) (v : Value) (l : List PT) : Prop := ∃ base, w.ownsRow base 82 3 v l.length (flatT l)
theorem Row.below {w w1 : World} {v : Value} {l : List PT} (h : Row w v l) (hb : Below w.heap.size w w1) : Row w1 v l := by
  obtain ⟨base, ho⟩ := h
  exact ⟨base, ownsRow_keep ho (fun k _ hk => hb.block k hk)⟩
theorem parts_any (la lb : List PT) (va vb : Value) (w : World) (h1 : la.length ≤ 2048) (h2 : lb.length ≤ 2048) (hA : Row w va la) (hB : Row w vb lb) :
    Calls Tryd.prog 19 #[va, vb] w fun e w' => e = .returned (.bool (decide (la = lb))) ∧ Below w.heap.size w w' := by
  obtain ⟨ba, oa⟩ := hA
  obtain ⟨bb, ob⟩ := hB
  have form : ∀ {v : Value} {n base : Nat} {xs : List Value}, w.ownsRow base 82 3 v n xs → ∃ p c, v = .slice p n c := by
    intro v n base xs h
    rcases h.2 with ⟨e, h0⟩ | ⟨g, cap, cur, e, _⟩
    · exact ⟨none, 0, by rw [e, h0]⟩
    · exact ⟨_, _, e⟩
  by_cases hn : la.length = lb.length
  · by_cases h0 : la.length = 0
    · obtain ⟨pa, ca, ea⟩ := form oa
      obtain ⟨pb, cb, eb⟩ := form ob
      have e1 : la = [] := List.eq_nil_of_length_eq_zero h0
      have e2 : lb = [] := List.eq_nil_of_length_eq_zero (by omega)
      rw [e1, e2]
      exact parts_none va vb pa pb ca cb (by rw [ea, h0]) (by rw [eb, ← hn, h0]) w
    · rcases oa.2 with ⟨_, z⟩ | ⟨ga, ca, _, ea, _, _, a3, a4, _⟩
      · omega
      · rcases ob.2 with ⟨_, z⟩ | ⟨gb, cb, _, eb, _, _, b3, b4, _⟩
        · omega
        · subst ea eb
          exact parts_some la lb ga ca gb cb w h1 hn a3 a4 b3 b4 (ownsRow_at3 oa) (ownsRow_at3 ob)
  · obtain ⟨pa, ca, ea⟩ := form oa
    obtain ⟨pb, cb, eb⟩ := form ob
    have : decide (la = lb) = false := decide_eq_false (fun e => hn (by rw [e]))
    rw [this]
    exact parts_apart va vb pa pb _ ca _ cb ea eb h1 h2 hn w

end Go.Proofs.YtlhlanekklonmabDoor
