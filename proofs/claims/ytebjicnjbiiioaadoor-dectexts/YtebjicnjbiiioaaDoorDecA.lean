/- Contracts of dec.Right, dec.power, dec.of, dec.lift: can it be; ten so often; what was reckoned; a number at a greater Scale. -/
import Derived.Test.YtebjicnjbiiioaaDoorNumC
import Derived.Test.YtebjicnjbiiioaaDoorDecMath
import Derived.Deep.RegionWith
import Derived.Deep.DeepMust
import Derived.Deep.RegionHeld3
namespace Go.Proofs.YtebjicnjbiiioaaDoor
open Go.RowKit
set_option linter.unusedVariables false

/-- can a number of this Scale be? -/
def rt (s : Int) : Bool := decide (0 ≤ s ∧ s ≤ 9)
theorem rt_yes {s : Int} (h : rt s = true) : 0 ≤ s ∧ s ≤ 9 := of_decide_eq_true h
theorem rt_no {s : Int} (h : rt s = false) : s < 0 ∨ 9 < s := by have := of_decide_eq_false h; omega
theorem rt_nat {k : Nat} (h : k ≤ 9) : rt (k : Int) = true := decide_eq_true (by omega)
theorem nat_of_rt {s : Int} (h : rt s = true) : ∃ k : Nat, k ≤ 9 ∧ s = (k : Int) := ⟨s.toNat, by have := rt_yes h; omega, by have := rt_yes h; omega⟩

theorem ret_bool {a b : Bool} (h : a = b) : Ending.returned (.bool a) = .returned (.bool b) := by rw [h]
theorem below_self (w : World) : Below w.heap.size w w := Below.refl _ _

set_option maxHeartbeats 400000 in
theorem dright_yes (n s : Int) (h : rt s = true) (w : World) :
    Calls Tryd.prog 25 #[.agg #[.int .i64 n, .int .i64 s]] w fun e w' => e = .returned (.bool true) ∧ Below w.heap.size w w' := by
  obtain ⟨h1, h2⟩ := rt_yes h
  clear h
  go_enter Tryd.func25, Tryd.ntmps25
  go_wp2
  go_ret
  exact ⟨rfl, (by repeat' (first | assumption | exact Below.refl _ _ | exact Nat.le_refl _ | refine Below.alloc ?_ ?_ _ | (simp; done) | (simp; omega) | omega))⟩

set_option maxHeartbeats 400000 in
theorem dright_no (n s : Int) (h : rt s = false) (w : World) :
    Calls Tryd.prog 25 #[.agg #[.int .i64 n, .int .i64 s]] w fun e w' => e = .returned (.bool false) ∧ Below w.heap.size w w' := by
  have h1 := rt_no h
  clear h
  rcases h1 with h1 | h1
  · go_enter Tryd.func25, Tryd.ntmps25
    go_wp2
    go_ret
    exact ⟨rfl, (by repeat' (first | assumption | exact Below.refl _ _ | exact Nat.le_refl _ | refine Below.alloc ?_ ?_ _ | (simp; done) | (simp; omega) | omega))⟩
  · have h2 : 0 ≤ s := by omega
    go_enter Tryd.func25, Tryd.ntmps25
    go_wp2
    go_ret
    exact ⟨ret_bool (decide_eq_false (by omega)), (by repeat' (first | assumption | exact Below.refl _ _ | exact Nat.le_refl _ | refine Below.alloc ?_ ?_ _ | (simp; done) | (simp; omega) | omega))⟩

theorem dright_any (n s : Int) (w : World) :
    Calls Tryd.prog 25 #[.agg #[.int .i64 n, .int .i64 s]] w fun e w' => e = .returned (.bool (rt s)) ∧ Below w.heap.size w w' := by
  cases h : rt s
  · exact dright_no n s h w
  · exact dright_yes n s h w

set_option maxHeartbeats 800000 in
theorem power_any (k : Nat) (hk : k ≤ 9) (w : World) :
    Calls Tryd.prog 64 #[.int .i64 (k : Int)] w fun e w' => e = .returned (.int .i64 (Dm.ten k)) ∧ w' = w := by
  go_enter Tryd.func64, Tryd.ntmps64
  go_wp2
  go_loop [3, 5] (fun n i => ∃ j : Nat, j ≤ k ∧ i = .int .i64 (j : Int) ∧ n = .int .i64 (Dm.ten j)) (fun _ i => k - (intOf i).toNat)
  case atStart => exact ⟨0, by omega, rfl, rfl⟩
  case round =>
    obtain ⟨j, j1, rfl, rfl⟩ := hrel
    have t0 := Dm.ten_pos j
    have t1 : Dm.ten j ≤ 1000000000 := Dm.ten_le (by omega)
    by_cases hlt : j < k
    · have hlt' : (j : Int) < (k : Int) := by omega
      have hc : Hid (Dm.ten (j + 1) = Dm.ten j * 10) := Dm.ten_succ j
      go_wp2
      go_round
      case rel => exact ⟨j + 1, by omega, by go_num, by rw [hc.out]⟩
      case measure => simp [intOf]; omega
    · have hlt' : ¬ (j : Int) < (k : Int) := by omega
      have ek : Hid (j = k) := by show j = k; omega
      go_wp2
      go_ret
      exact ⟨ret_int (by rw [ek.out]), rfl⟩

/-- what was reckoned, or nothing beside its error. -/
def ofN (n e : Int) : Int := if e = 0 then n else 0
def ofS (s e : Int) : Int := if e = 0 then s else 0
theorem of_zero (n s : Int) : ofN n 0 = n ∧ ofS s 0 = s := ⟨rfl, rfl⟩
theorem of_err {e : Int} (h : e ≠ 0) (n s : Int) : ofN n e = 0 ∧ ofS s e = 0 := ⟨if_neg h, if_neg h⟩

set_option maxHeartbeats 400000 in
theorem of_ok (n s : Int) (w : World) :
    Calls Tryd.prog 33 #[.int .i64 n, .int .i64 s, .int .i64 0] w fun e w' => e = .returned (.tuple #[.agg #[.int .i64 n, .int .i64 s], .int .i64 0]) ∧ Below w.heap.size w w' := by
  go_enter Tryd.func33, Tryd.ntmps33
  go_wp2
  exact bodyPost_ret (v := .tuple #[.agg #[.int .i64 n, .int .i64 s], .int .i64 0]) (by simp [results, Tryd.results33, go_sem]) rfl ⟨rfl, (by repeat' (first | assumption | exact Below.refl _ _ | exact Nat.le_refl _ | refine Below.alloc ?_ ?_ _ | (simp; done) | (simp; omega) | omega))⟩

set_option maxHeartbeats 400000 in
theorem of_bad (n s x : Int) (h : x ≠ 0) (w : World) :
    Calls Tryd.prog 33 #[.int .i64 n, .int .i64 s, .int .i64 x] w fun e w' => e = .returned (.tuple #[.agg #[.int .i64 0, .int .i64 0], .int .i64 x]) ∧ Below w.heap.size w w' := by
  have h' : (x != 0) = true := by rw [bne_iff_ne]; exact h
  go_enter Tryd.func33, Tryd.ntmps33
  go_wp2
  exact bodyPost_ret (v := .tuple #[.agg #[.int .i64 0, .int .i64 0], .int .i64 x]) (by simp [results, Tryd.results33, go_sem]) rfl ⟨rfl, (by repeat' (first | assumption | exact Below.refl _ _ | exact Nat.le_refl _ | refine Below.alloc ?_ ?_ _ | (simp; done) | (simp; omega) | omega))⟩

theorem of_any (n s x : Int) (w : World) :
    Calls Tryd.prog 33 #[.int .i64 n, .int .i64 s, .int .i64 x] w fun e w' => e = .returned (.tuple #[.agg #[.int .i64 (ofN n x), .int .i64 (ofS s x)], .int .i64 x]) ∧ Below w.heap.size w w' := by
  by_cases h : x = 0
  · subst h; exact of_ok n s w
  · rw [(of_err h n s).1, (of_err h n s).2]; exact of_bad n s x h w

/-- a world under another name. -/
theorem at_world {P : Program} {c : Code} {Q : Exit → Act → World → Prop} {a : Act} {w1 w2 : World} (h : w1 = w2) (k : Code.wp P c Q a w2) : Code.wp P c Q a w1 := by subst h; exact k

/-- two numbers in a block that may be written. -/
def Box (w : World) (b : Nat) (n s : Int) : Prop := b < w.heap.size ∧ w.cell? ⟨b, 0, none⟩ = some (.int .i64 n) ∧ w.cell? ⟨b, 1, none⟩ = some (.int .i64 s) ∧ w.frozen? ⟨b, 0, none⟩ = false ∧ w.frozen? ⟨b, 1, none⟩ = false
abbrev dbox (n s : Int) : Obj := .cells #[.int .i64 n, .int .i64 s] 25
theorem Box.new (w : World) (n s : Int) : Box (w.alloc (dbox n s)) w.heap.size n s :=
  ⟨by simp, by rw [World.cell?_alloc_at _ _ _ _ rfl]; rfl, by rw [World.cell?_alloc_at _ _ _ _ rfl]; rfl, by rw [World.frozen?_alloc_at _ _ _ _ rfl], by rw [World.frozen?_alloc_at _ _ _ _ rfl]⟩
theorem Box.below {w w1 : World} {b : Nat} {n s : Int} (h : Box w b n s) {B : Nat} (hb : Below B w w1) (hB : b < B) : Box w1 b n s :=
  ⟨Nat.lt_of_lt_of_le h.1 hb.size, (hb.cell (p := ⟨b, 0, none⟩) hB).trans h.2.1, (hb.cell (p := ⟨b, 1, none⟩) hB).trans h.2.2.1, (hb.frozen (p := ⟨b, 0, none⟩) hB).trans h.2.2.2.1, (hb.frozen (p := ⟨b, 1, none⟩) hB).trans h.2.2.2.2⟩
theorem Box.alloc {w : World} {b : Nat} {n s : Int} (h : Box w b n s) (o : Obj) : Box (w.alloc o) b n s :=
  h.below ((Below.refl w.heap.size w).alloc (Nat.le_refl _) o) h.1

set_option maxRecDepth 100000 in
set_option maxHeartbeats 1000000 in
theorem lift_any (n : Int) (s c : Nat) (h1 : -9223372036854775808 ≤ n) (h2 : n ≤ 9223372036854775807) (hs : s ≤ c) (hc : c ≤ 9) (w : World) :
    Calls Tryd.prog 63 #[.agg #[.int .i64 n, .int .i64 (s : Int)], .int .i64 (c : Int)] w fun e w' =>
      e = .returned (.tuple #[.agg #[.int .i64 (ofN (smV (n * Dm.ten (c - s))) (smE (n * Dm.ten (c - s)))), .int .i64 (ofS c (smE (n * Dm.ten (c - s))))], .int .i64 (smE (n * Dm.ten (c - s)))]) ∧ Below w.heap.size w w' := by
  have t0 := Dm.ten_pos (c - s)
  have t1 : Dm.ten (c - s) ≤ 1000000000 := Dm.ten_le (by omega)
  have C1 := power_any (c - s) (by omega)
  have C2 := mul_any n (Dm.ten (c - s)) h1 h2 (by omega) (by omega)
  have C3 := of_any (smV (n * Dm.ten (c - s))) c (smE (n * Dm.ten (c - s)))
  have e1 : ((c - s : Nat) : Int) = IntKind.i64.wrap ((c : Int) - (s : Int)) := by rw [IntKind.wrap_i64]; omega
  rw [e1] at C1
  generalize Dm.ten (c - s) = t at *
  generalize smV (n * t) = v at *
  generalize smE (n * t) = x at *
  have H1 : Hid (∀ w : World, Calls Tryd.prog 64 #[.int .i64 (IntKind.i64.wrap ((c : Int) - (s : Int)))] w fun e w' => e = .returned (.int .i64 t) ∧ w' = w) := C1
  have H2 : Hid (∀ w : World, Calls Tryd.prog 57 #[.int .i64 n, .int .i64 t] w fun e w' => e = .returned (.tuple #[.int .i64 v, .int .i64 x]) ∧ Below w.heap.size w w') := C2
  have H3 : Hid (∀ w : World, Calls Tryd.prog 33 #[.int .i64 v, .int .i64 (c : Int), .int .i64 x] w fun e w' => e = .returned (.tuple #[.agg #[.int .i64 (ofN v x), .int .i64 (ofS c x)], .int .i64 x]) ∧ Below w.heap.size w w') := C3
  have s0 : (0 : Int) ≤ (s : Int) := by omega
  have s1 : (s : Int) ≤ (c : Int) := by omega
  have s2 : (c : Int) ≤ 9 := by omega
  clear C1 C2 C3 e1
  have K0 : Box ((w.alloc (dbox n s)).alloc (dbox 0 0)) w.heap.size n s := (Box.new _ _ _).alloc _
  have K1 : Box ((w.alloc (dbox n s)).alloc (dbox 0 0)) (w.heap.size + 1) 0 0 := by have := Box.new (w.alloc (dbox n s)) 0 0; simpa using this
  have KB : Below w.heap.size w ((w.alloc (dbox n s)).alloc (dbox 0 0)) := ((Below.refl _ _).alloc (Nat.le_refl _) _).alloc (by simp) _
  obtain ⟨W, hW⟩ : ∃ W, W = (w.alloc (dbox n s)).alloc (dbox 0 0) := ⟨_, rfl⟩
  rw [← hW] at K0 K1 KB
  go_enter Tryd.func63, Tryd.ntmps63
  go_wp2_with fail
  refine at_world hW.symm ?_
  clear hW
  obtain ⟨k1, k2, k3, k4, k5⟩ := K0
  have HK : Hid (Box W.drew (w.heap.size + 1) 0 0) := K1
  have HB : Hid (Below w.heap.size w W.drew) := KB.drew
  clear KB K1
  refine wp_region_held_drew (S := (fun w' => w'.cell? ⟨w.heap.size, 0, none⟩ = some (.int .i64 n) ∧ w'.cell? ⟨w.heap.size, 1, none⟩ = some (.int .i64 (s : Int)))) (by kernel_rfl) ⟨k2, k3⟩ (fun hHeld => ?_)
  refine wpAnyH_take (i := 0) (v := ?_) rfl (by kernel_rfl) (by kernel_rfl) (by kernel_rfl) (fun _ _ _ h => h) (Or.inl ⟨by kernel_rfl, ?_⟩) (by assumption) ?_
  case refine_2 => (intro w9 hSw; (try dsimp only at hSw); obtain ⟨s0, s1⟩ := hSw; go_simp; try with_reducible rfl)
  refine wpAnyH_take (i := 1) (v := ?_) rfl (by kernel_rfl) (by kernel_rfl) (by kernel_rfl) (fun _ _ _ h => h) (Or.inl ⟨by kernel_rfl, ?_⟩) (by assumption) ?_
  case refine_2 => (intro w9 hSw; (try dsimp only at hSw); obtain ⟨s0, s1⟩ := hSw; go_simp; try with_reducible rfl)
  refine wpAnyH_take (i := 2) (v := ?_) rfl (by kernel_rfl) (by kernel_rfl) (by kernel_rfl) (fun _ _ _ h => h) (Or.inl ⟨by kernel_rfl, ?_⟩) (by assumption) ?_
  case refine_2 => (intro w9 hSw; (try dsimp only at hSw); obtain ⟨s0, s1⟩ := hSw; go_simp; try with_reducible rfl)
  refine wpAnyH_take (i := 3) (v := ?_) rfl (by kernel_rfl) (by kernel_rfl) (by kernel_rfl) (fun _ _ _ h => h) (Or.inl ⟨by kernel_rfl, ?_⟩) (by assumption) ?_
  case refine_2 => (intro w9 hSw; (try dsimp only at hSw); obtain ⟨s0, s1⟩ := hSw; go_simp; try with_reducible rfl)
  refine wpAnyH_take (i := 4) (v := ?_) rfl (by kernel_rfl) (by kernel_rfl) (by kernel_rfl) (fun _ _ _ h => h) (Or.inl ⟨by kernel_rfl, ?_⟩) (by assumption) ?_
  case refine_2 => (intro w9 hSw; (try dsimp only at hSw); obtain ⟨s0, s1⟩ := hSw; go_simp; try with_reducible rfl)
  refine wpAnyH_take (i := 5) (v := ?_) rfl (by kernel_rfl) (by kernel_rfl) (by kernel_rfl) (fun _ _ _ h => h) (Or.inl ⟨by kernel_rfl, ?_⟩) (by assumption) ?_
  case refine_2 => (intro w9 hSw; (try dsimp only at hSw); obtain ⟨s0, s1⟩ := hSw; go_simp; try with_reducible rfl)
  refine wpAnyH_ready (rs := [6]) (by kernel_rfl) (by simp) (AllReadyH.cons (o := { dst := some 15, op := _, type := _, pos := _, after := _, guard := none }) rfl (fun K hK => ?_) AllReadyH.nil)
  go_simp
  refine (H1.out _).mono ?_
  rintro e w1 ⟨rfl, rfl⟩
  refine hK.out _ _ ⟨k2, k3⟩ (fun hHeld => ?_)
  clear hK K
  refine wpAnyH_ready (rs := [7]) (by kernel_rfl) (by simp) (AllReadyH.cons (o := { dst := some 16, op := _, type := _, pos := _, after := _, guard := none }) rfl (fun K hK => ?_) AllReadyH.nil)
  go_simp
  refine (H2.out _).mono ?_
  rintro e w2 ⟨rfl, hb2⟩
  refine hK.out _ _ ⟨(hb2.cell (p := ⟨w.heap.size, 0, none⟩) k1).trans k2, (hb2.cell (p := ⟨w.heap.size, 1, none⟩) k1).trans k3⟩ (fun hHeld => ?_)
  clear hK K
  refine wpAnyH_take (i := 8) (v := ?_) rfl (by kernel_rfl) (by kernel_rfl) (by kernel_rfl) (fun _ _ _ h => h) (Or.inl ⟨by kernel_rfl, ?_⟩) (by assumption) ?_
  case refine_2 => (intro w9 hSw; (try dsimp only at hSw); obtain ⟨s0, s1⟩ := hSw; go_simp; try with_reducible rfl)
  refine wpAnyH_take (i := 9) (v := ?_) rfl (by kernel_rfl) (by kernel_rfl) (by kernel_rfl) (fun _ _ _ h => h) (Or.inl ⟨by kernel_rfl, ?_⟩) (by assumption) ?_
  case refine_2 => (intro w9 hSw; (try dsimp only at hSw); obtain ⟨s0, s1⟩ := hSw; go_simp; try with_reducible rfl)
  refine wpAnyH_take (i := 10) (v := ?_) rfl (by kernel_rfl) (by kernel_rfl) (by kernel_rfl) (fun _ _ _ h => h) (Or.inl ⟨by kernel_rfl, ?_⟩) (by assumption) ?_
  case refine_2 => (intro w9 hSw; (try dsimp only at hSw); obtain ⟨s0, s1⟩ := hSw; go_simp; try with_reducible rfl)
  refine wpAnyH_take (i := 11) (v := ?_) rfl (by kernel_rfl) (by kernel_rfl) (by kernel_rfl) (fun _ _ _ h => h) (Or.inl ⟨by kernel_rfl, ?_⟩) (by assumption) ?_
  case refine_2 => (intro w9 hSw; (try dsimp only at hSw); obtain ⟨s0, s1⟩ := hSw; go_simp; try with_reducible rfl)
  refine wpAnyH_take (i := 12) (v := ?_) rfl (by kernel_rfl) (by kernel_rfl) (by kernel_rfl) (fun _ _ _ h => h) (Or.inl ⟨by kernel_rfl, ?_⟩) (by assumption) ?_
  case refine_2 => (intro w9 hSw; (try dsimp only at hSw); obtain ⟨s0, s1⟩ := hSw; go_simp; try with_reducible rfl)
  refine wpAnyH_done (by kernel_rfl) ?_ _
  go_wp2_with fail
  refine (H3.out _).mono ?_
  rintro e w3 ⟨rfl, hb3⟩
  have B3 : Box w3 (w.heap.size + 1) 0 0 := (HK.out.below hb2 HK.out.1).below hb3 (Nat.lt_of_lt_of_le HK.out.1 hb2.size)
  have HB3 : Hid (Below w.heap.size w w3) := (HB.out.trans (hb2.mono HB.out.size)).trans (hb3.mono (Nat.le_trans HB.out.size hb2.size))
  obtain ⟨q1, q2, q3, q4, q5⟩ := B3
  clear hb3 hb2
  go_wp2
  exact bodyPost_ret (v := .tuple #[.agg #[.int .i64 (ofN v x), .int .i64 (ofS c x)], .int .i64 x]) (by simp [results, Tryd.results63, go_sem, q2, q3]) rfl ⟨rfl, (HB3.out.setCell (by simp) _).setCell (by simp) _⟩

end Go.Proofs.YtebjicnjbiiioaaDoor
