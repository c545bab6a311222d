/- Contracts: the reference's short, ReadSave and ReadAt over what sec answers. -/
import Derived.Test.YtgnfkkcagbbhmaaGreatDoorWhnNq
import Derived.Test.YtgnfkkcagbbhmaaGreatDoorWhnIq
namespace Go.Proofs.YtgnfkkcagbbhmaaGreatDoor
open Go.RowKit
set_option linter.unusedVariables false

/-- a number of one or two digits, -1 of any other text. -/
def shN (s : ByteArray) : Int := if 1 ≤ s.size ∧ s.size ≤ 2 ∧ Wrd.numE s = 0 then Wrd.numV s else -1

set_option maxRecDepth 100000 in
set_option maxHeartbeats 4000000 in
theorem short_len (s : ByteArray) (h : s.size < 1 ∨ 2 < s.size) (w : World) :
    Calls Tryz.prog 118 #[.string s] w fun e w' => e = .returned (.int .i64 (-1)) ∧ Below w.heap.size w w' := by
  rcases h with h | h
  · have h' : (s.size : Int) < 1 := by omega
    go_enter Tryz.func118, Tryz.ntmps118
    go_wp2
    go_ret
    exact ⟨rfl, Below.refl _ _⟩
  · have h' : ¬ (s.size : Int) < 1 := by omega
    have h2 : (2 : Int) < (s.size : Int) := by omega
    go_enter Tryz.func118, Tryz.ntmps118
    go_wp2
    go_ret
    exact ⟨rfl, Below.refl _ _⟩

set_option maxRecDepth 100000 in
set_option maxHeartbeats 4000000 in
theorem short_in (s : ByteArray) (V E : Int) (h1 : 1 ≤ s.size) (h2 : s.size ≤ 2)
    (NU : Hid (∀ w : World, Calls Tryz.prog 116 #[.string s] w fun e w' => e = .returned (.tuple #[.int .i64 V, .int .i64 E]) ∧ w' = w)) (w : World) :
    Calls Tryz.prog 118 #[.string s] w fun e w' => e = .returned (.int .i64 (if E = 0 then V else -1)) ∧ Below w.heap.size w w' := by
  have a1 : ¬ (s.size : Int) < 1 := by omega
  have a2 : ¬ (2 : Int) < (s.size : Int) := by omega
  by_cases hE : E = 0
  · rw [if_pos hE]
    subst hE
    go_enter Tryz.func118, Tryz.ntmps118
    go_wp2_with fail
    refine (NU.out _).mono ?_
    rintro e w1 ⟨rfl, rfl⟩
    go_wp2
    go_ret
    exact ⟨rfl, Below.refl _ _⟩
  · rw [if_neg hE]
    have e1 : (E != 0) = true := bne_iff_ne.2 hE
    go_enter Tryz.func118, Tryz.ntmps118
    go_wp2_with fail
    refine (NU.out _).mono ?_
    rintro e w1 ⟨rfl, rfl⟩
    go_wp2
    go_ret
    exact ⟨rfl, Below.refl _ _⟩

theorem short_any (s : ByteArray) (hs : s.size ≤ maxLen) (w : World) :
    Calls Tryz.prog 118 #[.string s] w fun e w' => e = .returned (.int .i64 (shN s)) ∧ Below w.heap.size w w' := by
  by_cases h : 1 ≤ s.size ∧ s.size ≤ 2
  · have R := short_in s (Wrd.numV s) (Wrd.numE s) h.1 h.2 (fun w => Wrd.rnumber_any s _ _ rfl rfl hs w) w
    have e : (if Wrd.numE s = 0 then Wrd.numV s else -1) = shN s := by
      unfold shN
      by_cases c : Wrd.numE s = 0
      · rw [if_pos c, if_pos ⟨h.1, h.2, c⟩]
      · rw [if_neg c, if_neg (fun k => c k.2.2)]
    rw [e] at R
    exact R
  · have e : shN s = -1 := by unfold shN; rw [if_neg (fun k => h ⟨k.1, k.2.1⟩)]
    rw [e]
    exact short_len s (by omega) w

set_option maxRecDepth 100000 in
set_option maxHeartbeats 4000000 in
theorem ers_dash (s : ByteArray) (h : s = ⟨#[45]⟩)
    (w : World) :
    Calls Tryz.prog 90 #[.string s] w fun e w' => e = .returned (.tuple #[.int .i64 0, .int .i64 0]) ∧ Below w.heap.size w w' := by
  subst h
  go_enter Tryz.func90, Tryz.ntmps90
  go_wp2
  go_ret2
  exact ⟨rfl, Below.refl _ _⟩

set_option maxRecDepth 100000 in
set_option maxHeartbeats 4000000 in
theorem ers_n_yes (s : ByteArray) (n : Int) (hs : s.toList ≠ [45]) (k : Nat) (hk : k ≤ 140737488351232) (hz : s.size = k + 1) (hx : ∀ w0 : World, (Instr.index 9 (.string s) (.int .i64 0)).run Tryz.prog w0 = .ok (.int .u8 45) w0) (h1 : 0 ≤ n) (h2 : n ≤ 86400)
    (SE : Hid (∀ w : World, Calls Tryz.prog 120 #[.string (s.extract 1 (k + 1))] w fun e w' => e = .returned (.int .i64 n) ∧ Below w.heap.size w w'))
    (w : World) :
    Calls Tryz.prog 90 #[.string s] w fun e w' => e = .returned (.tuple #[.int .i64 (-n), .int .i64 0]) ∧ Below w.heap.size w w' := by
  have n1 : (s.toList == [45]) = false := beq_eq_false_iff_ne.2 (fun e => hs e)
  have z0 : (0 : Int) < (k : Int) + 1 := by omega
  have a1 : ¬ n < 0 := by omega
  have a2 : ¬ 86400 < n := by omega
  go_enter Tryz.func90, Tryz.ntmps90
  go_wp2_with fail
  refine (SE.out _).mono ?_
  rintro e w2 ⟨rfl, hb⟩
  have HB : Hid (Below _ _ w2) := hb
  clear hb
  go_wp2
  go_ret2
  exact ⟨rfl, HB.out⟩

set_option maxRecDepth 100000 in
set_option maxHeartbeats 4000000 in
theorem ers_n_lo (s : ByteArray) (n : Int) (hs : s.toList ≠ [45]) (k : Nat) (hk : k ≤ 140737488351232) (hz : s.size = k + 1) (hx : ∀ w0 : World, (Instr.index 9 (.string s) (.int .i64 0)).run Tryz.prog w0 = .ok (.int .u8 45) w0) (h1 : n < 0)
    (SE : Hid (∀ w : World, Calls Tryz.prog 120 #[.string (s.extract 1 (k + 1))] w fun e w' => e = .returned (.int .i64 n) ∧ Below w.heap.size w w'))
    (w : World) :
    Calls Tryz.prog 90 #[.string s] w fun e w' => e = .returned (.tuple #[.int .i64 0, .int .i64 21]) ∧ Below w.heap.size w w' := by
  have n1 : (s.toList == [45]) = false := beq_eq_false_iff_ne.2 (fun e => hs e)
  have z0 : (0 : Int) < (k : Int) + 1 := by omega
  go_enter Tryz.func90, Tryz.ntmps90
  go_wp2_with fail
  refine (SE.out _).mono ?_
  rintro e w2 ⟨rfl, hb⟩
  have HB : Hid (Below _ _ w2) := hb
  clear hb
  go_wp2
  go_ret2
  exact ⟨rfl, HB.out⟩

set_option maxRecDepth 100000 in
set_option maxHeartbeats 4000000 in
theorem ers_n_hi (s : ByteArray) (n : Int) (hs : s.toList ≠ [45]) (k : Nat) (hk : k ≤ 140737488351232) (hz : s.size = k + 1) (hx : ∀ w0 : World, (Instr.index 9 (.string s) (.int .i64 0)).run Tryz.prog w0 = .ok (.int .u8 45) w0) (h1 : 86400 < n)
    (SE : Hid (∀ w : World, Calls Tryz.prog 120 #[.string (s.extract 1 (k + 1))] w fun e w' => e = .returned (.int .i64 n) ∧ Below w.heap.size w w'))
    (w : World) :
    Calls Tryz.prog 90 #[.string s] w fun e w' => e = .returned (.tuple #[.int .i64 0, .int .i64 21]) ∧ Below w.heap.size w w' := by
  have n1 : (s.toList == [45]) = false := beq_eq_false_iff_ne.2 (fun e => hs e)
  have z0 : (0 : Int) < (k : Int) + 1 := by omega
  have a1 : ¬ n < 0 := by omega
  go_enter Tryz.func90, Tryz.ntmps90
  go_wp2_with fail
  refine (SE.out _).mono ?_
  rintro e w2 ⟨rfl, hb⟩
  have HB : Hid (Below _ _ w2) := hb
  clear hb
  go_wp2
  go_ret2
  exact ⟨rfl, HB.out⟩

set_option maxRecDepth 100000 in
set_option maxHeartbeats 4000000 in
theorem ers_p_yes (s : ByteArray) (n : Int) (hs : s.toList ≠ [45]) (c : Int) (hc : c ≠ 45) (hz : 0 < s.size) (hx : ∀ w0 : World, (Instr.index 9 (.string s) (.int .i64 0)).run Tryz.prog w0 = .ok (.int .u8 c) w0) (h1 : 0 ≤ n) (h2 : n ≤ 86400)
    (SE : Hid (∀ w : World, Calls Tryz.prog 120 #[.string s] w fun e w' => e = .returned (.int .i64 n) ∧ Below w.heap.size w w'))
    (w : World) :
    Calls Tryz.prog 90 #[.string s] w fun e w' => e = .returned (.tuple #[.int .i64 n, .int .i64 0]) ∧ Below w.heap.size w w' := by
  have n1 : (s.toList == [45]) = false := beq_eq_false_iff_ne.2 (fun e => hs e)
  have z0 : (0 : Int) < (s.size : Int) := by omega
  have c1 : (c == 45) = false := beq_eq_false_iff_ne.2 hc
  have a1 : ¬ n < 0 := by omega
  have a2 : ¬ 86400 < n := by omega
  go_enter Tryz.func90, Tryz.ntmps90
  go_wp2_with fail
  refine (SE.out _).mono ?_
  rintro e w2 ⟨rfl, hb⟩
  have HB : Hid (Below _ _ w2) := hb
  clear hb
  go_wp2
  go_ret2
  exact ⟨rfl, HB.out⟩

set_option maxRecDepth 100000 in
set_option maxHeartbeats 4000000 in
theorem ers_p_lo (s : ByteArray) (n : Int) (hs : s.toList ≠ [45]) (c : Int) (hc : c ≠ 45) (hz : 0 < s.size) (hx : ∀ w0 : World, (Instr.index 9 (.string s) (.int .i64 0)).run Tryz.prog w0 = .ok (.int .u8 c) w0) (h1 : n < 0)
    (SE : Hid (∀ w : World, Calls Tryz.prog 120 #[.string s] w fun e w' => e = .returned (.int .i64 n) ∧ Below w.heap.size w w'))
    (w : World) :
    Calls Tryz.prog 90 #[.string s] w fun e w' => e = .returned (.tuple #[.int .i64 0, .int .i64 21]) ∧ Below w.heap.size w w' := by
  have n1 : (s.toList == [45]) = false := beq_eq_false_iff_ne.2 (fun e => hs e)
  have z0 : (0 : Int) < (s.size : Int) := by omega
  have c1 : (c == 45) = false := beq_eq_false_iff_ne.2 hc
  go_enter Tryz.func90, Tryz.ntmps90
  go_wp2_with fail
  refine (SE.out _).mono ?_
  rintro e w2 ⟨rfl, hb⟩
  have HB : Hid (Below _ _ w2) := hb
  clear hb
  go_wp2
  go_ret2
  exact ⟨rfl, HB.out⟩

set_option maxRecDepth 100000 in
set_option maxHeartbeats 4000000 in
theorem ers_p_hi (s : ByteArray) (n : Int) (hs : s.toList ≠ [45]) (c : Int) (hc : c ≠ 45) (hz : 0 < s.size) (hx : ∀ w0 : World, (Instr.index 9 (.string s) (.int .i64 0)).run Tryz.prog w0 = .ok (.int .u8 c) w0) (h1 : 86400 < n)
    (SE : Hid (∀ w : World, Calls Tryz.prog 120 #[.string s] w fun e w' => e = .returned (.int .i64 n) ∧ Below w.heap.size w w'))
    (w : World) :
    Calls Tryz.prog 90 #[.string s] w fun e w' => e = .returned (.tuple #[.int .i64 0, .int .i64 21]) ∧ Below w.heap.size w w' := by
  have n1 : (s.toList == [45]) = false := beq_eq_false_iff_ne.2 (fun e => hs e)
  have z0 : (0 : Int) < (s.size : Int) := by omega
  have c1 : (c == 45) = false := beq_eq_false_iff_ne.2 hc
  have a1 : ¬ n < 0 := by omega
  go_enter Tryz.func90, Tryz.ntmps90
  go_wp2_with fail
  refine (SE.out _).mono ?_
  rintro e w2 ⟨rfl, hb⟩
  have HB : Hid (Below _ _ w2) := hb
  clear hb
  go_wp2
  go_ret2
  exact ⟨rfl, HB.out⟩

set_option maxRecDepth 100000 in
set_option maxHeartbeats 4000000 in
theorem ers_e_lo (s : ByteArray) (n : Int) (hs : s = ⟨#[]⟩) (h1 : n < 0)
    (SE : Hid (∀ w : World, Calls Tryz.prog 120 #[.string s] w fun e w' => e = .returned (.int .i64 n) ∧ Below w.heap.size w w'))
    (w : World) :
    Calls Tryz.prog 90 #[.string s] w fun e w' => e = .returned (.tuple #[.int .i64 0, .int .i64 21]) ∧ Below w.heap.size w w' := by
  subst hs
  go_enter Tryz.func90, Tryz.ntmps90
  go_wp2_with fail
  refine (SE.out _).mono ?_
  rintro e w2 ⟨rfl, hb⟩
  have HB : Hid (Below _ _ w2) := hb
  clear hb
  go_wp2
  go_ret2
  exact ⟨rfl, HB.out⟩

end Go.Proofs.YtgnfkkcagbbhmaaGreatDoor
