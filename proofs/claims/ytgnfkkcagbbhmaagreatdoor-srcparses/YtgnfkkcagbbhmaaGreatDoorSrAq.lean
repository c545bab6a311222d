/- Contracts: the readers of src, each over what its callee answers. -/
import Derived.Test.YtgnfkkcagbbhmaaGreatDoorWhnAq
namespace Go.Proofs.YtgnfkkcagbbhmaaGreatDoor
open Go.RowKit
set_option linter.unusedVariables false

theorem NBs {w W w1 : World} (hb : Below W.heap.size W w1) (h : Below w.heap.size w W := by first | exact Below.refl _ _ | exact Below.alloc (Below.refl _ _) (Nat.le_refl _) _) : Below w.heap.size w w1 := Below.trans h (hb.mono (Below.size h))

set_option maxRecDepth 100000 in
set_option maxHeartbeats 4000000 in
theorem nameR (s : ByteArray) (b : Bool) (C : Hid (∀ w : World, Calls Tryz.prog 15 #[.string s] w fun e w' => e = .returned (.bool b) ∧ Below w.heap.size w w')) (w : World) :
    Calls Tryz.prog 168 #[.agg #[], .string s] w fun e w' => e = .returned (.tuple #[.iface 9 (.string s), .bool b]) ∧ Below w.heap.size w w' := by
  go_enter Tryz.func168, Tryz.ntmps168
  go_wp2_with fail
  refine (C.out _).mono ?_
  rintro e w1 ⟨rfl, hb⟩
  go_wp2
  go_ret2
  exact ⟨rfl, NBs hb⟩

set_option maxRecDepth 100000 in
set_option maxHeartbeats 4000000 in
theorem noneR (s : ByteArray) (w : World) :
    Calls Tryz.prog 179 #[.agg #[], .string s] w fun e w' => e = .returned (.tuple #[.iface 9 (.string s), .bool (s.toList == [45])]) ∧ Below w.heap.size w w' := by
  go_enter Tryz.func179, Tryz.ntmps179
  go_wp2
  go_ret2
  exact ⟨rfl, NBs (Below.refl _ _)⟩

set_option maxRecDepth 100000 in
set_option maxHeartbeats 4000000 in
theorem monthR (s : ByteArray) (m : Int) (C : Hid (∀ w : World, Calls Tryz.prog 181 #[.string s] w fun e w' => e = .returned (.int .i64 m) ∧ Below w.heap.size w w')) (w : World) :
    Calls Tryz.prog 180 #[.agg #[], .string s] w fun e w' => e = .returned (.tuple #[.iface 2 (.int .i64 m), .bool (m != 0)]) ∧ Below w.heap.size w w' := by
  go_enter Tryz.func180, Tryz.ntmps180
  go_wp2_with fail
  refine (C.out _).mono ?_
  rintro e w1 ⟨rfl, hb⟩
  go_wp2
  go_ret2
  exact ⟨rfl, NBs hb⟩

def yearB (s : ByteArray) (y E : Int) : Bool := decide (E = 0) && decide (s.size = 4) && decide (1800 ≤ y) && decide (y ≤ 2100)

set_option maxRecDepth 100000 in
set_option maxHeartbeats 4000000 in
theorem yearR (s : ByteArray) (y E : Int) (C : Hid (∀ w : World, Calls Tryz.prog 170 #[.string s] w fun e w' => e = .returned (.tuple #[.int .i64 y, .int .i64 E]) ∧ Below w.heap.size w w')) (w : World) :
    Calls Tryz.prog 169 #[.agg #[], .string s] w fun e w' => e = .returned (.tuple #[.iface 2 (.int .i64 y), .bool (yearB s y E)]) ∧ Below w.heap.size w w' := by
  have fin : ∀ b : Bool, b = yearB s y E → Ending.returned (.tuple #[.iface 2 (.int .i64 y), .bool b]) = .returned (.tuple #[.iface 2 (.int .i64 y), .bool (yearB s y E)]) := fun b h => by rw [h]
  go_enter Tryz.func169, Tryz.ntmps169
  go_wp2_with fail
  refine (C.out _).mono ?_
  rintro e w1 ⟨rfl, hb⟩
  go_wp2
  all_goals (go_ret2; exact ⟨fin _ (by simp [yearB] <;> omega), NBs hb⟩)

set_option maxRecDepth 100000 in
set_option maxHeartbeats 4000000 in
theorem onR (s : ByteArray) (a b c E : Int) (C : Hid (∀ w : World, Calls Tryz.prog 186 #[.string s] w fun e w' => e = .returned (.tuple #[.agg #[.int .i64 a, .int .i64 b, .int .i64 c], .int .i64 E]) ∧ Below w.heap.size w w')) (w : World) :
    Calls Tryz.prog 185 #[.agg #[], .string s] w fun e w' => e = .returned (.tuple #[.iface 82 (.agg #[.int .i64 a, .int .i64 b, .int .i64 c]), .bool (E == 0)]) ∧ Below w.heap.size w w' := by
  go_enter Tryz.func185, Tryz.ntmps185
  go_wp2_with fail
  refine (C.out _).mono ?_
  rintro e w1 ⟨rfl, hb⟩
  go_wp2
  go_ret2
  exact ⟨rfl, NBs (Below.alloc (Below.refl _ _) (Nat.le_refl _) _) (NBs hb)⟩

set_option maxRecDepth 100000 in
set_option maxHeartbeats 4000000 in
theorem atR (s : ByteArray) (a b E : Int) (C : Hid (∀ w : World, Calls Tryz.prog 194 #[.string s] w fun e w' => e = .returned (.tuple #[.agg #[.int .i64 a, .int .u8 b], .int .i64 E]) ∧ Below w.heap.size w w')) (w : World) :
    Calls Tryz.prog 193 #[.agg #[], .string s] w fun e w' => e = .returned (.tuple #[.iface 83 (.agg #[.int .i64 a, .int .u8 b]), .bool (E == 0)]) ∧ Below w.heap.size w w' := by
  go_enter Tryz.func193, Tryz.ntmps193
  go_wp2_with fail
  refine (C.out _).mono ?_
  rintro e w1 ⟨rfl, hb⟩
  go_wp2
  go_ret2
  exact ⟨rfl, NBs (Below.alloc (Below.refl _ _) (Nat.le_refl _) _) (NBs hb)⟩

set_option maxRecDepth 100000 in
set_option maxHeartbeats 4000000 in
theorem toR_only (s : ByteArray) (C : Hid (∀ w : World, Calls Tryz.prog 113 #[.string s, .string ⟨#[111, 110, 108, 121]⟩] w fun e w' => e = .returned (.bool true) ∧ Below w.heap.size w w')) (w : World) :
    Calls Tryz.prog 178 #[.agg #[], .string s] w fun e w' => e = .returned (.tuple #[.iface 2 (.int .i64 0), .bool true]) ∧ Below w.heap.size w w' := by
  go_enter Tryz.func178, Tryz.ntmps178
  go_wp2_with fail
  refine (C.out _).mono ?_
  rintro e w1 ⟨rfl, hb⟩
  go_wp2
  go_ret2
  exact ⟨rfl, NBs hb⟩

set_option maxRecDepth 100000 in
set_option maxHeartbeats 4000000 in
theorem toR_max (s : ByteArray) (C : Hid (∀ w : World, Calls Tryz.prog 113 #[.string s, .string ⟨#[111, 110, 108, 121]⟩] w fun e w' => e = .returned (.bool false) ∧ Below w.heap.size w w'))(D : Hid (∀ w : World, Calls Tryz.prog 113 #[.string s, .string ⟨#[109, 97, 120]⟩] w fun e w' => e = .returned (.bool true) ∧ Below w.heap.size w w')) (w : World) :
    Calls Tryz.prog 178 #[.agg #[], .string s] w fun e w' => e = .returned (.tuple #[.iface 2 (.int .i64 1073741824), .bool true]) ∧ Below w.heap.size w w' := by
  go_enter Tryz.func178, Tryz.ntmps178
  go_wp2_with fail
  refine (C.out _).mono ?_
  rintro e w1 ⟨rfl, hb⟩
  go_wp2_with fail
  refine (D.out _).mono ?_
  rintro e w2 ⟨rfl, hb2⟩
  go_wp2
  go_ret2
  exact ⟨rfl, NBs hb2 (NBs hb)⟩

set_option maxRecDepth 100000 in
set_option maxHeartbeats 4000000 in
theorem toR_year (s : ByteArray) (v : Value) (b : Bool) (C : Hid (∀ w : World, Calls Tryz.prog 113 #[.string s, .string ⟨#[111, 110, 108, 121]⟩] w fun e w' => e = .returned (.bool false) ∧ Below w.heap.size w w'))(D : Hid (∀ w : World, Calls Tryz.prog 113 #[.string s, .string ⟨#[109, 97, 120]⟩] w fun e w' => e = .returned (.bool false) ∧ Below w.heap.size w w'))(Y : Hid (∀ w : World, Calls Tryz.prog 169 #[.agg #[], .string s] w fun e w' => e = .returned (.tuple #[v, .bool b]) ∧ Below w.heap.size w w')) (w : World) :
    Calls Tryz.prog 178 #[.agg #[], .string s] w fun e w' => e = .returned (.tuple #[v, .bool b]) ∧ Below w.heap.size w w' := by
  go_enter Tryz.func178, Tryz.ntmps178
  go_wp2_with fail
  refine (C.out _).mono ?_
  rintro e w1 ⟨rfl, hb⟩
  go_wp2_with fail
  refine (D.out _).mono ?_
  rintro e w2 ⟨rfl, hb2⟩
  go_wp2_with fail
  refine (Y.out _).mono ?_
  rintro e w3 ⟨rfl, hb3⟩
  go_wp2
  go_ret2
  exact ⟨rfl, NBs hb3 (NBs hb2 (NBs hb))⟩

set_option maxRecDepth 100000 in
set_option maxHeartbeats 4000000 in
theorem saveR (w : World) :
    Calls Tryz.prog 112 #[] w fun e w' => e = .returned (.iface 212 (.agg #[.int .i64 0, .int .i64 7200])) ∧ Below w.heap.size w w' := by
  go_enter Tryz.func112, Tryz.ntmps112
  go_wp2
  go_ret
  exact ⟨rfl, Below.refl _ _⟩

set_option maxRecDepth 100000 in
set_option maxHeartbeats 4000000 in
theorem offsetR (w : World) :
    Calls Tryz.prog 110 #[] w fun e w' => e = .returned (.iface 212 (.agg #[.int .i64 (-50400), .int .i64 50400])) ∧ Below w.heap.size w w' := by
  go_enter Tryz.func110, Tryz.ntmps110
  go_wp2
  go_ret
  exact ⟨rfl, Below.refl _ _⟩

end Go.Proofs.YtgnfkkcagbbhmaaGreatDoor
