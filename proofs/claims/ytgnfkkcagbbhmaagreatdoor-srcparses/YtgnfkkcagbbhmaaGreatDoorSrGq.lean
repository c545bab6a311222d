/- Contracts: shiftReader.read; each reader as a row of readAll. -/
import Derived.Test.YtgnfkkcagbbhmaaGreatDoorSrFq
namespace Go.Proofs.YtgnfkkcagbbhmaaGreatDoor
open Go.RowKit Lin
set_option linter.unusedVariables false

set_option maxRecDepth 100000 in
set_option maxHeartbeats 4000000 in
theorem shiftR_dash (w : World) :
    Calls Tryz.prog 166 #[.agg #[], .string ⟨#[45]⟩] w fun e w' => e = .returned (.tuple #[.iface 183 (.agg #[.string ⟨#[]⟩, .int .i64 0]), .bool true]) ∧ Below w.heap.size w w' := by
  go_enter Tryz.func166, Tryz.ntmps166
  go_wp2
  go_ret2
  exact ⟨rfl, NBs (Below.refl _ _)⟩

theorem ta_int (U : Int) (w : World) : (Instr.typeAssert (.iface 2 (.int .i64 U)) 20 2 false).run Tryz.prog w = .ok (.int .i64 U) w := by kernel_rfl
theorem ta_str (s : ByteArray) (w : World) : (Instr.typeAssert (.iface 9 (.string s)) 20 9 false).run Tryz.prog w = .ok (.string s) w := by kernel_rfl
theorem ta_on (a b c : Int) (w : World) : (Instr.typeAssert (.iface 82 (.agg #[.int .i64 a, .int .i64 b, .int .i64 c])) 20 82 false).run Tryz.prog w = .ok (.agg #[.int .i64 a, .int .i64 b, .int .i64 c]) w := by kernel_rfl
theorem ta_at (a b : Int) (w : World) : (Instr.typeAssert (.iface 83 (.agg #[.int .i64 a, .int .u8 b])) 20 83 false).run Tryz.prog w = .ok (.agg #[.int .i64 a, .int .u8 b]) w := by kernel_rfl
theorem ta_shift (s : ByteArray) (U : Int) (w : World) : (Instr.typeAssert (.iface 183 (.agg #[.string s, .int .i64 U])) 20 183 false).run Tryz.prog w = .ok (.agg #[.string s, .int .i64 U]) w := by kernel_rfl
theorem meth_save (w : World) : (method 384 212 (.agg #[.int .i64 0, .int .i64 7200]) "computus/src.read").run Tryz.prog w = .ok (205, .agg #[.int .i64 0, .int .i64 7200]) w := by kernel_rfl

set_option maxRecDepth 100000 in
set_option maxHeartbeats 4000000 in
theorem shiftR_dig (s : ByteArray) (h0 : 0 < s.size) (h45 : s.toList ≠ [45]) (hd : isD ((s[0]'h0).toNat : Int) = true) (U : Int) (b : Bool)
    (SP : Hid (∀ w : World, Calls Tryz.prog 205 #[.agg #[.int .i64 0, .int .i64 7200], .string s] w fun e w' => e = .returned (.tuple #[.iface 2 (.int .i64 U), .bool b]) ∧ Below w.heap.size w w')) (w : World) :
    Calls Tryz.prog 166 #[.agg #[], .string s] w fun e w' => e = .returned (.tuple #[.iface 183 (.agg #[.string ⟨#[]⟩, .int .i64 U]), .bool b]) ∧ Below w.heap.size w w' := by
  have h45' : (s.toList == [45]) = false := beq_eq_false_iff_ne.2 h45
  have hs0 : s.toList.isEmpty = false := by rw [ByteArray.toList_eq s, List.isEmpty_eq_false_iff]; intro e; exact absurd (show s.data.size = 0 by rw [← Array.length_toList, e]; rfl) (Nat.ne_of_gt h0)
  have hz : (0 : Int) < (s.size : Int) := by omega
  have hw : wrap32 ((s[0]'h0).toNat : Int) = ((s[0]'h0).toNat : Int) := by have := (s[0]'h0).toNat_lt; unfold wrap32; omega
  have HD : Hid (∀ w : World, Calls Tryz.prog 41 #[.int .i32 (wrap32 ((s[0]'h0).toNat : Int))] w fun e w' => e = .returned (.bool true) ∧ w' = w) := fun w => by
    have := srDigit_any ((s[0]'h0).toNat : Int) w
    rw [hd] at this
    rw [hw]
    exact this
  clear h45 hd hw
  have HS : Hid (∀ w : World, Calls Tryz.prog 112 #[] w fun e w' => e = .returned (.iface 212 (.agg #[.int .i64 0, .int .i64 7200])) ∧ Below w.heap.size w w') := saveR
  have hm := meth_save
  have ht := ta_int U
  go_enter Tryz.func166, Tryz.ntmps166
  go_wp2_with fail
  refine (HD.out _).mono ?_
  rintro e w2 ⟨rfl, hw2⟩
  obtain rfl := hw2.symm
  clear hw2
  go_wp2_with fail
  refine (HS.out _).mono ?_
  rintro e w3 ⟨rfl, hb3⟩
  go_wp2_with fail
  refine (SP.out _).mono ?_
  rintro e w4 ⟨rfl, hb4⟩
  have HB : Hid (Below w.heap.size w w4) := NBs hb4 (NBs hb3)
  clear hb3 hb4
  go_wp2
  go_ret2
  exact ⟨rfl, HB.out⟩

set_option maxRecDepth 100000 in
set_option maxHeartbeats 4000000 in
theorem shiftR_name (s : ByteArray) (h0 : 0 < s.size) (h45 : s.toList ≠ [45]) (hd : isD ((s[0]'h0).toNat : Int) = false) (b : Bool)
    (NA : Hid (∀ w : World, Calls Tryz.prog 15 #[.string s] w fun e w' => e = .returned (.bool b) ∧ Below w.heap.size w w')) (w : World) :
    Calls Tryz.prog 166 #[.agg #[], .string s] w fun e w' => e = .returned (.tuple #[.iface 183 (.agg #[.string s, .int .i64 0]), .bool b]) ∧ Below w.heap.size w w' := by
  have h45' : (s.toList == [45]) = false := beq_eq_false_iff_ne.2 h45
  have hs0 : s.toList.isEmpty = false := by rw [ByteArray.toList_eq s, List.isEmpty_eq_false_iff]; intro e; exact absurd (show s.data.size = 0 by rw [← Array.length_toList, e]; rfl) (Nat.ne_of_gt h0)
  have hz : (0 : Int) < (s.size : Int) := by omega
  have hw : wrap32 ((s[0]'h0).toNat : Int) = ((s[0]'h0).toNat : Int) := by have := (s[0]'h0).toNat_lt; unfold wrap32; omega
  have HD : Hid (∀ w : World, Calls Tryz.prog 41 #[.int .i32 (wrap32 ((s[0]'h0).toNat : Int))] w fun e w' => e = .returned (.bool false) ∧ w' = w) := fun w => by
    have := srDigit_any ((s[0]'h0).toNat : Int) w
    rw [hd] at this
    rw [hw]
    exact this
  clear h45 hd hw
  go_enter Tryz.func166, Tryz.ntmps166
  go_wp2_with fail
  refine (HD.out _).mono ?_
  rintro e w2 ⟨rfl, hw2⟩
  obtain rfl := hw2.symm
  clear hw2
  go_wp2_with fail
  refine (NA.out _).mono ?_
  rintro e w3 ⟨rfl, hb3⟩
  have HB : Hid (Below w.heap.size w w3) := NBs hb3
  clear hb3
  go_wp2
  go_ret2
  exact ⟨rfl, HB.out⟩

theorem rdr_name (f : ByteArray) (xT : TypeId) (xv : Value) (b : Bool) (C : ∀ w : World, Calls Tryz.prog 168 #[.agg #[], .string f] w fun e w' => e = .returned (.tuple #[.iface xT xv, .bool b]) ∧ Below w.heap.size w w') :
    Rdr.ok ⟨185, .agg #[], 168, f, xT, xv, b⟩ :=
  ⟨fun w => by kernel_rfl, fun w => by kernel_rfl, C, fun a w => by kernel_rfl⟩

theorem rdr_none (f : ByteArray) (xT : TypeId) (xv : Value) (b : Bool) (C : ∀ w : World, Calls Tryz.prog 179 #[.agg #[], .string f] w fun e w' => e = .returned (.tuple #[.iface xT xv, .bool b]) ∧ Below w.heap.size w w') :
    Rdr.ok ⟨188, .agg #[], 179, f, xT, xv, b⟩ :=
  ⟨fun w => by kernel_rfl, fun w => by kernel_rfl, C, fun a w => by kernel_rfl⟩

theorem rdr_year (f : ByteArray) (xT : TypeId) (xv : Value) (b : Bool) (C : ∀ w : World, Calls Tryz.prog 169 #[.agg #[], .string f] w fun e w' => e = .returned (.tuple #[.iface xT xv, .bool b]) ∧ Below w.heap.size w w') :
    Rdr.ok ⟨186, .agg #[], 169, f, xT, xv, b⟩ :=
  ⟨fun w => by kernel_rfl, fun w => by kernel_rfl, C, fun a w => by kernel_rfl⟩

theorem rdr_to (f : ByteArray) (xT : TypeId) (xv : Value) (b : Bool) (C : ∀ w : World, Calls Tryz.prog 178 #[.agg #[], .string f] w fun e w' => e = .returned (.tuple #[.iface xT xv, .bool b]) ∧ Below w.heap.size w w') :
    Rdr.ok ⟨187, .agg #[], 178, f, xT, xv, b⟩ :=
  ⟨fun w => by kernel_rfl, fun w => by kernel_rfl, C, fun a w => by kernel_rfl⟩

theorem rdr_month (f : ByteArray) (xT : TypeId) (xv : Value) (b : Bool) (C : ∀ w : World, Calls Tryz.prog 180 #[.agg #[], .string f] w fun e w' => e = .returned (.tuple #[.iface xT xv, .bool b]) ∧ Below w.heap.size w w') :
    Rdr.ok ⟨189, .agg #[], 180, f, xT, xv, b⟩ :=
  ⟨fun w => by kernel_rfl, fun w => by kernel_rfl, C, fun a w => by kernel_rfl⟩

theorem rdr_on (f : ByteArray) (xT : TypeId) (xv : Value) (b : Bool) (C : ∀ w : World, Calls Tryz.prog 185 #[.agg #[], .string f] w fun e w' => e = .returned (.tuple #[.iface xT xv, .bool b]) ∧ Below w.heap.size w w') :
    Rdr.ok ⟨190, .agg #[], 185, f, xT, xv, b⟩ :=
  ⟨fun w => by kernel_rfl, fun w => by kernel_rfl, C, fun a w => by kernel_rfl⟩

theorem rdr_at (f : ByteArray) (xT : TypeId) (xv : Value) (b : Bool) (C : ∀ w : World, Calls Tryz.prog 193 #[.agg #[], .string f] w fun e w' => e = .returned (.tuple #[.iface xT xv, .bool b]) ∧ Below w.heap.size w w') :
    Rdr.ok ⟨191, .agg #[], 193, f, xT, xv, b⟩ :=
  ⟨fun w => by kernel_rfl, fun w => by kernel_rfl, C, fun a w => by kernel_rfl⟩

theorem rdr_letter (f : ByteArray) (xT : TypeId) (xv : Value) (b : Bool) (C : ∀ w : World, Calls Tryz.prog 204 #[.agg #[], .string f] w fun e w' => e = .returned (.tuple #[.iface xT xv, .bool b]) ∧ Below w.heap.size w w') :
    Rdr.ok ⟨192, .agg #[], 204, f, xT, xv, b⟩ :=
  ⟨fun w => by kernel_rfl, fun w => by kernel_rfl, C, fun a w => by kernel_rfl⟩

theorem rdr_format (f : ByteArray) (xT : TypeId) (xv : Value) (b : Bool) (C : ∀ w : World, Calls Tryz.prog 167 #[.agg #[], .string f] w fun e w' => e = .returned (.tuple #[.iface xT xv, .bool b]) ∧ Below w.heap.size w w') :
    Rdr.ok ⟨179, .agg #[], 167, f, xT, xv, b⟩ :=
  ⟨fun w => by kernel_rfl, fun w => by kernel_rfl, C, fun a w => by kernel_rfl⟩

theorem rdr_shift (f : ByteArray) (xT : TypeId) (xv : Value) (b : Bool) (C : ∀ w : World, Calls Tryz.prog 166 #[.agg #[], .string f] w fun e w' => e = .returned (.tuple #[.iface xT xv, .bool b]) ∧ Below w.heap.size w w') :
    Rdr.ok ⟨178, .agg #[], 166, f, xT, xv, b⟩ :=
  ⟨fun w => by kernel_rfl, fun w => by kernel_rfl, C, fun a w => by kernel_rfl⟩

theorem rdr_save (f : ByteArray) (xT : TypeId) (xv : Value) (b : Bool) (C : ∀ w : World, Calls Tryz.prog 205 #[.agg #[.int .i64 0, .int .i64 7200], .string f] w fun e w' => e = .returned (.tuple #[.iface xT xv, .bool b]) ∧ Below w.heap.size w w') :
    Rdr.ok ⟨212, .agg #[.int .i64 0, .int .i64 7200], 205, f, xT, xv, b⟩ :=
  ⟨fun w => by kernel_rfl, fun w => by kernel_rfl, C, fun a w => by kernel_rfl⟩

theorem rdr_offset (f : ByteArray) (xT : TypeId) (xv : Value) (b : Bool) (C : ∀ w : World, Calls Tryz.prog 205 #[.agg #[.int .i64 (-50400), .int .i64 50400], .string f] w fun e w' => e = .returned (.tuple #[.iface xT xv, .bool b]) ∧ Below w.heap.size w w') :
    Rdr.ok ⟨212, .agg #[.int .i64 (-50400), .int .i64 50400], 205, f, xT, xv, b⟩ :=
  ⟨fun w => by kernel_rfl, fun w => by kernel_rfl, C, fun a w => by kernel_rfl⟩

end Go.Proofs.YtgnfkkcagbbhmaaGreatDoor
