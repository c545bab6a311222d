/- zone.UTC, and that it is a table that can be. -/
import Derived.Test.YtofmmdfdiaahhaaGreatDoorBxCq
import Derived.Laws.StructEq
import Derived.Deep.Cut
import Derived.Deep.QuietTactic
import Derived.BigQuiet
namespace Go.Proofs.YtofmmdfdiaahhaaGreatDoor
open Go.RowKit
set_option linter.unusedVariables false

def ftZ : List Value := [.bool false, .int .i64 0, .int .i64 0, .int .i64 0, .int .i64 0, .int .i64 0, .int .i64 0, .int .i64 0, .int .u8 0, .int .i64 0, .string ⟨#[]⟩, .int .i64 0, .int .i64 0, .int .i64 0, .int .i64 0, .int .i64 0, .int .u8 0, .int .i64 0, .string ⟨#[]⟩]
def tbZ : List Value := .string ⟨#[]⟩ :: .int .i64 0 :: .int .i64 0 :: .bool false :: .string ⟨#[]⟩ :: .slice none 0 0 :: ftZ
def utL : List Value := .string ⟨#[85, 84, 67]⟩ :: .int .i64 0 :: .int .i64 0 :: .bool false :: .string ⟨#[85, 84, 67]⟩ :: .slice none 0 0 :: ftZ
theorem one_u : utL.toArray.all (·.oneCell') = true := by kernel_rfl
theorem res_c1 {P : Program} {fn : Func} {p : Tmp} {ty : TypeId} (h : fn.results = #[.cell p ty]) (tmps : Array Value) (w : World) (a : Addr) (v : Value) (hp : tmps[p]?.getD undef = .pointer (some a)) (hl : (loadVar ty a).run P w = .ok v w) :
    (results fn tmps).run P w = .ok v w := by
  simp [results, h, hp, asAddr, hl]
theorem mid_on {P : Program} {ops : Array Oper} {rest : List Oper} {op : Oper} {a : Act} {w : World} {Q : Exit → Act → World → Prop} (hgd : Region.wanted op (yielded ops a.tmps) = true) (ty : TypeId) (x : Operand) (ho : op.op = .load ty x)
    (b o : Nat) (hx : a.eval x = .pointer (some ⟨b, o, none⟩)) (cs : List Value) (d : TypeDesc) (hc : w.rangeAt b o cs)
    (hu : P.underlying ty = some d) (hd : d.isRow = true) (hi : (P.info? ty).map (·.size) = some cs.length)
    (h : wpList P ops Q rest (a.put op.dst (.agg cs.toArray)) w) : wpList P ops Q (op :: rest) a w := by
  unfold wpList
  rw [if_pos hgd]
  exact .inl (wp_load_mid ty x ho b o hx cs d hc hu hd hi h)

set_option maxRecDepth 100000 in
set_option maxHeartbeats 4000000 in
theorem utc_any (w : World) : Calls Tryz.prog 18 #[] w fun e w' => e = .returned (.agg utL.toArray) ∧ Below w.heap.size w w' := by
  have X1 : Hid (Bx (w.alloc (.cells tbZ.toArray 60)) w.heap.size tbZ) := Bx.new w tbZ 60
  have B1 : Hid (Below w.heap.size w (w.alloc (.cells tbZ.toArray 60))) := (Below.refl _ _).alloc (Nat.le_refl _) _
  go_enter Tryz.func18, Tryz.ntmps18
  go_wp2_with (refine wpList_store_mid rfl 60 _ _ rfl w.heap.size 0 utL.toArray rfl rfl X1.out.there (by kernel_rfl) one_u ?_; refine gen_at (fun V => Bx V w.heap.size utL ∧ Below w.heap.size w V) ⟨X1.out.setAll utL rfl, below_setCells (Nat.le_refl _) _ _ _ B1.out⟩ ?_; clear X1 B1; rintro V ⟨XV, BV⟩)
  exact bodyPost_ret (v := .agg utL.toArray) (res_c1 rfl _ _ _ _ rfl (run_loadVar_mid _ _ _ _ utL _ XV.all Tryz.underlying60 rfl (by kernel_rfl))) rfl ⟨rfl, BV⟩

set_option maxRecDepth 100000 in
set_option maxHeartbeats 4000000 in
theorem isOff0 (w : World) : Calls Tryz.prog 58 #[.int .i64 0] w fun e w' => e = .returned (.bool true) ∧ w' = w := by
  go_enter Tryz.func58, Tryz.ntmps58
  go_wp2
  go_ret
  exact ⟨rfl, rfl⟩

set_option maxRecDepth 100000 in
set_option maxHeartbeats 4000000 in
theorem uright (w : World) : Calls Tryz.prog 36 #[.agg utL.toArray] w fun e w' => e = .returned (.bool true) ∧ Below w.heap.size w w' := by
  have X1 : Hid (Bx (w.alloc (.cells utL.toArray 60)) w.heap.size utL) := Bx.new w utL 60
  have B1 : Hid (Below w.heap.size w (w.alloc (.cells utL.toArray 60))) := (Below.refl _ _).alloc (Nat.le_refl _) _
  have hEQ : ∀ W : World, (Op.equalIn 10000 58 (.agg ftZ.toArray) (.agg #[.bool false, .int .i64 0, .int .i64 0, .int .i64 0, .int .i64 0, .int .i64 0, .int .i64 0, .int .i64 0, .int .u8 0, .int .i64 0, .string ⟨#[]⟩, .int .i64 0, .int .i64 0, .int .i64 0, .int .i64 0, .int .i64 0, .int .u8 0, .int .i64 0, .string ⟨#[]⟩])).run Tryz.prog W = .ok true W := fun W => by kernel_rfl
  go_enter Tryz.func36, Tryz.ntmps36
  generalize hUA : utL.toArray = UA at *
  go_upto_region 1 with fail
  refine gen_to (fun V => Bx V w.heap.size utL ∧ Below w.heap.size w V) ⟨X1.out, B1.out⟩ ?_
  clear X1 B1
  rintro V ⟨XV, BV⟩
  have c1 := XV.c 1 (v := .int .i64 0) rfl
  have c2 := XV.c 2 (v := .int .i64 0) rfl
  have c5 := XV.c 5 (v := (.slice none 0 0)) rfl
  have HR : Hid (V.rangeAt w.heap.size 6 ftZ) := fun j v hv => (XV.2 (6 + j) v (by simpa [utL, Nat.add_comm] using hv)).1
  have HB : Hid (Below w.heap.size w V) := BV
  clear XV BV
  go_wp2_with fail
  refine (isOff0 _).mono ?_
  rintro e v1 ⟨rfl, hv1⟩
  obtain rfl := hv1.symm
  clear hv1
  go_wp2_with fail
  go_loopw [25] (fun iv wr => iv = .int .i64 0 ∧ wr = V) (fun _ _ => 0)
  case atStart => exact ⟨rfl, rfl⟩
  case round =>
    obtain ⟨rfl, rfl⟩ := hrel
    go_wp2_with (first | (refine wpList_load_mid rfl 58 _ rfl w.heap.size 6 rfl ftZ _ HR.out Tryz.underlying58 rfl (by kernel_rfl) ?_) | fail)
    go_ret
    exact ⟨rfl, HB.out⟩

end Go.Proofs.YtofmmdfdiaahhaaGreatDoor
