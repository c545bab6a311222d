/- Contracts: zone.UTC; zone.Right and blob.shortAbbrs of the table of UTC. -/
import Derived.Test.YtdonjdihffpghaaDoorBlG
import Derived.Deep.Cut
namespace Go.Proofs.YtdonjdihffpghaaDoor
open Go.RowKit Sr
set_option linter.unusedVariables false

def utcL : List Value := [.string ⟨#[85, 84, 67]⟩, .int .i64 0, .int .i64 0, .bool false, .string ⟨#[85, 84, 67]⟩, .slice none 0 0, .bool false, .int .i64 0, .int .i64 0, .int .i64 0, .int .i64 0, .int .i64 0, .int .i64 0, .int .i64 0, .int .u8 0, .int .i64 0, .string ⟨#[]⟩, .int .i64 0, .int .i64 0, .int .i64 0, .int .i64 0, .int .i64 0, .int .u8 0, .int .i64 0, .string ⟨#[]⟩]
def zerL : List Value := [.string ⟨#[]⟩, .int .i64 0, .int .i64 0, .bool false, .string ⟨#[]⟩, .slice none 0 0, .bool false, .int .i64 0, .int .i64 0, .int .i64 0, .int .i64 0, .int .i64 0, .int .i64 0, .int .i64 0, .int .u8 0, .int .i64 0, .string ⟨#[]⟩, .int .i64 0, .int .i64 0, .int .i64 0, .int .i64 0, .int .i64 0, .int .u8 0, .int .i64 0, .string ⟨#[]⟩]
def ftZ : List Value := [.bool false, .int .i64 0, .int .i64 0, .int .i64 0, .int .i64 0, .int .i64 0, .int .i64 0, .int .i64 0, .int .u8 0, .int .i64 0, .string ⟨#[]⟩, .int .i64 0, .int .i64 0, .int .i64 0, .int .i64 0, .int .i64 0, .int .u8 0, .int .i64 0, .string ⟨#[]⟩]
theorem one_utc : utcL.toArray.all (·.oneCell') = true := by kernel_rfl
theorem one_zer : zerL.toArray.all (·.oneCell') = true := by kernel_rfl

set_option maxRecDepth 100000 in
set_option maxHeartbeats 4000000 in
theorem utc_any (w : World) : Calls Tryd.prog 14 #[] w fun e w' => e = .returned (.agg utcL.toArray) ∧ Below w.heap.size w w' := by
  have X1 : Hid (Bx (w.alloc (.cells zerL.toArray 52)) w.heap.size zerL) := Bx.new w zerL 52
  have B1 : Hid (Below w.heap.size w (w.alloc (.cells zerL.toArray 52))) := (Below.refl _ _).alloc (Nat.le_refl _) _
  go_enter Tryd.func14, Tryd.ntmps14
  go_wp2_with (refine wpList_store_mid rfl 52 _ _ rfl w.heap.size 0 utcL.toArray rfl rfl X1.out.there (by kernel_rfl) one_utc ?_; refine gen_list (fun V => Bx V w.heap.size utcL ∧ Below w.heap.size w V) ⟨X1.out.setAll utcL rfl, below_setCells (Nat.le_refl _) _ _ _ B1.out⟩ ?_; clear X1 B1; rintro V ⟨XV, BV⟩)
  exact bodyPost_ret (v := .agg utcL.toArray) (results_cell1' rfl _ _ _ _ rfl (run_loadVar_mid _ _ _ _ utcL _ XV.all Tryd.underlying52 rfl (by kernel_rfl))) rfl ⟨rfl, BV⟩

theorem isOff_0 (w : World) : Calls Tryd.prog 27 #[.int .i64 0] w fun e w' => e = .returned (.bool true) ∧ w' = w := by
  go_enter Tryd.func27, Tryd.ntmps27
  go_wp2_with fail
  exact bodyPost_ret (v := .bool true) (by simp [results, Tryd.results27, go_sem]) rfl ⟨rfl, rfl⟩

set_option maxRecDepth 100000 in
set_option maxHeartbeats 4000000 in
theorem right_utc (w : World) : Calls Tryd.prog 15 #[.agg utcL.toArray] w fun e w' => e = .returned (.bool true) ∧ Below w.heap.size w w' := by
  have X1 : Hid (Bx (w.alloc (.cells utcL.toArray 52)) w.heap.size utcL) := Bx.new w utcL 52
  have B1 : Hid (Below w.heap.size w (w.alloc (.cells utcL.toArray 52))) := (Below.refl _ _).alloc (Nat.le_refl _) _
  go_enter Tryd.func15, Tryd.ntmps15
  have eU : utcL.toArray = utcL.toArray := rfl
  generalize hUA : utcL.toArray = UA at *
  go_upto_region 1 with fail
  refine gen_code (fun V => Bx V w.heap.size utcL ∧ Below w.heap.size w V) ⟨X1.out, B1.out⟩ ?_
  clear X1 B1 eU
  rintro V ⟨XV, BV⟩
  have c1 := XV.c 1 rfl
  have c2 := XV.c 2 rfl
  have c5 := XV.c 5 rfl
  have hr : V.rangeAt w.heap.size 6 ftZ := XV.rng (utcL.take 6) ftZ [] rfl
  have HR : Hid (V.rangeAt w.heap.size 6 ftZ) := hr
  have HB : Hid (Below w.heap.size w V) := BV
  have HO : Hid (∀ w : World, Calls Tryd.prog 27 #[.int .i64 0] w fun e w' => e = .returned (.bool true) ∧ w' = w) := isOff_0
  clear hr XV BV
  go_wp2_with fail
  refine (HO.out _).mono ?_
  rintro e w' ⟨rfl, hw⟩
  obtain rfl := hw.symm
  clear hw HO
  go_wp2_with fail
  go_loopw [25] (fun i W => i = .int .i64 0 ∧ W = V) (fun _ _ => 0)
  case atStart => exact ⟨rfl, rfl⟩
  case round =>
    obtain ⟨rfl, hw⟩ := hrel
    obtain rfl := hw.symm
    clear hw
    go_wp2_with (refine wpList_load_mid rfl 50 _ rfl w.heap.size 6 rfl [.bool false, .int .i64 0, .int .i64 0, .int .i64 0, .int .i64 0, .int .i64 0, .int .i64 0, .int .i64 0, .int .u8 0, .int .i64 0, .string ⟨#[]⟩, .int .i64 0, .int .i64 0, .int .i64 0, .int .i64 0, .int .i64 0, .int .u8 0, .int .i64 0, .string ⟨#[]⟩] _ HR.out Tryd.underlying50 rfl (by kernel_rfl) ?_)
    exact bodyPost_ret (v := .bool true) (by simp [results, Tryd.results15, go_sem]) rfl ⟨rfl, HB.out⟩

set_option maxRecDepth 100000 in
set_option maxHeartbeats 4000000 in
theorem short_utc (w : World) : Calls Tryd.prog 17 #[.agg utcL.toArray] w fun e w' => e = .returned (.bool true) ∧ Below w.heap.size w w' := by
  have X1 : Hid (Bx (w.alloc (.cells utcL.toArray 52)) w.heap.size utcL) := Bx.new w utcL 52
  have B1 : Hid (Below w.heap.size w (w.alloc (.cells utcL.toArray 52))) := (Below.refl _ _).alloc (Nat.le_refl _) _
  go_enter Tryd.func17, Tryd.ntmps17
  generalize hUA : utcL.toArray = UA at *
  go_upto_region 1 with fail
  refine gen_code (fun V => Bx V w.heap.size utcL ∧ Below w.heap.size w V) ⟨X1.out, B1.out⟩ ?_
  clear X1 B1
  rintro V ⟨XV, BV⟩
  have c4 := XV.c 4 rfl
  have c5 := XV.c 5 rfl
  have c16 := XV.c 16 rfl
  have c24 := XV.c 24 rfl
  have HB : Hid (Below w.heap.size w V) := BV
  clear XV BV
  go_wp2_with fail
  go_loopw [8] (fun i W => i = .int .i64 0 ∧ W = V) (fun _ _ => 0)
  case atStart => exact ⟨rfl, rfl⟩
  case round =>
    obtain ⟨rfl, hw⟩ := hrel
    obtain rfl := hw.symm
    clear hw
    go_wp2_with fail
    exact bodyPost_ret (v := .bool true) (by simp [results, Tryd.results17, go_sem]) rfl ⟨rfl, HB.out⟩

end Go.Proofs.YtdonjdihffpghaaDoor
