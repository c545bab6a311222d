/- Contract: src.readRule of a number of fields that is not nine. -/
import Derived.Test.YtgnfkkcagbbhmaaGreatDoorSrIq
namespace Go.Proofs.YtgnfkkcagbbhmaaGreatDoor
open Go.RowKit Lin Sr
set_option linter.unusedVariables false

set_option maxRecDepth 100000 in
set_option maxHeartbeats 4000000 in
theorem readRule_len (a : Option Addr) (n c : Nat) (hn : n ≠ 9) (w : World) :
    Calls Tryz.prog 80 #[.slice a n c] w fun e w' => e = .returned (.tuple #[.agg #[.string ⟨#[]⟩, .int .i64 0, .int .i64 0, .int .i64 0, .int .i64 0, .int .i64 0, .int .i64 0, .int .i64 0, .int .u8 0, .int .i64 0, .string ⟨#[]⟩], .bool false]) ∧ Below w.heap.size w w' := by
  have HS : Hid (∀ w : World, Calls Tryz.prog 112 #[] w fun e w' => e = .returned (.iface 212 (.agg #[.int .i64 0, .int .i64 7200])) ∧ Below w.heap.size w w') := saveR
  go_enter Tryz.func80, Tryz.ntmps80
  go_wp2_with fail
  refine (HS.out _).mono ?_
  rintro e w2 ⟨rfl, hb2⟩
  go_wp2_with fail
  have X2 : Hid (Bx w2 w.heap.size zRule) := (Bx.new w zRule 85).below hb2
  have B2 : Hid (Below w.heap.size w w2) := NBs hb2 ((Below.refl _ _).alloc (Nat.le_refl _) _)
  clear hb2
  refine (readAll_len a (some ⟨w2.heap.size, 0, none⟩) n c 9 9 hn _).mono ?_
  rintro e w3 ⟨rfl, hb3⟩
  have X3 : Hid (Bx w3 w.heap.size zRule) := (X2.out.alloc _).below hb3
  have B3 : Hid (Below w.heap.size w w3) := (B2.out.alloc B2.out.size _).trans (hb3.mono (B2.out.alloc B2.out.size _).size)
  clear hb3 X2 B2 HS
  go_wp2_with (refine wpList_store_mid rfl 85 _ _ rfl w.heap.size 0 #[.string ⟨#[]⟩, .int .i64 0, .int .i64 0, .int .i64 0, .int .i64 0, .int .i64 0, .int .i64 0, .int .i64 0, .int .u8 0, .int .i64 0, .string ⟨#[]⟩] rfl rfl X3.out.there (by kernel_rfl) zRule_one ?_; refine gen_list (fun V => Bx V w.heap.size zRule ∧ Below w.heap.size w V) ⟨X3.out.setAll zRule rfl, below_setCells (Nat.le_refl _) zRule w3 0 B3.out⟩ ?_; clear X3 B3; rintro w4 ⟨X4, B4⟩)
  have y0 := X4.c 0 rfl
  have y1 := X4.c 1 rfl
  have y2 := X4.c 2 rfl
  have y3 := X4.c 3 rfl
  have y4 := X4.c 4 rfl
  have y5 := X4.c 5 rfl
  have y6 := X4.c 6 rfl
  have y7 := X4.c 7 rfl
  have y8 := X4.c 8 rfl
  have y9 := X4.c 9 rfl
  have y10 := X4.c 10 rfl
  have HB : Hid (Below w.heap.size w w4) := B4
  clear X4 B4
  refine bodyPost_ret (v := .tuple #[.agg #[.string ⟨#[]⟩, .int .i64 0, .int .i64 0, .int .i64 0, .int .i64 0, .int .i64 0, .int .i64 0, .int .i64 0, .int .u8 0, .int .i64 0, .string ⟨#[]⟩], .bool false]) (by simp [results, Tryz.results80, go_sem, y0, y1, y2, y3, y4, y5, y6, y7, y8, y9, y10]) rfl ⟨rfl, HB.out⟩

end Go.Proofs.YtgnfkkcagbbhmaaGreatDoor
