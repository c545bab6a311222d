/- series: Ints whole. -/
import Derived.Test.YtpdmndlpgjjopaaGreatDoorSeCq
namespace Go.Proofs.YtpdmndlpgjjopaaGreatDoor
open Go.RowKit
set_option linter.unusedVariables false

set_option maxRecDepth 100000 in
set_option maxHeartbeats 4000000 in
theorem ints_ok (a b s m : Int) (n : Nat) (h : mostB m = true) (hn : n ≤ 1000) (hC : ¬ m < (n : Int)) (hm : IntKind.u64.wrap m = m) (HR : Hid (∀ i : Nat, i < n → IntKind.i64.wrap (a + (i : Int) * s) = a + (i : Int) * s)) (ha : IntKind.i64.wrap a = a) (CT : Hid (∀ w : World, Calls Tryz.prog 40 #[.int .i64 a, .int .i64 b, .int .i64 s] w fun r w' => r = .returned (.tuple #[.int .u64 (n : Int), .int .i64 0]) ∧ Below w.heap.size w w')) (w : World) : Calls Tryz.prog 21 #[.int .i64 a, .int .i64 b, .int .i64 s, .int .i64 m] w fun r w' => ∃ g, r = .returned (.tuple #[.slice (some ⟨g, 0, none⟩) n n, .int .i64 0]) ∧ Below w.heap.size w w' ∧ w.heap.size ≤ g ∧ Bx w' g (cI (arI a s n)) := by
  have MO : Hid (∀ w : World, Calls Tryz.prog 15 #[.int .i64 m] w fun r w' => r = .returned (.bool true) ∧ w' = w) := fun w => by rw [← h]; exact most_any m w
  clear h
  go_enter Tryz.func21, Tryz.ntmps21
  go_wp2_with fail
  refine (MO.out _).mono ?_
  rintro e W ⟨rfl, hw⟩
  rw [hw]
  clear hw W
  go_wp2_with fail
  refine (CT.out _).mono ?_
  rintro e W1 ⟨rfl, hb⟩
  have HB1 : Hid (Below w.heap.size w W1) := hb
  have hmk := make_i n hn W1
  clear hb
  go_wp2_with fail
  go_loopw [0, 39] (fun av iv W => ∃ i : Nat, i ≤ n ∧ av = .int .i64 (IntKind.i64.wrap (a + (i : Int) * s)) ∧ iv = .int .i64 (i : Int) ∧ Hid (Bx W W1.heap.size (cI (fiI a s i n))) ∧ Hid (Below w.heap.size w W)) (fun _ iv _ => n - (intOf iv).toNat)
  case atStart => exact ⟨0, Nat.zero_le _, by simp [ha], rfl, by rw [fiI_zero]; exact Bx.new W1 _ _, (HB1.out.alloc HB1.out.size _)⟩
  case round =>
    obtain ⟨i, hi, rfl, rfl, HX, HB⟩ := hrel
    by_cases hlt : i < n
    · have hlen : (cI (fiI a s i n)).length = n := by rw [cI_len, fiI_len]
      obtain ⟨q, hq⟩ : ∃ q, (cI (fiI a s i n))[i]? = some q := ⟨_, List.getElem?_eq_getElem (by omega)⟩
      have hcell := HX.out.c _ hq
      have hfz := HX.out.f _ hq
      have hr := HR.out i hlt
      obtain ⟨x, hx⟩ : ∃ x, a + (i : Int) * s = x := ⟨_, rfl⟩
      rw [hx] at hr ⊢
      rw [hr]
      have HX' : Hid (Bx (wr.setCell ⟨W1.heap.size, i, none⟩ (.int .i64 x)) W1.heap.size (cI (fiI a s (i + 1) n))) := by
        have := HX.out.set1 i (.int .i64 x) (by omega)
        rw [← hx, fiI_set a s i n hlt] at this; rw [← hx]; exact this
      have HB' : Hid (Below w.heap.size w (wr.setCell ⟨W1.heap.size, i, none⟩ (.int .i64 x))) := HB.out.setCell (p := ⟨W1.heap.size, i, none⟩) HB1.out.size _
      have HN : Hid (IntKind.i64.wrap (x + s) = IntKind.i64.wrap (a + ((i + 1 : Nat) : Int) * s)) := by
        show _ = _
        rw [← hx]; congr 1; rw [Int.natCast_add, Int.add_mul]; simp only [Int.natCast_one, Int.one_mul]; omega
      clear hx hr
      go_wp2_with fail
      exact ⟨⟨i + 1, by omega, by rw [← HN.out]; congr 1; unfold wrap64; exact (IntKind.wrap_i64 _).symm, by simp, HX', HB'⟩, by simp [intOf]; omega⟩
    · have e : i = n := by omega
      have HX2 : Hid (Bx wr W1.heap.size (cI (arI a s n))) := by have := HX.out; rw [e, fiI_all] at this; exact this
      clear HX e hmk
      go_wp2_with fail
      exact bodyPost_ret (v := .tuple #[.slice (some ⟨W1.heap.size, 0, none⟩) n n, .int .i64 0]) (by simp [results, Tryz.results21, go_sem]) rfl ⟨_, rfl, HB.out, HB1.out.size, HX2.out⟩

end Go.Proofs.YtpdmndlpgjjopaaGreatDoor
