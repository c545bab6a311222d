/- Contracts: blob.highest, blob.sumOf. -/
import Derived.Test.YtdonjdihffpghaaDoorSrK
import Derived.Test.YtdonjdihffpghaaDoorBlA
import Derived.Laws.MakeOwn
namespace Go.Proofs.YtdonjdihffpghaaDoor
open Go.RowKit Sr
set_option linter.unusedVariables false

theorem Sr.Bx.set1 {W : World} {b : Nat} {l : List Value} (h : Bx W b l) (i : Nat) (v : Value) (hi : i < l.length) : Bx (W.setCell ⟨b, i, none⟩ v) b (l.set i v) :=
  ⟨by simpa using h.1, fun j x e => by
    by_cases hj : i = j
    · subst hj
      rw [List.getElem?_set_self hi] at e
      cases e
      exact ⟨World.cell?_setCell_same _ _ _ (h.2 i l[i] (List.getElem?_eq_getElem hi)).1, by rw [World.frozen?_setCell]; exact (h.2 i l[i] (List.getElem?_eq_getElem hi)).2⟩
    · rw [List.getElem?_set_ne hj] at e
      exact ⟨(World.cell?_setCell_other _ _ _ _ (fun q => hj (by cases q; rfl))).trans (h.2 j x e).1, by rw [World.frozen?_setCell]; exact (h.2 j x e).2⟩⟩
/-- bytes that are written from behind: i of k. -/
def hiL (k i N : Nat) : List UInt8 := List.replicate (k - i) 0 ++ beB i N
theorem hiL_len {k i N : Nat} (h : i ≤ k) : (hiL k i N).length = k := by simp [hiL, beB_len]; omega
theorem hiL_set {k i N : Nat} (h : i < k) : (hiL k i N).set (k - 1 - i) (UInt8.ofNat (N / 256 ^ i)) = hiL k (i + 1) N := by
  unfold hiL
  rw [show k - i = (k - 1 - i) + 1 by omega, List.replicate_succ', List.append_assoc, List.set_append_right _ _ (by simp)]
  simp [beB, show k - (i + 1) = k - 1 - i by omega]
theorem cellsB_set (l : List UInt8) (i : Nat) (x : UInt8) : cellsB (l.set i x) = (cellsB l).set i (.int .u8 (x.toNat : Int)) := by simp [cellsB, List.map_set]
theorem cellsB_len (l : List UInt8) : (cellsB l).length = l.length := by simp [cellsB]
theorem cellsB_app (l m : List UInt8) : cellsB (l ++ m) = cellsB l ++ cellsB m := by simp [cellsB]
theorem rd_of_bx {W : World} {b : Nat} {L : List UInt8} (h : Bx W b (cellsB L)) : RdB W (some ⟨b, 0, none⟩) L := fun j x hj => ⟨_, rfl, by
  have := h.c j (cellsB_get hj); cases j <;> simpa [Addr.add] using this⟩
theorem hi_mod (M : Nat) : ((UInt8.ofNat M).toNat : Int) = (M : Int) % 256 := by rw [u8_of]; omega

set_option maxRecDepth 100000 in
set_option maxHeartbeats 4000000 in
theorem highest_any (k N : Nat) (hk : k ≤ 8) (hN : N < 18446744073709551616) (HM : Hid (∀ w : World, (Instr.makeSlice 22 (.int .i64 (k : Int)) (.int .i64 (k : Int))).run Tryd.prog w = .ok (.slice (some ⟨w.heap.size, 0, none⟩) k k) (w.alloc (.cells (cellsB (List.replicate k 0)).toArray 5)))) (w : World) :
    Calls Tryd.prog 35 #[.int .u64 (N : Int), .int .i64 (k : Int)] w fun e w' => e = .returned (.slice (some ⟨w.heap.size, 0, none⟩) k k) ∧ Below w.heap.size w w' ∧ Bx w' w.heap.size (cellsB (beB k N)) := by
  have hmk := HM.out w
  go_enter Tryd.func35, Tryd.ntmps35
  go_wp2_with fail
  go_loopw [0, 10] (fun u i W => ∃ (j : Nat), j ≤ k ∧ u = .int .u64 ((N / 256 ^ j : Nat) : Int) ∧ i = .int .i64 (j : Int) ∧ Hid (Bx W w.heap.size (cellsB (hiL k j N))) ∧ Hid (Below w.heap.size w W)) (fun _ i _ => k - (intOf i).toNat)
  case atStart => exact ⟨0, Nat.zero_le _, by simp, rfl, by have := Bx.new w (cellsB (List.replicate k 0)) 5; simpa [hiL, beB, Hid] using this, (Below.refl _ _).alloc (Nat.le_refl _) _⟩
  case round =>
    obtain ⟨j, hj, rfl, rfl, HX, HB⟩ := hrel
    by_cases hjk : j < k
    · have hlen : (cellsB (hiL k j N)).length = k := by rw [cellsB_len, hiL_len hj]
      obtain ⟨q, hq⟩ : ∃ q, (cellsB (hiL k j N))[k - 1 - j]? = some q := ⟨_, List.getElem?_eq_getElem (by omega)⟩
      have hcell := HX.out.c _ hq
      have hfz := HX.out.f _ hq
      have HX' : Hid (Bx (wr.setCell ⟨w.heap.size, k - 1 - j, none⟩ (.int .u8 (((N / 256 ^ j : Nat) : Int) % 256))) w.heap.size (cellsB (hiL k (j + 1) N))) := by
        have := HX.out.set1 (k - 1 - j) (.int .u8 (((N / 256 ^ j : Nat) : Int) % 256)) (by omega)
        rw [← hi_mod, ← cellsB_set, hiL_set hjk] at this; rw [← hi_mod]; exact this
      have HB' : Hid (Below w.heap.size w (wr.setCell ⟨w.heap.size, k - 1 - j, none⟩ (.int .u8 (((N / 256 ^ j : Nat) : Int) % 256)))) := HB.out.setCell (p := ⟨w.heap.size, k - 1 - j, none⟩) (Nat.le_refl _) _
      have hNj : N / 256 ^ j < 18446744073709551616 := Nat.lt_of_le_of_lt (Nat.div_le_self _ _) hN
      have HD : Hid (N / 256 ^ j / 256 = N / 256 ^ (j + 1)) := by show _ = _; rw [Nat.div_div_eq_div_mul, Nat.pow_succ]
      generalize N / 256 ^ j = M at *
      go_wp2_with fail
      exact ⟨⟨j + 1, by omega, by rw [← HD.out]; simp, by simp, HX', HB'⟩, by simp [intOf]; omega⟩
    · have e : j = k := by omega
      have HX2 : Hid (Bx wr w.heap.size (cellsB (beB k N))) := by have := HX.out; rw [e] at this; simpa [hiL, Hid] using this
      clear HX e hmk HM
      go_wp2_with fail
      exact bodyPost_ret (v := .slice (some ⟨w.heap.size, 0, none⟩) k k) (by simp [results, Tryd.results35, go_sem]) rfl ⟨rfl, HB.out, HX2.out⟩

theorem highest_8 (N : Nat) (hN : N < 18446744073709551616) (w : World) :
    Calls Tryd.prog 35 #[.int .u64 (N : Int), .int .i64 8] w fun e w' => e = .returned (.slice (some ⟨w.heap.size, 0, none⟩) 8 8) ∧ Below w.heap.size w w' ∧ Bx w' w.heap.size (cellsB (beB 8 N)) :=
  highest_any 8 N (by decide) hN (fun w => by kernel_rfl) w
theorem highest_4 (N : Nat) (hN : N < 18446744073709551616) (w : World) :
    Calls Tryd.prog 35 #[.int .u64 (N : Int), .int .i64 4] w fun e w' => e = .returned (.slice (some ⟨w.heap.size, 0, none⟩) 4 4) ∧ Below w.heap.size w w' ∧ Bx w' w.heap.size (cellsB (beB 4 N)) :=
  highest_any 4 N (by decide) hN (fun w => by kernel_rfl) w

set_option maxRecDepth 100000 in
set_option maxHeartbeats 4000000 in
theorem sumOf_any (a : Option Addr) (L : List UInt8) (n c : Nat) (hn : L.length = n) (hc : n ≤ maxLen) (w : World) (HR : Hid (RdB w a L)) :
    Calls Tryd.prog 21 #[.slice a n c] w fun e w' => e = .returned (.slice (some ⟨w.heap.size, 0, none⟩) 4 4) ∧ Below w.heap.size w w' ∧ Bx w' w.heap.size (cellsB (beB 4 (smB L))) := by
  have hS := sum_any a L n c hn hc w HR
  have hm := smB_lt L
  have hH := highest_4 (smB L) (by omega) w
  generalize smB L = M at *
  go_enter Tryd.func21, Tryd.ntmps21
  go_wp2_with fail
  refine hS.mono ?_
  rintro e w' ⟨rfl, hw⟩
  obtain rfl := hw.symm
  clear hw hS
  go_wp2_with fail
  refine hH.mono ?_
  rintro e w2 ⟨rfl, hb, hx⟩
  go_wp2_with fail
  exact bodyPost_ret (v := .slice (some ⟨w.heap.size, 0, none⟩) 4 4) (by simp [results, Tryd.results21, go_sem]) rfl ⟨rfl, hb, hx⟩

end Go.Proofs.YtdonjdihffpghaaDoor
