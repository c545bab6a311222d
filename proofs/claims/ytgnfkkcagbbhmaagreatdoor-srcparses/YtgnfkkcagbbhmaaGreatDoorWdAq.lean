/- Contracts of word.Lower and word.Same: small letters for A to Z. -/
import Derived.Test.YtgnfkkcagbbhmaaGreatDoorProg
import Derived.Test.YtgnfkkcagbbhmaaGreatDoorWdNumMq
import Derived.WalkKit
import Derived.ProofKit
import Derived.Laws.IdiomStrings
import Derived.Laws.RangeAny
import Derived.Lib.OthersKept
import Derived.Deep.LoopGhost
import Derived.Deep.RegionWith
import Derived.Deep.DeepMust
import Derived.Deep.RegionHeld3
import Derived.Below
namespace Go.Proofs.YtgnfkkcagbbhmaaGreatDoor.Wrd
open Go.RowKit
set_option linter.unusedVariables false

/-- bytes in a block. -/
def Buf (w : World) (g : Nat) (l : List UInt8) : Prop := g < w.heap.size ∧ ∀ j c, l[j]? = some c → w.cell? ⟨g, j, none⟩ = some (.int .u8 (c.toNat : Int)) ∧ w.frozen? ⟨g, j, none⟩ = false
theorem Buf.keep {w w1 : World} {g : Nat} {l : List UInt8} (h : Buf w g l) (hb : w1.heap[g]? = w.heap[g]?) (hz : w.heap.size ≤ w1.heap.size) : Buf w1 g l :=
  ⟨Nat.lt_of_lt_of_le h.1 hz, fun j c hc => ⟨(World.cell?_of_block (a := ⟨g, j, none⟩) hb).trans (h.2 j c hc).1, (World.frozen?_of_block (a := ⟨g, j, none⟩) hb).trans (h.2 j c hc).2⟩⟩
theorem addr_ne' {b i j : Nat} (h : i ≠ j) : (⟨b, i, none⟩ : Addr) ≠ ⟨b, j, none⟩ := fun e => h (by cases e; rfl)
theorem Buf.set {w : World} {g : Nat} {l : List UInt8} (h : Buf w g l) {pos : Nat} {c : UInt8} (d : UInt8) (hc : l[pos]? = some c) : Buf (w.setCell ⟨g, pos, none⟩ (.int .u8 (d.toNat : Int))) g (l.set pos d) := by
  refine ⟨by simpa [World.setCell] using h.1, fun j x hx => ?_⟩
  rw [List.getElem?_set] at hx
  by_cases e : pos = j
  · subst e
    rw [if_pos rfl, if_pos (List.getElem?_eq_some_iff.1 hc).1] at hx
    simp only [Option.some.injEq] at hx
    subst hx
    exact ⟨World.cell?_setCell_same _ _ _ (h.2 pos c hc).1, by simpa using (h.2 pos c hc).2⟩
  · rw [if_neg e] at hx
    exact ⟨(World.cell?_setCell_other _ _ _ _ (addr_ne' e)).trans (h.2 j x hx).1, by simpa using (h.2 j x hx).2⟩
theorem bytesRow_get (s : ByteArray) (cap j : Nat) (c : UInt8) (h : s.data.toList[j]? = some c) : (bytesRow s cap)[j]? = some (.int .u8 (c.toNat : Int)) ∧ j < (bytesRow s cap).size := by
  have hj : j < s.data.size := by have := (List.getElem?_eq_some_iff.1 h).1; simpa using this
  have e := bytesRow_at s cap j hj
  have hc : s.data[j] = c := by have := (List.getElem?_eq_some_iff.1 h).2; simpa using this
  rw [hc] at e
  exact ⟨e, (Array.getElem?_eq_some_iff.1 e).1⟩
theorem Buf.new (w : World) (s : ByteArray) (cap : Nat) (t : TypeId) : Buf (w.drew.alloc (.cells (bytesRow s cap) t ((bytesRow s cap).size, (bytesRow s cap).size + 1))) w.heap.size s.data.toList := by
  refine ⟨by simp, fun j c hc => ?_⟩
  obtain ⟨e, hj⟩ := bytesRow_get s cap j c hc
  refine ⟨(World.cell?_alloc_mark w.drew _ t _ j).trans e, (World.frozen?_alloc_mark w.drew _ t _ _ j).trans ?_⟩
  simp; omega
theorem iterPos_eq {w : World} {k : Nat} {s : ByteArray} {p : Nat} (h : w.heap[k]? = some (.stringIter s p)) : w.iterPos k = p := by simp [World.iterPos, h]

set_option maxRecDepth 1000000 in
set_option maxHeartbeats 4000000 in
theorem lower_any (s : ByteArray) (hs : s.size ≤ maxLen) (w : World) :
    Calls Tryz.prog 79 #[.string s] w fun e w' => e = .returned (.string (lowB s)) ∧ Below w.heap.size w w' := by
  unfold maxLen at hs
  have hcv : ∀ w0 : World, (convert 9 123 (.string s)).run Tryz.prog w0 = _ := fun w0 => run_bytes_of_string (P := Tryz.prog) w0 9 123 5 s Tryz.underlying9 Tryz.underlying123 Tryz.underlying5
  obtain ⟨cap, hcap⟩ : ∃ cap, cap = grownCap w s.size 0 5 := ⟨_, rfl⟩
  obtain ⟨W0, hW0⟩ : ∃ W0, W0 = w.drew.alloc (.cells (bytesRow s cap) 5 ((bytesRow s cap).size, (bytesRow s cap).size + 1)) := ⟨_, rfl⟩
  have hz0 : W0.heap.size = w.heap.size + 1 := by rw [hW0]; simp
  have B0 : Below w.heap.size w W0 := by rw [hW0]; exact (Below.refl _ _).drew.alloc (by simp) _
  have F0 : Buf W0 w.heap.size s.data.toList := by rw [hW0]; exact Buf.new w s cap 5
  have hcv0 := hcv w
  rw [← hcap, ← hW0] at hcv0
  clear hcv hW0 hcap
  go_enter Tryz.func79, Tryz.ntmps79
  go_wp2_with fail
  go_loopw [] (fun wr => ∃ pos : Nat, pos ≤ s.size ∧ wr.heap[w.heap.size + 1]? = some (.stringIter s pos) ∧ Buf wr w.heap.size (lowTo s pos) ∧ Below w.heap.size w wr) (fun wr => s.size - wr.iterPos (w.heap.size + 1))
  case atStart =>
    refine ⟨0, Nat.zero_le _, ?_, ?_, ?_⟩
    · have := World.iter_heap W0 s 0
      rw [hz0] at this
      exact this
    · rw [lowTo_zero]
      exact F0.keep (Below.heap_alloc _ _ _ (by omega)) (by simp [World.iter])
    · exact B0.alloc (by omega) _
  case round =>
    obtain ⟨pos, hle, hit, F, B⟩ := hrel
    have hpos0 := iterPos_eq hit
    clear B0 F0 hcv0 hz0
    by_cases hp : pos < s.size
    · have hnx : ∀ ty, (Instr.next (.pointer (some ⟨w.heap.size + 1, 0, none⟩)) true ty).run Tryz.prog wr = _ := fun ty => Lib.run_next_any_at wr (w.heap.size + 1) s pos ty hit hp
      have hwd := wd_pos s pos
      have hwl := wd_le s pos hp
      have hit2 := Lib.iterAt_heap wr (w.heap.size + 1) s pos (pos + (Utf8.decode s pos).2) hit
      have B2 := Lib.below_iterAt B (k := w.heap.size + 1) (by omega) s (pos + (Utf8.decode s pos).2)
      have F2 : Buf (wr.iterAt (w.heap.size + 1) s (pos + (Utf8.decode s pos).2)) w.heap.size (lowTo s pos) := F.keep (Lib.iterAt_other _ _ _ _ _ (by omega)) (by rw [Lib.iterAt_size]; exact Nat.le_refl _)
      clear F B hit
      obtain ⟨R, hR⟩ : ∃ R : Int, ((Utf8.decode s pos).1 : Int) = R := ⟨_, rfl⟩
      obtain ⟨W1, hW1⟩ : ∃ W1, W1 = wr.iterAt (w.heap.size + 1) s (pos + (Utf8.decode s pos).2) := ⟨_, rfl⟩
      rw [hR] at hnx
      rw [← hW1] at hnx hit2 B2 F2
      have R0 : 0 ≤ R := by omega
      have R1 : R ≤ 2147483647 := by have := decode_le s pos; omega
      clear hW1
      have HI : Hid (W1.heap[w.heap.size + 1]? = some (.stringIter s (pos + (Utf8.decode s pos).2))) := hit2
      have HB : Hid (Below w.heap.size w W1) := B2
      have HF : Hid (Buf W1 w.heap.size (lowTo s pos)) := F2
      clear hit2 B2 F2
      by_cases hAZ : 65 ≤ R ∧ R ≤ 90
      · obtain ⟨c1, c2⟩ := hAZ
        obtain ⟨q1, q2, q3, q4, q5⟩ := lowTo_put s pos hp (by omega)
        have hcell : W1.cell? ⟨w.heap.size, pos, none⟩ = some (.int .u8 R) := by rw [(HF.out.2 pos _ q2).1, ← hR, q5]
        have hfz : W1.frozen? ⟨w.heap.size, pos, none⟩ = false := (HF.out.2 pos _ q2).2
        have HS : Hid (Buf (W1.setCell ⟨w.heap.size, pos, none⟩ (.int .u8 (R + 32))) w.heap.size (lowTo s (pos + (Utf8.decode s pos).2))) := by
          show Buf _ _ _
          rw [q3]
          have := HF.out.set (s[pos]'hp + 32) q2
          rw [q4] at this
          rw [← hR]
          exact this
        have hpi : (pos : Int) < (s.size : Int) := by omega
        clear hR q1 q2 q3 q4 q5 HF
        go_wp2_with fail
        go_roundw
        case rel =>
          refine ⟨pos + (Utf8.decode s pos).2, hwl, ?_, HS.out, HB.out.setCell (Nat.le_refl _) _⟩
          rw [Below.heap_setCell _ _ _ _ (by simp)]; exact HI.out
        case measure =>
          rw [hpos0, iterPos_eq (p := pos + (Utf8.decode s pos).2) (by rw [Below.heap_setCell _ _ _ _ (by simp)]; exact HI.out)]
          omega
      · have HS : Hid (Buf W1 w.heap.size (lowTo s (pos + (Utf8.decode s pos).2))) := by
          show Buf _ _ _
          rw [lowTo_skip s pos hp (by omega)]
          exact HF.out
        clear hR HF
        go_wp2_with fail
        all_goals first
          | (exfalso; omega)
          | (go_roundw
             case rel => exact ⟨pos + (Utf8.decode s pos).2, hwl, HI.out, HS.out, HB.out⟩
             case measure =>
               rw [hpos0, iterPos_eq HI.out]
               omega)
    · have hnx : ∀ ty, (Instr.next (.pointer (some ⟨w.heap.size + 1, 0, none⟩)) true ty).run Tryz.prog wr = _ := fun ty => Lib.run_next_end_at wr (w.heap.size + 1) s pos ty hit hp
      have hcb := run_convert_bytes_back (P := Tryz.prog) wr 123 9 5 ⟨w.heap.size, 0, none⟩ cap (lowTo s pos) Tryz.underlying123 Tryz.underlying5 Tryz.underlying9 (fun j hj => by
        have := (F.2 j _ (List.getElem?_eq_getElem hj)).1
        by_cases z : j = 0
        · subst z; simpa [Addr.add] using this
        · simpa [Addr.add, z] using this)
      rw [lowTo_length, lowTo_end s pos hp] at hcb
      have HB : Hid (Below w.heap.size w wr) := B
      clear F B hit
      go_wp2_with fail
      go_ret
      exact ⟨rfl, HB.out⟩

theorem toList_eq (a b : ByteArray) : (a.toList == b.toList) = decide (a = b) := by
  rw [Lib.toList_data, Lib.toList_data, Bool.eq_iff_iff, beq_iff_eq, decide_eq_true_eq]
  constructor
  · intro h; cases a; cases b; exact congrArg ByteArray.mk (Array.toList_inj.1 h)
  · intro h; rw [h]
theorem ret_bool {a b : Bool} (h : a = b) : Ending.returned (.bool a) = .returned (.bool b) := by rw [h]

set_option maxRecDepth 100000 in
set_option maxHeartbeats 1000000 in
theorem same_any (a b : ByteArray) (ha : a.size ≤ maxLen) (hb : b.size ≤ maxLen) (w : World) :
    Calls Tryz.prog 113 #[.string a, .string b] w fun e w' => e = .returned (.bool (sameB a b)) ∧ Below w.heap.size w w' := by
  go_enter Tryz.func113, Tryz.ntmps113
  go_wp2_with fail
  refine (lower_any a ha _).mono ?_
  rintro e w1 ⟨rfl, B1⟩
  go_wp2_with fail
  refine (lower_any b hb _).mono ?_
  rintro e w2 ⟨rfl, b2⟩
  have B2 := B1.trans (b2.mono B1.size)
  clear b2 B1
  go_wp2_with fail
  go_ret
  exact ⟨ret_bool (toList_eq _ _), B2⟩

end Go.Proofs.YtgnfkkcagbbhmaaGreatDoor.Wrd
