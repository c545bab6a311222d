import Derived.Test.YtcmefhnfdcngfaaDoorProg
import Derived.Test.YtcmefhnfdcngfaaDoorP4
import Derived.WalkKit
import Derived.ProofKit
import Derived.Laws.IdiomStrings
import Derived.Laws.RangeAny
import Derived.Lib.OthersKept
import Derived.Deep.LoopGhost
import Derived.Deep.RegionWith
import Derived.Deep.DeepMust
import Derived.Deep.RegionHeld3
import Derived.Below
import Derived.Shelf.Strings.Builder1
import Derived.Shelf.Strings.Builder2
import Derived.Shelf.Small.Utf8
import Derived.Shelf.Strings.BuilderF
import Derived.Shelf.Strings.BuilderK
import Derived.Shelf.Strings.Search1
import Derived.Shelf.Strings.Search2
import Derived.Shelf.Strings.Search3
import Derived.Shelf.Strings.Count
import Derived.Shelf.LaysM
import Derived.Shelf.Strings.Shaped
import Derived.Shelf.Strings.Split
import Derived.Shelf.Strings.Replace
import Derived.Shelf.Unicode.DecodeSlow
import Derived.Shelf.Unicode.DecodeAny
/- Contracts of word.Lower and word.Same: small letters for A to Z. -/
namespace Go.Proofs.YtcmefhnfdcngfaaDoor
open Go.RowKit
set_option linter.unusedVariables false

/-- bytes in a block. -/
def Buf (w : World) (g : Nat) (l : List UInt8) : Prop := g < w.heap.size ∧ ∀ j c, l[j]? = some c → w.cell? ⟨g, j, none⟩ = some (.int .u8 (c.toNat : Int)) ∧ w.frozen? ⟨g, j, none⟩ = false
theorem Buf.keep {w w1 : World} {g : Nat} {l : List UInt8} (h : Buf w g l) (hb : w1.heap[g]? = w.heap[g]?) (hz : w.heap.size ≤ w1.heap.size) : Buf w1 g l :=
  ⟨Nat.lt_of_lt_of_le h.1 hz, fun j c hc => ⟨(World.cell?_of_block (a := ⟨g, j, none⟩) hb).trans (h.2 j c hc).1, (World.frozen?_of_block (a := ⟨g, j, none⟩) hb).trans (h.2 j c hc).2⟩⟩
theorem addr_ne' {b i j : Nat} (h : i ≠ j) : (⟨b, i, none⟩ : Addr) ≠ ⟨b, j, none⟩ := fun e => h (by cases e; rfl)
theorem Buf.set {w : World} {g : Nat} {l : List UInt8} (h : Buf w g l) {pos : Nat} {c : UInt8} (d : UInt8) (hc : l[pos]? = some c) : Buf (w.setCell ⟨g, pos, none⟩ (.int .u8 (d.toNat : Int))) g (l.set pos d) := by
  refine ⟨by simpa [World.setCell] using h.1, fun j x hx => ?_⟩
  rw [List.getElem?_set] at hx
  by_cases e : pos = j
  · subst e
    rw [if_pos rfl, if_pos (List.getElem?_eq_some_iff.1 hc).1] at hx
    simp only [Option.some.injEq] at hx
    subst hx
    exact ⟨World.cell?_setCell_same _ _ _ (h.2 pos c hc).1, by simpa using (h.2 pos c hc).2⟩
  · rw [if_neg e] at hx
    exact ⟨(World.cell?_setCell_other _ _ _ _ (addr_ne' e)).trans (h.2 j x hx).1, by simpa using (h.2 j x hx).2⟩
theorem bytesRow_get (s : ByteArray) (cap j : Nat) (c : UInt8) (h : s.data.toList[j]? = some c) : (bytesRow s cap)[j]? = some (.int .u8 (c.toNat : Int)) ∧ j < (bytesRow s cap).size := by
  have hj : j < s.data.size := by have := (List.getElem?_eq_some_iff.1 h).1; simpa using this
  have e := bytesRow_at s cap j hj
  have hc : s.data[j] = c := by have := (List.getElem?_eq_some_iff.1 h).2; simpa using this
  rw [hc] at e
  exact ⟨e, (Array.getElem?_eq_some_iff.1 e).1⟩
theorem Buf.new (w : World) (s : ByteArray) (cap : Nat) (t : TypeId) : Buf (w.drew.alloc (.cells (bytesRow s cap) t ((bytesRow s cap).size, (bytesRow s cap).size + 1))) w.heap.size s.data.toList := by
  refine ⟨by simp, fun j c hc => ?_⟩
  obtain ⟨e, hj⟩ := bytesRow_get s cap j c hc
  refine ⟨(World.cell?_alloc_mark w.drew _ t _ j).trans e, (World.frozen?_alloc_mark w.drew _ t _ _ j).trans ?_⟩
  simp; omega
theorem iterPos_eq {w : World} {k : Nat} {s : ByteArray} {p : Nat} (h : w.heap[k]? = some (.stringIter s p)) : w.iterPos k = p := by simp [World.iterPos, h]

set_option maxRecDepth 1000000 in
set_option maxHeartbeats 4000000 in
theorem lower_any (s : ByteArray) (hs : s.size ≤ maxLen) (w : World) :
    Calls Tryd.prog 43 #[.string s] w fun e w' => e = .returned (.string (lowB s)) ∧ Below w.heap.size w w' := by
  unfold maxLen at hs
  have hcv : ∀ w0 : World, (convert 9 103 (.string s)).run Tryd.prog w0 = _ := fun w0 => run_bytes_of_string (P := Tryd.prog) w0 9 103 5 s Tryd.underlying9 Tryd.underlying103 Tryd.underlying5
  obtain ⟨cap, hcap⟩ : ∃ cap, cap = grownCap w s.size 0 5 := ⟨_, rfl⟩
  obtain ⟨W0, hW0⟩ : ∃ W0, W0 = w.drew.alloc (.cells (bytesRow s cap) 5 ((bytesRow s cap).size, (bytesRow s cap).size + 1)) := ⟨_, rfl⟩
  have hz0 : W0.heap.size = w.heap.size + 1 := by rw [hW0]; simp
  have B0 : Below w.heap.size w W0 := by rw [hW0]; exact (Below.refl _ _).drew.alloc (by simp) _
  have F0 : Buf W0 w.heap.size s.data.toList := by rw [hW0]; exact Buf.new w s cap 5
  have hcv0 := hcv w
  rw [← hcap, ← hW0] at hcv0
  clear hcv hW0 hcap
  go_enter Tryd.func43, Tryd.ntmps43
  go_wp2_with fail
  go_loopw [] (fun wr => ∃ pos : Nat, pos ≤ s.size ∧ wr.heap[w.heap.size + 1]? = some (.stringIter s pos) ∧ Buf wr w.heap.size (lowTo s pos) ∧ Below w.heap.size w wr) (fun wr => s.size - wr.iterPos (w.heap.size + 1))
  case atStart =>
    refine ⟨0, Nat.zero_le _, ?_, ?_, ?_⟩
    · have := World.iter_heap W0 s 0
      rw [hz0] at this
      exact this
    · rw [lowTo_zero]
      exact F0.keep (Below.heap_alloc _ _ _ (by omega)) (by simp [World.iter])
    · exact B0.alloc (by omega) _
  case round =>
    obtain ⟨pos, hle, hit, F, B⟩ := hrel
    have hpos0 := iterPos_eq hit
    clear B0 F0 hcv0 hz0
    by_cases hp : pos < s.size
    · have hnx : ∀ ty, (Instr.next (.pointer (some ⟨w.heap.size + 1, 0, none⟩)) true ty).run Tryd.prog wr = _ := fun ty => Lib.run_next_any_at wr (w.heap.size + 1) s pos ty hit hp
      have hwd := wd_pos s pos
      have hwl := wd_le s pos hp
      have hit2 := Lib.iterAt_heap wr (w.heap.size + 1) s pos (pos + (Utf8.decode s pos).2) hit
      have B2 := Lib.below_iterAt B (k := w.heap.size + 1) (by omega) s (pos + (Utf8.decode s pos).2)
      have F2 : Buf (wr.iterAt (w.heap.size + 1) s (pos + (Utf8.decode s pos).2)) w.heap.size (lowTo s pos) := F.keep (Lib.iterAt_other _ _ _ _ _ (by omega)) (by rw [Lib.iterAt_size]; exact Nat.le_refl _)
      clear F B hit
      obtain ⟨R, hR⟩ : ∃ R : Int, ((Utf8.decode s pos).1 : Int) = R := ⟨_, rfl⟩
      obtain ⟨W1, hW1⟩ : ∃ W1, W1 = wr.iterAt (w.heap.size + 1) s (pos + (Utf8.decode s pos).2) := ⟨_, rfl⟩
      rw [hR] at hnx
      rw [← hW1] at hnx hit2 B2 F2
      have R0 : 0 ≤ R := by omega
      have R1 : R ≤ 2147483647 := by have := decode_le s pos; omega
      clear hW1
      have HI : Hid (W1.heap[w.heap.size + 1]? = some (.stringIter s (pos + (Utf8.decode s pos).2))) := hit2
      have HB : Hid (Below w.heap.size w W1) := B2
      have HF : Hid (Buf W1 w.heap.size (lowTo s pos)) := F2
      clear hit2 B2 F2
      by_cases hAZ : 65 ≤ R ∧ R ≤ 90
      · obtain ⟨c1, c2⟩ := hAZ
        obtain ⟨q1, q2, q3, q4, q5⟩ := lowTo_put s pos hp (by omega)
        have hcell : W1.cell? ⟨w.heap.size, pos, none⟩ = some (.int .u8 R) := by rw [(HF.out.2 pos _ q2).1, ← hR, q5]
        have hfz : W1.frozen? ⟨w.heap.size, pos, none⟩ = false := (HF.out.2 pos _ q2).2
        have HS : Hid (Buf (W1.setCell ⟨w.heap.size, pos, none⟩ (.int .u8 (R + 32))) w.heap.size (lowTo s (pos + (Utf8.decode s pos).2))) := by
          show Buf _ _ _
          rw [q3]
          have := HF.out.set (s[pos]'hp + 32) q2
          rw [q4] at this
          rw [← hR]
          exact this
        have hpi : (pos : Int) < (s.size : Int) := by omega
        clear hR q1 q2 q3 q4 q5 HF
        go_wp2_with fail
        go_roundw
        case rel =>
          refine ⟨pos + (Utf8.decode s pos).2, hwl, ?_, HS.out, HB.out.setCell (Nat.le_refl _) _⟩
          rw [Below.heap_setCell _ _ _ _ (by simp)]; exact HI.out
        case measure =>
          rw [hpos0, iterPos_eq (p := pos + (Utf8.decode s pos).2) (by rw [Below.heap_setCell _ _ _ _ (by simp)]; exact HI.out)]
          omega
      · have HS : Hid (Buf W1 w.heap.size (lowTo s (pos + (Utf8.decode s pos).2))) := by
          show Buf _ _ _
          rw [lowTo_skip s pos hp (by omega)]
          exact HF.out
        clear hR HF
        go_wp2_with fail
        all_goals first
          | (exfalso; omega)
          | (go_roundw
             case rel => exact ⟨pos + (Utf8.decode s pos).2, hwl, HI.out, HS.out, HB.out⟩
             case measure =>
               rw [hpos0, iterPos_eq HI.out]
               omega)
    · have hnx : ∀ ty, (Instr.next (.pointer (some ⟨w.heap.size + 1, 0, none⟩)) true ty).run Tryd.prog wr = _ := fun ty => Lib.run_next_end_at wr (w.heap.size + 1) s pos ty hit hp
      have hcb := run_convert_bytes_back (P := Tryd.prog) wr 103 9 5 ⟨w.heap.size, 0, none⟩ cap (lowTo s pos) Tryd.underlying103 Tryd.underlying5 Tryd.underlying9 (fun j hj => by
        have := (F.2 j _ (List.getElem?_eq_getElem hj)).1
        by_cases z : j = 0
        · subst z; simpa [Addr.add] using this
        · simpa [Addr.add, z] using this)
      rw [lowTo_length, lowTo_end s pos hp] at hcb
      have HB : Hid (Below w.heap.size w wr) := B
      clear F B hit
      go_wp2_with fail
      go_ret
      exact ⟨rfl, HB.out⟩

theorem toList_eq (a b : ByteArray) : (a.toList == b.toList) = decide (a = b) := by
  rw [Lib.toList_data, Lib.toList_data, Bool.eq_iff_iff, beq_iff_eq, decide_eq_true_eq]
  constructor
  · intro h; cases a; cases b; exact congrArg ByteArray.mk (Array.toList_inj.1 h)
  · intro h; rw [h]
end Go.Proofs.YtcmefhnfdcngfaaDoor
/- Contracts of Go's library at this seat's own translation: each is one application of the library's own theorem, proved once over any program. -/
namespace Go.Proofs
open Go.Shelf
def Tryd.lays118_ren : Go.Shelf.Ren := ⟨fun | 118 => 38 | n => n, fun | 21 => 21 | 3 => 3 | 4 => 4 | n => n, fun | n => n⟩
theorem Tryd.lays118 : Go.Proofs.Lays.n118 Tryd.prog Tryd.lays118_ren := {
  mixed := by kernel_rfl
  f118 := Tryd.func38.trans (congrArg some (by kernel_rfl))
  t3 := Tryd.underlying3
  a3 := Tryd.isAgg3
  z3 := Tryd.sizeOf3
  v3 := Tryd.zeroValue3
  t4 := Tryd.underlying4
  a4 := Tryd.isAgg4
  z4 := Tryd.sizeOf4
  v4 := Tryd.zeroValue4
  t21 := Tryd.underlying21
  a21 := Tryd.isAgg21
  z21 := Tryd.sizeOf21
  v21 := Tryd.zeroValue21 }
theorem Tryd.utf8_RuneLen (r : Int) (w : World) :
    Calls Tryd.prog 38 #[.int .i32 r] w fun e w' => e = .returned (.int .i64 (Lib.runeLen r)) ∧ w' = w := Any.utf8_RuneLen Tryd.lays118 r w
def Tryd.lays155_ren : Go.Shelf.Ren := ⟨fun | 155 => 44 | 154 => 51 | 138 => 57 | 165 => 58 | 143 => 59 | 166 => 60 | 197 => 50 | 169 => 61 | 195 => 65 | 218 => 66 | 240 => 67 | 241 => 68 | 219 => 69 | 260 => 56 | 276 => 72 | 277 => 73 | 217 => 74 | 225 => 75 | 224 => 76 | 267 => 77 | 266 => 79 | 314 => 80 | n => n, fun | 9 => 9 | 3 => 3 | 4 => 4 | 72 => 113 | 0 => 0 | 76 => 117 | 105 => 101 | 21 => 21 | 5 => 5 | 70 => 111 | 20 => 20 | 37 => 103 | 75 => 116 | 127 => 128 | 164 => 130 | 46 => 123 | 119 => 122 | 139 => 126 | 138 => 125 | 146 => 135 | 51 => 134 | 80 => 119 | n => n, fun | 1 => 3 | 3 => 1 | 4 => 2 | n => n⟩
theorem Tryd.lays155 : Go.Proofs.Lays.n155 Tryd.prog Tryd.lays155_ren := {
  mixed := by kernel_rfl
  f138 := Tryd.func57.trans (congrArg some (by kernel_rfl))
  f143 := Tryd.func59.trans (congrArg some (by kernel_rfl))
  f154 := Tryd.func51.trans (congrArg some (by kernel_rfl))
  f155 := Tryd.func44.trans (congrArg some (by kernel_rfl))
  f165 := Tryd.func58.trans (congrArg some (by kernel_rfl))
  f166 := Tryd.func60.trans (congrArg some (by kernel_rfl))
  f169 := Tryd.func61.trans (congrArg some (by kernel_rfl))
  f195 := Tryd.func65.trans (congrArg some (by kernel_rfl))
  f197 := Tryd.func50.trans (congrArg some (by kernel_rfl))
  f217 := Tryd.func74.trans (congrArg some (by kernel_rfl))
  f218 := Tryd.func66.trans (congrArg some (by kernel_rfl))
  f219 := Tryd.func69.trans (congrArg some (by kernel_rfl))
  f224 := Tryd.func76.trans (congrArg some (by kernel_rfl))
  f225 := Tryd.func75.trans (congrArg some (by kernel_rfl))
  f240 := Tryd.func67.trans (congrArg some (by kernel_rfl))
  f241 := Tryd.func68.trans (congrArg some (by kernel_rfl))
  f260 := Tryd.func56.trans (congrArg some (by kernel_rfl))
  f266 := Tryd.func79.trans (congrArg some (by kernel_rfl))
  f267 := Tryd.func77.trans (congrArg some (by kernel_rfl))
  f276 := Tryd.func72.trans (congrArg some (by kernel_rfl))
  f277 := Tryd.func73.trans (congrArg some (by kernel_rfl))
  f314 := Tryd.func80.trans (congrArg some (by kernel_rfl))
  t0 := Tryd.underlying0
  a0 := Tryd.isAgg0
  z0 := Tryd.sizeOf0
  v0 := Tryd.zeroValue0
  t3 := Tryd.underlying3
  a3 := Tryd.isAgg3
  z3 := Tryd.sizeOf3
  v3 := Tryd.zeroValue3
  t4 := Tryd.underlying4
  a4 := Tryd.isAgg4
  z4 := Tryd.sizeOf4
  v4 := Tryd.zeroValue4
  t5 := Tryd.underlying5
  a5 := Tryd.isAgg5
  z5 := Tryd.sizeOf5
  v5 := Tryd.zeroValue5
  t9 := Tryd.underlying9
  a9 := Tryd.isAgg9
  z9 := Tryd.sizeOf9
  v9 := Tryd.zeroValue9
  t20 := Tryd.underlying20
  a20 := Tryd.isAgg20
  z20 := Tryd.sizeOf20
  v20 := Tryd.zeroValue20
  t21 := Tryd.underlying21
  a21 := Tryd.isAgg21
  z21 := Tryd.sizeOf21
  v21 := Tryd.zeroValue21
  t37 := Tryd.underlying103
  a37 := Tryd.isAgg103
  z37 := Tryd.sizeOf103
  v37 := Tryd.zeroValue103
  t46 := Tryd.underlying123
  a46 := Tryd.isAgg123
  z46 := Tryd.sizeOf123
  v46 := Tryd.zeroValue123
  t51 := Tryd.underlying134
  a51 := Tryd.isAgg134
  z51 := Tryd.sizeOf134
  v51 := Tryd.zeroValue134
  t70 := Tryd.underlying111
  a70 := Tryd.isAgg111
  z70 := Tryd.sizeOf111
  v70 := Tryd.zeroValue111
  t72 := Tryd.underlying113
  a72 := Tryd.isAgg113
  z72 := Tryd.sizeOf113
  v72 := Tryd.zeroValue113
  t75 := Tryd.underlying116
  a75 := Tryd.isAgg116
  z75 := Tryd.sizeOf116
  v75 := Tryd.zeroValue116
  t76 := Tryd.underlying117
  a76 := Tryd.isAgg117
  z76 := Tryd.sizeOf117
  v76 := Tryd.zeroValue117
  t105 := Tryd.underlying101
  a105 := Tryd.isAgg101
  z105 := Tryd.sizeOf101
  v105 := Tryd.zeroValue101
  t119 := Tryd.underlying122
  a119 := Tryd.isAgg122
  z119 := Tryd.sizeOf122
  t127 := Tryd.underlying128
  a127 := Tryd.isAgg128
  z127 := Tryd.sizeOf128
  v127 := Tryd.zeroValue128
  t138 := Tryd.underlying125
  a138 := Tryd.isAgg125
  z138 := Tryd.sizeOf125
  v138 := Tryd.zeroValue125
  t139 := Tryd.underlying126
  a139 := Tryd.isAgg126
  z139 := Tryd.sizeOf126
  v139 := Tryd.zeroValue126
  t146 := Tryd.underlying135
  a146 := Tryd.isAgg135
  z146 := Tryd.sizeOf135
  v146 := Tryd.zeroValue135
  t164 := Tryd.underlying130
  a164 := Tryd.isAgg130
  z164 := Tryd.sizeOf130
  v164 := Tryd.zeroValue130
  g1 := by kernel_rfl
  g3 := by kernel_rfl
  g4 := by kernel_rfl }
theorem Tryd.Builder_Extra_155 : Builder.Extra Tryd.prog Tryd.lays155_ren := {
  sizeBuilder := by kernel_rfl
  liesBuilder := by kernel_rfl
  t5 := Tryd.underlying5
  a5 := Tryd.isAgg5
  z5 := Tryd.sizeOf5
  v5 := Tryd.zeroValue5
  infoByte := by kernel_rfl
  cellsByte := by kernel_rfl
  sizeByte := by kernel_rfl
  neB5 := by decide }
open Go.RowKit Go.Lib in
theorem Tryd.strings_ReplaceAll (s old new : ByteArray) (m : Int) (w : World) (hs : s.size < 4294967281) (hm : w.cell? ⟨3, 0, none⟩ = some (.int .i64 m)) (h1 : 1 ≤ old.size) (hlen : s.size + Lib.countB s old * new.size ≤ 140737488355328) :
    Calls Tryd.prog 44 #[.string s, .string old, .string new] w fun e w' =>
      e = .returned (.string ⟨(Lib.replaceAll s.data.toList old.data.toList new.data.toList).toArray⟩) ∧ Below w.heap.size w w' := Any.strings_ReplaceAll Tryd.lays155 Tryd.Builder_Extra_155 s old new m w hs hm h1 hlen
def Tryd.lays197_ren : Go.Shelf.Ren := ⟨fun | 197 => 50 | 260 => 56 | n => n, fun | 9 => 9 | 21 => 21 | 3 => 3 | 4 => 4 | 5 => 5 | 105 => 101 | 119 => 122 | 0 => 0 | 46 => 123 | 139 => 126 | 138 => 125 | n => n, fun | 3 => 1 | 4 => 2 | n => n⟩
theorem Tryd.lays197 : Go.Proofs.Lays.n197 Tryd.prog Tryd.lays197_ren := {
  mixed := by kernel_rfl
  f197 := Tryd.func50.trans (congrArg some (by kernel_rfl))
  f260 := Tryd.func56.trans (congrArg some (by kernel_rfl))
  t0 := Tryd.underlying0
  a0 := Tryd.isAgg0
  z0 := Tryd.sizeOf0
  v0 := Tryd.zeroValue0
  t3 := Tryd.underlying3
  a3 := Tryd.isAgg3
  z3 := Tryd.sizeOf3
  v3 := Tryd.zeroValue3
  t4 := Tryd.underlying4
  a4 := Tryd.isAgg4
  z4 := Tryd.sizeOf4
  v4 := Tryd.zeroValue4
  t5 := Tryd.underlying5
  a5 := Tryd.isAgg5
  z5 := Tryd.sizeOf5
  v5 := Tryd.zeroValue5
  t9 := Tryd.underlying9
  a9 := Tryd.isAgg9
  z9 := Tryd.sizeOf9
  v9 := Tryd.zeroValue9
  t21 := Tryd.underlying21
  a21 := Tryd.isAgg21
  z21 := Tryd.sizeOf21
  v21 := Tryd.zeroValue21
  t46 := Tryd.underlying123
  a46 := Tryd.isAgg123
  z46 := Tryd.sizeOf123
  v46 := Tryd.zeroValue123
  t105 := Tryd.underlying101
  a105 := Tryd.isAgg101
  z105 := Tryd.sizeOf101
  v105 := Tryd.zeroValue101
  t119 := Tryd.underlying122
  a119 := Tryd.isAgg122
  z119 := Tryd.sizeOf122
  t138 := Tryd.underlying125
  a138 := Tryd.isAgg125
  z138 := Tryd.sizeOf125
  v138 := Tryd.zeroValue125
  t139 := Tryd.underlying126
  a139 := Tryd.isAgg126
  z139 := Tryd.sizeOf126
  v139 := Tryd.zeroValue126
  g3 := by kernel_rfl
  g4 := by kernel_rfl }
open Go.RowKit Go.Lib in
theorem Tryd.utf8_DecodeRuneInString (s : ByteArray) (w : World) (hT : Lib.Utf8Tabs 1 2 w) :
    Calls Tryd.prog 50 #[.string s] w fun e w' => e = .returned (.tuple #[.int .i32 (Lib.decodeGo s).1, .int .i64 (Lib.decodeGo s).2]) ∧ Below w.heap.size w w' := Any.utf8_DecodeRuneInString Tryd.lays197 s w hT
end Go.Proofs
/- Contracts of word.Short, word.Month and word.Day: names, whole or cut short. -/
namespace Go.Proofs.YtcmefhnfdcngfaaDoor
open Go.RowKit
set_option linter.unusedVariables false

/-- texts in a block. -/
def Txt (w : World) (g : Nat) (L : List ByteArray) : Prop := g < w.heap.size ∧ ∀ j t, L[j]? = some t → w.cell? ⟨g, j, none⟩ = some (.string t)
theorem Txt.below {w w1 : World} {g : Nat} {L : List ByteArray} (h : Txt w g L) (hb : Below w.heap.size w w1) : Txt w1 g L :=
  ⟨Nat.lt_of_lt_of_le h.1 hb.size, fun j t hj => (hb.cell (p := ⟨g, j, none⟩) h.1).trans (h.2 j t hj)⟩
theorem Txt.new (w : World) (L : List ByteArray) (t : TypeId) : Txt (w.alloc (.cells (L.map Value.string).toArray t)) w.heap.size L := by
  refine ⟨by simp, fun j x hx => ?_⟩
  rw [World.cell?_alloc_at _ _ _ _ rfl]
  simp [hx]

end Go.Proofs.YtcmefhnfdcngfaaDoor
