import Derived.Test.YtklehbmghjcmaaaGreatDoorQz
import Derived.Lib.MapLaws
import Derived.Laws.RangeAny
import Derived.Test.YtklehbmghjcmaaaGreatDoorProg
import Derived.WalkKit
import Derived.ProofKit
import Derived.Laws.IdiomStrings
import Derived.Lib.OthersKept
import Derived.Deep.LoopGhost
import Derived.Deep.RegionWith
import Derived.Deep.DeepMust
import Derived.Deep.RegionHeld3
import Derived.Below
import Derived.Test.YtklehbmghjcmaaaGreatDoorQ4
import Derived.Test.YtklehbmghjcmaaaGreatDoorQ0
import Derived.Deep.Cut
import Derived.Deep.QuietTactic
import Derived.BigQuiet
import Derived.Test.YtklehbmghjcmaaaGreatDoorQ7
import Derived.RegionTactic
import Derived.ChangeAlike
open Go.Value renaming int → vi
open Go.IntKind renaming i64 → ki
open List renaming setIfInBounds_toArray → zb, set_cons_zero → zc, set_cons_succ → zd
open Go.Act renaming put → za
open Go.Ending renaming returned → zr
set_option maxRecDepth 100000
set_option maxHeartbeats 16000000
set_option linter.unusedVariables false
namespace Go.Proofs.YtklehbmghjcmaaaGreatDoor.Wrd
def bt (s : ByteArray) (i : Nat) : Nat := (s.get! i).toNat
theorem dec_shape (s : ByteArray) (pos : Nat) (h : pos < s.size) :
    (bt s pos < 128 ∧ Utf8.decode s pos = (bt s pos, 1)) ∨
    (128 ≤ bt s pos ∧ Utf8.decode s pos = (65533, 1)) ∨
    (128 ≤ bt s pos ∧ 2 ≤ (Utf8.decode s pos).2 ∧ (Utf8.decode s pos).2 ≤ 4 ∧ pos + (Utf8.decode s pos).2 ≤ s.size ∧ 128 ≤ (Utf8.decode s pos).1 ∧
      (∀ j, 1 ≤ j → j < (Utf8.decode s pos).2 → 128 ≤ bt s (pos + j)) ∧ Lib.runeLen ((Utf8.decode s pos).1 : Int) = ((Utf8.decode s pos).2 : Int)) := by
  have h0 : bt s pos < 256 := UInt8.toNat_lt _
  have h1 : bt s (pos + 1) < 256 := UInt8.toNat_lt _
  have h2 : bt s (pos + 2) < 256 := UInt8.toNat_lt _
  have h3 : bt s (pos + 3) < 256 := UInt8.toNat_lt _
  have e := Lib.decode_at s pos
  change Utf8.decode s pos = Lib.decodeN (s.size - pos) (bt s pos) (bt s (pos + 1)) (bt s (pos + 2)) (bt s (pos + 3)) at e
  rcases Lib.decodeN_shape (s.size - pos) (bt s pos) (bt s (pos + 1)) (bt s (pos + 2)) (bt s (pos + 3)) with ⟨c, q⟩ | ⟨c1, c2, c3, cv, q⟩ | ⟨c1, c2, c3, c4, cv, cs, q⟩ | ⟨c1, c2, c3, c4, c5, cv, cw, q⟩ | q
  · exact .inl ⟨c, e.trans q⟩
  · rw [e, q]
    refine .inr (.inr ⟨by omega, by simp, by simp, by simp; omega, by simp; omega, ?_, ?_⟩)
    · intro j a b
      obtain rfl : j = 1 := by simp at b; omega
      omega
    · unfold Lib.runeLen; dsimp only; repeat' split
      all_goals omega
  · rw [e, q]
    refine .inr (.inr ⟨by omega, by simp, by simp, by simp; omega, by simp; omega, ?_, ?_⟩)
    · intro j a b
      have : j = 1 ∨ j = 2 := by simp at b; omega
      rcases this with rfl | rfl <;> omega
    · unfold Lib.runeLen; dsimp only; repeat' split
      all_goals omega
  · rw [e, q]
    refine .inr (.inr ⟨by omega, by simp, by simp, by simp; omega, by simp; omega, ?_, ?_⟩)
    · intro j a b
      have : j = 1 ∨ j = 2 ∨ j = 3 := by simp at b; omega
      rcases this with rfl | rfl | rfl <;> omega
    · unfold Lib.runeLen; dsimp only; repeat' split
      all_goals omega
  · by_cases c : bt s pos < 128
    · refine .inl ⟨c, ?_⟩
      rw [e]; unfold Lib.decodeN; rw [if_pos c]
    · exact .inr (.inl ⟨by omega, e.trans q⟩)
theorem wd_pos (s : ByteArray) (pos : Nat) : 1 ≤ (Utf8.decode s pos).2 := Lib.width_pos s pos
theorem wd_le (s : ByteArray) (pos : Nat) (h : pos < s.size) : pos + (Utf8.decode s pos).2 ≤ s.size := by
  rcases dec_shape s pos h with ⟨_, e⟩ | ⟨_, e⟩ | ⟨_, _, _, e, _⟩
  · rw [e]; simp only; omega
  · rw [e]; simp only; omega
  · exact e
end Go.Proofs.YtklehbmghjcmaaaGreatDoor.Wrd
namespace Go.Proofs.YtklehbmghjcmaaaGreatDoor.Wrd
def lowC (c : UInt8) : UInt8 := if 65 ≤ c.toNat ∧ c.toNat ≤ 90 then c + 32 else c
def lowB (s : ByteArray) : ByteArray := ⟨s.data.map lowC⟩
def lowTo (s : ByteArray) (p : Nat) : List UInt8 := (s.data.toList.take p).map lowC ++ s.data.toList.drop p
theorem sz (s : ByteArray) : s.data.toList.length = s.size := Array.length_toList
theorem low32 (c : UInt8) (h : 65 ≤ c.toNat ∧ c.toNat ≤ 90) : (c + 32).toNat = c.toNat + 32 := by rw [UInt8.toNat_add]; simp; omega
theorem lowTo_get (s : ByteArray) (p j : Nat) : (lowTo s p)[j]? = (s.data.toList[j]?).map (fun c => if j < p then lowC c else c) := by
  unfold lowTo
  by_cases hj : j < s.data.toList.length
  · by_cases h : j < p
    · rw [List.getElem?_append_left (by simp at hj ⊢; omega)]
      simp [h]
    · have hl : ((s.data.toList.take p).map lowC).length = p := by rw [List.length_map, List.length_take]; omega
      rw [List.getElem?_append_right (by rw [hl]; omega), hl, List.getElem?_drop, show p + (j - p) = j by omega]
      simp [h]
  · rw [List.getElem?_eq_none (by simp only [List.length_append, List.length_map, List.length_take, List.length_drop]; omega), List.getElem?_eq_none (by omega)]
    rfl
theorem lowTo_length (s : ByteArray) (p : Nat) : (lowTo s p).length = s.size := by
  unfold lowTo; simp only [List.length_append, List.length_map, List.length_take, List.length_drop, Array.length_toList]; show _ = s.data.size; omega
theorem lowTo_zero (s : ByteArray) : lowTo s 0 = s.data.toList := by simp [lowTo]
theorem lowTo_all (s : ByteArray) (p : Nat) (h : s.size ≤ p) : lowTo s p = (lowB s).data.toList := by
  unfold lowTo lowB
  rw [List.take_of_length_le (by rw [sz]; exact h), List.drop_of_length_le (by rw [sz]; exact h)]
  simp
theorem lowTo_end (s : ByteArray) (p : Nat) (h : ¬ p < s.size) : (⟨(lowTo s p).toArray⟩ : ByteArray) = lowB s := by
  rw [lowTo_all s p (by omega)]
theorem get_lt (s : ByteArray) (k : Nat) (h : k < s.size) : s.get! k = s[k]'h := by
  show s.data[k]! = _
  rw [getElem!_pos s.data k h]
  rfl
theorem bt_get (s : ByteArray) (j : Nat) (h : j < s.size) : s.data.toList[j]? = some (s[j]'h) ∧ (s[j]'h).toNat = bt s j := by
  constructor
  · rw [List.getElem?_eq_getElem (by rw [sz]; exact h)]; rfl
  · unfold bt; rw [get_lt s j h]
theorem lowTo_skip (s : ByteArray) (pos : Nat) (h : pos < s.size) (hR : ¬ (65 ≤ (Utf8.decode s pos).1 ∧ (Utf8.decode s pos).1 ≤ 90)) :
    lowTo s (pos + (Utf8.decode s pos).2) = lowTo s pos := by
  have key : ∀ j, pos ≤ j → j < pos + (Utf8.decode s pos).2 → j < s.size → ¬ (65 ≤ bt s j ∧ bt s j ≤ 90) := by
    intro j a b hj
    rcases dec_shape s pos h with ⟨c, e⟩ | ⟨c, e⟩ | ⟨c, _, _, _, _, d, _⟩
    · rw [e] at hR b
      obtain rfl : j = pos := by simp only at b; omega
      exact hR
    · rw [e] at b
      obtain rfl : j = pos := by simp only at b; omega
      omega
    · by_cases q : j = pos
      · subst q; omega
      · have := d (j - pos) (by omega) (by omega)
        rw [show pos + (j - pos) = j by omega] at this
        omega
  apply List.ext_getElem?
  intro j
  rw [lowTo_get, lowTo_get]
  by_cases hj : j < s.size
  · obtain ⟨e1, e2⟩ := bt_get s j hj
    rw [e1]
    simp only [Option.map_some, Option.some.injEq]
    by_cases c1 : j < pos
    · rw [if_pos c1, if_pos (by omega)]
    · rw [if_neg c1]
      by_cases c2 : j < pos + (Utf8.decode s pos).2
      · rw [if_pos c2]
        unfold lowC
        rw [if_neg (by rw [e2]; exact key j (by omega) c2 hj)]
      · rw [if_neg c2]
  · rw [List.getElem?_eq_none (by rw [sz]; omega)]
    rfl
theorem lowTo_put (s : ByteArray) (pos : Nat) (h : pos < s.size) (hR : 65 ≤ (Utf8.decode s pos).1 ∧ (Utf8.decode s pos).1 ≤ 90) :
    (Utf8.decode s pos) = (bt s pos, 1) ∧ (lowTo s pos)[pos]? = some (s[pos]'h) ∧ lowTo s (pos + (Utf8.decode s pos).2) = (lowTo s pos).set pos (s[pos]'h + 32) ∧ (s[pos]'h + 32).toNat = (Utf8.decode s pos).1 + 32 ∧ (s[pos]'h).toNat = (Utf8.decode s pos).1 := by
  obtain ⟨e1, e2⟩ := bt_get s pos h
  rcases dec_shape s pos h with ⟨c, e⟩ | ⟨c, e⟩ | ⟨c, _, _, _, _, d, _⟩
  · have hb : 65 ≤ (s[pos]'h).toNat ∧ (s[pos]'h).toNat ≤ 90 := by rw [e] at hR; simp only at hR; omega
    refine ⟨e, by rw [lowTo_get, e1]; simp, ?_, by rw [low32 _ hb, e, e2], by rw [e, e2]⟩
    apply List.ext_getElem?
    intro j
    rw [e, List.getElem?_set, lowTo_get, lowTo_get]
    by_cases q : pos = j
    · subst q
      rw [if_pos rfl, if_pos (by rw [lowTo_length]; exact h), e1]
      simp only [Option.map_some, Option.some.injEq]
      rw [if_pos (by omega)]
      unfold lowC
      rw [if_pos hb]
    · rw [if_neg q]
      have : (j < pos + 1) = (j < pos) := propext ⟨fun _ => by omega, fun _ => by omega⟩
      simp only [this]
  · rw [e] at hR; simp only at hR; omega
  · omega
end Go.Proofs.YtklehbmghjcmaaaGreatDoor.Wrd
namespace Go.Proofs.YtklehbmghjcmaaaGreatDoor.Wrd
end Go.Proofs.YtklehbmghjcmaaaGreatDoor.Wrd
namespace Go.Proofs.YtklehbmghjcmaaaGreatDoor.Wrd
end Go.Proofs.YtklehbmghjcmaaaGreatDoor.Wrd
namespace Go.Proofs.YtklehbmghjcmaaaGreatDoor.Wrd
end Go.Proofs.YtklehbmghjcmaaaGreatDoor.Wrd
namespace Go.Proofs.YtklehbmghjcmaaaGreatDoor.Wrd
def findF (P : ByteArray → Bool) : Nat → List ByteArray → Int
  | _, [] => -1
  | i, t :: l => if P t = true then (i : Int) else findF P (i + 1) l
theorem findF_step {P : ByteArray → Bool} {l : List ByteArray} {i : Nat} {t : ByteArray} (h : l[i]? = some t) : findF P i (l.drop i) = if P t = true then (i : Int) else findF P (i + 1) (l.drop (i + 1)) := by
  obtain ⟨hl, he⟩ := List.getElem?_eq_some_iff.1 h
  rw [List.drop_eq_getElem_cons hl, he]
  rfl
theorem findF_end {P : ByteArray → Bool} {l : List ByteArray} {i : Nat} (h : ¬ i < l.length) : findF P i (l.drop i) = -1 := by
  rw [List.drop_of_length_le (by omega)]; rfl
def sameB (a b : ByteArray) : Bool := decide (lowB a = lowB b)
def knownB (s : ByteArray) (l : List ByteArray) : Int := findF (fun t => sameB s t) 0 l
end Go.Proofs.YtklehbmghjcmaaaGreatDoor.Wrd
namespace Go.Proofs.YtklehbmghjcmaaaGreatDoor.Wrd
open Go.RowKit
def Buf (w : World) (g : Nat) (l : List UInt8) : Prop := g < w.heap.size ∧ ∀ j c, l[j]? = some c → w.cell? ⟨g, j, none⟩ = some (.int .u8 (c.toNat : Int)) ∧ w.frozen? ⟨g, j, none⟩ = false
theorem Buf.keep {w w1 : World} {g : Nat} {l : List UInt8} (h : Buf w g l) (hb : w1.heap[g]? = w.heap[g]?) (hz : w.heap.size ≤ w1.heap.size) : Buf w1 g l :=
  ⟨Nat.lt_of_lt_of_le h.1 hz, fun j c hc => ⟨(World.cell?_of_block (a := ⟨g, j, none⟩) hb).trans (h.2 j c hc).1, (World.frozen?_of_block (a := ⟨g, j, none⟩) hb).trans (h.2 j c hc).2⟩⟩
theorem addr_ne' {b i j : Nat} (h : i ≠ j) : (⟨b, i, none⟩ : Addr) ≠ ⟨b, j, none⟩ := fun e => h (by cases e; rfl)
theorem Buf.set {w : World} {g : Nat} {l : List UInt8} (h : Buf w g l) {pos : Nat} {c : UInt8} (d : UInt8) (hc : l[pos]? = some c) : Buf (w.setCell ⟨g, pos, none⟩ (.int .u8 (d.toNat : Int))) g (l.set pos d) := by
  refine ⟨by simpa [World.setCell] using h.1, fun j x hx => ?_⟩
  rw [List.getElem?_set] at hx
  by_cases e : pos = j
  · subst e
    rw [if_pos rfl, if_pos (List.getElem?_eq_some_iff.1 hc).1] at hx
    simp only [Option.some.injEq] at hx
    subst hx
    exact ⟨World.cell?_setCell_same _ _ _ (h.2 pos c hc).1, by simpa using (h.2 pos c hc).2⟩
  · rw [if_neg e] at hx
    exact ⟨(World.cell?_setCell_other _ _ _ _ (addr_ne' e)).trans (h.2 j x hx).1, by simpa using (h.2 j x hx).2⟩
theorem bytesRow_get (s : ByteArray) (cap j : Nat) (c : UInt8) (h : s.data.toList[j]? = some c) : (bytesRow s cap)[j]? = some (.int .u8 (c.toNat : Int)) ∧ j < (bytesRow s cap).size := by
  have hj : j < s.data.size := by have := (List.getElem?_eq_some_iff.1 h).1; simpa using this
  have e := bytesRow_at s cap j hj
  have hc : s.data[j] = c := by have := (List.getElem?_eq_some_iff.1 h).2; simpa using this
  rw [hc] at e
  exact ⟨e, (Array.getElem?_eq_some_iff.1 e).1⟩
theorem Buf.new (w : World) (s : ByteArray) (cap : Nat) (t : TypeId) : Buf (w.drew.alloc (.cells (bytesRow s cap) t ((bytesRow s cap).size, (bytesRow s cap).size + 1))) w.heap.size s.data.toList := by
  refine ⟨by simp, fun j c hc => ?_⟩
  obtain ⟨e, hj⟩ := bytesRow_get s cap j c hc
  refine ⟨(World.cell?_alloc_mark w.drew _ t _ j).trans e, (World.frozen?_alloc_mark w.drew _ t _ _ j).trans ?_⟩
  simp; omega
theorem iterPos_eq {w : World} {k : Nat} {s : ByteArray} {p : Nat} (h : w.heap[k]? = some (.stringIter s p)) : w.iterPos k = p := by simp [World.iterPos, h]
theorem lower_any (s : ByteArray) (hs : s.size ≤ maxLen) (w : World) :
    Calls Tryz.prog 152 #[.string s] w fun e w' => e = zr (.string (lowB s)) ∧ Below w.heap.size w w' := by
  unfold maxLen at hs
  have hcv : ∀ w0 : World, (convert 9 219 (.string s)).run Tryz.prog w0 = _ := fun w0 => run_bytes_of_string (P := Tryz.prog) w0 9 219 5 s Tryz.underlying9 Tryz.underlying219 Tryz.underlying5
  obtain ⟨cap, hcap⟩ : ∃ cap, cap = grownCap w s.size 0 5 := ⟨_, rfl⟩
  obtain ⟨W0, hW0⟩ : ∃ W0, W0 = w.drew.alloc (.cells (bytesRow s cap) 5 ((bytesRow s cap).size, (bytesRow s cap).size + 1)) := ⟨_, rfl⟩
  have hz0 : W0.heap.size = w.heap.size + 1 := by rw [hW0]; simp
  have B0 : Below w.heap.size w W0 := by rw [hW0]; exact (Below.refl _ _).drew.alloc (by simp) _
  have F0 : Buf W0 w.heap.size s.data.toList := by rw [hW0]; exact Buf.new w s cap 5
  have hcv0 := hcv w
  rw [← hcap, ← hW0] at hcv0
  clear hcv hW0 hcap
  go_enter Tryz.func152, Tryz.ntmps152
  go_wp2_with fail
  go_loopw [] (fun wr => ∃ pos : Nat, pos ≤ s.size ∧ wr.heap[w.heap.size + 1]? = some (.stringIter s pos) ∧ Buf wr w.heap.size (lowTo s pos) ∧ Below w.heap.size w wr) (fun wr => s.size - wr.iterPos (w.heap.size + 1))
  case atStart =>
    refine ⟨0, Nat.zero_le _, ?_, ?_, ?_⟩
    · have := World.iter_heap W0 s 0
      rw [hz0] at this
      exact this
    · rw [lowTo_zero]
      exact F0.keep (Below.heap_alloc _ _ _ (by omega)) (by simp [World.iter])
    · exact B0.alloc (by omega) _
  case round =>
    obtain ⟨pos, hle, hit, F, B⟩ := hrel
    have hpos0 := iterPos_eq hit
    clear B0 F0 hcv0 hz0
    by_cases hp : pos < s.size
    · have hnx : ∀ ty, (Instr.next (.pointer (some ⟨w.heap.size + 1, 0, none⟩)) true ty).run Tryz.prog wr = _ := fun ty => Lib.run_next_any_at wr (w.heap.size + 1) s pos ty hit hp
      have hwd := wd_pos s pos
      have hwl := wd_le s pos hp
      have hit2 := Lib.iterAt_heap wr (w.heap.size + 1) s pos (pos + (Utf8.decode s pos).2) hit
      have B2 := Lib.below_iterAt B (k := w.heap.size + 1) (by omega) s (pos + (Utf8.decode s pos).2)
      have F2 : Buf (wr.iterAt (w.heap.size + 1) s (pos + (Utf8.decode s pos).2)) w.heap.size (lowTo s pos) := F.keep (Lib.iterAt_other _ _ _ _ _ (by omega)) (by rw [Lib.iterAt_size]; exact Nat.le_refl _)
      clear F B hit
      obtain ⟨R, hR⟩ : ∃ R : Int, ((Utf8.decode s pos).1 : Int) = R := ⟨_, rfl⟩
      obtain ⟨W1, hW1⟩ : ∃ W1, W1 = wr.iterAt (w.heap.size + 1) s (pos + (Utf8.decode s pos).2) := ⟨_, rfl⟩
      rw [hR] at hnx
      rw [← hW1] at hnx hit2 B2 F2
      have R0 : 0 ≤ R := by omega
      have R1 : R ≤ 2147483647 := by have := decode_le s pos; omega
      clear hW1
      have HI : Hid (W1.heap[w.heap.size + 1]? = some (.stringIter s (pos + (Utf8.decode s pos).2))) := hit2
      have HB : Hid (Below w.heap.size w W1) := B2
      have HF : Hid (Buf W1 w.heap.size (lowTo s pos)) := F2
      clear hit2 B2 F2
      by_cases hAZ : 65 ≤ R ∧ R ≤ 90
      · obtain ⟨c1, c2⟩ := hAZ
        obtain ⟨q1, q2, q3, q4, q5⟩ := lowTo_put s pos hp (by omega)
        have hcell : W1.cell? ⟨w.heap.size, pos, none⟩ = some (.int .u8 R) := by rw [(HF.out.2 pos _ q2).1, ← hR, q5]
        have hfz : W1.frozen? ⟨w.heap.size, pos, none⟩ = false := (HF.out.2 pos _ q2).2
        have HS : Hid (Buf (W1.setCell ⟨w.heap.size, pos, none⟩ (.int .u8 (R + 32))) w.heap.size (lowTo s (pos + (Utf8.decode s pos).2))) := by
          show Buf _ _ _
          rw [q3]
          have := HF.out.set (s[pos]'hp + 32) q2
          rw [q4] at this
          rw [← hR]
          exact this
        have hpi : (pos : Int) < (s.size : Int) := by omega
        clear hR q1 q2 q3 q4 q5 HF
        go_wp2_with fail
        go_roundw
        case rel =>
          refine ⟨pos + (Utf8.decode s pos).2, hwl, ?_, HS.out, HB.out.setCell (Nat.le_refl _) _⟩
          rw [Below.heap_setCell _ _ _ _ (by simp)]; exact HI.out
        case measure =>
          rw [hpos0, iterPos_eq (p := pos + (Utf8.decode s pos).2) (by rw [Below.heap_setCell _ _ _ _ (by simp)]; exact HI.out)]
          omega
      · have HS : Hid (Buf W1 w.heap.size (lowTo s (pos + (Utf8.decode s pos).2))) := by
          show Buf _ _ _
          rw [lowTo_skip s pos hp (by omega)]
          exact HF.out
        clear hR HF
        go_wp2_with fail
        all_goals first
          | (exfalso; omega)
          | (go_roundw
             case rel => exact ⟨pos + (Utf8.decode s pos).2, hwl, HI.out, HS.out, HB.out⟩
             case measure =>
               rw [hpos0, iterPos_eq HI.out]
               omega)
    · have hnx : ∀ ty, (Instr.next (.pointer (some ⟨w.heap.size + 1, 0, none⟩)) true ty).run Tryz.prog wr = _ := fun ty => Lib.run_next_end_at wr (w.heap.size + 1) s pos ty hit hp
      have hcb := run_convert_bytes_back (P := Tryz.prog) wr 219 9 5 ⟨w.heap.size, 0, none⟩ cap (lowTo s pos) Tryz.underlying219 Tryz.underlying5 Tryz.underlying9 (fun j hj => by
        have := (F.2 j _ (List.getElem?_eq_getElem hj)).1
        by_cases z : j = 0
        · subst z; simpa [Addr.add] using this
        · simpa [Addr.add, z] using this)
      rw [lowTo_length, lowTo_end s pos hp] at hcb
      have HB : Hid (Below w.heap.size w wr) := B
      clear F B hit
      go_wp2_with fail
      go_ret
      exact ⟨rfl, HB.out⟩
theorem toList_eq (a b : ByteArray) : (a.toList == b.toList) = decide (a = b) := by
  rw [Lib.toList_data, Lib.toList_data, Bool.eq_iff_iff, beq_iff_eq, decide_eq_true_eq]
  constructor
  · intro h; cases a; cases b; exact congrArg ByteArray.mk (Array.toList_inj.1 h)
  · intro h; rw [h]
theorem ret_bool {a b : Bool} (h : a = b) : Ending.returned (.bool a) = zr (.bool b) := by rw [h]
end Go.Proofs.YtklehbmghjcmaaaGreatDoor.Wrd
namespace Go.Proofs.YtklehbmghjcmaaaGreatDoor.Wrd
open Go.RowKit
def Txt (w : World) (g : Nat) (L : List ByteArray) : Prop := g < w.heap.size ∧ ∀ j t, L[j]? = some t → w.cell? ⟨g, j, none⟩ = some (.string t)
theorem Txt.below {w w1 : World} {g : Nat} {L : List ByteArray} (h : Txt w g L) (hb : Below w.heap.size w w1) : Txt w1 g L :=
  ⟨Nat.lt_of_lt_of_le h.1 hb.size, fun j t hj => (hb.cell (p := ⟨g, j, none⟩) h.1).trans (h.2 j t hj)⟩
theorem Txt.new (w : World) (L : List ByteArray) (t : TypeId) : Txt (w.alloc (.cells (L.map Value.string).toArray t)) w.heap.size L := by
  refine ⟨by simp, fun j x hx => ?_⟩
  rw [World.cell?_alloc_at _ _ _ _ rfl]
  simp [hx]
end Go.Proofs.YtklehbmghjcmaaaGreatDoor.Wrd
namespace Go.Proofs.YtklehbmghjcmaaaGreatDoor.Wrd
open Go.RowKit
def Cls (c n lo hh : Nat) : Prop :=
  (194 ≤ c ∧ c ≤ 223 ∧ n = 2 ∧ lo = 128 ∧ hh = 191) ∨ (c = 224 ∧ n = 3 ∧ lo = 160 ∧ hh = 191) ∨ (c = 237 ∧ n = 3 ∧ lo = 128 ∧ hh = 159) ∨ ((225 ≤ c ∧ c ≤ 239 ∧ c ≠ 237) ∧ n = 3 ∧ lo = 128 ∧ hh = 191) ∨
  (c = 240 ∧ n = 4 ∧ lo = 144 ∧ hh = 191) ∨ (c = 244 ∧ n = 4 ∧ lo = 128 ∧ hh = 143) ∨ ((241 ≤ c ∧ c ≤ 243) ∧ n = 4 ∧ lo = 128 ∧ hh = 191)
instance (c n lo hh : Nat) : Decidable (Cls c n lo hh) := by unfold Cls; infer_instance
end Go.Proofs.YtklehbmghjcmaaaGreatDoor.Wrd
namespace Go.Proofs.YtklehbmghjcmaaaGreatDoor.Wrd
open Go.RowKit
end Go.Proofs.YtklehbmghjcmaaaGreatDoor.Wrd
namespace Go.Proofs.YtklehbmghjcmaaaGreatDoor.Wrd
open Go.RowKit
def TxtA (w : World) (a : Addr) (L : List ByteArray) : Prop := True ∧ ∀ j t, L[j]? = some t → w.cell? (a.add j) = some (.string t)
theorem TxtA.below {w w1 : World} {a : Addr} {L : List ByteArray} (h : TxtA w a L) (hb : Below w.heap.size w w1) : TxtA w1 a L :=
  ⟨trivial, fun j t hj => (hb.cell (World.block_lt_of_cell? w _ (h.2 j t hj))).trans (h.2 j t hj)⟩
theorem knownA_any (s : ByteArray) (L : List ByteArray) (a : Addr) (cap : Nat) (w : World) (hs : s.size ≤ maxLen) (hL : ∀ (j : Nat) (t : ByteArray), L[j]? = some t → t.size ≤ maxLen) (hcap : L.length ≤ cap) (hcap2 : cap ≤ maxLen) (hT : TxtA w a L) :
    Calls Tryz.prog 108 #[.string s, .slice (some a) L.length cap] w fun e w' => e = zr (vi ki (knownB s L)) ∧ Below w.heap.size w w' := by
  have hs' := hs
  unfold maxLen at hs hcap2
  obtain ⟨G, hG⟩ : ∃ G, knownB s L = G := ⟨_, rfl⟩
  have HG : Hid (findF (fun t => sameB s t) 0 (L.drop 0) = G) := by show _ = _; rw [List.drop_zero, ← hG]; rfl
  rw [hG]
  clear hG
  go_enter Tryz.func108, Tryz.ntmps108
  go_wp2_with fail
  refine (lower_any s hs' _).mono ?_
  rintro e w1 ⟨rfl, B1⟩
  have T1 := hT.below B1
  have HB1 : Hid (Below w.heap.size w w1) := B1
  have HT1 : Hid (TxtA w1 a L) := T1
  clear B1 T1 hT
  go_wp2_with fail
  go_loopw [12] (fun k wr => ∃ i : Nat, i ≤ L.length ∧ k = vi ki (i : Int) ∧ Below w.heap.size w wr ∧ TxtA wr a L ∧ Hid (findF (fun t => sameB s t) i (L.drop i) = G)) (fun k _ => L.length - (intOf k).toNat)
  case atStart => exact ⟨0, Nat.zero_le _, rfl, HB1.out, HT1.out, HG⟩
  case round =>
    obtain ⟨i, hi, rfl, B, T, HS⟩ := hrel
    have HB : Hid (Below w.heap.size w wr) := B
    have HT : Hid (TxtA wr a L) := T
    clear HB1 HT1
    by_cases hlt : i < L.length
    · have hlt' : (i : Int) < (L.length : Int) := by omega
      obtain ⟨t, ht⟩ : ∃ t, L[i]? = some t := ⟨L[i]'hlt, List.getElem?_eq_getElem hlt⟩
      have hc : wr.cell? (a.add i) = some (.string t) := T.2 i t ht
      have hts := hL i t ht
      have HE : Hid ((if sameB s t = true then (i : Int) else findF (fun t => sameB s t) (i + 1) (L.drop (i + 1))) = G) := by show _ = _; rw [← HS.out, findF_step ht]
      have i0 : (0 : Int) ≤ (i : Int) := by omega
      have i1 : (i : Int) < 9223372036854775807 := by omega
      clear HS B T ht
      go_wp2_with fail
      refine (lower_any t hts _).mono ?_
      rintro e w2 ⟨rfl, b2⟩
      have HB2 : Hid (Below w.heap.size w w2) := HB.out.trans (b2.mono HB.out.size)
      have HT2 : Hid (TxtA w2 a L) := HT.out.below b2
      clear b2 HB HT hc
      have hse : ((lowB t).toList == (lowB s).toList) = sameB s t := by rw [toList_eq]; unfold sameB; rw [Bool.eq_iff_iff, decide_eq_true_eq, decide_eq_true_eq]; exact ⟨fun h => h.symm, fun h => h.symm⟩
      cases hq : sameB s t with
      | true =>
        have e1 : G = (i : Int) := by rw [← HE.out, if_pos hq]
        rw [hq] at hse
        subst e1
        clear hq
        go_wp2_with fail
        go_ret
        exact ⟨rfl, HB2.out⟩
      | false =>
        have HF : Hid (findF (fun t => sameB s t) (i + 1) (L.drop (i + 1)) = G) := by show _ = _; rw [← HE.out, if_neg (by rw [hq]; decide)]
        rw [hq] at hse
        clear hq
        go_wp2_with fail
        go_roundw
        case rel => exact ⟨i + 1, by omega, by go_num, HB2.out, HT2.out, HF⟩
        case measure => simp [intOf]; omega
    · have hlt' : ¬ (i : Int) < (L.length : Int) := by omega
      have e1 : G = -1 := by rw [← HS.out, findF_end hlt]
      subst e1
      clear B T
      go_wp2_with fail
      go_ret
      exact ⟨rfl, HB.out⟩
end Go.Proofs.YtklehbmghjcmaaaGreatDoor.Wrd
namespace Go.Proofs.YtklehbmghjcmaaaGreatDoor
open Go.RowKit
theorem ret_i {a b : Int} (h : a = b) : Ending.returned (vi ki a) = zr (vi ki b) := by rw [h]
theorem ret_b {a b : Bool} (h : a = b) : Ending.returned (.bool a) = zr (.bool b) := by rw [h]
theorem ret_ib {a b : Int} {c d : Bool} (h : a = b) (g : c = d) : Ending.returned (.tuple #[vi ki a, .bool c]) = zr (.tuple #[vi ki b, .bool d]) := by rw [h, g]
def inL (l : List Int) : List Value := l.map fun x => vi ki x
def idx (k : Int) : List Int → Int → Int
 | [], _ => -1
 | x :: l, i => if k = x then i else idx k l (i + 1)
theorem idx_drop (k : Int) {l : List Int} {j : Nat} {x : Int} (h : l[j]? = some x) : idx k (l.drop j) j = if k = x then (j : Int) else idx k (l.drop (j + 1)) ((j + 1 : Nat) : Int) := by
 have hj := (List.getElem?_eq_some_iff.1 h).1
 have hx := (List.getElem?_eq_some_iff.1 h).2
 rw [List.drop_eq_getElem_cons hj, idx, hx]
 push_cast
 rfl
theorem idx_nn (k : Int) : ∀ (l : List Int) (i : Int), 0 ≤ i → (0 ≤ idx k l i ↔ k ∈ l)
 | [], i, h => by simp [idx]
 | x :: l, i, h => by
  rw [idx]
  split
  ·rename_i e; subst e; simp [h]
  ·rename_i e; rw [idx_nn k l (i + 1) (by omega)]; simp [e]
theorem index_any (k : Int) (l : List Int) (b : Nat) (hl : l.length ≤ 100) (n : Nat) (hn : l.length = n) (w : World) (X : Hid (Bx w b (inL l))) :
  Calls Tryz.prog 195 #[.slice (some ⟨b, 0, none⟩) n n, vi ki k] w fun e w' => e = zr (vi ki (idx k l 0)) ∧ w' = w := by
 obtain ⟨G, hG⟩ : ∃ G, idx k l 0 = G := ⟨_, rfl⟩
 have HG : Hid (idx k (l.drop 0) ((0 : Nat) : Int) = G) := hG
 rw [hG]
 clear hG
 rw [hn] at hl
 have hn' : Hid (l.length = n) := hn
 clear hn
 go_enter Tryz.func195, Tryz.ntmps195
 go_wp2_with fail
 go_loopw [8] (fun iv wr => ∃ j : Nat, iv = vi ki (j : Int) ∧ j ≤ n ∧ wr = w ∧ Hid (idx k (l.drop j) (j : Int) = G)) (fun iv _ => n - (intOf iv).toNat)
 case atStart => exact ⟨0, rfl, Nat.zero_le _, rfl, HG⟩
 case round =>
  obtain ⟨j, rfl, hj, hw, HJ⟩ := hrel
  obtain rfl := hw.symm
  clear hw
  by_cases hlt : j < n
  ·have hlt' : (j : Int) < (n : Int) := by omega
   have j0 : (0 : Int) ≤ (j : Int) := by omega
   obtain ⟨x, hx⟩ : ∃ x, l[j]? = some x := ⟨_, List.getElem?_eq_getElem (by rw [hn'.out]; exact hlt)⟩
   have hc : w.cell? ⟨b, j, none⟩ = some (vi ki x) := X.out.c j (by simp [inL, hx])
   have hc2 : w.cell? ((⟨b, 0, none⟩ : Addr).add j) = some (vi ki x) := by
    unfold Addr.add
    split
    ·rename_i h; subst h; exact hc
    ·simpa using hc
   have HE : Hid ((if k = x then (j : Int) else idx k (l.drop (j + 1)) ((j + 1 : Nat) : Int)) = G) := by show _ = _; rw [← HJ.out, idx_drop k hx]
   clear HJ hx HG
   by_cases hkx : k = x
   ·subst hkx
    have HE2 : Hid ((j : Int) = G) := by have := HE.out; rw [if_pos rfl] at this; exact this
    clear HE
    go_wp2_with fail
    go_ret
    exact ⟨ret_i HE2.out, rfl⟩
   ·have HE2 := HE.out
    rw [if_neg hkx] at HE2
    have HE3 : Hid (idx k (l.drop (j + 1)) ((j + 1 : Nat) : Int) = G) := HE2
    have hkx' : (k == x) = false := by simpa using hkx
    clear HE HE2 hkx
    go_wp2_with fail
    go_roundw
    case rel => exact ⟨j + 1, by go_num, by omega, by simp, HE3⟩
    case measure => simp [intOf]; omega
  ·have hlt' : ¬ (j : Int) < (n : Int) := by omega
   have HE : Hid (-1 = G) := by have := HJ.out; rw [List.drop_eq_nil_of_le (by rw [hn'.out]; omega), idx] at this; exact this
   clear HJ HG
   go_wp2_with fail
   go_ret
   exact ⟨ret_i HE.out, rfl⟩
theorem contains_any (k : Int) (l : List Int) (b : Nat) (hl : l.length ≤ 100) (n : Nat) (hn : l.length = n) (c : Bool) (hc : c = decide (k ∈ l)) (w : World) (X : Hid (Bx w b (inL l))) :
  Calls Tryz.prog 162 #[.slice (some ⟨b, 0, none⟩) n n, vi ki k] w fun e w' => e = zr (.bool c) ∧ w' = w := by
 have R := index_any k l b hl n hn w X
 obtain ⟨G, hG⟩ : ∃ G, idx k l 0 = G := ⟨_, rfl⟩
 rw [hG] at R
 have HR : Hid (Calls Tryz.prog 195 #[.slice (some ⟨b, 0, none⟩) n n, vi ki k] w fun e w' => e = zr (vi ki G) ∧ w' = w) := R
 have e : decide (0 ≤ G) = c := by rw [hc, ← hG]; rw [decide_eq_decide]; exact idx_nn k l 0 (by decide)
 have E : Hid (decide (0 ≤ G) = c) := e
 clear R e hG hc X hn
 go_enter Tryz.func162, Tryz.ntmps162
 go_wp2_with fail
 refine HR.out.mono ?_
 rintro e W ⟨rfl, hw⟩
 rw [hw]
 clear hw W
 go_wp2_with fail
 go_ret
 exact ⟨ret_b E.out, rfl⟩
theorem isOf_any (k : Int) (l : List Int) (b : Nat) (hl : l.length ≤ 100) (n : Nat) (hn : l.length = n) (c : Bool) (hc : c = decide (k ∈ l)) (w : World) (X : Hid (Bx w b (inL l))) :
  Calls Tryz.prog 119 #[vi ki k, .slice (some ⟨b, 0, none⟩) n n] w fun e w' => e = zr (.bool c) ∧ w' = w := by
 have R := contains_any k l b hl n hn c hc w X
 have HR : Hid (Calls Tryz.prog 162 #[.slice (some ⟨b, 0, none⟩) n n, vi ki k] w fun e w' => e = zr (.bool c) ∧ w' = w) := R
 clear R hc X hn
 go_enter Tryz.func119, Tryz.ntmps119
 go_wp2_with fail
 refine HR.out.mono ?_
 rintro e W ⟨rfl, hw⟩
 rw [hw]
 clear hw W
 go_wp2_with fail
 go_ret
 exact ⟨rfl, rfl⟩
def fieldsL : List ByteArray := [⟨#[109, 105, 99, 114, 111, 115, 101, 99, 111, 110, 100, 115]⟩, ⟨#[109, 105, 108, 108, 105, 115, 101, 99, 111, 110, 100, 115]⟩, ⟨#[115, 101, 99, 111, 110, 100]⟩, ⟨#[109, 105, 110, 117, 116, 101]⟩, ⟨#[104, 111, 117, 114]⟩, ⟨#[100, 97, 121]⟩, ⟨#[119, 101, 101, 107]⟩, ⟨#[109, 111, 110, 116, 104]⟩, ⟨#[113, 117, 97, 114, 116, 101, 114]⟩, ⟨#[121, 101, 97, 114]⟩, ⟨#[100, 101, 99, 97, 100, 101]⟩, ⟨#[99, 101, 110, 116, 117, 114, 121]⟩, ⟨#[109, 105, 108, 108, 101, 110, 110, 105, 117, 109]⟩, ⟨#[100, 111, 119]⟩, ⟨#[105, 115, 111, 100, 111, 119]⟩, ⟨#[100, 111, 121]⟩, ⟨#[105, 115, 111, 121, 101, 97, 114]⟩, ⟨#[101, 112, 111, 99, 104]⟩, ⟨#[116, 105, 109, 101, 122, 111, 110, 101]⟩]
theorem fields_small (n : Nat) : ∀ (j : Nat) (t : ByteArray), (fieldsL.take n)[j]? = some t → t.size ≤ maxLen := by
 intro j t h
 have : ∀ t ∈ fieldsL, t.size ≤ 20 := by decide
 have := this t (List.mem_of_mem_take (List.mem_of_getElem? h))
 unfold maxLen; omega
theorem fields_at (w : World) (n : Nat) (t : TypeId) : Wrd.TxtA (w.alloc (.cells (fieldsL.map Value.string).toArray t)) ⟨w.heap.size, 0, none⟩ (fieldsL.take n) := by
 refine ⟨trivial, fun j x hx => ?_⟩
 have hj : fieldsL[j]? = some x := by
  have h1 := (List.getElem?_eq_some_iff.1 hx).1
  rw [List.length_take] at h1
  rw [List.getElem?_take_of_lt (by omega)] at hx
  exact hx
 have := (Bx.new w (fieldsL.map Value.string) t).c j (v := .string x) (by simp [hj])
 unfold Addr.add
 split
 ·rename_i h; subst h; exact this
 ·simpa using this
def fldN (s : ByteArray) (n : Nat) : Int := Wrd.knownB s (fieldsL.take n)
theorem named_13 (s : ByteArray) (hs : s.size ≤ maxLen) (k : Int) (hk : fldN s 13 = k) (f : Int) (b : Bool) (hf : f = max k 0) (hb : b = decide (0 ≤ k)) (w : World) :
  Calls Tryz.prog 57 #[.string s, vi ki 12] w fun e w' => e = zr (.tuple #[vi ki f, .bool b]) ∧ Below w.heap.size w w' := by
 have HC : Hid (∀ (a : Addr) (w : World), Wrd.TxtA w a (fieldsL.take 13) → Calls Tryz.prog 108 #[.string s, .slice (some a) 13 13] w fun e w' => e = zr (vi ki k) ∧ Below w.heap.size w w') := fun a w h => by
  have R := Wrd.knownA_any s (fieldsL.take 13) a 13 w hs (fields_small 13) (by decide) (by decide) h
  rw [show Wrd.knownB s (fieldsL.take 13) = k from hk] at R
  exact R
 have HT : Hid (Wrd.TxtA (w.alloc (.cells (fieldsL.map Value.string).toArray 9)) ⟨w.heap.size, 0, none⟩ (fieldsL.take 13)) := fields_at w 13 9
 have HB : Hid (Below w.heap.size w (w.alloc (.cells (fieldsL.map Value.string).toArray 9))) := (Below.refl _ _).alloc (Nat.le_refl _) _
 have HF : Hid (f = max k 0) := hf
 have HBB : Hid (b = decide (0 ≤ k)) := hb
 clear hk hf hb
 go_enter Tryz.func57, Tryz.ntmps57
 go_wp2_with fail
 refine (HC.out _ _ HT.out).mono ?_
 rintro e w1 ⟨rfl, b1⟩
 have HB1 : Hid (Below w.heap.size w w1) := HB.out.trans (b1.mono HB.out.size)
 clear b1 HB HC HT
 go_wp2
 go_ret2
 exact ⟨ret_ib HF.out.symm HBB.out.symm, HB1.out⟩
theorem named_19 (s : ByteArray) (hs : s.size ≤ maxLen) (k : Int) (hk : fldN s 19 = k) (f : Int) (b : Bool) (hf : f = max k 0) (hb : b = decide (0 ≤ k)) (w : World) :
  Calls Tryz.prog 57 #[.string s, vi ki 18] w fun e w' => e = zr (.tuple #[vi ki f, .bool b]) ∧ Below w.heap.size w w' := by
 have HC : Hid (∀ (a : Addr) (w : World), Wrd.TxtA w a (fieldsL.take 19) → Calls Tryz.prog 108 #[.string s, .slice (some a) 19 19] w fun e w' => e = zr (vi ki k) ∧ Below w.heap.size w w') := fun a w h => by
  have R := Wrd.knownA_any s (fieldsL.take 19) a 19 w hs (fields_small 19) (by decide) (by decide) h
  rw [show Wrd.knownB s (fieldsL.take 19) = k from hk] at R
  exact R
 have HT : Hid (Wrd.TxtA (w.alloc (.cells (fieldsL.map Value.string).toArray 9)) ⟨w.heap.size, 0, none⟩ (fieldsL.take 19)) := fields_at w 19 9
 have HB : Hid (Below w.heap.size w (w.alloc (.cells (fieldsL.map Value.string).toArray 9))) := (Below.refl _ _).alloc (Nat.le_refl _) _
 have HF : Hid (f = max k 0) := hf
 have HBB : Hid (b = decide (0 ≤ k)) := hb
 clear hk hf hb
 go_enter Tryz.func57, Tryz.ntmps57
 go_wp2_with fail
 refine (HC.out _ _ HT.out).mono ?_
 rintro e w1 ⟨rfl, b1⟩
 have HB1 : Hid (Below w.heap.size w w1) := HB.out.trans (b1.mono HB.out.size)
 clear b1 HB HC HT
 go_wp2
 go_ret2
 exact ⟨ret_ib HF.out.symm HBB.out.symm, HB1.out⟩
theorem gw_all (f k : Int) (h1 : f ≠ 18) (h2 : f ≠ 13) (h3 : f ≠ 14) (h4 : f ≠ 15) (h5 : f ≠ 16) (h6 : f ≠ 6) (w : World) :
  Calls Tryz.prog 120 #[vi ki f, vi ki k] w fun e w' => e = zr (.bool (decide (k ∈ ([5, 6, 7, 8] : List Int)))) ∧ Below w.heap.size w w' := by
 have X : Hid (Bx (w.alloc (.cells (inL [5, 6, 7, 8]).toArray 3)) w.heap.size (inL [5, 6, 7, 8])) := Bx.new w (inL [5, 6, 7, 8]) 3
 have HB : Hid (Below w.heap.size w (w.alloc (.cells (inL [5, 6, 7, 8]).toArray 3))) := (Below.refl _ _).alloc (Nat.le_refl _) _
 obtain ⟨c, hc⟩ : ∃ c, c = decide (k ∈ ([5, 6, 7, 8] : List Int)) := ⟨_, rfl⟩
 have R : Hid (Calls Tryz.prog 119 #[vi ki k, .slice (some ⟨w.heap.size, 0, none⟩) 4 4] _ fun e w' => e = zr (.bool c) ∧ w' = _) := isOf_any k [5, 6, 7, 8] w.heap.size (by decide) 4 rfl c hc _ X
 rw [← hc]
 clear hc X
 have q1 : (f == 18) = false := by simpa using h1
 have q2 : (f == 13) = false := by simpa using h2
 have q3 : (f == 14) = false := by simpa using h3
 have q4 : (f == 15) = false := by simpa using h4
 have q5 : (f == 16) = false := by simpa using h5
 have q6 : (f == 6) = false := by simpa using h6
 clear h1 h2 h3 h4 h5 h6
 go_enter Tryz.func120, Tryz.ntmps120
 go_wp2_with fail
 refine R.out.mono ?_
 rintro e W ⟨rfl, hw⟩
 rw [hw]
 clear hw W R
 go_wp2_with fail
 go_ret
 exact ⟨rfl, HB.out⟩
def vZ : List Value := [vi ki 0, .bool false, vi ki 0, vi ki 0, .string ⟨#[]⟩, vi ki 0, vi ki 0, vi ki 0, vi ki 0, vi ki 0, vi ki 0, vi ki 0, vi ki 0]
def vK (k : Int) : List Value := [vi ki k, .bool false, vi ki 0, vi ki 0, .string ⟨#[]⟩, vi ki 0, vi ki 0, vi ki 0, vi ki 0, vi ki 0, vi ki 0, vi ki 0, vi ki 0]
theorem one_vK (k : Int) : (vK k).toArray.all (·.oneCell') = true := by simp [vK, Value.oneCell']
def v_dt (i d : Int) : List Value := [vi ki 5, .bool false, vi ki 0, vi ki 0, .string ⟨#[]⟩, vi ki i, vi ki d, vi ki 0, vi ki 0, vi ki 0, vi ki 0, vi ki 0, vi ki 0]
theorem eqv_dt (i d : Int) (w : World) : (Op.equalIn 10000 126 (.agg (v_dt i d).toArray) (.agg (v_dt i d).toArray)).run Tryz.prog w = .ok true w := by
 rw [run_equalIn_struct w 9999 126 _ _ (by kernel_rfl) (by kernel_rfl)]
 unfold v_dt
 go_simp
theorem rv_dt (i d : Int) (R : Hid (∀ w : World, Cvl.Lens w → Calls Tryz.prog 143 #[.agg #[vi ki i, vi ki d]] w fun r' w' => r' = zr (.bool true) ∧ Below w.heap.size w w')) (w : World) (hL : Hid (∀ W : World, Below w.heap.size w W → Cvl.Lens W)) :
  Calls Tryz.prog 118 #[.agg (v_dt i d).toArray] w fun r w' => r = zr (.bool true) ∧ Below w.heap.size w w' := by
 have X0 : Hid (BS w [(w.heap.size, (v_dt i d))] (w.alloc (.cells (v_dt i d).toArray 126))) := (BS.start w).new (v_dt i d) _ rfl
 have hEQ := fun W => eqv_dt i d W
 go_enter Tryz.func118, Tryz.ntmps118
 generalize hUA : (v_dt i d).toArray = UA at *
 go_upto_region 1 with fail
 refine bs_to X0 ?_
 clear X0
 intro W0 K0
 have c0 : W0.cell? ⟨w.heap.size, 0, none⟩ = some (vi ki 5) := (bo1 K0).c 0 rfl
 have hlt := (bo1 K0).1
 have Mz := bsn K0 vZ 126
 go_upto_region 2 with (refine wpList_store_mid rfl 126 _ _ rfl W0.heap.size 0 (vK 5).toArray rfl rfl (bo1 Mz).there (by kernel_rfl) (one_vK 5) ?_; refine gen_at (fun V => Hid (BS w [(W0.heap.size, vK 5), (w.heap.size, (v_dt i d))] V)) (Mz.out.set (vK 5) rfl (by intro x hx; simp only [List.mem_singleton] at hx; subst hx; simp only []; omega)) ?_; clear Mz K0 c0; intro W1 K1)
 generalize hN : W0.heap.size = nb at *
 have c0 : W1.cell? ⟨w.heap.size, 0, none⟩ = some (vi ki 5) := (bo2 K1).c 0 rfl
 have d0 : W1.cell? ⟨w.heap.size, 5, none⟩ = some (vi ki i) := (bo2 K1).c 5 rfl
 have d1 : W1.cell? ⟨w.heap.size, 6, none⟩ = some (vi ki d) := (bo2 K1).c 6 rfl
 have X1 : Hid (Bx W1 nb (vK 5)) := bo1 K1
 have hth : W1.there nb 5 2 := fun j hj => by
  have hj2 : (vK 5)[5 + j]? = some ((vK 5)[5 + j]'(by have : (vK 5).length = 13 := rfl; omega)) := List.getElem?_eq_getElem _
  have := X1.out.2 (5 + j) _ hj2
  exact ⟨by rw [this.1]; rfl, this.2⟩
 have HTH : Hid (W1.there nb 5 2) := hth
 have X2 : Hid (Bx (W1.setCells nb 5 [vi ki i, vi ki d]) nb (v_dt i d)) := by
  refine ⟨by rw [setCells_size]; exact X1.out.1, fun i' v e => ?_⟩
  have hi := (List.getElem?_eq_some_iff.1 e).1
  have hi2 : i' < 13 := hi
  have hold : (vK 5)[i']? = some ((vK 5)[i']'hi2) := List.getElem?_eq_getElem _
  have hf := (X1.out.2 i' _ hold).2
  refine ⟨?_, by rw [World.frozen?_setCells]; exact hf⟩
  by_cases hin : 5 ≤ i' ∧ i' < 7
  ·have := World.rangeAt_setCells_same W1 nb 5 [vi ki i, vi ki d] hth (i' - 5) v (by
    have : i' = 5 ∨ i' = 6 := by omega
    rcases this with rfl | rfl <;> exact e)
   rwa [show 5 + (i' - 5) = i' by omega] at this
  ·refine (World.cell?_setCells_out nb _ 5 W1 ⟨nb, i', none⟩ (fun _ _ => by simp only [List.length_cons, List.length_nil]; omega)).trans ?_
   have h9 := (X1.out.2 i' _ hold).1
   rw [h9]
   have : i' = 0 ∨ i' = 1 ∨ i' = 2 ∨ i' = 3 ∨ i' = 4 ∨ i' = 7 ∨ i' = 8 ∨ i' = 9 ∨ i' = 10 ∨ i' = 11 ∨ i' = 12 := by omega
   rcases this with rfl | rfl | rfl | rfl | rfl | rfl | rfl | rfl | rfl | rfl | rfl <;> exact e
 have X3 : Hid (BS w [(w.heap.size, (v_dt i d))] (W1.setCells nb 5 [vi ki i, vi ki d])) := by
  refine ⟨below_setCells (K1.out.2 _ List.mem_cons_self).1 _ _ _ K1.out.1, fun x hx => ?_⟩
  simp only [List.mem_singleton] at hx
  subst hx
  exact ⟨Nat.le_refl _, (bo2 K1).setOther (by omega) _ _⟩
 have hnb : w.heap.size ≤ nb := (K1.out.2 _ List.mem_cons_self).1
 have X4 : Hid (BS w [(nb, (v_dt i d)), (w.heap.size, (v_dt i d))] (W1.setCells nb 5 [vi ki i, vi ki d])) := by
  refine ⟨X3.out.1, fun x hx => ?_⟩
  rcases List.mem_cons.1 hx with rfl | hx
  ·exact ⟨hnb, X2.out⟩
  ·exact X3.out.2 x hx
 clear hth X1 X2 X3 K1
 go_upto_region 17 with (refine wpList_store_mid rfl 111 _ _ rfl nb 5 #[vi ki i, vi ki d] rfl rfl HTH.out (by kernel_rfl) (by simp [Value.oneCell']) ?_; refine gen_at (fun V => Hid (BS w [(nb, (v_dt i d)), (w.heap.size, (v_dt i d))] V)) X4 ?_; clear X4 HTH c0 d0 d1; intro W2 K2)
 have d0 : W2.cell? ⟨w.heap.size, 5, none⟩ = some (vi ki i) := (bo2 K2).c 5 rfl
 have d1 : W2.cell? ⟨w.heap.size, 6, none⟩ = some (vi ki d) := (bo2 K2).c 6 rfl
 go_wp2_with fail
 refine (R.out _ (hL.out _ K2.out.1)).mono ?_
 rintro e W3 ⟨rfl, hb⟩
 have K3 := bsb K2 hb
 clear hb K2 d0 d1
 go_wp2_with (first | (refine mid_on (by kernel_rfl) 126 _ rfl w.heap.size 0 rfl (v_dt i d) _ (bo2 K3).all Tryz.underlying126 rfl (by kernel_rfl) ?_; rw [hUA]) | (refine mid_on (by kernel_rfl) 126 _ rfl nb 0 rfl (v_dt i d) _ (bo1 K3).all Tryz.underlying126 rfl (by kernel_rfl) ?_; rw [hUA]) | fail)
 go_ret
 exact ⟨rfl, K3.out.1⟩
def v_sp (i m d u : Int) : List Value := [vi ki 8, .bool false, vi ki 0, vi ki 0, .string ⟨#[]⟩, vi ki 0, vi ki 0, vi ki 0, vi ki 0, vi ki i, vi ki m, vi ki d, vi ki u]
theorem eqv_sp (i m d u : Int) (w : World) : (Op.equalIn 10000 126 (.agg (v_sp i m d u).toArray) (.agg (v_sp i m d u).toArray)).run Tryz.prog w = .ok true w := by
 rw [run_equalIn_struct w 9999 126 _ _ (by kernel_rfl) (by kernel_rfl)]
 unfold v_sp
 go_simp
theorem rv_sp (i m d u : Int) (R : Hid (∀ w : World, Calls Tryz.prog 23 #[.agg #[vi ki i, vi ki m, vi ki d, vi ki u]] w fun r' w' => r' = zr (.bool true) ∧ Below w.heap.size w w')) (w : World) :
  Calls Tryz.prog 118 #[.agg (v_sp i m d u).toArray] w fun r w' => r = zr (.bool true) ∧ Below w.heap.size w w' := by
 have X0 : Hid (BS w [(w.heap.size, (v_sp i m d u))] (w.alloc (.cells (v_sp i m d u).toArray 126))) := (BS.start w).new (v_sp i m d u) _ rfl
 have hEQ := fun W => eqv_sp i m d u W
 go_enter Tryz.func118, Tryz.ntmps118
 generalize hUA : (v_sp i m d u).toArray = UA at *
 go_upto_region 1 with fail
 refine bs_to X0 ?_
 clear X0
 intro W0 K0
 have c0 : W0.cell? ⟨w.heap.size, 0, none⟩ = some (vi ki 8) := (bo1 K0).c 0 rfl
 have hlt := (bo1 K0).1
 have Mz := bsn K0 vZ 126
 go_upto_region 2 with (refine wpList_store_mid rfl 126 _ _ rfl W0.heap.size 0 (vK 8).toArray rfl rfl (bo1 Mz).there (by kernel_rfl) (one_vK 8) ?_; refine gen_at (fun V => Hid (BS w [(W0.heap.size, vK 8), (w.heap.size, (v_sp i m d u))] V)) (Mz.out.set (vK 8) rfl (by intro x hx; simp only [List.mem_singleton] at hx; subst hx; simp only []; omega)) ?_; clear Mz K0 c0; intro W1 K1)
 generalize hN : W0.heap.size = nb at *
 have c0 : W1.cell? ⟨w.heap.size, 0, none⟩ = some (vi ki 8) := (bo2 K1).c 0 rfl
 have d0 : W1.cell? ⟨w.heap.size, 9, none⟩ = some (vi ki i) := (bo2 K1).c 9 rfl
 have d1 : W1.cell? ⟨w.heap.size, 10, none⟩ = some (vi ki m) := (bo2 K1).c 10 rfl
 have d2 : W1.cell? ⟨w.heap.size, 11, none⟩ = some (vi ki d) := (bo2 K1).c 11 rfl
 have d3 : W1.cell? ⟨w.heap.size, 12, none⟩ = some (vi ki u) := (bo2 K1).c 12 rfl
 have X1 : Hid (Bx W1 nb (vK 8)) := bo1 K1
 have hth : W1.there nb 9 4 := fun j hj => by
  have hj2 : (vK 8)[9 + j]? = some ((vK 8)[9 + j]'(by have : (vK 8).length = 13 := rfl; omega)) := List.getElem?_eq_getElem _
  have := X1.out.2 (9 + j) _ hj2
  exact ⟨by rw [this.1]; rfl, this.2⟩
 have HTH : Hid (W1.there nb 9 4) := hth
 have X2 : Hid (Bx (W1.setCells nb 9 [vi ki i, vi ki m, vi ki d, vi ki u]) nb (v_sp i m d u)) := by
  refine ⟨by rw [setCells_size]; exact X1.out.1, fun i' v e => ?_⟩
  have hi := (List.getElem?_eq_some_iff.1 e).1
  have hi2 : i' < 13 := hi
  have hold : (vK 8)[i']? = some ((vK 8)[i']'hi2) := List.getElem?_eq_getElem _
  have hf := (X1.out.2 i' _ hold).2
  refine ⟨?_, by rw [World.frozen?_setCells]; exact hf⟩
  by_cases hin : 9 ≤ i' ∧ i' < 13
  ·have := World.rangeAt_setCells_same W1 nb 9 [vi ki i, vi ki m, vi ki d, vi ki u] hth (i' - 9) v (by
    have : i' = 9 ∨ i' = 10 ∨ i' = 11 ∨ i' = 12 := by omega
    rcases this with rfl | rfl | rfl | rfl <;> exact e)
   rwa [show 9 + (i' - 9) = i' by omega] at this
  ·refine (World.cell?_setCells_out nb _ 9 W1 ⟨nb, i', none⟩ (fun _ _ => by simp only [List.length_cons, List.length_nil]; omega)).trans ?_
   have h9 := (X1.out.2 i' _ hold).1
   rw [h9]
   have : i' = 0 ∨ i' = 1 ∨ i' = 2 ∨ i' = 3 ∨ i' = 4 ∨ i' = 5 ∨ i' = 6 ∨ i' = 7 ∨ i' = 8 := by omega
   rcases this with rfl | rfl | rfl | rfl | rfl | rfl | rfl | rfl | rfl <;> exact e
 have X3 : Hid (BS w [(w.heap.size, (v_sp i m d u))] (W1.setCells nb 9 [vi ki i, vi ki m, vi ki d, vi ki u])) := by
  refine ⟨below_setCells (K1.out.2 _ List.mem_cons_self).1 _ _ _ K1.out.1, fun x hx => ?_⟩
  simp only [List.mem_singleton] at hx
  subst hx
  exact ⟨Nat.le_refl _, (bo2 K1).setOther (by omega) _ _⟩
 have hnb : w.heap.size ≤ nb := (K1.out.2 _ List.mem_cons_self).1
 have X4 : Hid (BS w [(nb, (v_sp i m d u)), (w.heap.size, (v_sp i m d u))] (W1.setCells nb 9 [vi ki i, vi ki m, vi ki d, vi ki u])) := by
  refine ⟨X3.out.1, fun x hx => ?_⟩
  rcases List.mem_cons.1 hx with rfl | hx
  ·exact ⟨hnb, X2.out⟩
  ·exact X3.out.2 x hx
 clear hth X1 X2 X3 K1
 go_upto_region 24 with (refine wpList_store_mid rfl 59 _ _ rfl nb 9 #[vi ki i, vi ki m, vi ki d, vi ki u] rfl rfl HTH.out (by kernel_rfl) (by simp [Value.oneCell']) ?_; refine gen_at (fun V => Hid (BS w [(nb, (v_sp i m d u)), (w.heap.size, (v_sp i m d u))] V)) X4 ?_; clear X4 HTH c0 d0 d1 d2 d3; intro W2 K2)
 have d0 : W2.cell? ⟨w.heap.size, 9, none⟩ = some (vi ki i) := (bo2 K2).c 9 rfl
 have d1 : W2.cell? ⟨w.heap.size, 10, none⟩ = some (vi ki m) := (bo2 K2).c 10 rfl
 have d2 : W2.cell? ⟨w.heap.size, 11, none⟩ = some (vi ki d) := (bo2 K2).c 11 rfl
 have d3 : W2.cell? ⟨w.heap.size, 12, none⟩ = some (vi ki u) := (bo2 K2).c 12 rfl
 go_wp2_with fail
 refine (R.out _).mono ?_
 rintro e W3 ⟨rfl, hb⟩
 have K3 := bsb K2 hb
 clear hb K2 d0 d1 d2 d3
 go_wp2_with (first | (refine mid_on (by kernel_rfl) 126 _ rfl w.heap.size 0 rfl (v_sp i m d u) _ (bo2 K3).all Tryz.underlying126 rfl (by kernel_rfl) ?_; rw [hUA]) | (refine mid_on (by kernel_rfl) 126 _ rfl nb 0 rfl (v_sp i m d u) _ (bo1 K3).all Tryz.underlying126 rfl (by kernel_rfl) ?_; rw [hUA]) | fail)
 go_ret
 exact ⟨rfl, K3.out.1⟩
theorem whole_any (n : Int)
  (w : World) :
  Calls Tryz.prog 164 #[vi ki n] w fun r' w' => r' = zr (.agg #[vi ki n, vi ki 0]) ∧ Below w.heap.size w w' := by
 have K0 := bsn1 w [vi ki 0, vi ki 0] 122
 go_enter Tryz.func164, Tryz.ntmps164
 go_wp2
 exact bodyPost_ret (v := .agg #[vi ki n, vi ki 0]) (by simp [results, Tryz.results164, go_sem]) rfl ⟨rfl, (by repeat' (first | assumption | exact Below.refl _ _ | exact Nat.le_refl _ | refine Below.alloc ?_ ?_ _ | (simp; done) | (simp; omega) | omega))⟩
theorem ot_s (us : Int) (u1 : 0 ≤ us) (u2 : us < 86400000000)
  (w : World) :
  Calls Tryz.prog 166 #[vi ki 2, vi ki us] w fun r' w' => r' = zr (.agg #[vi ki (us % 60000000), vi ki 6]) ∧ Below w.heap.size w w' := by
 have K0 := bsn1 w [vi ki 0, vi ki 0] 122
 go_enter Tryz.func166, Tryz.ntmps166
 go_wp2
 exact bodyPost_ret (v := .agg #[vi ki (us % 60000000), vi ki 6]) (by simp [results, Tryz.results166, go_sem]) rfl ⟨rfl, (by repeat' (first | assumption | exact Below.refl _ _ | exact Nat.le_refl _ | refine Below.alloc ?_ ?_ _ | (simp; done) | (simp; omega) | omega))⟩
theorem quarter_any (m : Int) (m1 : 1 ≤ m) (m2 : m ≤ 12) (w : World) : Calls Tryz.prog 156 #[vi ki m] w fun r w' => r = zr (vi ki ((m + 2) / 3)) ∧ w' = w := by
 have e : (m + 2) / 3 = (m - 1).tdiv 3 + 1 := by rw [Int.tdiv_eq_ediv_of_nonneg (by omega)]; omega
 have b1 : 0 ≤ (m - 1).tdiv 3 := by rw [Int.tdiv_eq_ediv_of_nonneg (by omega)]; omega
 have b2 : (m - 1).tdiv 3 ≤ 100 := by rw [Int.tdiv_eq_ediv_of_nonneg (by omega)]; omega
 rw [e]
 clear e
 go_enter Tryz.func156, Tryz.ntmps156
 go_wp2
 go_ret
 exact ⟨rfl, rfl⟩
theorem ord_2000 (w : World) : Calls Tryz.prog 216 #[vi ki 2000, vi ki 100] w fun r w' => r = zr (vi ki 20) ∧ w' = w := by
 go_enter Tryz.func216, Tryz.ntmps216
 go_wp2
 go_ret
 exact ⟨rfl, rfl⟩
theorem oy_11 (w : World) : Calls Tryz.prog 197 #[vi ki 11, vi ki 2000] w fun r w' => r = zr (vi ki 20) ∧ w' = w := by
 go_enter Tryz.func197, Tryz.ntmps197
 go_wp2_with fail
 refine (ord_2000 _).mono ?_
 rintro e W ⟨rfl, rfl⟩
 go_wp2
 go_ret
 exact ⟨rfl, rfl⟩
theorem od_11 (d y m q n : Int)
  (PA : Hid (∀ w : World, Cvl.Lens w → Calls Tryz.prog 153 #[.agg #[vi ki 0, vi ki d]] w fun r' w' => r' = zr (.tuple #[vi ki y, vi ki m, vi ki q, vi ki 0]) ∧ Below w.heap.size w w'))
  (Q : Hid (∀ w : World, Calls Tryz.prog 197 #[vi ki 11, vi ki y] w fun r' w' => r' = zr (vi ki n) ∧ w' = w))
  (w : World) (hL : Hid (∀ W : World, Below w.heap.size w W → Cvl.Lens W)) :
  Calls Tryz.prog 167 #[vi ki 11, .agg #[vi ki 0, vi ki d]] w fun r' w' => r' = zr (vi ki n) ∧ Below w.heap.size w w' := by
 have K0 := bsn1 w [vi ki 0, vi ki d] 111
 go_enter Tryz.func167, Tryz.ntmps167
 go_wp2_with fail
 refine (PA.out _ (hL.out _ K0.out.1)).mono ?_
 rintro e W1 ⟨rfl, hb⟩
 have K1 := bsb K0 hb
 clear hb K0
 obtain ⟨c1_0_0, c1_0_1⟩ := (bo1 K1).c2
 go_wp2_with fail
 refine (Q.out _).mono ?_
 rintro e W2 ⟨rfl, hw⟩
 rw [hw]
 clear hw W2
 go_wp2
 go_ret
 exact ⟨rfl, K1.out.1⟩
theorem os_11 (u d us N : Int)
  (OF : Hid (∀ w : World, Cvl.Lens w → Calls Tryz.prog 97 #[.agg #[vi ki 0, vi ki u]] w fun r' w' => r' = zr (.tuple #[.agg #[vi ki 0, vi ki d], vi ki us, vi ki 0]) ∧ Below w.heap.size w w'))
  (OD : Hid (∀ w : World, Cvl.Lens w → Calls Tryz.prog 167 #[vi ki 11, .agg #[vi ki 0, vi ki d]] w fun r' w' => r' = zr (vi ki N) ∧ Below w.heap.size w w'))
  (WH : Hid (∀ w : World, Calls Tryz.prog 164 #[vi ki N] w fun r' w' => r' = zr (.agg #[vi ki N, vi ki 0]) ∧ Below w.heap.size w w'))
  (w : World) (hL : Hid (∀ W : World, Below w.heap.size w W → Cvl.Lens W)) :
  Calls Tryz.prog 123 #[vi ki 11, .agg #[vi ki 0, vi ki u]] w fun r' w' => r' = zr (.tuple #[.agg #[vi ki N, vi ki 0], vi ki 0]) ∧ Below w.heap.size w w' := by
 have K0 := bsn2 w [vi ki 0, vi ki u] 36 [vi ki 0, vi ki 0] 122
 go_enter Tryz.func123, Tryz.ntmps123
 go_wp2_with fail
 refine (OF.out _ (hL.out _ K0.out.1)).mono ?_
 rintro e W1 ⟨rfl, hb⟩
 have K1 := bsb K0 hb
 clear hb K0
 obtain ⟨c1_0_0, c1_0_1⟩ := (bo1 K1).c2
 obtain ⟨c1_1_0, c1_1_1⟩ := (bo2 K1).c2
 have Mz1 := bsn K1 [vi ki 0, vi ki d] 111
 have lt1_0 := (bo1 K1).1
 have lt1_1 := (bo2 K1).1
 go_upto_region 7 with fail
 refine bs_to Mz1 ?_
 clear c1_0_0 c1_0_1 c1_1_0 c1_1_1
 intro W2 K2
 clear Mz1 K1
 obtain ⟨c2_0_0, c2_0_1⟩ := (bo1 K2).c2
 obtain ⟨c2_1_0, c2_1_1⟩ := (bo2 K2).c2
 obtain ⟨c2_2_0, c2_2_1⟩ := (bo3 K2).c2
 go_wp2_with fail
 refine (OD.out _ (hL.out _ K2.out.1)).mono ?_
 rintro e W3 ⟨rfl, hb⟩
 have K3 := bsb K2 hb
 clear c2_0_0 c2_0_1 c2_1_0 c2_1_1 c2_2_0 c2_2_1
 clear hb K2
 obtain ⟨c3_0_0, c3_0_1⟩ := (bo1 K3).c2
 obtain ⟨c3_1_0, c3_1_1⟩ := (bo2 K3).c2
 obtain ⟨c3_2_0, c3_2_1⟩ := (bo3 K3).c2
 go_wp2_with fail
 refine (WH.out _).mono ?_
 rintro e W4 ⟨rfl, hb⟩
 have K4 := bsb K3 hb
 clear c3_0_0 c3_0_1 c3_1_0 c3_1_1 c3_2_0 c3_2_1
 clear hb K3
 obtain ⟨c4_0_0, c4_0_1⟩ := (bo1 K4).c2
 obtain ⟨c4_1_0, c4_1_1⟩ := (bo2 K4).c2
 obtain ⟨z4_1_0, z4_1_1⟩ := (bo2 K4).f2
 obtain ⟨c4_2_0, c4_2_1⟩ := (bo3 K4).c2
 have XF : Hid (Bx (W4.setCells (w.heap.size + 1) 0 [vi ki N, vi ki 0]) (w.heap.size + 1) [vi ki N, vi ki 0]) := (K4.out.at (w.heap.size + 1) [vi ki 0, vi ki 0] (by simp)).setAll _ rfl
 have BF : Hid (Below w.heap.size w (W4.setCells (w.heap.size + 1) 0 [vi ki N, vi ki 0])) := below_setCells (by omega) _ _ _ K4.out.1
 have y0 := XF.out.c 0 rfl
 have y1 := XF.out.c 1 rfl
 simp only [World.setCells, Nat.zero_add] at y0 y1
 clear XF
 go_wp2
 exact bodyPost_ret (v := .tuple #[.agg #[vi ki N, vi ki 0], vi ki 0]) (by simp [results, Tryz.results123, go_sem, y0, y1]) rfl ⟨rfl, BF.out⟩
theorem osp_2 (m d u N S : Int)
  (OT : Hid (∀ w : World, Calls Tryz.prog 166 #[vi ki 2, vi ki u] w fun r' w' => r' = zr (.agg #[vi ki N, vi ki S]) ∧ Below w.heap.size w w'))
  (w : World) :
  Calls Tryz.prog 121 #[vi ki 2, .agg #[vi ki 0, vi ki m, vi ki d, vi ki u]] w fun r' w' => r' = zr (.tuple #[.agg #[vi ki N, vi ki S], vi ki 0]) ∧ Below w.heap.size w w' := by
 have K0 := bsn2 w [vi ki 0, vi ki m, vi ki d, vi ki u] 59 [vi ki 0, vi ki 0] 122
 go_enter Tryz.func121, Tryz.ntmps121
 go_wp2_with fail
 refine (OT.out _).mono ?_
 rintro e W1 ⟨rfl, hb⟩
 have K1 := bsb K0 hb
 clear hb K0
 obtain ⟨c1_0_0, c1_0_1⟩ := (bo1 K1).c2
 obtain ⟨z1_0_0, z1_0_1⟩ := (bo1 K1).f2
 obtain ⟨c1_1_0, c1_1_1, c1_1_2, c1_1_3⟩ := (bo2 K1).c4
 have XF : Hid (Bx (W1.setCells (w.heap.size + 1) 0 [vi ki N, vi ki S]) (w.heap.size + 1) [vi ki N, vi ki S]) := (K1.out.at (w.heap.size + 1) [vi ki 0, vi ki 0] (by simp)).setAll _ rfl
 have BF : Hid (Below w.heap.size w (W1.setCells (w.heap.size + 1) 0 [vi ki N, vi ki S])) := below_setCells (by omega) _ _ _ K1.out.1
 have y0 := XF.out.c 0 rfl
 have y1 := XF.out.c 1 rfl
 simp only [World.setCells, Nat.zero_add] at y0 y1
 clear XF
 go_wp2
 exact bodyPost_ret (v := .tuple #[.agg #[vi ki N, vi ki S], vi ki 0]) (by simp [results, Tryz.results121, go_sem, y0, y1]) rfl ⟨rfl, BF.out⟩
theorem ex_dt (s : ByteArray) (d u f N S E : Int)
  (RV : Hid (∀ w : World, Cvl.Lens w → Calls Tryz.prog 118 #[.agg (v_dt 0 d).toArray] w fun r' w' => r' = zr (.bool true) ∧ Below w.heap.size w w'))
  (NA : Hid (∀ w : World, Calls Tryz.prog 57 #[.string s, vi ki 18] w fun r' w' => r' = zr (.tuple #[vi ki f, .bool true]) ∧ Below w.heap.size w w'))
  (GW : Hid (∀ w : World, Calls Tryz.prog 120 #[vi ki f, vi ki 5] w fun r' w' => r' = zr (.bool true) ∧ Below w.heap.size w w'))
  (SA : Hid (∀ w : World, Cvl.Lens w → Calls Tryz.prog 110 #[.agg #[vi ki 0, vi ki d]] w fun r' w' => r' = zr (.tuple #[.agg #[vi ki 0, vi ki u], vi ki 0]) ∧ Below w.heap.size w w'))
  (OS : Hid (∀ w : World, Cvl.Lens w → Calls Tryz.prog 123 #[vi ki f, .agg #[vi ki 0, vi ki u]] w fun r' w' => r' = zr (.tuple #[.agg #[vi ki N, vi ki S], vi ki E]) ∧ Below w.heap.size w w'))
  (w : World) (hL : Hid (∀ W : World, Below w.heap.size w W → Cvl.Lens W)) :
  Calls Tryz.prog 73 #[.agg utL.toArray, .string s, .agg (v_dt 0 d).toArray] w fun r' w' => r' = zr (.tuple #[.agg #[vi ki N, vi ki S], vi ki E]) ∧ Below w.heap.size w w' := by
 have X0 : Hid (BS w [(w.heap.size + 2, [vi ki 0, vi ki 0]), (w.heap.size + 1, (v_dt 0 d)), (w.heap.size, utL)] (((w.alloc (.cells utL.toArray 44)).alloc (.cells (v_dt 0 d).toArray 126)).alloc (.cells #[vi ki 0, vi ki 0] 122))) := (((BS.start w).new utL _ rfl).new (v_dt 0 d) _ (by simp)).new [vi ki 0, vi ki 0] _ (by simp)
 have UR : Hid (∀ w : World, Calls Tryz.prog 31 #[.agg utL.toArray] w fun r' w' => r' = zr (.bool true) ∧ Below w.heap.size w w') := uright
 go_enter Tryz.func73, Tryz.ntmps73
 generalize hUA : utL.toArray = UA at *
 generalize hVA : (v_dt 0 d).toArray = VA at *
 go_upto_region 1 with fail
 refine bs_to X0 ?_
 clear X0
 intro W0 K0
 go_wp2_with (first | (refine wpList_load_mid rfl 44 _ rfl (w.heap.size) 0 rfl utL _ (bo3 K0).all Tryz.underlying44 rfl (by kernel_rfl) ?_; rw [hUA]) | fail)
 refine (UR.out _).mono ?_
 rintro e W1 ⟨rfl, hb⟩
 have K1 := bsb K0 hb
 clear hb K0
 go_wp2_with (first | (refine mid_on (by kernel_rfl) 126 _ rfl (w.heap.size + 1) 0 rfl (v_dt 0 d) _ (bo2 K1).all Tryz.underlying126 rfl (by kernel_rfl) ?_; rw [hVA]) | fail)
 refine (RV.out _ (hL.out _ K1.out.1)).mono ?_
 rintro e W2 ⟨rfl, hb⟩
 have K2 := bsb K1 hb
 clear hb K1
 have v0 : W2.cell? ⟨w.heap.size + 1, 0, none⟩ = some (vi ki 5) := (bo2 K2).c 0 rfl
 have v5 : W2.cell? ⟨w.heap.size + 1, 5, none⟩ = some (vi ki 0) := (bo2 K2).c 5 rfl
 have v6 : W2.cell? ⟨w.heap.size + 1, 6, none⟩ = some (vi ki d) := (bo2 K2).c 6 rfl
 have v7 : W2.cell? ⟨w.heap.size + 1, 7, none⟩ = some (vi ki 0) := (bo2 K2).c 7 rfl
 have v9 : W2.cell? ⟨w.heap.size + 1, 9, none⟩ = some (vi ki 0) := (bo2 K2).c 9 rfl
 have Ma := bsn K2 (inL [5, 6, 7, 8]) 3
 go_wp2_with fail
 refine (isOf_any 5 [5, 6, 7, 8] _ (by decide) 4 rfl true (by decide) _ (bo1 Ma)).mono ?_
 rintro e W9 ⟨rfl, hw⟩
 rw [hw]
 clear hw W9
 go_upto_region 5 with fail
 refine bs_to Ma ?_
 clear Ma K2 v0 v5 v6 v7 v9
 intro Wa Ka
 go_wp2_with fail
 refine (NA.out _).mono ?_
 rintro e W3 ⟨rfl, hb⟩
 have K3 := bsb Ka hb
 clear hb Ka
 have v0 : W3.cell? ⟨w.heap.size + 1, 0, none⟩ = some (vi ki 5) := (bo3 K3).c 0 rfl
 have v5 : W3.cell? ⟨w.heap.size + 1, 5, none⟩ = some (vi ki 0) := (bo3 K3).c 5 rfl
 have v6 : W3.cell? ⟨w.heap.size + 1, 6, none⟩ = some (vi ki d) := (bo3 K3).c 6 rfl
 have v7 : W3.cell? ⟨w.heap.size + 1, 7, none⟩ = some (vi ki 0) := (bo3 K3).c 7 rfl
 have v9 : W3.cell? ⟨w.heap.size + 1, 9, none⟩ = some (vi ki 0) := (bo3 K3).c 9 rfl
 go_wp2_with fail
 refine (GW.out _).mono ?_
 rintro e W4 ⟨rfl, hb⟩
 have K4 := bsb K3 hb
 clear hb K3
 clear v0 v5 v6 v7 v9
 have v0 : W4.cell? ⟨w.heap.size + 1, 0, none⟩ = some (vi ki 5) := (bo3 K4).c 0 rfl
 have v5 : W4.cell? ⟨w.heap.size + 1, 5, none⟩ = some (vi ki 0) := (bo3 K4).c 5 rfl
 have v6 : W4.cell? ⟨w.heap.size + 1, 6, none⟩ = some (vi ki d) := (bo3 K4).c 6 rfl
 have v7 : W4.cell? ⟨w.heap.size + 1, 7, none⟩ = some (vi ki 0) := (bo3 K4).c 7 rfl
 have v9 : W4.cell? ⟨w.heap.size + 1, 9, none⟩ = some (vi ki 0) := (bo3 K4).c 9 rfl
 go_wp2_with fail
 refine (SA.out _ (hL.out _ K4.out.1)).mono ?_
 rintro e W5 ⟨rfl, hb⟩
 have K5 := bsb K4 hb
 clear hb K4
 clear v0 v5 v6 v7 v9
 have Mb := bsn K5 [vi ki 0, vi ki u] 36
 have lt0 := (bo1 K5).1
 have lt1 := (bo2 K5).1
 have lt2 := (bo3 K5).1
 have lt3 := (bo4 K5).1
 go_upto_region 17 with fail
 refine bs_to Mb ?_
 clear Mb K5
 intro Wb Kb
 obtain ⟨s0, s1⟩ := (bo1 Kb).c2
 go_wp2_with fail
 refine (OS.out _ (hL.out _ Kb.out.1)).mono ?_
 rintro e W6 ⟨rfl, hb⟩
 have K6 := bsb Kb hb
 clear hb Kb
 clear s0 s1
 obtain ⟨zz0, zz1⟩ := (bo3 K6).f2
 obtain ⟨cc0, cc1⟩ := (bo3 K6).c2
 have XF : Hid (Bx (W6.setCells (w.heap.size + 2) 0 [vi ki N, vi ki S]) (w.heap.size + 2) [vi ki N, vi ki S]) := (K6.out.at (w.heap.size + 2) [vi ki 0, vi ki 0] (by simp)).setAll _ rfl
 have BF : Hid (Below w.heap.size w (W6.setCells (w.heap.size + 2) 0 [vi ki N, vi ki S])) := below_setCells (by omega) _ _ _ K6.out.1
 have y0 := XF.out.c 0 rfl
 have y1 := XF.out.c 1 rfl
 simp only [World.setCells, Nat.zero_add] at y0 y1
 clear XF
 go_wp2
 exact bodyPost_ret (v := .tuple #[.agg #[vi ki N, vi ki S], vi ki E]) (by simp [results, Tryz.results73, go_sem, y0, y1]) rfl ⟨rfl, BF.out⟩
theorem ex_sp (s : ByteArray) (m d u f N S E : Int)
  (RV : Hid (∀ w : World, Calls Tryz.prog 118 #[.agg (v_sp 0 m d u).toArray] w fun r' w' => r' = zr (.bool true) ∧ Below w.heap.size w w'))
  (NA : Hid (∀ w : World, Calls Tryz.prog 57 #[.string s, vi ki 18] w fun r' w' => r' = zr (.tuple #[vi ki f, .bool true]) ∧ Below w.heap.size w w'))
  (GW : Hid (∀ w : World, Calls Tryz.prog 120 #[vi ki f, vi ki 8] w fun r' w' => r' = zr (.bool true) ∧ Below w.heap.size w w'))
  (OS : Hid (∀ w : World, Calls Tryz.prog 121 #[vi ki f, .agg #[vi ki 0, vi ki m, vi ki d, vi ki u]] w fun r' w' => r' = zr (.tuple #[.agg #[vi ki N, vi ki S], vi ki E]) ∧ Below w.heap.size w w'))
  (w : World) (hL : Hid (∀ W : World, Below w.heap.size w W → Cvl.Lens W)) :
  Calls Tryz.prog 73 #[.agg utL.toArray, .string s, .agg (v_sp 0 m d u).toArray] w fun r' w' => r' = zr (.tuple #[.agg #[vi ki N, vi ki S], vi ki E]) ∧ Below w.heap.size w w' := by
 have X0 : Hid (BS w [(w.heap.size + 2, [vi ki 0, vi ki 0]), (w.heap.size + 1, (v_sp 0 m d u)), (w.heap.size, utL)] (((w.alloc (.cells utL.toArray 44)).alloc (.cells (v_sp 0 m d u).toArray 126)).alloc (.cells #[vi ki 0, vi ki 0] 122))) := (((BS.start w).new utL _ rfl).new (v_sp 0 m d u) _ (by simp)).new [vi ki 0, vi ki 0] _ (by simp)
 have UR : Hid (∀ w : World, Calls Tryz.prog 31 #[.agg utL.toArray] w fun r' w' => r' = zr (.bool true) ∧ Below w.heap.size w w') := uright
 go_enter Tryz.func73, Tryz.ntmps73
 generalize hUA : utL.toArray = UA at *
 generalize hVA : (v_sp 0 m d u).toArray = VA at *
 go_upto_region 1 with fail
 refine bs_to X0 ?_
 clear X0
 intro W0 K0
 go_wp2_with (first | (refine wpList_load_mid rfl 44 _ rfl (w.heap.size) 0 rfl utL _ (bo3 K0).all Tryz.underlying44 rfl (by kernel_rfl) ?_; rw [hUA]) | fail)
 refine (UR.out _).mono ?_
 rintro e W1 ⟨rfl, hb⟩
 have K1 := bsb K0 hb
 clear hb K0
 go_wp2_with (first | (refine mid_on (by kernel_rfl) 126 _ rfl (w.heap.size + 1) 0 rfl (v_sp 0 m d u) _ (bo2 K1).all Tryz.underlying126 rfl (by kernel_rfl) ?_; rw [hVA]) | fail)
 refine (RV.out _).mono ?_
 rintro e W2 ⟨rfl, hb⟩
 have K2 := bsb K1 hb
 clear hb K1
 have v0 : W2.cell? ⟨w.heap.size + 1, 0, none⟩ = some (vi ki 8) := (bo2 K2).c 0 rfl
 have v5 : W2.cell? ⟨w.heap.size + 1, 5, none⟩ = some (vi ki 0) := (bo2 K2).c 5 rfl
 have v7 : W2.cell? ⟨w.heap.size + 1, 7, none⟩ = some (vi ki 0) := (bo2 K2).c 7 rfl
 have v9 : W2.cell? ⟨w.heap.size + 1, 9, none⟩ = some (vi ki 0) := (bo2 K2).c 9 rfl
 have v10 : W2.cell? ⟨w.heap.size + 1, 10, none⟩ = some (vi ki m) := (bo2 K2).c 10 rfl
 have v11 : W2.cell? ⟨w.heap.size + 1, 11, none⟩ = some (vi ki d) := (bo2 K2).c 11 rfl
 have v12 : W2.cell? ⟨w.heap.size + 1, 12, none⟩ = some (vi ki u) := (bo2 K2).c 12 rfl
 have Ma := bsn K2 (inL [5, 6, 7, 8]) 3
 go_wp2_with fail
 refine (isOf_any 8 [5, 6, 7, 8] _ (by decide) 4 rfl true (by decide) _ (bo1 Ma)).mono ?_
 rintro e W9 ⟨rfl, hw⟩
 rw [hw]
 clear hw W9
 go_upto_region 5 with fail
 refine bs_to Ma ?_
 clear Ma K2 v0 v5 v7 v9 v10 v11 v12
 intro Wa Ka
 go_wp2_with fail
 refine (NA.out _).mono ?_
 rintro e W3 ⟨rfl, hb⟩
 have K3 := bsb Ka hb
 clear hb Ka
 have v0 : W3.cell? ⟨w.heap.size + 1, 0, none⟩ = some (vi ki 8) := (bo3 K3).c 0 rfl
 have v5 : W3.cell? ⟨w.heap.size + 1, 5, none⟩ = some (vi ki 0) := (bo3 K3).c 5 rfl
 have v7 : W3.cell? ⟨w.heap.size + 1, 7, none⟩ = some (vi ki 0) := (bo3 K3).c 7 rfl
 have v9 : W3.cell? ⟨w.heap.size + 1, 9, none⟩ = some (vi ki 0) := (bo3 K3).c 9 rfl
 have v10 : W3.cell? ⟨w.heap.size + 1, 10, none⟩ = some (vi ki m) := (bo3 K3).c 10 rfl
 have v11 : W3.cell? ⟨w.heap.size + 1, 11, none⟩ = some (vi ki d) := (bo3 K3).c 11 rfl
 have v12 : W3.cell? ⟨w.heap.size + 1, 12, none⟩ = some (vi ki u) := (bo3 K3).c 12 rfl
 go_wp2_with fail
 refine (GW.out _).mono ?_
 rintro e W4 ⟨rfl, hb⟩
 have K4 := bsb K3 hb
 clear hb K3
 clear v0 v5 v7 v9 v10 v11 v12
 have v0 : W4.cell? ⟨w.heap.size + 1, 0, none⟩ = some (vi ki 8) := (bo3 K4).c 0 rfl
 have v5 : W4.cell? ⟨w.heap.size + 1, 5, none⟩ = some (vi ki 0) := (bo3 K4).c 5 rfl
 have v7 : W4.cell? ⟨w.heap.size + 1, 7, none⟩ = some (vi ki 0) := (bo3 K4).c 7 rfl
 have v9 : W4.cell? ⟨w.heap.size + 1, 9, none⟩ = some (vi ki 0) := (bo3 K4).c 9 rfl
 have v10 : W4.cell? ⟨w.heap.size + 1, 10, none⟩ = some (vi ki m) := (bo3 K4).c 10 rfl
 have v11 : W4.cell? ⟨w.heap.size + 1, 11, none⟩ = some (vi ki d) := (bo3 K4).c 11 rfl
 have v12 : W4.cell? ⟨w.heap.size + 1, 12, none⟩ = some (vi ki u) := (bo3 K4).c 12 rfl
 go_wp2_with fail
 refine (OS.out _).mono ?_
 rintro e W5 ⟨rfl, hb⟩
 have K5 := bsb K4 hb
 clear hb K4
 clear v0 v5 v7 v9 v10 v11 v12
 obtain ⟨zz0, zz1⟩ := (bo2 K5).f2
 obtain ⟨cc0, cc1⟩ := (bo2 K5).c2
 have XF : Hid (Bx (W5.setCells (w.heap.size + 2) 0 [vi ki N, vi ki S]) (w.heap.size + 2) [vi ki N, vi ki S]) := (K5.out.at (w.heap.size + 2) [vi ki 0, vi ki 0] (by simp)).setAll _ rfl
 have BF : Hid (Below w.heap.size w (W5.setCells (w.heap.size + 2) 0 [vi ki N, vi ki S])) := below_setCells (by omega) _ _ _ K5.out.1
 have y0 := XF.out.c 0 rfl
 have y1 := XF.out.c 1 rfl
 simp only [World.setCells, Nat.zero_add] at y0 y1
 clear XF
 go_wp2
 exact bodyPost_ret (v := .tuple #[.agg #[vi ki N, vi ki S], vi ki E]) (by simp [results, Tryz.results73, go_sem, y0, y1]) rfl ⟨rfl, BF.out⟩
end Go.Proofs.YtklehbmghjcmaaaGreatDoor
namespace Go.Proofs.YtklehbmghjcmaaaGreatDoor
namespace Wd
def dg (v i : Nat) : Nat := v / 4294967296 ^ i % 4294967296
end Wd
end Go.Proofs.YtklehbmghjcmaaaGreatDoor
namespace Go.Proofs.YtklehbmghjcmaaaGreatDoor
open Go.RowKit
def Row (w : World) (b v : Nat) : Prop := v < 4294967296 ^ 6 ∧ b < w.heap.size ∧ ∀ i, i < 6 → w.cell? ⟨b, i, none⟩ = some (.int .u64 ((Wd.dg v i : Nat) : Int))
theorem Row.below {w w' : World} {B b v : Nat} (h : Row w b v) (hb : Below B w w') (hB : b < B) : Row w' b v :=
 ⟨h.1, Nat.lt_of_lt_of_le h.2.1 hb.size, fun i hi => (hb.cell (p := ⟨b, i, none⟩) hB).trans (h.2.2 i hi)⟩
theorem Row.drew {w : World} {b v : Nat} (h : Row w b v) : Row w.drew b v := h
structure Part (w wr : World) (N : Nat) (f : Nat → Nat) : Prop where
 below : Below N w wr
 size : N < wr.heap.size
 cell : ∀ j, j < 6 → wr.cell? ⟨N, j, none⟩ = some (.int .u64 ((f j : Nat) : Int))
 free : ∀ j, j < 6 → wr.frozen? ⟨N, j, none⟩ = false
theorem Part.congr {w wr : World} {N : Nat} {f g : Nat → Nat} (h : Part w wr N f) (e : ∀ j, j < 6 → f j = g j) : Part w wr N g :=
 ⟨h.below, h.size, fun j hj => by rw [← e j hj]; exact h.cell j hj, h.free⟩
theorem Part.drew {w wr : World} {N : Nat} {f : Nat → Nat} (h : Part w wr N f) : Part w wr.drew N f := ⟨h.below.drew, h.size, h.cell, h.free⟩
theorem Part.row {w wr : World} {N v : Nat} (h : Part w wr N (fun j => Wd.dg v j)) (hv : v < 4294967296 ^ 6) : Row wr N v := ⟨hv, h.size, h.cell⟩
end Go.Proofs.YtklehbmghjcmaaaGreatDoor
namespace Go.Proofs.YtklehbmghjcmaaaGreatDoor
open Go.RowKit
theorem Row.alloc {w : World} {b v : Nat} (h : Row w b v) (o : Obj) : Row (w.alloc o) b v :=
 h.below ((Below.refl w.heap.size w).alloc (Nat.le_refl _) o) h.2.1
end Go.Proofs.YtklehbmghjcmaaaGreatDoor
namespace Go.Proofs.YtklehbmghjcmaaaGreatDoor
open Go.RowKit
end Go.Proofs.YtklehbmghjcmaaaGreatDoor
namespace Go.Proofs.YtklehbmghjcmaaaGreatDoor
open Go.RowKit
end Go.Proofs.YtklehbmghjcmaaaGreatDoor
namespace Go.Proofs.YtklehbmghjcmaaaGreatDoor
open Go.RowKit
end Go.Proofs.YtklehbmghjcmaaaGreatDoor
namespace Go.Proofs.YtklehbmghjcmaaaGreatDoor
open Go.RowKit
end Go.Proofs.YtklehbmghjcmaaaGreatDoor
namespace Go.Proofs.YtklehbmghjcmaaaGreatDoor
open Go.RowKit
def IsW (w : World) (v : Value) (x : Int) : Prop := ∃ b, v = .agg #[.bool (decide (x < 0)), .slice (some ⟨b, 0, none⟩) 6 6] ∧ Row w b x.natAbs
theorem IsW.below {w w1 : World} {v : Value} {x : Int} (h : IsW w v x) (hb : Below w.heap.size w w1) : IsW w1 v x := by
 obtain ⟨b, hv, hr⟩ := h
 exact ⟨b, hv, hr.below hb hr.2.1⟩
end Go.Proofs.YtklehbmghjcmaaaGreatDoor
namespace Go.Proofs.YtklehbmghjcmaaaGreatDoor
open Go.RowKit
theorem wsub_in (a b : Int) (h1 : -9223372036854775808 ≤ a) (h2 : a ≤ 9223372036854775807) (h3 : -9223372036854775808 ≤ b) (h4 : b ≤ 9223372036854775807)
  (l1 : -9223372036854775808 ≤ a - b) (l2 : a - b ≤ 9223372036854775807) (w : World) :
  Calls Tryz.prog 115 #[vi ki a, vi ki b] w fun e w' => e = zr (.tuple #[vi ki (a - b), vi ki 0]) ∧ w' = w := by
 by_cases h : b < 0
 ·have hs : a < a - b := by omega
  go_enter Tryz.func115, Tryz.ntmps115
  go_wp2
  go_ret2
  exact ⟨rfl, rfl⟩
 ·have hs : ¬ a < a - b := by omega
  go_enter Tryz.func115, Tryz.ntmps115
  go_wp2
  go_ret2
  exact ⟨rfl, rfl⟩
theorem wsub_out (a b : Int) (h1 : -9223372036854775808 ≤ a) (h2 : a ≤ 9223372036854775807) (h3 : -9223372036854775808 ≤ b) (h4 : b ≤ 9223372036854775807)
  (l : a - b < -9223372036854775808 ∨ 9223372036854775807 < a - b) (w : World) :
  Calls Tryz.prog 115 #[vi ki a, vi ki b] w fun e w' => e = zr (.tuple #[vi ki 0, vi ki 10]) ∧ w' = w := by
 rcases l with l | l
 ·have h : ¬ b < 0 := by omega
  have hs : a < wrap64 (a - b) := by unfold wrap64; omega
  clear l
  go_enter Tryz.func115, Tryz.ntmps115
  go_wp2
  go_ret2
  exact ⟨rfl, rfl⟩
 ·have h : b < 0 := by omega
  have hs : ¬ a < wrap64 (a - b) := by unfold wrap64; omega
  clear l
  go_enter Tryz.func115, Tryz.ntmps115
  go_wp2
  go_ret2
  exact ⟨rfl, rfl⟩
theorem wsub_any (a b : Int) (h1 : -9223372036854775808 ≤ a) (h2 : a ≤ 9223372036854775807) (h3 : -9223372036854775808 ≤ b) (h4 : b ≤ 9223372036854775807) (w : World) :
  Calls Tryz.prog 115 #[vi ki a, vi ki b] w fun e w' => e = zr (.tuple #[vi ki (smV (a - b)), vi ki (smE (a - b))]) ∧ w' = w := by
 by_cases l : -9223372036854775808 ≤ a - b ∧ a - b ≤ 9223372036854775807
 ·rw [smV_in l.1 l.2, smE_in l.1 l.2]; exact wsub_in a b h1 h2 h3 h4 l.1 l.2 w
 ·rw [smV_out (by omega), smE_out (by omega)]; exact wsub_out a b h1 h2 h3 h4 (by omega) w
end Go.Proofs.YtklehbmghjcmaaaGreatDoor
namespace Go.Proofs.YtklehbmghjcmaaaGreatDoor
open Go.RowKit
end Go.Proofs.YtklehbmghjcmaaaGreatDoor
namespace Go.Proofs.YtklehbmghjcmaaaGreatDoor
open Go.RowKit
end Go.Proofs.YtklehbmghjcmaaaGreatDoor
namespace Go.Proofs.YtklehbmghjcmaaaGreatDoor
open Go.RowKit
end Go.Proofs.YtklehbmghjcmaaaGreatDoor
namespace Go.Proofs.YtklehbmghjcmaaaGreatDoor
open Go.RowKit
end Go.Proofs.YtklehbmghjcmaaaGreatDoor
namespace Go.Proofs.YtklehbmghjcmaaaGreatDoor
open Go.RowKit
theorem Part.keep {w wr wr' : World} {N : Nat} {f : Nat → Nat} (h : Part w wr N f) (b : Below (N + 1) wr wr') : Part w wr' N f :=
 ⟨h.below.trans (b.mono (by omega)), Nat.lt_of_lt_of_le h.size b.size, fun j hj => (b.cell (p := ⟨N, j, none⟩) (Nat.lt_succ_self _)).trans (h.cell j hj), fun j hj => (b.frozen (p := ⟨N, j, none⟩) (Nat.lt_succ_self _)).trans (h.free j hj)⟩
end Go.Proofs.YtklehbmghjcmaaaGreatDoor
namespace Go.Proofs.YtklehbmghjcmaaaGreatDoor
open Go.RowKit
theorem over_math (x c : Int) (hc : c ≠ 0) : x.fdiv c = if (decide (x < 0) != decide (c < 0)) = true then (if x.natAbs % c.natAbs = 0 then -((x.natAbs / c.natAbs : Nat) : Int) else -((x.natAbs / c.natAbs : Nat) : Int) - 1) else ((x.natAbs / c.natAbs : Nat) : Int) := by
 have h := scale_math x 1 c x.natAbs c.natAbs (by simp) rfl hc
 rw [Int.mul_one, show decide ((1 : Int) < 0) = false from rfl, Bool.bne_false] at h
 exact h
end Go.Proofs.YtklehbmghjcmaaaGreatDoor
namespace Go.Proofs.YtklehbmghjcmaaaGreatDoor
open Go.RowKit
end Go.Proofs.YtklehbmghjcmaaaGreatDoor
namespace Go.Proofs.YtklehbmghjcmaaaGreatDoor
open Go.RowKit
theorem fdiv_in (a b : Int) (h1 : -9223372036854775808 ≤ a) (h2 : a ≤ 9223372036854775807) (hb : b ≠ 0) (h : a ≠ -9223372036854775808 ∨ b ≠ -1) : -9223372036854775808 ≤ a.fdiv b ∧ a.fdiv b ≤ 9223372036854775807 := by
 have hm := over_math a b hb
 by_cases o : b.natAbs = 1
 ·rw [o, Nat.div_one, Nat.mod_one, if_pos rfl] at hm
  rw [hm]
  rcases (show b = 1 ∨ b = -1 by omega) with rfl | rfl
  ·split
   ·omega
   ·rename_i hs
    have : ¬ a < 0 := fun hn => hs (by rw [decide_eq_true hn]; rfl)
    omega
  ·split <;> omega
 ·have hq : a.natAbs / b.natAbs ≤ a.natAbs / 2 := Nat.div_le_div_left (by omega) (by decide)
  generalize a.natAbs / b.natAbs = Q at *
  generalize a.natAbs % b.natAbs = R at *
  rw [hm]
  split
  ·split <;> omega
  ·omega
theorem div_any (a b : Int) (h1 : -9223372036854775808 ≤ a) (h2 : a ≤ 9223372036854775807) (h3 : -9223372036854775808 ≤ b) (h4 : b ≤ 9223372036854775807) (hb : b ≠ 0) (w : World) :
  Calls Tryz.prog 80 #[vi ki a, vi ki b] w fun e w' => e = zr (.tuple #[vi ki (smV (a.fdiv b)), vi ki (smE (a.fdiv b))]) ∧ w' = w := by
 by_cases h : a ≠ -9223372036854775808 ∨ b ≠ -1
 ·obtain ⟨g1, g2⟩ := fdiv_in a b h1 h2 hb h
  rw [smV_in g1 g2, smE_in g1 g2]
  exact div_in a b h1 h2 h3 h4 hb h w
 ·obtain ⟨rfl, rfl⟩ : a = -9223372036854775808 ∧ b = -1 := by omega
  have e : (-9223372036854775808 : Int).fdiv (-1) = 9223372036854775808 := by decide
  rw [e, smV_out (by omega), smE_out (by omega)]
  exact div_edge w
end Go.Proofs.YtklehbmghjcmaaaGreatDoor
namespace Go.Proofs.YtklehbmghjcmaaaGreatDoor.Dy
open Go.RowKit
def dok (n : Int) : Bool := decide (-2451507 ≤ n ∧ n ≤ 106751982)
theorem dok_yes {n : Int} (h : dok n = true) : -2451507 ≤ n ∧ n ≤ 106751982 := of_decide_eq_true h
theorem dok_can {n : Int} (h : Cvl.can n = false) : dok n = false := by
 have := of_decide_eq_false h
 exact decide_eq_false (by omega)
theorem can_dok {n : Int} (h : dok n = true) : Cvl.can n = true := by
 have := dok_yes h
 exact Cvl.can_yes (by omega) (by omega)
theorem dok_year {n y m d : Int} (h : Cv.Is n y m d) : dok n = decide (-4712 ≤ y ∧ y ≤ 294276) := by
 obtain ⟨a, b⟩ := Cv.is_year h
 have s1 : Cv.S (-4712) = -2451507 := by decide
 have s2 : Cv.S 294277 = 106751983 := by decide
 unfold dok
 apply decide_eq_decide.2
 constructor
 ·rintro ⟨p, q⟩
  constructor
  ·by_cases k : -4712 ≤ y
   ·exact k
   ·have := Cv.S_mono (show y + 1 ≤ -4712 by omega); omega
  ·by_cases k : y ≤ 294276
   ·exact k
   ·have := Cv.S_mono (show 294277 ≤ y by omega); omega
 ·rintro ⟨p, q⟩
  have h1 := Cv.S_mono p
  have h2 := Cv.S_mono (show y + 1 ≤ 294277 by omega)
  omega
theorem canBe_any (n : Int) (w : World) (hL : Cvl.Lens w) :
  Calls Tryz.prog 77 #[vi ki n] w fun e w' => e = zr (.bool (dok n)) ∧ w' = w := by
 cases hc : Cvl.can n
 ·rw [dok_can hc]
  have D : Hid (∀ w : World, Calls Tryz.prog 126 #[vi ki n] w fun e w' => e = zr (.tuple #[vi ki 0, vi ki 0, vi ki 0, vi ki 10]) ∧ w' = w) := fun w => Cvl.date_no n hc w
  clear hc hL
  go_enter Tryz.func77, Tryz.ntmps77
  go_wp2_with fail
  refine (D.out _).mono ?_
  rintro e w1 ⟨rfl, rfl⟩
  go_wp2
  go_ret
  exact ⟨rfl, rfl⟩
 ·obtain ⟨y, m, d, hd⟩ := Cv.is_date n
  have D : Hid (∀ w : World, Cvl.Lens w → Calls Tryz.prog 126 #[vi ki n] w fun e w' => e = zr (.tuple #[vi ki y, vi ki m, vi ki d, vi ki 0]) ∧ w' = w) := fun w hw => Cvl.date_yes n y m d hc hd w hw
  rw [dok_year hd]
  have hL' : Hid (Cvl.Lens w) := hL
  clear hc hL hd
  by_cases h1 : -4712 ≤ y
  ·by_cases h2 : y ≤ 294276
   ·rw [decide_eq_true ⟨h1, h2⟩]
    go_enter Tryz.func77, Tryz.ntmps77
    go_wp2_with fail
    refine (D.out _ hL'.out).mono ?_
    rintro e w1 ⟨rfl, rfl⟩
    go_wp2
    go_ret
    exact ⟨rfl, rfl⟩
   ·rw [decide_eq_false (fun k => h2 k.2)]
    go_enter Tryz.func77, Tryz.ntmps77
    go_wp2_with fail
    refine (D.out _ hL'.out).mono ?_
    rintro e w1 ⟨rfl, rfl⟩
    go_wp2
    go_ret
    exact ⟨Cvl.ret_bool (by simp; omega), rfl⟩
  ·rw [decide_eq_false (fun k => h1 k.1)]
   go_enter Tryz.func77, Tryz.ntmps77
   go_wp2_with fail
   refine (D.out _ hL'.out).mono ?_
   rintro e w1 ⟨rfl, rfl⟩
   go_wp2
   go_ret
   exact ⟨rfl, rfl⟩
theorem inside_any (n : Int) (w : World) :
  Calls Tryz.prog 83 #[vi ki n] w fun e w' => e = zr (.bool (dok n)) ∧ w' = w := by
 cases hc : Cvl.can n
 ·rw [dok_can hc]
  have D : Hid (∀ w : World, Calls Tryz.prog 106 #[vi ki n] w fun e w' => e = zr (.tuple #[vi ki 0, vi ki 0, vi ki 0, vi ki 10]) ∧ w' = w) := fun w => Cvl.rdate_no n hc w
  clear hc
  go_enter Tryz.func83, Tryz.ntmps83
  go_wp2_with fail
  refine (D.out _).mono ?_
  rintro e w1 ⟨rfl, rfl⟩
  go_wp2
  go_ret
  exact ⟨rfl, rfl⟩
 ·obtain ⟨y, m, d, hd⟩ := Cv.is_date n
  have D : Hid (∀ w : World, Calls Tryz.prog 106 #[vi ki n] w fun e w' => e = zr (.tuple #[vi ki y, vi ki m, vi ki d, vi ki 0]) ∧ w' = w) := fun w => Cvl.rdate_yes n y m d hc hd w
  rw [dok_year hd]
  clear hc hd
  by_cases h1 : -4712 ≤ y
  ·by_cases h2 : y ≤ 294276
   ·rw [decide_eq_true ⟨h1, h2⟩]
    go_enter Tryz.func83, Tryz.ntmps83
    go_wp2_with fail
    refine (D.out _).mono ?_
    rintro e w1 ⟨rfl, rfl⟩
    go_wp2
    go_ret
    exact ⟨rfl, rfl⟩
   ·rw [decide_eq_false (fun k => h2 k.2)]
    go_enter Tryz.func83, Tryz.ntmps83
    go_wp2_with fail
    refine (D.out _).mono ?_
    rintro e w1 ⟨rfl, rfl⟩
    go_wp2
    go_ret
    exact ⟨Cvl.ret_bool (by simp; omega), rfl⟩
  ·rw [decide_eq_false (fun k => h1 k.1)]
   go_enter Tryz.func83, Tryz.ntmps83
   go_wp2_with fail
   refine (D.out _).mono ?_
   rintro e w1 ⟨rfl, rfl⟩
   go_wp2
   go_ret
   exact ⟨rfl, rfl⟩
end Go.Proofs.YtklehbmghjcmaaaGreatDoor.Dy
namespace Go.Proofs.YtklehbmghjcmaaaGreatDoor.Dy
open Go.RowKit
theorem lens_of {w : World} (h : Cvl.Lens w) : Hid (∀ W : World, Below w.heap.size w W → Cvl.Lens W) := fun W hb => Lens_below h hb (Lens_lt h)
theorem ret_bool {a b : Bool} (h : a = b) : Ending.returned (.bool a) = zr (.bool b) := by rw [h]
def dR (i d : Int) : Bool := if i = 0 then dok d else decide ((i = -1 ∨ i = 1) ∧ d = 0)
def sR (i u : Int) : Bool := if i = 0 then dok (u / 86400000000) else decide ((i = -1 ∨ i = 1) ∧ u = 0)
theorem dR_0 (d : Int) : dR 0 d = dok d := rfl
theorem sR_0 (u : Int) : sR 0 u = dok (u / 86400000000) := rfl
theorem dR_1 {i : Int} (h : i ≠ 0) (d : Int) : dR i d = decide ((i = -1 ∨ i = 1) ∧ d = 0) := if_neg h
theorem sR_1 {i : Int} (h : i ≠ 0) (u : Int) : sR i u = decide ((i = -1 ∨ i = 1) ∧ u = 0) := if_neg h
theorem right_0 (d : Int) (c : Bool)
  (C : Hid (∀ w : World, Cvl.Lens w → Calls Tryz.prog 77 #[vi ki d] w fun r' w' => r' = zr (.bool c) ∧ w' = w))
  (w : World) (hL : Hid (∀ W : World, Below w.heap.size w W → Cvl.Lens W)) :
  Calls Tryz.prog 143 #[.agg #[vi ki 0, vi ki d]] w fun r' w' => r' = zr (.bool c) ∧ Below w.heap.size w w' := by
 have K0 := bsn1 w [vi ki 0, vi ki d] 111
 go_enter Tryz.func143, Tryz.ntmps143
 go_wp2_with fail
 refine (C.out _ (hL.out _ K0.out.1)).mono ?_
 rintro e W1 ⟨rfl, rfl⟩
 go_wp2
 go_ret
 exact ⟨rfl, K0.out.1⟩
theorem right_m0 (d : Int) (hd : d = 0)
  (w : World) :
  Calls Tryz.prog 143 #[.agg #[vi ki (-1), vi ki 0]] w fun r' w' => r' = zr (.bool true) ∧ Below w.heap.size w w' := by
 have K0 := bsn1 w [vi ki (-1), vi ki 0] 111
 go_enter Tryz.func143, Tryz.ntmps143
 go_wp2
 go_ret
 exact ⟨rfl, K0.out.1⟩
theorem right_p0 (d : Int) (hd : d = 0)
  (w : World) :
  Calls Tryz.prog 143 #[.agg #[vi ki 1, vi ki 0]] w fun r' w' => r' = zr (.bool true) ∧ Below w.heap.size w w' := by
 have K0 := bsn1 w [vi ki 1, vi ki 0] 111
 go_enter Tryz.func143, Tryz.ntmps143
 go_wp2
 go_ret
 exact ⟨rfl, K0.out.1⟩
theorem right_m1 (d : Int) (hd : d ≠ 0)
  (w : World) :
  Calls Tryz.prog 143 #[.agg #[vi ki (-1), vi ki d]] w fun r' w' => r' = zr (.bool false) ∧ Below w.heap.size w w' := by
 have d0 : (d == 0) = false := by simpa using hd
 have K0 := bsn1 w [vi ki (-1), vi ki d] 111
 go_enter Tryz.func143, Tryz.ntmps143
 go_wp2
 go_ret
 exact ⟨rfl, K0.out.1⟩
theorem right_p1 (d : Int) (hd : d ≠ 0)
  (w : World) :
  Calls Tryz.prog 143 #[.agg #[vi ki 1, vi ki d]] w fun r' w' => r' = zr (.bool false) ∧ Below w.heap.size w w' := by
 have d0 : (d == 0) = false := by simpa using hd
 have K0 := bsn1 w [vi ki 1, vi ki d] 111
 go_enter Tryz.func143, Tryz.ntmps143
 go_wp2
 go_ret
 exact ⟨rfl, K0.out.1⟩
theorem right_x (i d : Int) (h0 : i ≠ 0) (h1 : i ≠ -1) (h2 : i ≠ 1)
  (w : World) :
  Calls Tryz.prog 143 #[.agg #[vi ki i, vi ki d]] w fun r' w' => r' = zr (.bool false) ∧ Below w.heap.size w w' := by
 have g0 : (i == 0) = false := by simpa using h0
 have g1 : (i == -1) = false := by simpa using h1
 have g2 : (i == 1) = false := by simpa using h2
 have K0 := bsn1 w [vi ki i, vi ki d] 111
 go_enter Tryz.func143, Tryz.ntmps143
 go_wp2
 go_ret
 exact ⟨rfl, K0.out.1⟩
theorem rright_0 (d : Int) (c : Bool)
  (C : Hid (∀ w : World, Calls Tryz.prog 83 #[vi ki d] w fun r' w' => r' = zr (.bool c) ∧ w' = w))
  (w : World) :
  Calls Tryz.prog 113 #[.agg #[vi ki 0, vi ki d]] w fun r' w' => r' = zr (.bool c) ∧ Below w.heap.size w w' := by
 have K0 := bsn1 w [vi ki 0, vi ki d] 111
 go_enter Tryz.func113, Tryz.ntmps113
 go_wp2_with fail
 refine (C.out _).mono ?_
 rintro e W1 ⟨rfl, rfl⟩
 go_wp2
 go_ret
 exact ⟨rfl, K0.out.1⟩
theorem rright_m0 (d : Int) (hd : d = 0)
  (w : World) :
  Calls Tryz.prog 113 #[.agg #[vi ki (-1), vi ki 0]] w fun r' w' => r' = zr (.bool true) ∧ Below w.heap.size w w' := by
 have K0 := bsn1 w [vi ki (-1), vi ki 0] 111
 go_enter Tryz.func113, Tryz.ntmps113
 go_wp2
 go_ret
 exact ⟨rfl, K0.out.1⟩
theorem rright_p0 (d : Int) (hd : d = 0)
  (w : World) :
  Calls Tryz.prog 113 #[.agg #[vi ki 1, vi ki 0]] w fun r' w' => r' = zr (.bool true) ∧ Below w.heap.size w w' := by
 have K0 := bsn1 w [vi ki 1, vi ki 0] 111
 go_enter Tryz.func113, Tryz.ntmps113
 go_wp2
 go_ret
 exact ⟨rfl, K0.out.1⟩
theorem rright_m1 (d : Int) (hd : d ≠ 0)
  (w : World) :
  Calls Tryz.prog 113 #[.agg #[vi ki (-1), vi ki d]] w fun r' w' => r' = zr (.bool false) ∧ Below w.heap.size w w' := by
 have d0 : (d == 0) = false := by simpa using hd
 have K0 := bsn1 w [vi ki (-1), vi ki d] 111
 go_enter Tryz.func113, Tryz.ntmps113
 go_wp2
 go_ret
 exact ⟨rfl, K0.out.1⟩
theorem rright_p1 (d : Int) (hd : d ≠ 0)
  (w : World) :
  Calls Tryz.prog 113 #[.agg #[vi ki 1, vi ki d]] w fun r' w' => r' = zr (.bool false) ∧ Below w.heap.size w w' := by
 have d0 : (d == 0) = false := by simpa using hd
 have K0 := bsn1 w [vi ki 1, vi ki d] 111
 go_enter Tryz.func113, Tryz.ntmps113
 go_wp2
 go_ret
 exact ⟨rfl, K0.out.1⟩
theorem rright_x (i d : Int) (h0 : i ≠ 0) (h1 : i ≠ -1) (h2 : i ≠ 1)
  (w : World) :
  Calls Tryz.prog 113 #[.agg #[vi ki i, vi ki d]] w fun r' w' => r' = zr (.bool false) ∧ Below w.heap.size w w' := by
 have g0 : (i == 0) = false := by simpa using h0
 have g1 : (i == -1) = false := by simpa using h1
 have g2 : (i == 1) = false := by simpa using h2
 have K0 := bsn1 w [vi ki i, vi ki d] 111
 go_enter Tryz.func113, Tryz.ntmps113
 go_wp2
 go_ret
 exact ⟨rfl, K0.out.1⟩
theorem rst_0 (d N R : Int) (c : Bool)
  (SP : Hid (∀ w : World, Calls Tryz.prog 76 #[vi ki d] w fun r' w' => r' = zr (.tuple #[vi ki N, vi ki R]) ∧ w' = w))
  (C : Hid (∀ w : World, Cvl.Lens w → Calls Tryz.prog 77 #[vi ki N] w fun r' w' => r' = zr (.bool c) ∧ w' = w))
  (w : World) (hL : Hid (∀ W : World, Below w.heap.size w W → Cvl.Lens W)) :
  Calls Tryz.prog 32 #[.agg #[vi ki 0, vi ki d]] w fun r' w' => r' = zr (.bool c) ∧ Below w.heap.size w w' := by
 have K0 := bsn1 w [vi ki 0, vi ki d] 36
 go_enter Tryz.func32, Tryz.ntmps32
 go_wp2_with fail
 refine (SP.out _).mono ?_
 rintro e W1 ⟨rfl, rfl⟩
 go_wp2_with fail
 refine (C.out _ (hL.out _ K0.out.1)).mono ?_
 rintro e W2 ⟨rfl, rfl⟩
 go_wp2
 go_ret
 exact ⟨rfl, K0.out.1⟩
theorem rst_m0 (d : Int) (hd : d = 0)
  (w : World) :
  Calls Tryz.prog 32 #[.agg #[vi ki (-1), vi ki 0]] w fun r' w' => r' = zr (.bool true) ∧ Below w.heap.size w w' := by
 have K0 := bsn1 w [vi ki (-1), vi ki 0] 36
 go_enter Tryz.func32, Tryz.ntmps32
 go_wp2
 go_ret
 exact ⟨rfl, K0.out.1⟩
theorem rst_p0 (d : Int) (hd : d = 0)
  (w : World) :
  Calls Tryz.prog 32 #[.agg #[vi ki 1, vi ki 0]] w fun r' w' => r' = zr (.bool true) ∧ Below w.heap.size w w' := by
 have K0 := bsn1 w [vi ki 1, vi ki 0] 36
 go_enter Tryz.func32, Tryz.ntmps32
 go_wp2
 go_ret
 exact ⟨rfl, K0.out.1⟩
theorem rst_m1 (d : Int) (hd : d ≠ 0)
  (w : World) :
  Calls Tryz.prog 32 #[.agg #[vi ki (-1), vi ki d]] w fun r' w' => r' = zr (.bool false) ∧ Below w.heap.size w w' := by
 have d0 : (d == 0) = false := by simpa using hd
 have K0 := bsn1 w [vi ki (-1), vi ki d] 36
 go_enter Tryz.func32, Tryz.ntmps32
 go_wp2
 go_ret
 exact ⟨rfl, K0.out.1⟩
theorem rst_p1 (d : Int) (hd : d ≠ 0)
  (w : World) :
  Calls Tryz.prog 32 #[.agg #[vi ki 1, vi ki d]] w fun r' w' => r' = zr (.bool false) ∧ Below w.heap.size w w' := by
 have d0 : (d == 0) = false := by simpa using hd
 have K0 := bsn1 w [vi ki 1, vi ki d] 36
 go_enter Tryz.func32, Tryz.ntmps32
 go_wp2
 go_ret
 exact ⟨rfl, K0.out.1⟩
theorem rst_x (i d : Int) (h0 : i ≠ 0) (h1 : i ≠ -1) (h2 : i ≠ 1)
  (w : World) :
  Calls Tryz.prog 32 #[.agg #[vi ki i, vi ki d]] w fun r' w' => r' = zr (.bool false) ∧ Below w.heap.size w w' := by
 have g0 : (i == 0) = false := by simpa using h0
 have g1 : (i == -1) = false := by simpa using h1
 have g2 : (i == 1) = false := by simpa using h2
 have K0 := bsn1 w [vi ki i, vi ki d] 36
 go_enter Tryz.func32, Tryz.ntmps32
 go_wp2
 go_ret
 exact ⟨rfl, K0.out.1⟩
end Go.Proofs.YtklehbmghjcmaaaGreatDoor.Dy
namespace Go.Proofs.YtklehbmghjcmaaaGreatDoor.Dy
open Go.RowKit
theorem right_any (i d : Int) (w : World) (hL : Cvl.Lens w) :
  Calls Tryz.prog 143 #[.agg #[vi ki i, vi ki d]] w fun e w' => e = zr (.bool (dR i d)) ∧ Below w.heap.size w w' := by
 by_cases h0 : i = 0
 ·subst h0
  rw [dR_0]
  exact right_0 d _ (fun w h => canBe_any _ w h) w (lens_of hL)
 ·rw [dR_1 h0]
  by_cases g1 : i = -1
  ·subst g1
   by_cases k : d = 0
   ·rw [decide_eq_true ⟨.inl rfl, k⟩]; subst k; exact right_m0 0 rfl w
   ·rw [decide_eq_false (fun q => k q.2)]; exact right_m1 d k w
  ·by_cases g2 : i = 1
   ·subst g2
    by_cases k : d = 0
    ·rw [decide_eq_true ⟨.inr rfl, k⟩]; subst k; exact right_p0 0 rfl w
    ·rw [decide_eq_false (fun q => k q.2)]; exact right_p1 d k w
   ·rw [decide_eq_false (fun q => q.1.elim g1 g2)]; exact right_x i d h0 g1 g2 w
theorem rright_any (i d : Int) (w : World) :
  Calls Tryz.prog 113 #[.agg #[vi ki i, vi ki d]] w fun e w' => e = zr (.bool (dR i d)) ∧ Below w.heap.size w w' := by
 by_cases h0 : i = 0
 ·subst h0
  rw [dR_0]
  exact rright_0 d _ (fun w => inside_any _ w) w
 ·rw [dR_1 h0]
  by_cases g1 : i = -1
  ·subst g1
   by_cases k : d = 0
   ·rw [decide_eq_true ⟨.inl rfl, k⟩]; subst k; exact rright_m0 0 rfl w
   ·rw [decide_eq_false (fun q => k q.2)]; exact rright_m1 d k w
  ·by_cases g2 : i = 1
   ·subst g2
    by_cases k : d = 0
    ·rw [decide_eq_true ⟨.inr rfl, k⟩]; subst k; exact rright_p0 0 rfl w
    ·rw [decide_eq_false (fun q => k q.2)]; exact rright_p1 d k w
   ·rw [decide_eq_false (fun q => q.1.elim g1 g2)]; exact rright_x i d h0 g1 g2 w
theorem rst_any (i d : Int) (h1 : -9223372036854775808 ≤ d) (h2 : d ≤ 9223372036854775807) (w : World) (hL : Cvl.Lens w) :
  Calls Tryz.prog 32 #[.agg #[vi ki i, vi ki d]] w fun e w' => e = zr (.bool (sR i d)) ∧ Below w.heap.size w w' := by
 by_cases h0 : i = 0
 ·subst h0
  rw [sR_0]
  exact rst_0 d _ _ _ (fun w => split_any d h1 h2 w) (fun w h => canBe_any _ w h) w (lens_of hL)
 ·rw [sR_1 h0]
  by_cases g1 : i = -1
  ·subst g1
   by_cases k : d = 0
   ·rw [decide_eq_true ⟨.inl rfl, k⟩]; subst k; exact rst_m0 0 rfl w
   ·rw [decide_eq_false (fun q => k q.2)]; exact rst_m1 d k w
  ·by_cases g2 : i = 1
   ·subst g2
    by_cases k : d = 0
    ·rw [decide_eq_true ⟨.inr rfl, k⟩]; subst k; exact rst_p0 0 rfl w
    ·rw [decide_eq_false (fun q => k q.2)]; exact rst_p1 d k w
   ·rw [decide_eq_false (fun q => q.1.elim g1 g2)]; exact rst_x i d h0 g1 g2 w
def oV (n e : Int) : Int := if e = 0 ∧ dok n = true then n else 0
def oE (n e : Int) : Int := if e = 0 ∧ dok n = true then 0 else 10
theorem o_yes {n : Int} (h : dok n = true) : oV n 0 = n ∧ oE n 0 = 0 := ⟨if_pos ⟨rfl, h⟩, if_pos ⟨rfl, h⟩⟩
theorem o_no {n e : Int} (h : e ≠ 0 ∨ dok n = false) : oV n e = 0 ∧ oE n e = 10 := by
 have k : ¬ (e = 0 ∧ dok n = true) := fun q => h.elim (fun z => z q.1) (fun z => by rw [z] at q; exact absurd q.2 (by decide))
 exact ⟨if_neg k, if_neg k⟩
theorem of_bad (n e : Int) (he : e ≠ 0)
  (w : World) :
  Calls Tryz.prog 186 #[vi ki n, vi ki e] w fun r' w' => r' = zr (.tuple #[.agg #[vi ki 0, vi ki 0], vi ki 10]) ∧ Below w.heap.size w w' := by
 have e1 : (e != 0) = true := bne_iff_ne.2 he
 have K0 := bsn1 w [vi ki 0, vi ki 0] 111
 go_enter Tryz.func186, Tryz.ntmps186
 go_wp2
 exact bodyPost_ret (v := .tuple #[.agg #[vi ki 0, vi ki 0], vi ki 10]) (by simp [results, Tryz.results186, go_sem]) rfl ⟨rfl, (by repeat' (first | assumption | exact Below.refl _ _ | exact Nat.le_refl _ | refine Below.alloc ?_ ?_ _ | (simp; done) | (simp; omega) | omega))⟩
theorem of_true (n : Int)
  (C : Hid (∀ w : World, Cvl.Lens w → Calls Tryz.prog 77 #[vi ki n] w fun r' w' => r' = zr (.bool true) ∧ w' = w))
  (w : World) (hL : Hid (∀ W : World, Below w.heap.size w W → Cvl.Lens W)) :
  Calls Tryz.prog 186 #[vi ki n, vi ki 0] w fun r' w' => r' = zr (.tuple #[.agg #[vi ki 0, vi ki n], vi ki 0]) ∧ Below w.heap.size w w' := by
 have K0 := bsn1 w [vi ki 0, vi ki 0] 111
 go_enter Tryz.func186, Tryz.ntmps186
 go_wp2_with fail
 refine (C.out _ (hL.out _ K0.out.1)).mono ?_
 rintro e W1 ⟨rfl, rfl⟩
 go_wp2
 exact bodyPost_ret (v := .tuple #[.agg #[vi ki 0, vi ki n], vi ki 0]) (by simp [results, Tryz.results186, go_sem]) rfl ⟨rfl, (by repeat' (first | assumption | exact Below.refl _ _ | exact Nat.le_refl _ | refine Below.alloc ?_ ?_ _ | (simp; done) | (simp; omega) | omega))⟩
theorem of_false (n : Int)
  (C : Hid (∀ w : World, Cvl.Lens w → Calls Tryz.prog 77 #[vi ki n] w fun r' w' => r' = zr (.bool false) ∧ w' = w))
  (w : World) (hL : Hid (∀ W : World, Below w.heap.size w W → Cvl.Lens W)) :
  Calls Tryz.prog 186 #[vi ki n, vi ki 0] w fun r' w' => r' = zr (.tuple #[.agg #[vi ki 0, vi ki 0], vi ki 10]) ∧ Below w.heap.size w w' := by
 have K0 := bsn1 w [vi ki 0, vi ki 0] 111
 go_enter Tryz.func186, Tryz.ntmps186
 go_wp2_with fail
 refine (C.out _ (hL.out _ K0.out.1)).mono ?_
 rintro e W1 ⟨rfl, rfl⟩
 go_wp2
 exact bodyPost_ret (v := .tuple #[.agg #[vi ki 0, vi ki 0], vi ki 10]) (by simp [results, Tryz.results186, go_sem]) rfl ⟨rfl, (by repeat' (first | assumption | exact Below.refl _ _ | exact Nat.le_refl _ | refine Below.alloc ?_ ?_ _ | (simp; done) | (simp; omega) | omega))⟩
theorem of_any (n e : Int) (w : World) (hL : Cvl.Lens w) :
  Calls Tryz.prog 186 #[vi ki n, vi ki e] w fun r w' => r = zr (.tuple #[.agg #[vi ki 0, vi ki (oV n e)], vi ki (oE n e)]) ∧ Below w.heap.size w w' := by
 by_cases he : e = 0
 ·subst he
  cases h : dok n
  ·rw [(o_no (.inr h)).1, (o_no (.inr h)).2]; exact of_false n (fun w hh => by rw [← h]; exact canBe_any n w hh) w (lens_of hL)
  ·rw [(o_yes h).1, (o_yes h).2]; exact of_true n (fun w hh => by rw [← h]; exact canBe_any n w hh) w (lens_of hL)
 ·rw [(o_no (.inl he)).1, (o_no (.inl he)).2]; exact of_bad n e he w
theorem days_meth (b n v e : Int)
  (A : Hid (∀ w : World, Calls Tryz.prog 81 #[vi ki n, vi ki b] w fun r' w' => r' = zr (.tuple #[vi ki v, vi ki e]) ∧ w' = w))
  (w : World) :
  Calls Tryz.prog 142 #[vi ki b, vi ki n] w fun r' w' => r' = zr (.tuple #[vi ki v, vi ki e]) ∧ w' = w := by
 go_enter Tryz.func142, Tryz.ntmps142
 go_wp2_with fail
 refine (A.out _).mono ?_
 rintro e W1 ⟨rfl, rfl⟩
 go_wp2
 go_ret2
 exact ⟨rfl, rfl⟩
end Go.Proofs.YtklehbmghjcmaaaGreatDoor.Dy
